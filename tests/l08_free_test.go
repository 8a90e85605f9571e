package tests

import (
	"math"
	"math/rand"
	"slices"
	"testing"

	"loop.example/g01205/impl"
)

func checkRows(t *testing.T, name string, got [][]int64, code int64, want [][]int64) {
	t.Helper()
	if code != impl.ErrNone || !sameRows(got, want) {
		t.Errorf("%s = %v, code %d, want %v", name, got, code, want)
	}
}

// ones returns the free word with count numbers 1, or -1 if count is less than 0.
func ones(count int) []int64 {
	if count < 0 {
		return slices.Repeat([]int64{-1}, -count)
	}
	return slices.Repeat([]int64{1}, count)
}

// freeFunctions has the functions of a free word and a number of generators.
func freeFunctions() map[string]func(a []int64, n int64) ([]int64, int64) {
	return map[string]func(a []int64, n int64) ([]int64, int64){
		"InverseFree":                    impl.InverseFree,
		"MultiplyFree with itself":       func(a []int64, n int64) ([]int64, int64) { return impl.MultiplyFree(a, a, n) },
		"MultiplyFree, nothing behind":   func(a []int64, n int64) ([]int64, int64) { return impl.MultiplyFree(a, nil, n) },
		"MultiplyFree, nothing ahead":    func(a []int64, n int64) ([]int64, int64) { return impl.MultiplyFree(nil, a, n) },
		"MultiplyFree, a number behind":  func(a []int64, n int64) ([]int64, int64) { return impl.MultiplyFree(a, []int64{1}, n) },
		"MultiplyFree, a number ahead":   func(a []int64, n int64) ([]int64, int64) { return impl.MultiplyFree([]int64{1}, a, n) },
		"MultiplyFree, the most numbers": func(a []int64, n int64) ([]int64, int64) { return impl.MultiplyFree(ones(4000), a, n) },
	}
}

// imageFunctions has the functions that lead from one braid to a list of free words.
func imageFunctions() map[string]func(impl.Braid) ([][]int64, int64) {
	return map[string]func(impl.Braid) ([][]int64, int64){
		"ImagesOf":    impl.ImagesOf,
		"RelationsOf": impl.RelationsOf,
	}
}

// numberedList is a list of numbers with a number of generators.
type numberedList struct {
	n    int64
	list []int64
}

// notFreeWords has what breaks each condition of a free word, most of it by one.
func notFreeWords() map[string]numberedList {
	return map[string]numberedList{
		"no generators":                  {0, nil},
		"no generators, but a number":    {0, []int64{1}},
		"less than no generators":        {-1, nil},
		"the fewest generators":          {math.MinInt64, nil},
		"a generator too many":           {9, nil},
		"a generator too many, a number": {9, []int64{1}},
		"the most generators":            {math.MaxInt64, []int64{1}},
		"the number 0":                   {3, []int64{0}},
		"0 of one generator":             {1, []int64{0}},
		"0 at the end":                   {3, []int64{1, 2, 0}},
		"0 twice":                        {3, []int64{0, 0}},
		"a number too great":             {3, []int64{4}},
		"a number too small":             {3, []int64{-4}},
		"a number of one, too great":     {1, []int64{2}},
		"a number of one, too small":     {1, []int64{-2}},
		"the number 9":                   {8, []int64{9}},
		"the number -9 at the end":       {8, []int64{8, 7, -9}},
		"the greatest number":            {8, []int64{math.MaxInt64}},
		"the least number":               {8, []int64{math.MinInt64}},
		"the least number twice":         {8, []int64{math.MinInt64, math.MinInt64}},
		"a pair":                         {3, []int64{1, -1}},
		"a pair, the other way round":    {3, []int64{-1, 1}},
		"a pair of one generator":        {1, []int64{-1, 1}},
		"a pair at the beginning":        {3, []int64{2, -2, 1}},
		"a pair at the end":              {3, []int64{1, 2, 3, -3}},
		"a pair in the middle":           {8, []int64{1, 8, -8, 1}},
		"a number too many":              {3, ones(4001)},
		"a number too many, less than 0": {1, ones(-4001)},
		"far too many numbers":           {8, ones(50000)},
		"a pair at the end of the most":  {2, append(ones(3998), 2, -2)},
	}
}

// randomFree returns a free word of count numbers.
func randomFree(source *rand.Rand, n int64, count int) []int64 {
	var word []int64
	for len(word) < count {
		x := (1 + source.Int63n(n)) * int64(1-2*source.Intn(2))
		if len(word) == 0 || word[len(word)-1] != -x {
			word = append(word, x)
		}
	}
	return word
}

// plainFree takes pairs away as long as there are any.
func plainFree(words ...[]int64) []int64 {
	return slowFreeForm(braid(0, slices.Concat(words...)...)).Letters
}

func plainNegatives(word []int64) []int64 { return plainBetween(word, nil) }

// plainActed returns what the letters make of a free word, and the greatest number of numbers of the
// free words on the way, that at the end included. It stops behind one that is too long.
func plainActed(letters []int64, word []int64) ([]int64, int) {
	most := len(word)
	for _, x := range letters {
		word = plainActedOnce(x, word)
		most = max(most, len(word))
		if most > 4000 {
			return nil, most
		}
	}
	return word, most
}

// plainImages returns what the letters make of all generators, and the greatest number of numbers of a
// free word on the way.
func plainImages(b impl.Braid) ([][]int64, int) {
	var images [][]int64
	most := 0
	for g := int64(1); g <= b.Strands; g++ {
		image, count := plainActed(b.Letters, []int64{g})
		images, most = append(images, image), max(most, count)
	}
	return images, most
}

// generatorsUpTo returns 1 to n.
func generatorsUpTo(n int64) []int64 {
	var list []int64
	for g := int64(1); g <= n; g++ {
		list = append(list, g)
	}
	return list
}

func imagesOf(t *testing.T, b impl.Braid) [][]int64 {
	t.Helper()
	return must[[][]int64](t)(impl.ImagesOf(b))
}

func TestMaxFree(t *testing.T) {
	if impl.MaxFree != 4000 {
		t.Errorf("MaxFree = %d", impl.MaxFree)
	}
}

func TestIsFreeWord(t *testing.T) {
	for name, c := range notFreeWords() {
		if impl.IsFreeWord(c.list, c.n) {
			t.Errorf("IsFreeWord of %s", name)
		}
	}
	for _, c := range []numberedList{
		{1, nil}, {1, []int64{}}, {8, nil}, {1, []int64{1}}, {1, []int64{-1, -1, -1}}, {2, []int64{2, 1}}, {3, []int64{1, 2, -1, -2}}, {3, []int64{3, 3, -2, 3}},
		{8, []int64{8, -7, -8, 1}}, {8, []int64{-8}}, {2, []int64{1, -2, 1, -2}}, {1, ones(4000)}, {8, ones(-4000)}, {8, ones(3999)},
		{5, slices.Repeat([]int64{1, 5, -1, -5}, 1000)},
	} {
		if !impl.IsFreeWord(c.list, c.n) {
			t.Errorf("IsFreeWord(%v, %d) is false", c.list, c.n)
		}
	}
}

func TestIsFreeWordOfShortLists(t *testing.T) {
	lists := [][]int64{nil}
	for at := 0; len(lists[at]) < 3; at++ {
		for x := int64(-4); x <= 4; x++ {
			lists = append(lists, append(slices.Clone(lists[at]), x))
		}
	}
	for _, list := range lists {
		for n := int64(-1); n <= 10; n++ {
			want := n >= 1 && n <= 8
			for at, x := range list {
				want = want && x != 0 && max(x, -x) <= n && (at == 0 || x+list[at-1] != 0)
			}
			if impl.IsFreeWord(list, n) != want {
				t.Errorf("IsFreeWord(%v, %d) is not %v", list, n, want)
			}
		}
	}
}

func TestWhatIsNoFreeWordIsInvalid(t *testing.T) {
	for name, c := range notFreeWords() {
		for function, call := range freeFunctions() {
			got, code := call(c.list, c.n)
			checkNoList(t, function+" of "+name, got, code, impl.ErrInvalid)
		}
		if c.n >= 1 && c.n <= 8 {
			for _, b := range []impl.Braid{braid(c.n), beginningOf(max(c.n, 2), 3, 1)} {
				if b.Strands == c.n {
					got, code := impl.ActOnFree(b, c.list)
					checkNoList(t, "ActOnFree of "+name, got, code, impl.ErrInvalid)
				}
			}
		}
	}
	for name, b := range notBraids() {
		for _, word := range [][]int64{nil, {1}, {1, 2}, {0}, {9}, ones(4001)} {
			got, code := impl.ActOnFree(b, word)
			checkNoList(t, "ActOnFree of "+name, got, code, impl.ErrInvalid)
		}
		for function, call := range imageFunctions() {
			got, code := call(b)
			checkNoRows(t, function+" of "+name, got, code, impl.ErrInvalid)
		}
		// The other braid mostly has other strands, which is a later error.
		for _, pair := range [][2]impl.Braid{{b, braid(5, 1)}, {braid(5, 1), b}, {b, b}, {b, braid(3)}, {braid(3), b}} {
			got, code := impl.SameAction(pair[0], pair[1])
			checkNoAnswer(t, "SameAction of "+name, got, code, impl.ErrInvalid)
		}
	}
}

func TestMultiplyFree(t *testing.T) {
	for _, c := range []struct {
		n          int64
		a, b, want []int64
	}{
		{2, []int64{1, 2}, []int64{-2, 1}, []int64{1, 1}}, {1, nil, nil, nil}, {8, nil, []int64{}, nil}, {1, []int64{1}, []int64{-1}, nil},
		{1, []int64{1}, nil, []int64{1}}, {1, nil, []int64{-1}, []int64{-1}}, {1, []int64{1, 1}, []int64{-1}, []int64{1}}, {1, []int64{-1}, []int64{1, 1}, []int64{1}},
		{3, []int64{1, 2, 3}, []int64{-3, -2, -1}, nil}, {3, []int64{1, 2, 3}, []int64{-3, -2, 1}, []int64{1, 1}}, {3, []int64{1, 2, 3}, []int64{-1, -2, -3}, []int64{1, 2, 3, -1, -2, -3}},
		{8, []int64{8, -7}, []int64{7, 8}, []int64{8, 8}}, {2, []int64{1, 2}, []int64{2, 1}, []int64{1, 2, 2, 1}}, {3, []int64{2, 1}, []int64{-1, 3, 1}, []int64{2, 3, 1}},
	} {
		got, code := impl.MultiplyFree(c.a, c.b, c.n)
		checkList(t, "MultiplyFree", got, code, c.want)
	}
}

func TestInverseFree(t *testing.T) {
	for _, c := range []struct {
		n       int64
		a, want []int64
	}{
		{1, nil, nil}, {8, []int64{}, nil}, {1, []int64{1}, []int64{-1}}, {1, []int64{-1, -1}, []int64{1, 1}}, {2, []int64{1, -2}, []int64{2, -1}},
		{3, []int64{1, 2, 3}, []int64{-3, -2, -1}}, {8, []int64{8, -1, 8, 7}, []int64{-7, -8, 1, -8}}, {3, ones(4000), ones(-4000)},
	} {
		got, code := impl.InverseFree(c.a, c.n)
		checkList(t, "InverseFree", got, code, c.want)
	}
}

func TestProductsOfFreeWords(t *testing.T) {
	source := rand.New(rand.NewSource(50))
	product := func(a, b []int64, n int64) []int64 { return must[[]int64](t)(impl.MultiplyFree(a, b, n)) }
	for range 2000 {
		n := 1 + source.Int63n(8)
		a, b, c := randomFree(source, n, source.Intn(9)), randomFree(source, n, source.Intn(9)), randomFree(source, n, source.Intn(9))
		inverse := must[[]int64](t)(impl.InverseFree(a, n))
		checkList(t, "InverseFree", inverse, impl.ErrNone, plainNegatives(a))
		ab := product(a, b, n)
		checkList(t, "MultiplyFree", ab, impl.ErrNone, plainFree(a, b))
		checkList(t, "MultiplyFree of three", product(ab, c, n), impl.ErrNone, product(a, product(b, c, n), n))
		checkList(t, "MultiplyFree with the inverse behind", product(a, inverse, n), impl.ErrNone, nil)
		checkList(t, "MultiplyFree with the inverse ahead", product(inverse, ab, n), impl.ErrNone, b)
		if !impl.IsFreeWord(ab, n) {
			t.Errorf("the product %v of %v and %v is no free word", ab, a, b)
		}
	}
}

func TestProductsOfFreeWordsWithinTheLimit(t *testing.T) {
	for _, c := range []struct {
		a, b []int64
		want []int64
	}{
		{ones(4000), nil, ones(4000)}, {nil, ones(4000), ones(4000)}, {ones(2000), ones(2000), ones(4000)}, {ones(1), ones(3999), ones(4000)},
		{ones(4000), ones(-4000), nil}, {ones(4000), ones(-1), ones(3999)}, {ones(-4000), ones(3999), ones(-1)},
		{ones(4000), []int64{-1, 2}, append(ones(3999), 2)}, {append(ones(3999), 2), []int64{-2, 3}, append(ones(3999), 3)},
	} {
		got, code := impl.MultiplyFree(c.a, c.b, 3)
		checkList(t, "MultiplyFree", got, code, c.want)
	}
	for _, pair := range [][2][]int64{
		{ones(4000), ones(1)}, {ones(1), ones(4000)}, {ones(2000), ones(2001)}, {ones(4000), ones(4000)}, {ones(4000), {2}}, {ones(4000), {-1, 2, 2}},
		{append(ones(3999), 2), []int64{-2, 3, 3}}, {ones(-3999), []int64{2, 2}},
	} {
		got, code := impl.MultiplyFree(pair[0], pair[1], 3)
		checkNoList(t, "MultiplyFree of too many", got, code, impl.ErrLimit)
	}
	got, code := impl.InverseFree(append(ones(3999), 2), 2)
	checkList(t, "InverseFree", got, code, append([]int64{-2}, ones(-3999)...))
}

func TestActOnFree(t *testing.T) {
	for _, c := range []struct {
		b       impl.Braid
		a, want []int64
	}{
		{braid(2, 1), []int64{1}, []int64{1, 2, -1}}, {braid(2, 1), []int64{2}, []int64{1}}, {braid(2, 1), []int64{-1}, []int64{1, -2, -1}}, {braid(2, 1), []int64{-2}, []int64{-1}},
		{braid(2, -1), []int64{1}, []int64{2}}, {braid(2, -1), []int64{2}, []int64{-2, 1, 2}}, {braid(2, -1), []int64{-1}, []int64{-2}}, {braid(2, -1), []int64{-2}, []int64{-2, -1, 2}},
		{braid(8, 7), []int64{7}, []int64{7, 8, -7}}, {braid(8, 7), []int64{-8}, []int64{-7}}, {braid(8, -7), []int64{8}, []int64{-8, 7, 8}}, {braid(8, -7), []int64{7, 6}, []int64{8, 6}},
		{braid(4, 2), []int64{1, -4, 4, 4}[:2], []int64{1, -4}}, {braid(4, -2), []int64{4, 1, -4}, []int64{4, 1, -4}}, {braid(4, 2), []int64{-2}, []int64{2, -3, -2}}, {braid(4, 2), []int64{3, 2}, []int64{2, 2, 3, -2}},
		{braid(2, 1), []int64{1, 2}, []int64{1, 2}}, {braid(2, 1), []int64{2, 1}, []int64{1, 1, 2, -1}}, {braid(2, 1), []int64{1, 1, -2}, []int64{1, 2, 2, -1, -1}}, {braid(2, -1), []int64{1, 2}, []int64{1, 2}},
		{braid(1), []int64{1, 1}, []int64{1, 1}}, {braid(1), []int64{-1}, []int64{-1}}, {braid(1), nil, nil}, {braid(3), []int64{3, -1}, []int64{3, -1}}, {braid(3, 1, -2), []int64{}, nil},
		// The first letter acts first.
		{braid(3, 1, 2), []int64{1}, []int64{1, 2, 3, -2, -1}}, {braid(3, 2, 1), []int64{1}, []int64{1, 2, -1}}, {braid(3, 1, 2), []int64{2}, []int64{1}}, {braid(3, 1, 2), []int64{3}, []int64{2}},
		{braid(3, 2, 1), []int64{2}, []int64{1, 3, -1}}, {braid(3, 1, -2), []int64{1}, []int64{1, 3, -1}}, {braid(3, -2, 1), []int64{3}, []int64{-3, 1, 3}}, {braid(2, 1, 1), []int64{1}, []int64{1, 2, 1, -2, -1}},
	} {
		got, code := impl.ActOnFree(c.b, c.a)
		checkList(t, "ActOnFree", got, code, c.want)
	}
	for _, c := range []struct {
		b impl.Braid
		a []int64
	}{{braid(2, 1), []int64{3}}, {braid(2), []int64{1, 3}}, {braid(1), []int64{2}}, {braid(1), []int64{1, -1}}, {braid(7, 1), []int64{-8}}, {braid(8, 1), []int64{-9}}} {
		got, code := impl.ActOnFree(c.b, c.a)
		checkNoList(t, "ActOnFree of other generators", got, code, impl.ErrInvalid)
	}
}

// TestActionsOfLetters has all letters and generators.
func TestActionsOfLetters(t *testing.T) {
	for n := int64(1); n <= 8; n++ {
		for x := 1 - n; x < n; x++ {
			for g := -n; g <= n; g++ {
				if x == 0 || g == 0 {
					continue
				}
				got, code := impl.ActOnFree(braid(n, x), []int64{g})
				checkList(t, "ActOnFree", got, code, plainLetterAction(x, g))
			}
		}
	}
}

func TestActionsOfWords(t *testing.T) {
	source := rand.New(rand.NewSource(51))
	codes := map[int64]int{}
	for _, b := range randomBraids(120) {
		for _, count := range []int{0, 1, 3, 20} {
			word := randomFree(source, b.Strands, count)
			want, most := plainActed(b.Letters, word)
			got, code := impl.ActOnFree(b, word)
			codes[code]++
			if most > 4000 {
				checkNoList(t, "ActOnFree on a long way", got, code, impl.ErrLimit)
				continue
			}
			checkList(t, "ActOnFree", got, code, want)
			if !impl.IsFreeWord(got, b.Strands) {
				t.Errorf("ActOnFree(%v, %v) = %v is no free word", b, word, got)
			}
		}
	}
	if codes[impl.ErrNone] < 500 || codes[impl.ErrLimit] < 50 {
		t.Errorf("codes %v", codes)
	}
}

// repeatedTwo returns count numbers 2 with other numbers ahead of them and behind them.
func repeatedTwo(ahead []int64, count int, behind ...int64) []int64 {
	return slices.Concat(ahead, slices.Repeat([]int64{2}, count), behind)
}

func TestActionsWithinTheLimit(t *testing.T) {
	one := []int64{1}
	for _, c := range []struct {
		b       impl.Braid
		a, want []int64
	}{
		{braid(1), ones(-4000), ones(-4000)}, {braid(3), ones(4000), ones(4000)}, {braid(3, 2), ones(4000), ones(4000)},
		{braid(3, 1), repeatedTwo(nil, 4000), ones(4000)}, {braid(3, -1), ones(4000), repeatedTwo(nil, 4000)}, {braid(3, -1, 1), ones(4000), ones(4000)},
		{braid(3, 1), ones(3998), repeatedTwo(one, 3998, -1)}, {braid(3, -1), repeatedTwo(nil, 3998), slices.Concat([]int64{-2}, ones(3998), []int64{2})},
		{braid(3, 1, -1), ones(3998), ones(3998)}, {braid(3, 1, 1), ones(3996), slices.Concat([]int64{1, 2}, ones(3996), []int64{-2, -1})},
		// What the first 3999 numbers become has 4001, but no free word on the way has as many.
		{braid(3, 1), append(ones(3999), 2), repeatedTwo(one, 3999)}, {braid(3, 1, -1), append(ones(3999), 2), append(ones(3999), 2)},
	} {
		got, code := impl.ActOnFree(c.b, c.a)
		checkList(t, "ActOnFree", got, code, c.want)
	}
	for _, c := range []struct {
		b impl.Braid
		a []int64
	}{
		{braid(3, 1), ones(3999)}, {braid(3, 1), ones(-3999)}, {braid(3, 1), ones(4000)}, {braid(3, -1), repeatedTwo(nil, 3999)}, {braid(3, 1), slices.Repeat([]int64{1, 3}, 2000)},
		{braid(3, 1, 1), ones(3997)}, {braid(3, 1, 1, -1), ones(3997)}, {braid(3, 1, -1), ones(3999)}, {braid(3, 1, -1, 2, -2), ones(4000)}, {braid(3, 1, -1), append(ones(3998), 3, 1)},
	} {
		got, code := impl.ActOnFree(c.b, c.a)
		checkNoList(t, "ActOnFree of too many", got, code, impl.ErrLimit)
	}
}

func TestExamplesOfImages(t *testing.T) {
	for _, c := range []struct {
		b                 impl.Braid
		images, relations [][]int64
	}{
		{braid(1), [][]int64{{1}}, [][]int64{{}}},
		{braid(2, 1), [][]int64{{1, 2, -1}, {1}}, [][]int64{{2, -1}, {-2, 1}}},
		{braid(2, -1), [][]int64{{2}, {-2, 1, 2}}, [][]int64{{-1, 2}, {-2, -2, 1, 2}}},
		{braid(3), [][]int64{{1}, {2}, {3}}, [][]int64{{}, {}, {}}},
		{braid(3, 1, -1), [][]int64{{1}, {2}, {3}}, [][]int64{{}, {}, {}}},
		{braid(3, 1, 2), [][]int64{{1, 2, 3, -2, -1}, {1}, {2}}, [][]int64{{2, 3, -2, -1}, {-2, 1}, {-3, 2}}},
		{braid(3, 2, 1), [][]int64{{1, 2, -1}, {1, 3, -1}, {1}}, [][]int64{{2, -1}, {-2, 1, 3, -1}, {-3, 1}}},
		{braid(2, 1, 1), [][]int64{{1, 2, 1, -2, -1}, {1, 2, -1}}, [][]int64{{2, 1, -2, -1}, {-2, 1, 2, -1}}},
		{braid(2, 1, 1, 1), [][]int64{{1, 2, 1, 2, -1, -2, -1}, {1, 2, 1, -2, -1}}, [][]int64{{2, 1, 2, -1, -2, -1}, {-2, 1, 2, 1, -2, -1}}},
		{braid(8, 7), [][]int64{{1}, {2}, {3}, {4}, {5}, {6}, {7, 8, -7}, {7}}, [][]int64{{}, {}, {}, {}, {}, {}, {8, -7}, {-8, 7}}},
	} {
		got, code := impl.ImagesOf(c.b)
		checkRows(t, "ImagesOf", got, code, c.images)
		got, code = impl.RelationsOf(c.b)
		checkRows(t, "RelationsOf", got, code, c.relations)
	}
}

// checkImages checks images and relations, and returns the code of ImagesOf.
func checkImages(t *testing.T, b impl.Braid) int64 {
	t.Helper()
	images, most := plainImages(b)
	got, code := impl.ImagesOf(b)
	relations, codeOfRelations := impl.RelationsOf(b)
	if most > 4000 {
		checkNoRows(t, "ImagesOf with a long way", got, code, impl.ErrLimit)
		checkNoRows(t, "RelationsOf with a long way", relations, codeOfRelations, impl.ErrLimit)
		return code
	}
	checkRows(t, "ImagesOf", got, code, images)
	for at, image := range images {
		images[at] = plainFree([]int64{-int64(at) - 1}, image)
	}
	checkRows(t, "RelationsOf", relations, codeOfRelations, images)
	return code
}

func TestImagesOfBraids(t *testing.T) {
	codes := map[int64]int{}
	for _, b := range slices.Concat(shortWords(), randomBraids(150)) {
		codes[checkImages(t, b)]++
	}
	if codes[impl.ErrNone] < 1000 || codes[impl.ErrLimit] < 20 {
		t.Errorf("codes %v", codes)
	}
}

// longImages has braids with a free word of exactly count numbers on the way to an image, behind the
// last letter or before, and no longer one.
func longImages(t *testing.T, count int) []impl.Braid {
	t.Helper()
	list := map[int][]impl.Braid{
		3999: {
			pattern(3, 27, []int64{1, -1, 1, 1, 1, -2}, 1, 2), pattern(5, 63, []int64{-2, -2, 2, 3, -4, 1, -3}), pattern(6, 21, []int64{-5, 1, -5, -5, 4}, -5, -4),
			pattern(7, 49, []int64{-4, -3, 2, -4, -6, 3}, 5), pattern(8, 51, []int64{5, -6, 4, 2, -2, 2}, -1, 2, -3),
		},
		4001: {
			pattern(4, 40, []int64{-1, -3, 2, -3, 1, -2}), pattern(6, 61, []int64{-4, 2, -4, 4, -4, 1, -3}, -5, 2, -2, -3), pattern(7, 27, []int64{4, -3, 2, -5, 2, 3, -3}, 4),
			pattern(4, 35, []int64{-3, -2, -2, 1, 2, 1}, 2, 3, 1), pattern(5, 61, []int64{-3, 1, -3, 1, 3, 2, -4}, 2, -2), pattern(6, 56, []int64{-5, 1, -4, -3, 2}, 3, 5),
		},
	}[count]
	for _, b := range list {
		if _, most := plainImages(b); most != count {
			t.Fatalf("%v has %d numbers on the way, not %d", b, most, count)
		}
	}
	return list
}

func TestImagesWithinTheLimit(t *testing.T) {
	for _, b := range longImages(t, 3999) {
		images, _ := plainImages(b)
		got, code := impl.ImagesOf(b)
		checkRows(t, "ImagesOf", got, code, images)
		got, code = impl.RelationsOf(b)
		if longest := slices.MaxFunc(got, func(x, y []int64) int { return len(x) - len(y) }); code != impl.ErrNone || len(longest) < 3998 {
			t.Errorf("RelationsOf(%v): code %d, at most %d numbers", b, code, len(longest))
		}
		checkImages(t, b)
		answer, code := impl.SameAction(b, b)
		checkAnswer(t, "SameAction", answer, code, true)
		answer, code = impl.SameAction(b, braid(b.Strands))
		checkAnswer(t, "SameAction", answer, code, false)
		answer, code = impl.SameAction(withInverse(t, b), braid(b.Strands))
		checkAnswer(t, "SameAction", answer, code, true)
	}
	for _, b := range longImages(t, 4001) {
		// With its inverse behind it, the images are those of nothing.
		for _, c := range []impl.Braid{b, withInverse(t, b)} {
			if code := checkImages(t, c); code != impl.ErrLimit {
				t.Errorf("ImagesOf(%v): code %d", c, code)
			}
			for _, other := range []impl.Braid{braid(c.Strands), braid(c.Strands, 1), c, b} {
				for _, pair := range [][2]impl.Braid{{c, other}, {other, c}} {
					answer, code := impl.SameAction(pair[0], pair[1])
					checkNoAnswer(t, "SameAction with too many", answer, code, impl.ErrLimit)
				}
			}
			// Other strands are an earlier error.
			for _, pair := range [][2]impl.Braid{{c, braid(c.Strands - 1)}, {braid(c.Strands + 1), c}} {
				answer, code := impl.SameAction(pair[0], pair[1])
				checkNoAnswer(t, "SameAction with other strands", answer, code, impl.ErrRange)
			}
			answer, code := impl.SameAction(c, braid(9))
			checkNoAnswer(t, "SameAction with no braid", answer, code, impl.ErrInvalid)
		}
	}
	// The longest free words of two strands are far within the limit.
	got, code := impl.ImagesOf(longBraid(2, 200))
	if code != impl.ErrNone || len(got[0]) != 401 || len(got[1]) != 399 {
		t.Errorf("ImagesOf 200 letters: code %d", code)
	}
	for n := int64(1); n <= 8; n++ {
		checkImages(t, must[impl.Braid](t)(impl.FullTurnBraid(n)))
		checkImages(t, braid(n))
	}
}

// Images are told by chapter 5, too: the derivatives of Fox of the images are Burau's matrix.
func TestDerivativesOfImagesAreBuraus(t *testing.T) {
	const prime, variable, inverse = 1000003, 7, 714288
	checked := 0
	for _, b := range slices.Concat(randomBraids(30), braidsOfLetters(3, 3), longImages(t, 3999)) {
		images, code := impl.ImagesOf(b)
		if code != impl.ErrNone {
			continue
		}
		checked++
		var rows [8][8]int64
		for x, image := range images {
			ahead := int64(1)
			for _, g := range image {
				if g > 0 {
					rows[x][g-1] = (rows[x][g-1] + ahead) % prime
					ahead = ahead * variable % prime
				} else {
					ahead = ahead * inverse % prime
					rows[x][-g-1] = (rows[x][-g-1] + prime - ahead) % prime
				}
			}
		}
		if rows != plainBurau(b.Letters, b.Strands) {
			t.Errorf("ImagesOf(%v) has other derivatives than Burau's matrix", b)
		}
	}
	if checked < 300 {
		t.Errorf("only %d braids", checked)
	}
}

// Promise 8, the first part: also where free words are multiplied before.
func TestBraidsActOneAfterTheOther(t *testing.T) {
	source := rand.New(rand.NewSource(52))
	checked := 0
	for range 3000 {
		n := 1 + source.Int63n(8)
		a, b := randomBraid(source, n, source.Intn(12)), randomBraid(source, n, source.Intn(12))
		u, v := randomFree(source, n, source.Intn(6)), randomFree(source, n, source.Intn(6))
		product := must[impl.Braid](t)(impl.ProductOf(a, b))
		want, code := impl.ActOnFree(product, u)
		if code != impl.ErrNone {
			continue
		}
		checked++
		first := must[[]int64](t)(impl.ActOnFree(a, u))
		got, code := impl.ActOnFree(b, first)
		checkList(t, "ActOnFree of one after the other", got, code, want)
		back, code := impl.ActOnFree(must[impl.Braid](t)(impl.InverseOf(product)), want)
		checkList(t, "ActOnFree of the inverse", back, code, u)
		if second, code := impl.ActOnFree(a, v); code == impl.ErrNone {
			got, code := impl.ActOnFree(a, must[[]int64](t)(impl.MultiplyFree(u, v, n)))
			checkList(t, "ActOnFree of a product", got, code, must[[]int64](t)(impl.MultiplyFree(first, second, n)))
		}
		negatives, code := impl.ActOnFree(a, must[[]int64](t)(impl.InverseFree(u, n)))
		checkList(t, "ActOnFree of an inverse", negatives, code, must[[]int64](t)(impl.InverseFree(first, n)))
	}
	if checked < 2500 {
		t.Errorf("only %d products", checked)
	}
}

// Promise 8, the second part, and what relates images to ActOnFree.
func TestImagesHaveTheProductOfAllGenerators(t *testing.T) {
	checked := 0
	for _, b := range slices.Concat(shortWords(), randomBraids(20)) {
		images, code := impl.ImagesOf(b)
		if code != impl.ErrNone {
			continue
		}
		checked++
		var product []int64
		for at, image := range images {
			product = must[[]int64](t)(impl.MultiplyFree(product, image, b.Strands))
			got, code := impl.ActOnFree(b, []int64{int64(at) + 1})
			checkList(t, "ActOnFree", got, code, image)
		}
		all := generatorsUpTo(b.Strands)
		checkList(t, "the product of the images", product, impl.ErrNone, all)
		got, code := impl.ActOnFree(b, all)
		checkList(t, "ActOnFree of the product of all generators", got, code, all)
		// Images are conjugates of the generators where the strands end.
		for strand, end := range must[[]int64](t)(impl.EndsOf(b)) {
			if image := images[strand]; image[len(image)/2] != end+1 {
				t.Errorf("the image of %d by %v is %v", strand+1, b, image)
			}
		}
	}
	if checked < 1500 {
		t.Errorf("only %d braids", checked)
	}
}

func TestSameAction(t *testing.T) {
	for _, c := range []struct {
		a, b impl.Braid
		want bool
	}{
		{braid(1), braid(1), true}, {braid(8), braid(8), true}, {braid(2, 1), braid(2, 1), true}, {braid(2, 1), braid(2, -1), false}, {braid(2, 1, -1), braid(2), true},
		{braid(3, 1, 2, 1), braid(3, 2, 1, 2), true}, {braid(3, 1, 2), braid(3, 2, 1), false}, {braid(3, 2, 1, -2), braid(3, -1, 2, 1), true}, {braid(3, 1, -2), braid(3, -2, 1), false},
		{braid(3, 1), braid(3, 2), false}, {braid(3, 1), braid(3, 1, 1), false}, {braid(3), braid(3, 2, 2), false}, {braid(4, 1, 3), braid(4, 3, 1), true},
		{braid(4, 1, 3), braid(4, 1), false}, {braid(8, 1, 7, -1, -7), braid(8), true}, {braid(8), braid(8, 7), false}, {longBraid(8, 200), longBraid(8, 199), false},
	} {
		for _, pair := range [][2]impl.Braid{{c.a, c.b}, {c.b, c.a}} {
			got, code := impl.SameAction(pair[0], pair[1])
			checkAnswer(t, "SameAction", got, code, c.want)
		}
	}
	for _, pair := range [][2]impl.Braid{{braid(1), braid(2)}, {braid(3, 1), braid(4, 1)}, {braid(4, 1), braid(3, 1)}, {braid(8), braid(7)}, {longBraid(2, 200), braid(1)}} {
		got, code := impl.SameAction(pair[0], pair[1])
		checkNoAnswer(t, "SameAction with other strands", got, code, impl.ErrRange)
	}
}

// Promise 14: all pairs of short words.
func TestShortWordsAreTheSameExactlyIfTheyActAlike(t *testing.T) {
	same := 0
	for _, list := range [][]impl.Braid{braidsOfLetters(1, 0), braidsOfLetters(2, 5), braidsOfLetters(3, 4), braidsOfLetters(4, 3), braidsOfLetters(8, 2)} {
		for x, a := range list {
			normal := normalOf(t, a)
			for _, b := range list[:x+1] {
				want := sameNormal(normal, normalOf(t, b))
				got, code := impl.SameAction(a, b)
				checkAnswer(t, "SameAction", got, code, want)
				if want {
					same++
				}
			}
		}
	}
	if same < 3000 {
		t.Errorf("only %d pairs are the same", same)
	}
}

// Promise 14: other words of the same braid act alike, and with a letter more they do not.
func TestMovedWordsActAlike(t *testing.T) {
	source := rand.New(rand.NewSource(53))
	codes := map[int64]int{}
	for _, b := range slices.Concat(randomBraids(16), randomBraids(30)) {
		list := []impl.Braid{moved(source, b, 30)}
		if word, code := impl.WordOfNormal(normalOf(t, b)); code == impl.ErrNone {
			list = append(list, braid(b.Strands, word...))
		}
		if free, code := impl.HandleFree(b); code == impl.ErrNone {
			list = append(list, free)
		}
		if b.Strands > 1 {
			letter := randomBraid(source, b.Strands, 1).Letters[0]
			list = append(list, braid(b.Strands, slices.Insert(slices.Clone(b.Letters), len(b.Letters)/2, letter)...))
		}
		for _, c := range list {
			for _, pair := range [][2]impl.Braid{{b, c}, {c, b}} {
				got, code := impl.SameAction(pair[0], pair[1])
				codes[code]++
				if code == impl.ErrNone {
					checkAnswer(t, "SameAction", got, code, must[bool](t)(impl.SameBraid(b, c)))
				} else {
					checkNoAnswer(t, "SameAction", got, code, impl.ErrLimit)
				}
			}
		}
	}
	if codes[impl.ErrNone] < 2000 {
		t.Errorf("codes %v", codes)
	}
}

func colourPrimes() []int64 {
	return []int64{3, 5, 7, 11, 13, 17, 19, 23, 29, 31, 37, 41, 43, 47, 53, 59, 61, 67, 71, 73, 79, 83, 89, 97}
}

// notColourPrimes has numbers that are no primes, and primes that are too small or too great.
func notColourPrimes() []int64 {
	list := []int64{math.MinInt64, -97, -7, -5, math.MaxInt64, 211, 997, 1009, 9409, 10007}
	for p := int64(-4); p < 130; p++ {
		if !slices.Contains(colourPrimes(), p) {
			list = append(list, p)
		}
	}
	return list
}

// plainColours returns the colours that come out of a word.
func plainColours(letters []int64, p int64, colours []int64) []int64 {
	c := slices.Concat([]int64{0}, colours)
	for _, x := range letters {
		if x > 0 {
			c[x], c[x+1] = 2*c[x]-c[x+1], c[x]
		} else {
			c[-x], c[-x+1] = c[-x+1], 2*c[-x+1]-c[-x]
		}
		for at := range c {
			c[at] = (c[at]%p + p) % p
		}
	}
	return c[1:]
}

// plainExponent counts the colourings in which the first strand has the colour 0. If all colours are
// changed by the same number, a colouring remains one.
func plainExponent(t *testing.T, b impl.Braid, p int64) int64 {
	t.Helper()
	colours := make([]int64, b.Strands)
	count := int64(0)
	for more := true; more; {
		if slices.Equal(plainColours(b.Letters, p, colours), colours) {
			count++
		}
		more = false
		for at := range colours[1:] {
			colours[at+1] = (colours[at+1] + 1) % p
			if colours[at+1] != 0 {
				more = true
				break
			}
		}
	}
	exponent := int64(1)
	for ; count > 1; count /= p {
		if count%p != 0 {
			t.Fatalf("%v has %d colourings with 0 modulo %d", b, count, p)
		}
		exponent++
	}
	return exponent
}

// randomColours returns count numbers in 0..p - 1.
func randomColours(source *rand.Rand, p int64, count int64) []int64 {
	var colours []int64
	for range count {
		colours = append(colours, source.Int63n(p))
	}
	return colours
}

func TestExamplesOfColours(t *testing.T) {
	for _, c := range []struct {
		b             impl.Braid
		p             int64
		colours, want []int64
	}{
		{braid(2, 1), 3, []int64{0, 1}, []int64{2, 0}}, {braid(2, -1), 3, []int64{0, 1}, []int64{1, 2}}, {braid(2, 1), 97, []int64{96, 0}, []int64{95, 96}}, {braid(2, 1), 97, []int64{0, 96}, []int64{1, 0}},
		{braid(2, -1), 97, []int64{96, 0}, []int64{0, 1}}, {braid(2, -1), 97, []int64{0, 96}, []int64{96, 95}}, {braid(1), 3, []int64{2}, []int64{2}}, {braid(1), 97, []int64{0}, []int64{0}},
		{braid(3), 5, []int64{4, 0, 2}, []int64{4, 0, 2}}, {braid(3, 1, 2), 5, []int64{4, 0, 2}, []int64{3, 1, 4}}, {braid(3, 2, 1), 5, []int64{4, 0, 2}, []int64{0, 4, 0}},
		{braid(3, 1, -2), 5, []int64{4, 0, 2}, []int64{3, 2, 0}}, {braid(2, 1, 1, 1), 3, []int64{0, 1}, []int64{0, 1}}, {braid(2, 1, 1, 1), 5, []int64{0, 1}, []int64{2, 3}},
		{braid(8, 7), 7, []int64{0, 1, 2, 3, 4, 5, 6, 1}, []int64{0, 1, 2, 3, 4, 5, 4, 6}}, {braid(8, -7), 7, []int64{0, 1, 2, 3, 4, 5, 6, 1}, []int64{0, 1, 2, 3, 4, 5, 1, 3}},
		{braid(8, 1), 7, []int64{6, 1, 2, 3, 4, 5, 6, 0}, []int64{4, 6, 2, 3, 4, 5, 6, 0}},
	} {
		got, code := impl.ColourStep(c.b, c.p, c.colours)
		checkList(t, "ColourStep", got, code, c.want)
		checkList(t, "the example", c.want, impl.ErrNone, plainColours(c.b.Letters, c.p, c.colours))
		answer, code := impl.IsColouring(c.b, c.p, c.colours)
		checkAnswer(t, "IsColouring", answer, code, slices.Equal(c.want, c.colours))
	}
	for _, c := range []struct {
		b              impl.Braid
		p, want        int64
		colours, wrong []int64
	}{
		{braid(2, 1, 1, 1), 3, 2, []int64{2, 1}, nil}, {braid(2, 1, 1, 1), 5, 1, []int64{4, 4}, []int64{0, 1}}, {braid(2, -1, -1, -1), 3, 2, []int64{0, 2}, nil},
		{braid(3, 1, -2, 1, -2), 5, 2, []int64{0, 2, 1}, []int64{0, 1, 1}}, {braid(3, 1, -2, 1, -2), 3, 1, []int64{2, 2, 2}, []int64{0, 1, 2}},
		{braid(3, 1, 1, 1, 2, 2, 2), 3, 3, []int64{0, 1, 1}, nil}, {braid(3, 1, 1, 1, 2, 2, 2), 97, 1, []int64{96, 96, 96}, []int64{0, 0, 96}},
		{braid(4, 1, 1, 1, 3, 3, 3), 3, 4, []int64{1, 2, 0, 0}, nil}, {braid(4, 1, 1, 1, 3, 3, 3), 7, 2, []int64{1, 1, 0, 0}, []int64{1, 1, 0, 1}},
		{braid(1), 3, 1, []int64{2}, nil}, {braid(1), 97, 1, []int64{96}, nil}, {braid(2), 3, 2, []int64{0, 2}, nil}, {braid(8), 97, 8, []int64{0, 1, 2, 3, 4, 5, 6, 96}, nil},
		{braid(2, 1), 3, 1, []int64{1, 1}, []int64{1, 0}}, {braid(2, 1, -1), 11, 2, []int64{10, 0}, nil}, {braid(2, 1, 1), 97, 1, []int64{5, 5}, []int64{5, 4}},
		{longBraid(2, 97), 97, 2, []int64{0, 96}, nil}, {longBraid(2, 96), 97, 1, []int64{1, 1}, []int64{0, 96}}, {longBraid(2, 194), 97, 2, []int64{13, 88}, nil}, {longBraid(2, 200), 5, 2, []int64{1, 3}, nil},
	} {
		number, code := impl.CountColourings(c.b, c.p)
		checkNumber(t, "CountColourings", number, code, c.want)
		answer, code := impl.IsColouring(c.b, c.p, c.colours)
		checkAnswer(t, "IsColouring", answer, code, true)
		if c.wrong != nil {
			answer, code = impl.IsColouring(c.b, c.p, c.wrong)
			checkAnswer(t, "IsColouring", answer, code, false)
		}
	}
}

// checkColourCodes checks that the functions of a braid, a prime and colours return a code, and so does
// CountColourings if count tells so.
func checkColourCodes(t *testing.T, name string, b impl.Braid, p int64, colours []int64, want int64, count bool) {
	t.Helper()
	list, code := impl.ColourStep(b, p, colours)
	checkNoList(t, "ColourStep: "+name, list, code, want)
	answer, code := impl.IsColouring(b, p, colours)
	checkNoAnswer(t, "IsColouring: "+name, answer, code, want)
	if count {
		number, code := impl.CountColourings(b, p)
		checkNoNumber(t, "CountColourings: "+name, number, code, want)
	}
}

func TestErrorsOfColours(t *testing.T) {
	for name, b := range notBraids() {
		for _, p := range []int64{3, 2, 4, 97, 101, 0, -3} {
			for _, colours := range [][]int64{nil, {0}, {0, 1}, {0, 1, 2}, {-1}, {5000}, make([]int64, 8), make([]int64, 9)} {
				checkColourCodes(t, name, b, p, colours, impl.ErrInvalid, true)
			}
		}
	}
	for _, p := range notColourPrimes() {
		for _, b := range []impl.Braid{braid(1), braid(3, 1, 2), longBraid(8, 200)} {
			checkColourCodes(t, "no prime", b, p, make([]int64, b.Strands), impl.ErrRange, true)
			checkColourCodes(t, "no prime, no colours", b, p, []int64{-1}, impl.ErrRange, true)
		}
	}
	for _, p := range colourPrimes() {
		for n := int64(1); n <= 8; n++ {
			b := braid(n)
			for _, count := range []int64{0, 1, n - 1, n + 1, n + 2, 9, 100} {
				if count != n {
					checkColourCodes(t, "too few or too many colours", b, p, make([]int64, count), impl.ErrRange, false)
				}
			}
			for at := range n {
				for _, x := range []int64{-1, -p, p, p + 1, math.MinInt64, math.MaxInt64} {
					colours := make([]int64, n)
					colours[at] = x
					checkColourCodes(t, "a strange colour", b, p, colours, impl.ErrRange, false)
				}
				for _, x := range []int64{0, 1, p - 1} {
					colours := make([]int64, n)
					colours[at] = x
					got, code := impl.ColourStep(b, p, colours)
					checkList(t, "ColourStep", got, code, colours)
					answer, code := impl.IsColouring(b, p, colours)
					checkAnswer(t, "IsColouring", answer, code, true)
				}
			}
		}
	}
}

// reflections evaluates a free word: each number stands for the reflection at the colour of a strand, and
// the whole word, a conjugate, for one, too.
func reflections(word []int64, p int64, colours []int64) int64 {
	half := len(word) / 2
	colour := colours[plainIndex(word[half])-1]
	for _, g := range slices.Backward(word[:half]) {
		colour = (2*colours[plainIndex(g)-1] - colour + p) % p
	}
	return colour
}

func TestColourStep(t *testing.T) {
	source := rand.New(rand.NewSource(54))
	evaluated := 0
	for _, b := range slices.Concat(randomBraids(200), randomBraids(20), braidsOfLetters(3, 3)) {
		p := colourPrimes()[source.Intn(24)]
		colours := randomColours(source, p, b.Strands)
		want := plainColours(b.Letters, p, colours)
		got, code := impl.ColourStep(b, p, colours)
		checkList(t, "ColourStep", got, code, want)
		back, code := impl.ColourStep(inverseWord(t, b), p, want)
		checkList(t, "ColourStep of the inverse", back, code, colours)
		answer, code := impl.IsColouring(b, p, colours)
		checkAnswer(t, "IsColouring", answer, code, slices.Equal(want, colours))
		other, code := impl.ColourStep(moved(source, b, 200), p, colours)
		checkList(t, "ColourStep of another word", other, code, want)
		// The last letter is the first one that finds the colours of the generators.
		images, code := impl.ImagesOf(must[impl.Braid](t)(impl.ReverseOf(b)))
		if code != impl.ErrNone {
			continue
		}
		evaluated++
		for at, image := range images {
			if colour := reflections(image, p, colours); colour != want[at] {
				t.Errorf("the image of %d has the colour %d, not %d", at+1, colour, want[at])
			}
		}
	}
	if evaluated < 200 {
		t.Errorf("only %d braids have images", evaluated)
	}
}

// greatestPrimeFor returns the greatest prime for which all colourings of so many strands are soon counted.
func greatestPrimeFor(n int64) int64 {
	return []int64{97, 97, 97, 23, 11, 7, 5, 3}[n-1]
}

func TestCountColourings(t *testing.T) {
	source := rand.New(rand.NewSource(55))
	kinds := map[int64]int{}
	for _, b := range slices.Concat(randomBraids(12), randomBraids(40), braidsOfLetters(3, 3), braidsOfLetters(4, 2)) {
		for _, p := range colourPrimes() {
			if p > greatestPrimeFor(b.Strands) || p > 7 && p < greatestPrimeFor(b.Strands) && source.Intn(8) > 0 {
				continue
			}
			want := plainExponent(t, b, p)
			got, code := impl.CountColourings(b, p)
			checkNumber(t, "CountColourings", got, code, want)
			kinds[want]++
		}
	}
	if kinds[1] < 300 || kinds[2] < 100 || kinds[3] < 20 || kinds[4] < 10 {
		t.Errorf("exponents %v", kinds)
	}
}

// beside returns both braids, the second one to the right of the first one, and a braid with a letter
// between them that joins their closures.
func beside(t *testing.T, a, b impl.Braid) (impl.Braid, impl.Braid) {
	t.Helper()
	shifted := must[impl.Braid](t)(impl.ShiftOf(b, a.Strands))
	both := braid(shifted.Strands, slices.Concat(a.Letters, shifted.Letters)...)
	return both, braid(both.Strands, append(slices.Clone(both.Letters), a.Strands)...)
}

func TestColouringsOfClosuresBesideEachOther(t *testing.T) {
	source := rand.New(rand.NewSource(56))
	kinds := map[int64]int{}
	for range 600 {
		m, n := 1+source.Int63n(4), 1+source.Int63n(4)
		a, b := randomBraid(source, m, source.Intn(20)), randomBraid(source, n, source.Intn(20))
		both, connected := beside(t, a, b)
		for _, p := range colourPrimes() {
			exponentA, exponentB := must[int64](t)(impl.CountColourings(a, p)), must[int64](t)(impl.CountColourings(b, p))
			got, code := impl.CountColourings(both, p)
			checkNumber(t, "CountColourings of both", got, code, exponentA+exponentB)
			kinds[got]++
			got, code = impl.CountColourings(connected, p)
			checkNumber(t, "CountColourings of both, connected", got, code, exponentA+exponentB-1)
		}
	}
	if kinds[2] < 1000 || kinds[4] < 100 || kinds[5] < 20 {
		t.Errorf("exponents %v", kinds)
	}
}

func TestConjugatesHaveAsManyColourings(t *testing.T) {
	source := rand.New(rand.NewSource(57))
	for _, b := range randomBraids(60) {
		c := randomBraid(source, b.Strands, source.Intn(20))
		list := []impl.Braid{conjugateWord(t, b, c), moved(source, b, 100), inverseWord(t, b), must[impl.Braid](t)(impl.MirrorOf(b)), must[impl.Braid](t)(impl.TurnBraid(b))}
		for _, p := range []int64{3, 5, 7, 97, colourPrimes()[source.Intn(24)]} {
			want := must[int64](t)(impl.CountColourings(b, p))
			for _, other := range list {
				got, code := impl.CountColourings(other, p)
				checkNumber(t, "CountColourings", got, code, want)
			}
			// There always are the colourings with one colour.
			answer, code := impl.IsColouring(b, p, slices.Repeat([]int64{source.Int63n(p)}, int(b.Strands)))
			checkAnswer(t, "IsColouring with one colour", answer, code, true)
			if want < 1 || want > b.Strands {
				t.Errorf("CountColourings(%v, %d) = %d", b, p, want)
			}
		}
	}
}

// Promise 16, for all primes.
func TestColouringsAndDeterminants(t *testing.T) {
	source := rand.New(rand.NewSource(58))
	list := slices.Concat(randomBraids(60), braidsOfLetters(2, 6), braidsOfLetters(3, 4), braidsOfLetters(4, 3))
	for range 1000 {
		list = append(list, randomBraid(source, 2+source.Int63n(7), 40+source.Intn(21)))
	}
	for count := range 61 {
		list = append(list, longBraid(2, count), beginningOf(3, count, 1, -2), beginningOf(5, count, 1, -2, 3, -4))
	}
	divided := map[int64]int{}
	for _, b := range list {
		determinant := must[int64](t)(impl.DeterminantOf(b))
		for _, p := range colourPrimes() {
			exponent, code := impl.CountColourings(b, p)
			if code != impl.ErrNone || exponent > 1 != (determinant%p == 0) {
				t.Errorf("CountColourings(%v, %d) = %d, code %d, with the determinant %d", b, p, exponent, code, determinant)
			}
			if determinant != 0 && exponent > 1 {
				divided[p]++
			}
		}
	}
	for _, p := range colourPrimes() {
		if divided[p] < 3 {
			t.Errorf("only %d determinants other than 0 are divided by %d", divided[p], p)
		}
	}
}

func TestFreeWordsShareNoMemoryWithArguments(t *testing.T) {
	for _, word := range [][]int64{{}, {1}, {1, -2}, {2, 2, 1, -2}, {-1, 2, 1}} {
		for _, letters := range []impl.Braid{braid(2), braid(2, 1), braid(2, -1, -1), braid(3), braid(3, 2), braid(3, 1, -2, 1), braid(3, 1, -1)} {
			a, untouchedA := guarded(braid(0, word...))
			b, untouchedB := guarded(letters)
			other, untouchedOther := guarded(braid(0, 2, 1))
			impl.IsFreeWord(a.Letters, 2)
			calls := map[string]func() ([]int64, int64){
				"ActOnFree":                    func() ([]int64, int64) { return impl.ActOnFree(b, a.Letters) },
				"InverseFree":                  func() ([]int64, int64) { return impl.InverseFree(a.Letters, 2) },
				"MultiplyFree":                 func() ([]int64, int64) { return impl.MultiplyFree(a.Letters, other.Letters, 2) },
				"MultiplyFree, the other way":  func() ([]int64, int64) { return impl.MultiplyFree(other.Letters, a.Letters, 2) },
				"MultiplyFree, nothing behind": func() ([]int64, int64) { return impl.MultiplyFree(a.Letters, nil, 2) },
				"MultiplyFree, nothing ahead":  func() ([]int64, int64) { return impl.MultiplyFree(nil, a.Letters, 2) },
			}
			for name, call := range calls {
				first := must[[]int64](t)(call())
				want := slices.Clone(first)
				scribble(first)
				if got := must[[]int64](t)(call()); !slices.Equal(got, want) {
					t.Errorf("%s returns %v after its first result %v was written over", name, got, want)
				}
				if !untouchedA() || !untouchedB() || !untouchedOther() {
					t.Fatalf("%s has changed an argument, or shares memory with it", name)
				}
			}
		}
	}
}

func TestImagesAndColoursShareNoMemory(t *testing.T) {
	for _, word := range []impl.Braid{braid(1), braid(2, 1), braid(3), braid(3, 1, -2, 1), braid(8, 7, -1), braid(8)} {
		b, untouched := guarded(word)
		c, untouchedColours := guarded(braid(0, slices.Repeat([]int64{2}, int(word.Strands))...))
		for name, call := range imageFunctions() {
			rows := must[[][]int64](t)(call(b))
			checkRowsAreApart(t, name, rows)
			if got, want := must[[][]int64](t)(call(b)), must[[][]int64](t)(call(word)); !sameRows(got, want) {
				t.Errorf("%s(%v) = %v after its first result was written over", name, word, got)
			}
		}
		colours := must[[]int64](t)(impl.ColourStep(b, 5, c.Letters))
		scribble(colours)
		impl.IsColouring(b, 5, c.Letters)
		impl.CountColourings(b, 5)
		impl.SameAction(b, b)
		if !untouched() || !untouchedColours() {
			t.Fatalf("%v or its colours have been changed", word)
		}
		checkImages(t, word)
		again, code := impl.ColourStep(b, 5, c.Letters)
		checkList(t, "ColourStep after its first result was written over", again, code, c.Letters)
		number, code := impl.CountColourings(b, 5)
		checkNumber(t, "CountColourings", number, code, must[int64](t)(impl.CountColourings(word, 5)))
	}
}
