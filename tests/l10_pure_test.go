package tests

import (
	"math"
	"math/rand"
	"slices"
	"testing"

	"loop.example/g01205/impl"
)

// comb is a list of free words with a number of strands.
type comb struct {
	n     int64
	words [][]int64
}

// noWords returns the comb without letters.
func noWords(n int64) [][]int64 { return make([][]int64, n-1) }

// atLast returns the comb of n strands that has letters in one word only: the last one, or the one so many
// words ahead of it.
func atLast(n int64, ahead int64, word []int64) [][]int64 {
	words := noWords(n)
	words[n-2-ahead] = word
	return words
}

// combFunctions has the functions that lead from a pure braid to lists of numbers.
func combFunctions() map[string]func(impl.Braid) ([][]int64, int64) {
	return map[string]func(impl.Braid) ([][]int64, int64){
		"CombOf":              impl.CombOf,
		"LinkingsOf":          impl.LinkingsOf,
		"ExpansionOf, j of 1": func(b impl.Braid) ([][]int64, int64) { return impl.ExpansionOf(b, 1) },
	}
}

// strandFunctions has the functions that lead from a braid and one of its strands to a braid.
func strandFunctions() map[string]func(impl.Braid, int64) (impl.Braid, int64) {
	return map[string]func(impl.Braid, int64) (impl.Braid, int64){
		"ForgetStrand": impl.ForgetStrand,
		"DoubleStrand": impl.DoubleStrand,
	}
}

// notCombs has what breaks each condition of a comb, most of it by one.
func notCombs() map[string]comb {
	return map[string]comb{
		"no strands":                           {0, nil},
		"no strands and a word":                {0, [][]int64{{}}},
		"less than no strands":                 {-1, nil},
		"the fewest strands":                   {math.MinInt64, nil},
		"a strand too many":                    {9, noWords(9)},
		"a strand too many, words of 8":        {9, noWords(8)},
		"the most strands":                     {math.MaxInt64, noWords(8)},
		"a word of one strand":                 {1, [][]int64{{}}},
		"a word of one strand with a letter":   {1, [][]int64{{1}}},
		"no word of two strands":               {2, nil},
		"two words of two strands":             {2, [][]int64{{1}, {}}},
		"one word of three strands":            {3, [][]int64{{1}}},
		"three words of three strands":         {3, [][]int64{{1}, {1}, {}}},
		"six words of eight strands":           {8, noWords(7)},
		"eight words of eight strands":         {8, noWords(9)},
		"the letter 0":                         {3, [][]int64{{0}, {}}},
		"the letter 0 of the last word":        {3, [][]int64{{1}, {0}}},
		"0 at the end":                         {3, [][]int64{{1, 2, 0}, {1}}},
		"0 twice":                              {2, [][]int64{{0, 0}}},
		"a letter too great":                   {3, [][]int64{{3}, {}}},
		"a letter too small":                   {3, [][]int64{{-3}, {}}},
		"a letter of the word ahead":           {3, [][]int64{{}, {2}}},
		"a letter of it, less than 0":          {3, [][]int64{{}, {-2}}},
		"a letter of the word behind j":        {2, [][]int64{{2}}},
		"the letter 8":                         {8, atLast(8, 6, []int64{8})},
		"the letter -8 at the end":             {8, atLast(8, 6, []int64{7, 1, -8})},
		"the letter 4 of the middle word":      {8, atLast(8, 2, []int64{4})},
		"the letter 7 of the second word":      {8, atLast(8, 5, []int64{-7})},
		"the greatest letter":                  {8, atLast(8, 6, []int64{math.MaxInt64})},
		"the least letter":                     {8, atLast(8, 6, []int64{math.MinInt64})},
		"the least letter twice":               {8, atLast(8, 0, []int64{math.MinInt64, math.MinInt64})},
		"opposite letters":                     {3, [][]int64{{1, -1}, {}}},
		"opposite letters, the other way":      {3, [][]int64{{-2, 2}, {}}},
		"opposite letters of the last word":    {3, [][]int64{{1}, {-1, 1}}},
		"opposite letters at the end":          {4, [][]int64{{1, 2, 3, -3}, {1}, {1}}},
		"opposite letters in the middle":       {4, [][]int64{{1}, {2, 1, -1, 2}, {1}}},
		"a letter too many":                    {2, [][]int64{ones(401)}},
		"a letter too many, less than 0":       {3, [][]int64{ones(-401), nil}},
		"a letter too many in the last word":   {3, [][]int64{nil, ones(401)}},
		"a letter too many of eight strands":   {8, atLast(8, 3, append(ones(400), 2))},
		"far too many letters":                 {8, atLast(8, 6, ones(50000))},
		"opposite letters at the end of 400":   {3, [][]int64{append(ones(398), 2, -2), nil}},
		"opposite letters in front of 400":     {3, [][]int64{append([]int64{2, -2}, ones(398)...), nil}},
		"a good word, then one that is too":    {4, [][]int64{{3, 1}, {2, -1}, {1, 2}}},
		"the words in the other order":         {3, [][]int64{{1}, {2, 1}}},
		"more letters than a free word of all": {3, [][]int64{ones(4001), nil}},
	}
}

// plainGenerator returns the letters of the generator of i and j, or of its inverse.
func plainGenerator(i, j, sign int64) []int64 {
	way := []int64{}
	for at := j; at >= i+2; at-- {
		way = append(way, at)
	}
	return slices.Concat(way, []int64{sign * (i + 1), sign * (i + 1)}, plainNegatives(way))
}

// plainCombWord returns the letters for which a comb stands, however many there are.
func plainCombWord(n int64, words [][]int64) []int64 {
	var letters []int64
	for at, word := range words {
		for _, x := range word {
			letters = append(letters, plainGenerator(plainIndex(x)-1, n-1-int64(at), x/plainIndex(x))...)
		}
	}
	return letters
}

// plainLead returns what a letter of the rest makes of a letter of a free word.
func plainLead(x, g int64) []int64 {
	k, sign := plainIndex(x)-1, g/plainIndex(g)
	switch {
	case x > 0 && plainIndex(g) == k+1:
		return []int64{sign * (k + 2)}
	case x > 0 && plainIndex(g) == k+2:
		return []int64{-(k + 2), sign * (k + 1), k + 2}
	case x < 0 && plainIndex(g) == k+2:
		return []int64{sign * (k + 1)}
	case x < 0 && plainIndex(g) == k+1:
		return []int64{k + 1, sign * (k + 2), -(k + 1)}
	}
	return []int64{g}
}

// freeCounts has the greatest numbers of letters on the way to a comb: of words that are led, and of
// words that are found.
type freeCounts struct{ led, found int }

func (c freeCounts) most() int { return max(c.led, c.found) }

// plainLed returns what some letters, from the last one to the first one, make of a letter, and the
// greatest number of letters on the way. It stops behind a word that is too long.
func plainLed(letters []int64, g int64) ([]int64, int) {
	word, most := []int64{g}, 1
	for _, x := range slices.Backward(letters) {
		var next []int64
		for _, h := range word {
			for _, put := range plainLead(x, h) {
				if last := len(next) - 1; last >= 0 && next[last] == -put {
					next = next[:last]
				} else {
					next = append(next, put)
				}
			}
		}
		word, most = next, max(most, len(next))
		if most > 400 {
			return nil, most
		}
	}
	return word, most
}

// plainLastWord returns the free word of the last strand, and the letters of the rest.
func plainLastWord(b impl.Braid) ([]int64, impl.Braid, freeCounts) {
	var counts freeCounts
	var found, rest []int64
	p := b.Strands - 1
	for _, x := range b.Letters {
		i, added := plainIndex(x), int64(0)
		switch {
		case i < p:
			rest = append(rest, x)
		case i > p+1:
			rest = append(rest, x/i*(i-1))
		case x == p:
			p--
		case x == -(p + 1):
			p++
		case x == -p:
			p, added = p-1, -p
		case x == p+1:
			p, added = p+1, p+1
		}
		if added != 0 {
			led, most := plainLed(rest, added)
			found = plainFree(found, led)
			counts = freeCounts{max(counts.led, most), max(counts.found, len(found))}
			if counts.most() > 400 {
				break
			}
		}
	}
	return found, braid(b.Strands-1, rest...), counts
}

// plainComb returns the comb of a pure braid, and the greatest numbers of letters on the way. The comb
// has no meaning if they are too great.
func plainComb(b impl.Braid) ([][]int64, freeCounts) {
	var words [][]int64
	var counts freeCounts
	for b.Strands > 1 && counts.most() <= 400 {
		word, rest, more := plainLastWord(b)
		words, counts = append(words, word), freeCounts{max(counts.led, more.led), max(counts.found, more.found)}
		b = rest
	}
	return words, counts
}

// plainPlaces returns the strands in the order of their places behind some letters.
func plainPlaces(b impl.Braid) []int64 {
	order := []int64{0, 1, 2, 3, 4, 5, 6, 7}[:b.Strands]
	for _, x := range b.Letters {
		i := plainIndex(x)
		order[i-1], order[i] = order[i], order[i-1]
	}
	return order
}

// purified returns a braid with letters behind it that lead all strands back.
func purified(b impl.Braid) impl.Braid {
	order := plainPlaces(b)
	letters := slices.Clone(b.Letters)
	for range order {
		for i := 1; i < len(order); i++ {
			if order[i-1] > order[i] {
				letters = append(letters, int64(i))
				order[i-1], order[i] = order[i], order[i-1]
			}
		}
	}
	return braid(b.Strands, letters...)
}

func plainIsPure(b impl.Braid) bool { return slices.IsSorted(plainPlaces(b)) }

// pureBraids returns pure braids of all numbers of strands with at most most letters.
func pureBraids(most int) []impl.Braid {
	var list []impl.Braid
	for _, b := range randomBraids(most) {
		turn := int(b.Strands * (b.Strands - 1) / 2)
		b.Letters = b.Letters[:max(0, min(len(b.Letters), most-turn))]
		list = append(list, purified(b))
	}
	return list
}

// pureWords returns the pure ones of all words of so many strands with at most count letters.
func pureWords(strands int64, count int) []impl.Braid {
	return slices.DeleteFunc(braidsOfLetters(strands, count), func(b impl.Braid) bool { return !plainIsPure(b) })
}

func shortPureWords() []impl.Braid {
	return slices.Concat(pureWords(1, 0), pureWords(2, 8), pureWords(3, 6), pureWords(4, 4), pureWords(5, 4), pureWords(8, 2))
}

// freeWordsUpTo returns all free words of j with at most count letters.
func freeWordsUpTo(j int64, count int) [][]int64 {
	list := [][]int64{nil}
	for at := 0; at < len(list); at++ {
		word := list[at]
		for x := -j; x <= j; x++ {
			if x != 0 && len(word) < count && (len(word) == 0 || word[len(word)-1] != -x) {
				list = append(list, append(slices.Clone(word), x))
			}
		}
	}
	return list
}

// shortCombs returns all combs of two to four strands with few letters.
func shortCombs() []comb {
	var list []comb
	for _, first := range freeWordsUpTo(1, 8) {
		list = append(list, comb{2, [][]int64{first}})
	}
	for _, first := range freeWordsUpTo(2, 3) {
		for _, second := range freeWordsUpTo(1, 3) {
			list = append(list, comb{3, [][]int64{first, second}})
		}
	}
	for _, first := range freeWordsUpTo(3, 2) {
		for _, second := range freeWordsUpTo(2, 1) {
			for _, third := range freeWordsUpTo(1, 1) {
				list = append(list, comb{4, [][]int64{first, second, third}})
			}
		}
	}
	return append(list, comb{1, nil})
}

// randomCombs returns combs of all numbers of strands whose braids have at most 200 letters, some of
// them as many as they can have.
func randomCombs() []comb {
	source := rand.New(rand.NewSource(70))
	var list []comb
	for n := int64(2); n <= 8; n++ {
		for tries := range 60 {
			words, letters := noWords(n), 0
			for range 4 * tries {
				at := source.Int63n(n - 1)
				x := randomFree(source, n-1-at, 1)[0]
				more := len(plainGenerator(plainIndex(x)-1, n-1-at, 1))
				if last := len(words[at]) - 1; letters+more <= 200 && (last < 0 || words[at][last] != -x) {
					words[at], letters = append(words[at], x), letters+more
				}
			}
			list = append(list, comb{n, words})
		}
	}
	return list
}

func combOf(t *testing.T, b impl.Braid) [][]int64 {
	t.Helper()
	return must[[][]int64](t)(impl.CombOf(b))
}

func TestMaxComb(t *testing.T) {
	if impl.MaxComb != 400 {
		t.Errorf("MaxComb = %d", impl.MaxComb)
	}
}

func TestGeneratorOf(t *testing.T) {
	for _, c := range []struct {
		n, i, j int64
		want    []int64
	}{
		{2, 0, 1, []int64{1, 1}}, {3, 0, 1, []int64{1, 1}}, {3, 1, 2, []int64{2, 2}}, {3, 0, 2, []int64{2, 1, 1, -2}}, {8, 6, 7, []int64{7, 7}}, {8, 0, 1, []int64{1, 1}},
		{4, 0, 3, []int64{3, 2, 1, 1, -2, -3}}, {4, 1, 3, []int64{3, 2, 2, -3}}, {8, 0, 7, []int64{7, 6, 5, 4, 3, 2, 1, 1, -2, -3, -4, -5, -6, -7}}, {8, 3, 6, []int64{6, 5, 4, 4, -5, -6}},
	} {
		got, code := impl.GeneratorOf(c.n, c.i, c.j)
		checkBraid(t, "GeneratorOf", got, code, braid(c.n, c.want...))
	}
	numbers := []int64{math.MinInt64, -8, -2, -1, 0, 1, 2, 3, 4, 5, 6, 7, 8, 9, 10, math.MaxInt64}
	good := 0
	for _, n := range numbers {
		for _, i := range numbers {
			for _, j := range numbers {
				got, code := impl.GeneratorOf(n, i, j)
				if n < 2 || n > 8 || i < 0 || i >= j || j >= n {
					checkNoBraid(t, "GeneratorOf beyond a range", got, code, impl.ErrRange)
					continue
				}
				good++
				checkBraid(t, "GeneratorOf", got, code, braid(n, plainGenerator(i, j, 1)...))
				linkings := diagonal(int(n), 0)
				linkings[i][j], linkings[j][i] = 1, 1
				rows, code := impl.LinkingsOf(got)
				checkRows(t, "LinkingsOf a generator", rows, code, linkings)
			}
		}
	}
	if good != 84 {
		t.Errorf("%d generators", good)
	}
}

func TestIsComb(t *testing.T) {
	for name, c := range notCombs() {
		if impl.IsComb(c.n, c.words) {
			t.Errorf("IsComb of %s", name)
		}
	}
	for _, c := range slices.Concat(shortCombs(), randomCombs(), []comb{
		{1, nil}, {1, [][]int64{}}, {2, [][]int64{nil}}, {2, [][]int64{{}}}, {3, [][]int64{{2, -1}, {1}}}, {3, [][]int64{{-2, -2}, {-1}}}, {8, noWords(8)},
		{2, [][]int64{ones(400)}}, {2, [][]int64{ones(-400)}}, {3, [][]int64{append(ones(399), 2), ones(-400)}}, {3, [][]int64{slices.Repeat([]int64{1, 2, -1, -2}, 100), ones(399)}},
		{8, [][]int64{{7}, {-6}, {5}, {-4}, {3}, {-2}, {1}}}, {8, [][]int64{{-7, 1, 7}, {6, -5}, {1}, {4, 1, -4}, {3}, {-2}, {-1}}}, {8, slices.Repeat([][]int64{ones(400)}, 7)},
	}) {
		if !impl.IsComb(c.n, c.words) {
			t.Errorf("IsComb(%d, %v) is false", c.n, c.words)
		}
	}
}

// TestIsCombOfAllLetters has all letters in all words, and all numbers of words.
func TestIsCombOfAllLetters(t *testing.T) {
	for n := int64(-1); n <= 10; n++ {
		for count := range 10 {
			words := make([][]int64, count)
			if got, want := impl.IsComb(n, words), n >= 1 && n <= 8 && count == int(n-1); got != want {
				t.Errorf("IsComb(%d, ..) of %d words is %v", n, count, got)
			}
			for at := range words {
				for x := int64(-10); x <= 10; x++ {
					words[at] = []int64{x}
					j := n - 1 - int64(at)
					want := n >= 1 && n <= 8 && count == int(n-1) && x != 0 && plainIndex(x) <= j
					if got := impl.IsComb(n, words); got != want {
						t.Errorf("IsComb(%d, %v) is %v", n, words, got)
					}
				}
				words[at] = nil
			}
		}
	}
}

func TestExamplesOfCombs(t *testing.T) {
	for _, c := range []struct {
		b    impl.Braid
		want [][]int64
	}{
		{braid(1), nil}, {braid(2), [][]int64{{}}}, {braid(2, 1, 1), [][]int64{{1}}}, {braid(2, -1, -1), [][]int64{{-1}}}, {braid(2, 1, -1), [][]int64{{}}}, {braid(2, -1, 1), [][]int64{{}}},
		{longBraid(2, 200), [][]int64{ones(100)}}, {beginningOf(2, 200, -1), [][]int64{ones(-100)}}, {braid(3), [][]int64{{}, {}}}, {braid(3, 1, 1), [][]int64{{}, {1}}},
		{braid(3, 2, 2), [][]int64{{2}, {}}}, {braid(3, -2, -2), [][]int64{{-2}, {}}}, {braid(3, 2, 1, 1, -2), [][]int64{{1}, {}}}, {braid(3, 2, -1, -1, -2), [][]int64{{-1}, {}}},
		{braid(3, 1, 2, 2, -1), [][]int64{{-2, 1, 2}, {}}}, {braid(3, -1, 2, 2, 1), [][]int64{{1}, {}}}, {braid(3, -2, 1, 1, 2), [][]int64{{-2, 1, 2}, {}}}, {braid(3, 2, 2, 1, 1), [][]int64{{2}, {1}}},
		{braid(3, 1, 1, 2, 2), [][]int64{{-2, -1, 2, 1, 2}, {1}}}, {braid(3, 1, 2, 1, 1, 2, 1), [][]int64{{1, 2}, {1}}}, {braid(3, 1, 2, 1, -2, -1, -2), [][]int64{{}, {}}},
		{braid(3, 1, -2, 1, -2, 1, -2), [][]int64{{-2, -1, 2, 1}, {}}}, {braid(4, 3, 2, 1, 1, -2, -3), [][]int64{{1}, {}, {}}}, {braid(4, 1, 1, 3, 3), [][]int64{{3}, {}, {1}}},
		{braid(4, 1, 2, 3, 3, 2, 1), [][]int64{{-3, -2, 1, 2, 3}, {-2, 1, 2}, {1}}}, {braid(4, 2, 3, 3, -2), [][]int64{{-3, 2, 3}, {}, {}}}, {braid(4, 3, 2, 2, -3), [][]int64{{2}, {}, {}}},
		{braid(8, 7, 7), [][]int64{{7}, {}, {}, {}, {}, {}, {}}}, {braid(8, 1, 1), [][]int64{{}, {}, {}, {}, {}, {}, {1}}}, {braid(8, -4, -4), [][]int64{{}, {}, {}, {-4}, {}, {}, {}}}, {braid(8), noWords(8)},
	} {
		got, code := impl.CombOf(c.b)
		checkRows(t, "CombOf", got, code, c.want)
	}
}

func TestWhatIsNoPureBraid(t *testing.T) {
	for name, b := range notBraids() {
		for function, call := range combFunctions() {
			got, code := call(b)
			checkNoRows(t, function+" of "+name, got, code, impl.ErrInvalid)
		}
		answer, code := impl.IsBrunnian(b)
		checkNoAnswer(t, "IsBrunnian of "+name, answer, code, impl.ErrInvalid)
		// A number beyond its range is a later error.
		for _, x := range []int64{0, 1, 2, -1, 8, math.MinInt64, math.MaxInt64, b.Strands} {
			got, code := impl.ExpansionOf(b, x)
			checkNoRows(t, "ExpansionOf "+name, got, code, impl.ErrInvalid)
			for function, call := range strandFunctions() {
				got, code := call(b, x)
				checkNoBraid(t, function+" of "+name, got, code, impl.ErrInvalid)
			}
		}
	}
	for _, b := range slices.Concat(shortWords(), randomBraids(200)) {
		if plainIsPure(b) {
			continue
		}
		for function, call := range combFunctions() {
			got, code := call(b)
			checkNoRows(t, function+" of what is not pure", got, code, impl.ErrState)
		}
		answer, code := impl.IsBrunnian(b)
		checkNoAnswer(t, "IsBrunnian of what is not pure", answer, code, impl.ErrState)
	}
}

// checkComb checks the comb of a pure braid, and returns its code.
func checkComb(t *testing.T, b impl.Braid) int64 {
	t.Helper()
	want, counts := plainComb(b)
	got, code := impl.CombOf(b)
	if counts.most() > 400 {
		checkNoRows(t, "CombOf a braid with a long way", got, code, impl.ErrLimit)
		return code
	}
	checkRows(t, "CombOf", got, code, want)
	if !impl.IsComb(b.Strands, got) {
		t.Errorf("CombOf(%v) = %v is no comb", b, got)
	}
	return code
}

func TestCombsOfBraids(t *testing.T) {
	codes := map[int64]int{}
	for _, b := range slices.Concat(shortPureWords(), pureBraids(40), pureBraids(200)) {
		codes[checkComb(t, b)]++
	}
	if codes[impl.ErrNone] < 500 || codes[impl.ErrLimit] < 20 {
		t.Errorf("codes %v", codes)
	}
}

// longCombs has pure braids on whose way to the comb a free word has at most a number of letters, and
// one of them exactly so many: one that is led, if led is true, or else one that is found.
func longCombs(t *testing.T, most int, led bool) []impl.Braid {
	t.Helper()
	type key struct {
		most int
		led  bool
	}
	list := map[key][]impl.Braid{
		{400, false}: {
			// In the first four it is the one at the end, in the others it is on the way only.
			pattern(4, 33, []int64{3, 1, 3, -2, -1, 2}), pattern(8, 30, []int64{5, -6, -4, 7}), pattern(4, 62, []int64{1, -1, -2, 1, -2, 3}), pattern(7, 45, []int64{2, 4, -2, -5, -3, 6}),
			pattern(5, 37, []int64{-4, -2, -3, 1, 2, 3}), pattern(7, 102, []int64{-6, -5, 4, -6}), pattern(4, 58, []int64{-2, 1, 3, 2, -3, -2}), pattern(6, 85, []int64{-5, -4, 2, 2, 3, 4}),
		},
		{401, false}: {
			// Also here.
			pattern(4, 50, []int64{-3, 2, -1, -3}), pattern(4, 71, []int64{1, -2, -3}), pattern(8, 66, []int64{-1, -6, 7, -5, -4, -6}), pattern(7, 71, []int64{4, -5, -6}),
			pattern(4, 40, []int64{2, -1, 3, 2, -1}), pattern(8, 67, []int64{5, -6, -7}), pattern(4, 68, []int64{1, -2, -3}), pattern(5, 67, []int64{2, -3, -4}),
		},
		{399, true}: {
			pattern(5, 126, []int64{3, 4, 1, 1, -3, -2}), pattern(5, 74, []int64{4, 3, 2, -3, -1, 3}), pattern(6, 49, []int64{4, 5, -3, -4, 2, -3}), pattern(7, 40, []int64{6, -4, 2, -4, -4, -5}),
		},
		{401, true}: {
			pattern(4, 36, []int64{-1, -3, 2, -3, -3, -1}), pattern(4, 29, []int64{2, -3, 2, 1, 2}), pattern(5, 115, []int64{-2, -2, -3, -3, 4, 3}), pattern(5, 31, []int64{3, -4, 2, 3, 2}),
			// The comb of the first one of these has no letters at all. All of them have a rest in which
			// opposite letters are next to each other.
			pattern(4, 38, []int64{-3, 3, -1, 1, 2, -1}), pattern(7, 34, []int64{-4, 4, 5, 6, -4, -6}), pattern(4, 118, []int64{-1, 3, 2, 2, -2, 3}),
		},
	}[key{most, led}]
	for at, b := range list {
		list[at] = purified(b)
		_, counts := plainComb(list[at])
		if counts.most() != most || led != (counts.led == most) {
			t.Fatalf("%v has %v letters on the way, not %d", list[at], counts, most)
		}
	}
	return list
}

// checkLongWay checks what asks for the comb of a braid on whose way a free word is too long.
func checkLongWay(t *testing.T, b impl.Braid) {
	t.Helper()
	if code := checkComb(t, b); code != impl.ErrLimit {
		t.Fatalf("CombOf(%v): code %d", b, code)
	}
	for j := int64(1); j < b.Strands; j++ {
		got, code := impl.ExpansionOf(b, j)
		checkNoRows(t, "ExpansionOf a braid with a long way", got, code, impl.ErrLimit)
	}
	for _, j := range []int64{-1, 0, b.Strands} {
		got, code := impl.ExpansionOf(b, j)
		checkNoRows(t, "ExpansionOf a braid with a long way", got, code, impl.ErrRange)
	}
}

func TestCombsWithinTheLimit(t *testing.T) {
	for _, b := range slices.Concat(longCombs(t, 400, false), longCombs(t, 399, true)) {
		for _, c := range []impl.Braid{b, braid(min(8, b.Strands+1), b.Letters...)} {
			if code := checkComb(t, c); code != impl.ErrNone {
				t.Errorf("CombOf(%v): code %d", c, code)
			}
			checkExpansions(t, c)
		}
	}
	for _, b := range slices.Concat(longCombs(t, 401, false), longCombs(t, 401, true)) {
		checkLongWay(t, b)
		if b.Strands < 8 {
			// The free word is the second one.
			checkLongWay(t, braid(b.Strands+1, b.Letters...))
			checkLongWay(t, braid(8, b.Letters...))
		}
		if len(b.Letters) <= 100 {
			// The comb has no letters in the end.
			checkLongWay(t, withInverse(t, b))
		}
		// Linking numbers have no such limit, and what is not pure is an earlier error.
		got, code := impl.LinkingsOf(b)
		checkRows(t, "LinkingsOf", got, code, plainLinkings(b))
		got, code = impl.CombOf(braid(b.Strands, append(slices.Clone(b.Letters), 1)...))
		checkNoRows(t, "CombOf what is not pure", got, code, impl.ErrState)
	}
	// One of a rest in which opposite letters are next to each other, without which no free word is too long.
	for _, b := range []impl.Braid{pattern(4, 34, []int64{2, -2, 3, 3, 1, -2}), pattern(5, 56, []int64{1, 1, 2, 3, -1, -4})} {
		checkLongWay(t, purified(b))
	}
}

// The free words of two and three strands with the most letters are far within the limit.
func TestLongBraidsOfFewStrands(t *testing.T) {
	for _, b := range []impl.Braid{longBraid(2, 200), longBraid(3, 200), beginningOf(3, 198, 1, -2), beginningOf(3, 200, 2, 2, 1, 1), beginningOf(3, 200, 2, 2, -1, -1), beginningOf(3, 198, -2, 1)} {
		if code := checkComb(t, b); code != impl.ErrNone {
			t.Errorf("CombOf(%v): code %d", b, code)
		}
	}
}

func TestBraidOfComb(t *testing.T) {
	for _, c := range []struct {
		n     int64
		words [][]int64
		want  []int64
	}{
		{1, nil, nil}, {2, [][]int64{{}}, nil}, {8, noWords(8), nil}, {2, [][]int64{{1}}, []int64{1, 1}}, {2, [][]int64{{-1, -1}}, []int64{-1, -1, -1, -1}}, {3, [][]int64{{2}, {-1}}, []int64{2, 2, -1, -1}},
		{3, [][]int64{{1}, {}}, []int64{2, 1, 1, -2}}, {3, [][]int64{{-1}, nil}, []int64{2, -1, -1, -2}}, {3, [][]int64{{-2, 1, 2}, {1}}, []int64{-2, -2, 2, 1, 1, -2, 2, 2, 1, 1}},
		{3, [][]int64{{1, 1}, {}}, []int64{2, 1, 1, -2, 2, 1, 1, -2}}, {3, [][]int64{{}, {1}}, []int64{1, 1}}, {3, [][]int64{{2}, {1}}, []int64{2, 2, 1, 1}},
		{4, [][]int64{{1}, {1}, {1}}, []int64{3, 2, 1, 1, -2, -3, 2, 1, 1, -2, 1, 1}}, {4, [][]int64{{-2, 3}, {}, {-1}}, []int64{3, -2, -2, -3, 3, 3, -1, -1}},
		{8, atLast(8, 6, []int64{-1, 7}), []int64{7, 6, 5, 4, 3, 2, -1, -1, -2, -3, -4, -5, -6, -7, 7, 7}}, {8, atLast(8, 0, []int64{1}), []int64{1, 1}}, {8, atLast(8, 2, []int64{-3, 1}), []int64{-3, -3, 3, 2, 1, 1, -2, -3}},
	} {
		got, code := impl.BraidOfComb(c.n, c.words)
		checkBraid(t, "BraidOfComb", got, code, braid(c.n, c.want...))
	}
	for _, c := range slices.Concat(shortCombs(), randomCombs()) {
		got, code := impl.BraidOfComb(c.n, c.words)
		checkBraid(t, "BraidOfComb", got, code, braid(c.n, plainCombWord(c.n, c.words)...))
	}
	for name, c := range notCombs() {
		got, code := impl.BraidOfComb(c.n, c.words)
		checkNoBraid(t, "BraidOfComb of "+name, got, code, impl.ErrInvalid)
	}
}

func TestBraidsOfCombsWithinTheLimit(t *testing.T) {
	long := slices.Repeat([]int64{1}, 14)
	for _, c := range []comb{
		{2, [][]int64{ones(100)}}, {2, [][]int64{ones(-100)}}, {3, [][]int64{ones(50), nil}}, {3, [][]int64{ones(49), {1, 1}}}, {3, [][]int64{nil, ones(-100)}},
		{3, [][]int64{slices.Repeat([]int64{2}, 100), nil}}, {4, [][]int64{ones(33), nil, {1}}}, {8, atLast(8, 6, append(slices.Clone(long), 6))}, {8, [][]int64{append(slices.Clone(long), 7), nil, nil, nil, nil, nil, {1}}},
	} {
		got, code := impl.BraidOfComb(c.n, c.words)
		checkBraid(t, "BraidOfComb", got, code, braid(c.n, plainCombWord(c.n, c.words)...))
		if len(got.Letters) != 200 {
			t.Errorf("BraidOfComb(%d, %v) has %d letters", c.n, c.words, len(got.Letters))
		}
	}
	for _, c := range []comb{
		{2, [][]int64{ones(101)}}, {2, [][]int64{ones(-101)}}, {3, [][]int64{ones(51), nil}}, {3, [][]int64{ones(50), {1}}}, {3, [][]int64{{1}, ones(-99)}}, {3, [][]int64{nil, ones(101)}},
		{3, [][]int64{slices.Repeat([]int64{2}, 100), {-1}}}, {4, [][]int64{ones(33), {2}, {1}}}, {8, atLast(8, 6, append(slices.Clone(long), 1))}, {8, [][]int64{append(slices.Clone(long), 6), nil, nil, nil, nil, nil, {1}}},
		{2, [][]int64{ones(400)}}, {8, slices.Repeat([][]int64{ones(400)}, 7)}, {3, [][]int64{ones(50), ones(400)}}, {3, [][]int64{slices.Repeat([]int64{2, 1, -2, -1}, 100), nil}},
	} {
		got, code := impl.BraidOfComb(c.n, c.words)
		checkNoBraid(t, "BraidOfComb of too many letters", got, code, impl.ErrLimit)
		got, code = impl.BraidOfComb(c.n+1, c.words)
		checkNoBraid(t, "BraidOfComb of too many letters, and too few words", got, code, impl.ErrInvalid)
	}
}

// Promise 10, the first part.
func TestCombsOfTheBraidsOfCombsAreTheseCombs(t *testing.T) {
	most := 0
	for _, c := range slices.Concat(shortCombs(), randomCombs()) {
		b := must[impl.Braid](t)(impl.BraidOfComb(c.n, c.words))
		most = max(most, len(b.Letters))
		got, code := impl.CombOf(b)
		checkRows(t, "CombOf the braid of a comb", got, code, c.words)
		// Also with the braid as another word.
		got, code = impl.CombOf(must[impl.Braid](t)(impl.FreeForm(b)))
		checkRows(t, "CombOf the free form of the braid of a comb", got, code, c.words)
	}
	if most != 200 {
		t.Errorf("at most %d letters", most)
	}
}

// Different combs are different braids, so that no braid has two.
func TestDifferentCombsAreDifferentBraids(t *testing.T) {
	known := map[string][][]int64{}
	for _, c := range shortCombs() {
		b := must[impl.Braid](t)(impl.BraidOfComb(c.n, c.words))
		text := string(rune('0'+c.n)) + normalText(normalOf(t, b))
		if other, ok := known[text]; ok {
			t.Errorf("%v and %v are combs of the same braid", c.words, other)
		}
		known[text] = c.words
	}
}

// isEmptyComb reports whether a comb has no letters.
func isEmptyComb(words [][]int64) bool { return len(slices.Concat(words...)) == 0 }

// Promise 19, the first part. Braids that are too long for BraidOfComb are compared as products of
// generators.
func TestBraidsOfCombsAreTheSameBraids(t *testing.T) {
	compared, tooLong := 0, 0
	for _, b := range slices.Concat(shortPureWords(), pureBraids(30), pureBraids(50), pureBraids(60), pureBraids(200)) {
		words, code := impl.CombOf(b)
		if code != impl.ErrNone {
			continue
		}
		letters := plainCombWord(b.Strands, words)
		if plainBurau(letters, b.Strands) != plainBurau(b.Letters, b.Strands) {
			t.Errorf("the comb %v of %v is another braid", words, b)
		}
		back, code := impl.BraidOfComb(b.Strands, words)
		if len(letters) > 200 {
			tooLong++
			checkNoBraid(t, "BraidOfComb of a long comb", back, code, impl.ErrLimit)
			continue
		}
		compared++
		checkBraid(t, "BraidOfComb", back, code, braid(b.Strands, letters...))
		same, code := impl.SameBraid(b, back)
		checkAnswer(t, "SameBraid of the braid of the comb", same, code, true)
		if !sameDual(dualOf(t, b), dualOf(t, back)) {
			t.Errorf("%v and the braid %v of its comb have different dual forms", b, back)
		}
	}
	if compared < 500 || tooLong < 20 {
		t.Errorf("%d braids of combs, %d are too long", compared, tooLong)
	}
}

// Promise 19, the second part.
func TestCombsWithoutLettersAreThoseOfNothing(t *testing.T) {
	source := rand.New(rand.NewSource(71))
	list := slices.Concat(shortPureWords(), pureBraids(40))
	for _, b := range randomBraids(20) {
		list = append(list, withInverse(t, b), moved(source, withInverse(t, b), 100))
	}
	empty := 0
	for _, b := range list {
		words, code := impl.CombOf(b)
		if code != impl.ErrNone {
			continue
		}
		want := isEmptyComb(words)
		if want {
			empty++
		}
		if got := sameNormal(normalOf(t, b), normal(b.Strands, 0)); got != want {
			t.Errorf("%v has the comb %v, and is nothing: %v", b, words, got)
		}
		if got := sameDual(dualOf(t, b), dual(b.Strands, 0)); got != want {
			t.Errorf("%v has the comb %v, and the dual form of nothing: %v", b, words, got)
		}
	}
	if empty < 600 || len(list)-empty < 600 {
		t.Errorf("%d combs of %d without letters", empty, len(list))
	}
}

func TestOtherWordsHaveTheSameCombs(t *testing.T) {
	source := rand.New(rand.NewSource(72))
	compared := 0
	for _, b := range slices.Concat(pureBraids(30), pureBraids(100)) {
		other := moved(source, b, 300)
		words, code := impl.CombOf(b)
		got, otherCode := impl.CombOf(other)
		if code != impl.ErrNone || otherCode != impl.ErrNone {
			continue
		}
		compared++
		checkRows(t, "CombOf another word", got, code, words)
	}
	if compared < 300 {
		t.Errorf("only %d combs are compared", compared)
	}
}

// ledWord returns what the letters of a pure braid make of a free word of the strand behind it, and
// whether no word on the way is too long.
func ledWord(b impl.Braid, word []int64) ([]int64, bool) {
	var all []int64
	for _, x := range word {
		led, most := plainLed(b.Letters, x)
		if most > 400 {
			return nil, false
		}
		all = plainFree(all, led)
	}
	return all, true
}

// TestCombsOfProducts has the combs of products: a strand's free word is that of the first braid, and
// that of the second one as the strands below lead it.
func TestCombsOfProducts(t *testing.T) {
	source := rand.New(rand.NewSource(73))
	compared := 0
	for range 600 {
		n := 1 + source.Int63n(8)
		a, b := purified(randomBraid(source, n, source.Intn(30))), purified(randomBraid(source, n, source.Intn(30)))
		first, code := impl.CombOf(a)
		second, secondCode := impl.CombOf(b)
		got, productCode := impl.CombOf(must[impl.Braid](t)(impl.ProductOf(a, b)))
		if max(code, secondCode, productCode) != impl.ErrNone {
			continue
		}
		below := a
		for at := range first {
			below = plainForget(below, below.Strands-1)
			if led, ok := ledWord(below, second[at]); ok {
				compared++
				checkList(t, "a free word of a product", got[at], impl.ErrNone, plainFree(first[at], led))
			}
		}
	}
	if compared < 1500 {
		t.Errorf("only %d free words are compared", compared)
	}
}

// plainLinkings returns the linking numbers of a pure braid.
func plainLinkings(b impl.Braid) [][]int64 {
	twice := diagonal(int(b.Strands), 0)
	order := []int64{0, 1, 2, 3, 4, 5, 6, 7}
	for _, x := range b.Letters {
		i := plainIndex(x)
		left, right := order[i-1], order[i]
		order[i-1], order[i] = right, left
		twice[left][right] += x / i
		twice[right][left] += x / i
	}
	for _, row := range twice {
		for y := range row {
			row[y] /= 2
		}
	}
	return twice
}

func TestLinkingsOf(t *testing.T) {
	for _, c := range []struct {
		b    impl.Braid
		want [][]int64
	}{
		{braid(1), [][]int64{{0}}}, {braid(2), [][]int64{{0, 0}, {0, 0}}}, {braid(2, 1, 1), [][]int64{{0, 1}, {1, 0}}}, {braid(2, -1, -1, -1, -1), [][]int64{{0, -2}, {-2, 0}}},
		{braid(3, 2, 1, 1, -2), [][]int64{{0, 0, 1}, {0, 0, 0}, {1, 0, 0}}}, {braid(3, 2, 2, -1, -1), [][]int64{{0, -1, 0}, {-1, 0, 1}, {0, 1, 0}}}, {braid(2, 1, -1), [][]int64{{0, 0}, {0, 0}}},
		{braid(3, 1, -2, 1, -2, 1, -2), diagonal(3, 0)}, {braid(3, 1, 2, 1, 1, 2, 1), [][]int64{{0, 1, 1}, {1, 0, 1}, {1, 1, 0}}}, {longBraid(2, 200), [][]int64{{0, 100}, {100, 0}}}, {braid(8), diagonal(8, 0)},
	} {
		got, code := impl.LinkingsOf(c.b)
		checkRows(t, "LinkingsOf", got, code, c.want)
	}
	for _, b := range slices.Concat(shortPureWords(), pureBraids(40), pureBraids(200)) {
		got, code := impl.LinkingsOf(b)
		checkRows(t, "LinkingsOf", got, code, plainLinkings(b))
	}
}

// TestLinkingsAreSumsOfLetters compares linking numbers with combs.
func TestLinkingsAreSumsOfLetters(t *testing.T) {
	compared := 0
	for _, b := range slices.Concat(shortPureWords(), pureBraids(40), pureBraids(200)) {
		words, code := impl.CombOf(b)
		if code != impl.ErrNone {
			continue
		}
		compared++
		sums := diagonal(int(b.Strands), 0)
		for at, word := range words {
			j := b.Strands - 1 - int64(at)
			for _, x := range word {
				i := plainIndex(x) - 1
				sums[i][j] += x / (i + 1)
				sums[j][i] += x / (i + 1)
			}
		}
		got, code := impl.LinkingsOf(b)
		checkRows(t, "LinkingsOf", got, code, sums)
	}
	if compared < 500 {
		t.Errorf("only %d braids", compared)
	}
}

// plainExpansion multiplies the series of the letters of a free word of j, up to the second degree.
func plainExpansion(word []int64, j int64) [][]int64 {
	linear, square := make([]int64, j), diagonal(int(j), 0)
	for _, x := range word {
		letter, letterSquare := make([]int64, j), diagonal(int(j), 0)
		at := plainIndex(x) - 1
		letter[at] = x / (at + 1)
		if x < 0 {
			letterSquare[at][at] = 1
		}
		for p := range square {
			for q := range square {
				square[p][q] += linear[p]*letter[q] + letterSquare[p][q]
			}
		}
		for p := range linear {
			linear[p] += letter[p]
		}
	}
	return square
}

// checkExpansions checks the expansions of all free words of a pure braid that has a comb.
func checkExpansions(t *testing.T, b impl.Braid) {
	t.Helper()
	words, code := impl.CombOf(b)
	if code != impl.ErrNone {
		t.Fatalf("CombOf(%v): code %d", b, code)
	}
	for at, word := range words {
		j := b.Strands - 1 - int64(at)
		got, code := impl.ExpansionOf(b, j)
		checkRows(t, "ExpansionOf", got, code, plainExpansion(word, j))
	}
	for _, j := range []int64{-1, 0, b.Strands, b.Strands + 1, math.MinInt64, math.MaxInt64} {
		got, code := impl.ExpansionOf(b, j)
		checkNoRows(t, "ExpansionOf beyond the range", got, code, impl.ErrRange)
	}
}

func TestExamplesOfExpansions(t *testing.T) {
	for _, c := range []struct {
		b    impl.Braid
		j    int64
		want [][]int64
	}{
		{braid(2), 1, [][]int64{{0}}}, {braid(2, 1, 1), 1, [][]int64{{0}}}, {braid(2, -1, -1), 1, [][]int64{{1}}}, {longBraid(2, 4), 1, [][]int64{{1}}}, {longBraid(2, 6), 1, [][]int64{{3}}},
		{beginningOf(2, 4, -1), 1, [][]int64{{3}}}, {longBraid(2, 200), 1, [][]int64{{4950}}}, {beginningOf(2, 200, -1), 1, [][]int64{{5050}}},
		{braid(3, 1, 2, 2, -1), 2, [][]int64{{0, 1}, {-1, 0}}}, {braid(3, 1, 2, 2, -1), 1, [][]int64{{0}}}, {braid(3, 1, 2, 1, 1, 2, 1), 2, [][]int64{{0, 1}, {0, 0}}}, {braid(3, 1, 2, 1, 1, 2, 1), 1, [][]int64{{0}}},
		{braid(3, 1, -2, 1, -2, 1, -2), 2, [][]int64{{0, -1}, {1, 0}}}, {braid(3, -2, -2, -1, -1), 2, [][]int64{{0, 0}, {0, 1}}}, {braid(3, -2, -2, -1, -1), 1, [][]int64{{1}}},
		{braid(4, 1, 1, 3, 3), 3, diagonal(3, 0)}, {braid(4, 1, 1, 3, 3), 2, diagonal(2, 0)}, {braid(8), 7, diagonal(7, 0)}, {braid(8), 1, diagonal(1, 0)},
	} {
		got, code := impl.ExpansionOf(c.b, c.j)
		checkRows(t, "ExpansionOf", got, code, c.want)
	}
}

func TestExpansionsOfBraids(t *testing.T) {
	for _, b := range slices.Concat(shortPureWords(), pureBraids(40), pureBraids(200)) {
		if _, counts := plainComb(b); counts.most() <= 400 {
			checkExpansions(t, b)
		}
	}
	for _, b := range []impl.Braid{braid(1), braid(2, 1), braid(3, 1), braid(8, 7, 6)} {
		for _, j := range []int64{-1, 0, b.Strands, 8, math.MinInt64, math.MaxInt64} {
			got, code := impl.ExpansionOf(b, j)
			checkNoRows(t, "ExpansionOf beyond the range", got, code, impl.ErrRange)
		}
		for j := int64(1); j < b.Strands; j++ {
			got, code := impl.ExpansionOf(b, j)
			checkNoRows(t, "ExpansionOf what is not pure", got, code, impl.ErrState)
		}
	}
}

// plainForget leaves a strand out of a list of strands.
func plainForget(b impl.Braid, x int64) impl.Braid {
	order := []int64{0, 1, 2, 3, 4, 5, 6, 7}[:b.Strands]
	forgotten := impl.Braid{Strands: b.Strands - 1}
	for _, y := range b.Letters {
		i := plainIndex(y)
		if order[i-1] != x && order[i] != x {
			kept := slices.DeleteFunc(slices.Clone(order), func(strand int64) bool { return strand == x })
			forgotten.Letters = append(forgotten.Letters, y/i*int64(slices.Index(kept, order[i-1])+1))
		}
		order[i-1], order[i] = order[i], order[i-1]
	}
	return forgotten
}

// plainDouble puts the strand 8 to the right of a strand in a list of strands.
func plainDouble(b impl.Braid, x int64) impl.Braid {
	order := slices.Insert([]int64{0, 1, 2, 3, 4, 5, 6, 7}[:b.Strands], int(x)+1, 8)
	doubled := impl.Braid{Strands: b.Strands + 1}
	exchange := func(at int, sign int64) {
		order[at], order[at+1] = order[at+1], order[at]
		doubled.Letters = append(doubled.Letters, sign*int64(at+1))
	}
	places := []int64{0, 1, 2, 3, 4, 5, 6, 7}
	for _, y := range b.Letters {
		i := plainIndex(y)
		left, right := places[i-1], places[i]
		places[i-1], places[i] = right, left
		at := slices.Index(order, left)
		switch {
		case left == x:
			exchange(at+1, y/i)
			exchange(at, y/i)
		case right == x:
			exchange(at, y/i)
			exchange(at+1, y/i)
		default:
			exchange(at, y/i)
		}
	}
	return doubled
}

// checkStrands checks all strands of a braid, forgotten and doubled.
func checkStrands(t *testing.T, b impl.Braid) {
	t.Helper()
	for x := range b.Strands {
		got, code := impl.ForgetStrand(b, x)
		if b.Strands == 1 {
			checkNoBraid(t, "ForgetStrand of one strand", got, code, impl.ErrRange)
		} else {
			checkBraid(t, "ForgetStrand", got, code, plainForget(b, x))
		}
		doubled, code := impl.DoubleStrand(b, x)
		want := plainDouble(b, x)
		if b.Strands == 8 || len(want.Letters) > 200 {
			checkNoBraid(t, "DoubleStrand beyond a limit", doubled, code, impl.ErrLimit)
			continue
		}
		checkBraid(t, "DoubleStrand", doubled, code, want)
		// The strand beside the doubled one ends beside it.
		ends := must[[]int64](t)(impl.EndsOf(doubled))
		if ends[x+1] != ends[x]+1 {
			t.Errorf("DoubleStrand(%v, %d) has the ends %v", b, x, ends)
		}
		for _, y := range []int64{x, x + 1} {
			back, code := impl.ForgetStrand(doubled, y)
			checkBraid(t, "ForgetStrand of a doubled strand", back, code, b)
		}
	}
	for _, x := range []int64{-1, b.Strands, b.Strands + 1, math.MinInt64, math.MaxInt64} {
		for name, call := range strandFunctions() {
			got, code := call(b, x)
			checkNoBraid(t, name+" of a strand that is not there", got, code, impl.ErrRange)
		}
	}
}

func TestExamplesOfStrands(t *testing.T) {
	for _, c := range []struct {
		b                  impl.Braid
		x                  int64
		forgotten, doubled []int64
	}{
		{braid(2, 1), 0, nil, []int64{2, 1}}, {braid(2, 1), 1, nil, []int64{1, 2}}, {braid(2, -1), 0, nil, []int64{-2, -1}}, {braid(2, -1), 1, nil, []int64{-1, -2}}, {braid(2), 0, nil, nil}, {braid(2), 1, nil, nil},
		{braid(3, 1, 2, -1), 0, []int64{-1}, []int64{2, 1, 3, 2, -1}}, {braid(3, 1, 2, -1), 1, []int64{1}, []int64{1, 2, 3, -2, -1}}, {braid(3, 1, 2, -1), 2, []int64{1}, []int64{1, 2, 3, -1, -2}},
		{braid(4, 1, 3), 0, []int64{2}, []int64{2, 1, 4}}, {braid(4, 1, 3), 1, []int64{2}, []int64{1, 2, 4}}, {braid(4, 1, 3), 2, []int64{1}, []int64{1, 4, 3}}, {braid(4, 1, 3), 3, []int64{1}, []int64{1, 3, 4}},
		{braid(7, 6, -1), 6, []int64{-1}, []int64{6, 7, -1}}, {braid(7, 6, -1), 0, []int64{5}, []int64{7, -2, -1}}, {braid(7, 6, -1), 3, []int64{5, -1}, []int64{7, -1}},
	} {
		got, code := impl.ForgetStrand(c.b, c.x)
		checkBraid(t, "ForgetStrand", got, code, braid(c.b.Strands-1, c.forgotten...))
		got, code = impl.DoubleStrand(c.b, c.x)
		checkBraid(t, "DoubleStrand", got, code, braid(c.b.Strands+1, c.doubled...))
	}
	got, code := impl.DoubleStrand(braid(1), 0)
	checkBraid(t, "DoubleStrand of one strand", got, code, braid(2))
}

func TestStrandsOfBraids(t *testing.T) {
	for _, b := range slices.Concat(shortWords(), braidsOfLetters(8, 1), randomBraids(100), randomBraids(200)) {
		checkStrands(t, b)
	}
}

func TestDoubledStrandsWithinTheLimits(t *testing.T) {
	short, long := pattern(4, 100, []int64{1}), pattern(4, 100, []int64{1}, 3)
	for _, c := range []struct {
		b     impl.Braid
		x     int64
		count int
	}{
		{longBraid(2, 100), 0, 200}, {longBraid(2, 100), 1, 200}, {longBraid(3, 200), 2, 200}, {short, 0, 200}, {short, 1, 200}, {short, 3, 100}, {long, 2, 102}, {braid(7, 6), 6, 2}, {braid(7), 0, 0},
		{pattern(4, 99, []int64{2}, 1, 3), 0, 102}, {pattern(4, 99, []int64{1}, 3, 3), 1, 200}, {longBraid(7, 200), 6, 200},
	} {
		got, code := impl.DoubleStrand(c.b, c.x)
		if code != impl.ErrNone || len(got.Letters) != c.count || got.Strands != c.b.Strands+1 {
			t.Errorf("DoubleStrand(%v, %d) = %v, code %d", c.b, c.x, got, code)
		}
	}
	for _, c := range []struct {
		b impl.Braid
		x int64
	}{
		{longBraid(2, 101), 0}, {long, 0}, {long, 1}, {longBraid(3, 200), 0}, {longBraid(2, 200), 1}, {braid(8), 0}, {braid(8), 7}, {braid(8, 1), 5}, {longBraid(8, 200), 0}, {longBraid(8, 200), 7}, {pattern(7, 100, []int64{6}, 1), 6},
	} {
		got, code := impl.DoubleStrand(c.b, c.x)
		checkNoBraid(t, "DoubleStrand beyond a limit", got, code, impl.ErrLimit)
		for _, x := range []int64{-1, c.b.Strands} {
			got, code := impl.DoubleStrand(c.b, x)
			checkNoBraid(t, "DoubleStrand beyond a limit, of a strand that is not there", got, code, impl.ErrRange)
		}
	}
}

// Promise 10, the second part. In the second braid the strand is where it ends in the first one.
func TestForgottenStrandsOfProductsAreProducts(t *testing.T) {
	source := rand.New(rand.NewSource(74))
	for _, a := range severalBraids(100) {
		b := randomBraid(source, a.Strands, source.Intn(101))
		product := must[impl.Braid](t)(impl.ProductOf(a, b))
		for x, end := range must[[]int64](t)(impl.EndsOf(a)) {
			first := must[impl.Braid](t)(impl.ForgetStrand(a, int64(x)))
			second := must[impl.Braid](t)(impl.ForgetStrand(b, end))
			got, code := impl.ForgetStrand(product, int64(x))
			checkBraid(t, "ForgetStrand of a product", got, code, must[impl.Braid](t)(impl.ProductOf(first, second)))
		}
		pure := purified(randomBraid(source, a.Strands, source.Intn(70)))
		product = must[impl.Braid](t)(impl.ProductOf(pure, b))
		for x := range a.Strands {
			first, second := must[impl.Braid](t)(impl.ForgetStrand(pure, x)), must[impl.Braid](t)(impl.ForgetStrand(b, x))
			got, code := impl.ForgetStrand(product, x)
			checkBraid(t, "ForgetStrand of a product", got, code, must[impl.Braid](t)(impl.ProductOf(first, second)))
		}
	}
}

// TestForgottenStrandsOfOtherWords uses that words of the same braid stay so without a strand, and with
// one doubled.
func TestForgottenStrandsOfOtherWords(t *testing.T) {
	source := rand.New(rand.NewSource(75))
	for _, b := range severalBraids(60) {
		other := moved(source, b, 200)
		for x := range b.Strands {
			for name, call := range strandFunctions() {
				first, code := call(b, x)
				second, otherCode := call(other, x)
				if max(code, otherCode) == impl.ErrNone {
					same, code := impl.SameBraid(first, second)
					checkAnswer(t, "SameBraid behind "+name, same, code, true)
				}
			}
		}
	}
}

// withoutStrand returns what a comb is without a strand: its free word is gone, its letters are taken
// out of the others, and the strands behind it get the next lower numbers.
func withoutStrand(n int64, words [][]int64, x int64) [][]int64 {
	var list [][]int64
	for at, word := range words {
		if n-1-int64(at) == x {
			continue
		}
		var kept []int64
		for _, y := range word {
			switch i := plainIndex(y) - 1; {
			case i < x:
				kept = append(kept, y)
			case i > x:
				kept = append(kept, y/(i+1)*i)
			}
		}
		list = append(list, plainFree(kept))
	}
	// Of the free words ahead of the strand 0, the last one has no letters left.
	return list[:n-2]
}

func TestForgottenStrandsOfCombs(t *testing.T) {
	compared := 0
	for _, b := range slices.Concat(shortPureWords(), pureBraids(40), pureBraids(100)) {
		words, code := impl.CombOf(b)
		if code != impl.ErrNone || b.Strands == 1 {
			continue
		}
		for x := range b.Strands {
			got, code := impl.CombOf(must[impl.Braid](t)(impl.ForgetStrand(b, x)))
			if code == impl.ErrNone {
				compared++
				checkRows(t, "CombOf a braid without a strand", got, code, withoutStrand(b.Strands, words, x))
			}
		}
	}
	if compared < 1500 {
		t.Errorf("only %d combs are compared", compared)
	}
}

// commutator returns the letters of two words and of their inverses.
func commutator(a, b []int64) []int64 {
	return slices.Concat(a, b, plainNegatives(a), plainNegatives(b))
}

// brunnianWords returns the letters of Brunnian braids of four and of five strands: commutators of all
// generators of the last strand, of which nothing is left without one of them.
func brunnianWords() (four, five []int64) {
	three := commutator([]int64{3, 3}, plainGenerator(1, 3, 1))
	four = commutator(three, plainGenerator(0, 3, 1))
	inner := commutator(commutator([]int64{4, 4}, plainGenerator(2, 4, 1)), plainGenerator(1, 4, 1))
	return four, commutator(inner, plainGenerator(0, 4, 1))
}

func TestIsBrunnian(t *testing.T) {
	four, five := brunnianWords()
	for _, c := range []struct {
		b    impl.Braid
		want bool
	}{
		{braid(1), true}, {braid(2), true}, {braid(2, 1, 1), true}, {braid(2, -1, -1, -1, -1), true}, {longBraid(2, 200), true}, {braid(3), true}, {braid(8), true}, {braid(8, 3, -3), true},
		{braid(3, 1, -2, 1, -2, 1, -2), true}, {braid(3, -1, 2, -1, 2, -1, 2), true}, {braid(3, 1, 1), false}, {braid(3, 2, 2), false}, {braid(3, 2, 1, 1, -2), false}, {braid(3, 1, 1, 2, 2, -1, -1, -2, -2), true},
		{braid(3, 1, 1, 2, 2, -1, -1), false}, {braid(3, 1, 2, 1, 1, 2, 1), false}, {braid(3, 1, 2, 1, -2, -1, -2), true}, {braid(4, 1, -2, 1, -2, 1, -2), false}, {braid(4, 2, -3, 2, -3, 2, -3), false},
		{braid(4, 1, 1), false}, {braid(8, 7, 7), false}, {braid(8, 1, 1), false}, {braid(4, four...), true}, {braid(5, four...), false}, {joined(4, four, four), true}, {joined(4, four, []int64{1, 1}), false},
		{joined(4, []int64{1}, four, []int64{-1}), true}, {joined(4, []int64{2, -1, 2}, four, []int64{-2, 1, -2}), true}, {braid(5, five...), true}, {joined(5, five, []int64{1, -2, 1, -2, 1, -2}), false},
		{braid(4, commutator([]int64{3, 3}, plainGenerator(1, 3, 1))...), false}, {braid(4, commutator([]int64{1, 1}, []int64{3, 3})...), true}, {braid(4, commutator(plainGenerator(0, 2, 1), plainGenerator(1, 3, 1))...), true},
	} {
		got, code := impl.IsBrunnian(c.b)
		checkAnswer(t, "IsBrunnian", got, code, c.want)
	}
}

// checkBrunnian asks the combs of a pure braid without each strand, and the normal forms, and returns
// the code of IsBrunnian.
func checkBrunnian(t *testing.T, b impl.Braid) int64 {
	t.Helper()
	want, most := true, 0
	for x := range b.Strands {
		if b.Strands > 1 {
			rest := plainForget(b, x)
			_, counts := plainComb(rest)
			most = max(most, counts.most())
			want = want && sameNormal(normalOf(t, rest), normal(rest.Strands, 0))
		}
	}
	got, code := impl.IsBrunnian(b)
	if most > 400 {
		checkNoAnswer(t, "IsBrunnian with a long way", got, code, impl.ErrLimit)
	} else {
		checkAnswer(t, "IsBrunnian", got, code, want)
	}
	return code
}

func TestBrunnianBraids(t *testing.T) {
	codes := map[int64]int{}
	for _, b := range slices.Concat(shortPureWords(), pureBraids(60), pureBraids(200)) {
		codes[checkBrunnian(t, b)]++
	}
	source := rand.New(rand.NewSource(76))
	four, five := brunnianWords()
	for _, word := range []impl.Braid{braid(3, 1, -2, 1, -2, 1, -2), braid(4, four...), braid(5, five...)} {
		for range 10 {
			codes[checkBrunnian(t, moved(source, word, 100))]++
		}
	}
	if codes[impl.ErrNone] < 700 || codes[impl.ErrLimit] < 10 {
		t.Errorf("codes %v", codes)
	}
}

// The combs of the braids without one strand are asked, all of them, and not that of the braid.
func TestBrunnianBraidsWithinTheLimit(t *testing.T) {
	for _, b := range slices.Concat(longCombs(t, 401, false), longCombs(t, 401, true)) {
		if b.Strands == 4 {
			if code := checkBrunnian(t, b); code != impl.ErrNone {
				t.Errorf("IsBrunnian(%v): code %d", b, code)
			}
		}
		if b.Strands == 8 {
			continue
		}
		// A strand to the right is forgotten last, one to the left first.
		right := braid(b.Strands+1, b.Letters...)
		left := must[impl.Braid](t)(impl.ShiftOf(b, 1))
		for _, c := range []impl.Braid{right, left} {
			if code := checkBrunnian(t, c); code != impl.ErrLimit {
				t.Errorf("IsBrunnian(%v): code %d", c, code)
			}
		}
	}
	for _, b := range slices.Concat(longCombs(t, 400, false), longCombs(t, 399, true)) {
		if b.Strands < 8 {
			checkBrunnian(t, braid(b.Strands+1, b.Letters...))
		}
	}
}

func TestCombsShareNoMemory(t *testing.T) {
	for _, word := range []impl.Braid{braid(1), braid(2), braid(2, 1, 1), braid(3, 1, 1, 2, 2), braid(3, 1, -2, 1, -2, 1, -2), braid(4, 1, 2, 3, 3, 2, 1), purified(pattern(4, 33, []int64{3, 1, 3, -2, -1, 2})), braid(8, 7, 7, 1, 1)} {
		b, untouched := guarded(word)
		for name, call := range combFunctions() {
			first, code := call(b)
			want := copiedRows(first)
			checkApart(t, name, first)
			again, codeAgain := call(b)
			if code != codeAgain || !sameRows(again, want) {
				t.Errorf("%s = %v after its first result %v was written over", name, again, want)
			}
		}
		for x := range word.Strands {
			for name, call := range strandFunctions() {
				got, code := call(b, x)
				want := slices.Clone(got.Letters)
				scribble(got.Letters)
				again, codeAgain := call(b, x)
				if code != codeAgain || !slices.Equal(again.Letters, want) {
					t.Errorf("%s = %v after its first result %v was written over", name, again, want)
				}
			}
		}
		impl.IsBrunnian(b)
		if !untouched() {
			t.Fatalf("%v has been changed, or shares memory with a result", word)
		}
		words := combOf(t, word)
		given, untouchedWords := guardedRows(words)
		impl.IsComb(word.Strands, given)
		back, code := impl.BraidOfComb(word.Strands, given)
		want := slices.Clone(back.Letters)
		scribble(back.Letters)
		again, codeAgain := impl.BraidOfComb(word.Strands, given)
		if code != codeAgain || !slices.Equal(again.Letters, want) {
			t.Errorf("BraidOfComb = %v after its first result %v was written over", again, want)
		}
		if !untouchedWords() {
			t.Fatalf("%v has been changed, or shares memory with a result", words)
		}
	}
	for range 2 {
		got, code := impl.GeneratorOf(4, 0, 3)
		checkBraid(t, "GeneratorOf", got, code, braid(4, 3, 2, 1, 1, -2, -3))
		scribble(got.Letters)
	}
}
