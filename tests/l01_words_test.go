package tests

import (
	"math"
	"regexp"
	"slices"
	"strconv"
	"strings"
	"testing"

	"loop.example/g01205/impl"
)

// braidFunctions has the functions that lead from one braid to one braid.
func braidFunctions() map[string]func(impl.Braid) (impl.Braid, int64) {
	return map[string]func(impl.Braid) (impl.Braid, int64){
		"InverseOf":  impl.InverseOf,
		"MirrorOf":   impl.MirrorOf,
		"ReverseOf":  impl.ReverseOf,
		"TurnBraid":  impl.TurnBraid,
		"FreeForm":   impl.FreeForm,
		"ShiftOf 0":  func(b impl.Braid) (impl.Braid, int64) { return impl.ShiftOf(b, 0) },
		"PowerOf 0":  func(b impl.Braid) (impl.Braid, int64) { return impl.PowerOf(b, 0) },
		"PowerOf 1":  func(b impl.Braid) (impl.Braid, int64) { return impl.PowerOf(b, 1) },
		"PowerOf -1": func(b impl.Braid) (impl.Braid, int64) { return impl.PowerOf(b, -1) },
		"ProductOf with nothing behind": func(b impl.Braid) (impl.Braid, int64) {
			return impl.ProductOf(b, impl.Braid{Strands: b.Strands})
		},
		"ProductOf with nothing ahead": func(b impl.Braid) (impl.Braid, int64) {
			return impl.ProductOf(impl.Braid{Strands: b.Strands}, b)
		},
	}
}

// notBraids has what breaks each condition of a braid, most of it by one.
func notBraids() map[string]impl.Braid {
	return map[string]impl.Braid{
		"the zero value":            {},
		"no strands":                braid(0),
		"less than no strands":      braid(-1),
		"the fewest strands":        braid(math.MinInt64),
		"a strand too many":         braid(9),
		"the most strands":          braid(math.MaxInt64, 1),
		"the letter 0":              braid(3, 1, 0, 2),
		"a letter too great":        braid(3, 1, 3),
		"a letter too small":        braid(3, -3, 1),
		"a letter of one strand":    braid(1, 1),
		"a bad letter at the end":   braid(8, 7, -7, 8),
		"the greatest letter":       braid(8, math.MaxInt64),
		"the least letter":          braid(8, math.MinInt64),
		"a letter too many":         longBraid(2, 201),
		"far too many good letters": longBraid(8, 5000),
	}
}

func checkBraid(t *testing.T, name string, got impl.Braid, code int64, want impl.Braid) {
	t.Helper()
	if code != impl.ErrNone || !sameWord(got, want) {
		t.Errorf("%s = %v, code %d, want %v", name, got, code, want)
	}
}

func checkNoBraid(t *testing.T, name string, got impl.Braid, code, want int64) {
	t.Helper()
	if code != want || !isZeroBraid(got) {
		t.Errorf("%s = %v, code %d, want the zero value and code %d", name, got, code, want)
	}
}

func TestConstantsOfWords(t *testing.T) {
	got := []int64{impl.ErrNone, impl.ErrInvalid, impl.ErrRange, impl.ErrLimit, impl.ErrNotFound,
		impl.ErrState, impl.ErrSyntax, impl.MaxStrands, impl.MaxLetters}
	if want := []int64{0, 1, 2, 3, 4, 5, 6, 8, 200}; !slices.Equal(got, want) {
		t.Errorf("constants %v, want %v", got, want)
	}
}

func TestIsBraid(t *testing.T) {
	good := []impl.Braid{braid(1), braid(8), braid(2, 1, -1), braid(3, 1, -2), braid(8, 7, -7, 1),
		{Strands: 3, Letters: []int64{}}, longBraid(2, 200), longBraid(8, 200)}
	for _, b := range good {
		if !impl.IsBraid(b) {
			t.Errorf("IsBraid(%v) = false", b)
		}
	}
	for name, b := range notBraids() {
		if impl.IsBraid(b) {
			t.Errorf("IsBraid of %s = true", name)
		}
	}
}

func TestWhatIsNoBraidIsInvalid(t *testing.T) {
	for name, b := range notBraids() {
		for function, call := range braidFunctions() {
			got, code := call(b)
			checkNoBraid(t, function+" of "+name, got, code, impl.ErrInvalid)
		}
		if ends, code := impl.EndsOf(b); code != impl.ErrInvalid || len(ends) != 0 {
			t.Errorf("EndsOf of %s = %v, code %d", name, ends, code)
		}
		if rows, code := impl.CrossingsOf(b); code != impl.ErrInvalid || len(rows) != 0 {
			t.Errorf("CrossingsOf of %s = %v, code %d", name, rows, code)
		}
		if sum, code := impl.SumOf(b); code != impl.ErrInvalid || sum != 0 {
			t.Errorf("SumOf of %s = %d, code %d", name, sum, code)
		}
		if pure, code := impl.IsPure(b); code != impl.ErrInvalid || pure {
			t.Errorf("IsPure of %s = %v, code %d", name, pure, code)
		}
		if text, code := impl.BraidText(b); code != impl.ErrInvalid || text != "" {
			t.Errorf("BraidText of %s = %q, code %d", name, text, code)
		}
	}
}

func TestChangesOfOneBraid(t *testing.T) {
	b := braid(5, 1, -2, 4, 4, -3)
	want := map[string]impl.Braid{
		"InverseOf":  braid(5, 3, -4, -4, 2, -1),
		"MirrorOf":   braid(5, -1, 2, -4, -4, 3),
		"ReverseOf":  braid(5, -3, 4, 4, -2, 1),
		"TurnBraid":  braid(5, 4, -3, 1, 1, -2),
		"FreeForm":   b,
		"ShiftOf 0":  b,
		"PowerOf 0":  braid(5),
		"PowerOf 1":  b,
		"PowerOf -1": braid(5, 3, -4, -4, 2, -1),

		"ProductOf with nothing behind": b,
		"ProductOf with nothing ahead":  b,
	}
	for name, call := range braidFunctions() {
		got, code := call(b)
		checkBraid(t, name, got, code, want[name])
		for strands := int64(1); strands <= 8; strands++ {
			got, code := call(braid(strands))
			checkBraid(t, name+" of no letters", got, code, braid(strands))
		}
		if name != "FreeForm" && name != "PowerOf 0" {
			got, code := call(longBraid(2, 200))
			if code != impl.ErrNone || len(got.Letters) != 200 {
				t.Errorf("%s of 200 letters has %d, code %d", name, len(got.Letters), code)
			}
		}
	}
}

func TestShiftOf(t *testing.T) {
	b := braid(3, 1, -2)
	got, code := impl.ShiftOf(b, 2)
	checkBraid(t, "ShiftOf by 2", got, code, braid(5, 3, -4))
	got, code = impl.ShiftOf(b, 5)
	checkBraid(t, "ShiftOf to 8 strands", got, code, braid(8, 6, -7))
	got, code = impl.ShiftOf(braid(8, 7), 0)
	checkBraid(t, "ShiftOf of 8 strands", got, code, braid(8, 7))
	for _, k := range []int64{6, -1, math.MaxInt64, math.MaxInt64 - 2, math.MinInt64} {
		got, code = impl.ShiftOf(b, k)
		checkNoBraid(t, "ShiftOf out of range", got, code, impl.ErrRange)
	}
	got, code = impl.ShiftOf(braid(8), 1)
	checkNoBraid(t, "ShiftOf to 9 strands", got, code, impl.ErrRange)
	got, code = impl.ShiftOf(braid(3, 3), -1)
	checkNoBraid(t, "ShiftOf of no braid out of range", got, code, impl.ErrInvalid)
	got, code = impl.ShiftOf(braid(9), 6)
	checkNoBraid(t, "ShiftOf of too many strands", got, code, impl.ErrInvalid)
}

func TestProductOf(t *testing.T) {
	got, code := impl.ProductOf(braid(3, 1, -2), braid(3, 2, 1))
	checkBraid(t, "ProductOf", got, code, braid(3, 1, -2, 2, 1))
	got, code = impl.ProductOf(longBraid(2, 150), longBraid(2, 50))
	checkBraid(t, "ProductOf with 200 letters", got, code, longBraid(2, 200))
	got, code = impl.ProductOf(longBraid(2, 150), longBraid(2, 51))
	checkNoBraid(t, "ProductOf with 201 letters", got, code, impl.ErrLimit)
	got, code = impl.ProductOf(longBraid(2, 200), longBraid(3, 200))
	checkNoBraid(t, "ProductOf with other strands", got, code, impl.ErrRange)
	got, code = impl.ProductOf(braid(2), braid(3))
	checkNoBraid(t, "ProductOf with other strands, no letters", got, code, impl.ErrRange)
	got, code = impl.ProductOf(longBraid(2, 200), braid(3, 3))
	checkNoBraid(t, "ProductOf with no braid behind", got, code, impl.ErrInvalid)
	got, code = impl.ProductOf(braid(2, 2), longBraid(3, 200))
	checkNoBraid(t, "ProductOf with no braid ahead", got, code, impl.ErrInvalid)
	got, code = impl.ProductOf(longBraid(2, 201), longBraid(2, 1))
	checkNoBraid(t, "ProductOf with too long a word", got, code, impl.ErrInvalid)
}

func TestPowerOf(t *testing.T) {
	b := braid(3, 1, -2)
	got, code := impl.PowerOf(b, 3)
	checkBraid(t, "PowerOf 3", got, code, braid(3, 1, -2, 1, -2, 1, -2))
	got, code = impl.PowerOf(b, -2)
	checkBraid(t, "PowerOf -2", got, code, braid(3, 2, -1, 2, -1))
	for _, k := range []int64{100, -100} {
		got, code = impl.PowerOf(b, k)
		if code != impl.ErrNone || len(got.Letters) != 200 {
			t.Errorf("PowerOf %d has %d letters, code %d", k, len(got.Letters), code)
		}
		got, code = impl.PowerOf(braid(8), k)
		checkBraid(t, "PowerOf no letters", got, code, braid(8))
		got, code = impl.PowerOf(braid(3, 1, 2, 1), k)
		checkNoBraid(t, "PowerOf with 300 letters", got, code, impl.ErrLimit)
	}
	for _, k := range []int64{67, -67} {
		got, code = impl.PowerOf(braid(3, 1, 2, 1), k)
		checkNoBraid(t, "PowerOf with 201 letters", got, code, impl.ErrLimit)
	}
	got, code = impl.PowerOf(longBraid(2, 200), 2)
	checkNoBraid(t, "PowerOf with 400 letters", got, code, impl.ErrLimit)
	for _, k := range []int64{101, -101, math.MaxInt64, math.MinInt64} {
		got, code = impl.PowerOf(braid(3), k)
		checkNoBraid(t, "PowerOf out of range", got, code, impl.ErrRange)
		got, code = impl.PowerOf(longBraid(2, 200), k)
		checkNoBraid(t, "PowerOf out of range and too long", got, code, impl.ErrRange)
		got, code = impl.PowerOf(braid(3, 3), k)
		checkNoBraid(t, "PowerOf of no braid out of range", got, code, impl.ErrInvalid)
	}
}

func TestFreeForm(t *testing.T) {
	cases := []struct{ word, want impl.Braid }{
		{braid(3, 1, 2, -2, -1, 2), braid(3, 2)},
		{braid(3, 1, -1), braid(3)},
		{braid(3, -1, 1), braid(3)},
		{braid(3, 1, -1, 1), braid(3, 1)},
		{braid(3, -1, 2, -2, 1, 1), braid(3, 1)},
		{braid(3, 1, 1, -2, -2), braid(3, 1, 1, -2, -2)},
		{braid(3, 1, 2, -1, -2), braid(3, 1, 2, -1, -2)},
		{braid(8, 7, 6, -5, 5, -6, -7, 3), braid(8, 3)},
	}
	for _, c := range cases {
		got, code := impl.FreeForm(c.word)
		checkBraid(t, "FreeForm", got, code, c.want)
	}
}

// slowFreeForm takes the first pair of inverse letters away as long as there is one.
func slowFreeForm(b impl.Braid) impl.Braid {
	letters := slices.Clone(b.Letters)
	for at := 0; at+1 < len(letters); at++ {
		if letters[at] == -letters[at+1] {
			letters = slices.Delete(letters, at, at+2)
			at = -1
		}
	}
	return impl.Braid{Strands: b.Strands, Letters: letters}
}

func TestFreeFormTakesAllPairsAway(t *testing.T) {
	for _, b := range randomBraids(200) {
		got, code := impl.FreeForm(b)
		checkBraid(t, "FreeForm", got, code, slowFreeForm(b))
	}
}

func TestEndsOf(t *testing.T) {
	cases := []struct {
		b    impl.Braid
		want []int64
	}{
		{braid(1), []int64{0}},
		{braid(8), []int64{0, 1, 2, 3, 4, 5, 6, 7}},
		{braid(3, 1, -2), []int64{2, 0, 1}},
		{braid(3, -2, -1), []int64{1, 2, 0}},
		{braid(4, 1, 1, -3), []int64{0, 1, 3, 2}},
		{braid(8, 1, 2, 3, 4, 5, 6, 7), []int64{7, 0, 1, 2, 3, 4, 5, 6}},
	}
	for _, c := range cases {
		got, code := impl.EndsOf(c.b)
		if code != impl.ErrNone || !slices.Equal(got, c.want) {
			t.Errorf("EndsOf(%v) = %v, code %d, want %v", c.b, got, code, c.want)
		}
	}
}

func TestCrossingsOf(t *testing.T) {
	cases := []struct {
		b    impl.Braid
		want [][]int64
	}{
		{braid(1), [][]int64{{0}}},
		{braid(2), [][]int64{{0, 0}, {0, 0}}},
		{braid(2, -1, -1, -1), [][]int64{{0, -3}, {-3, 0}}},
		{braid(3, 1, -2), [][]int64{{0, 1, -1}, {1, 0, 0}, {-1, 0, 0}}},
		{braid(3, 1, -1, 2, 2), [][]int64{{0, 0, 0}, {0, 0, 2}, {0, 2, 0}}},
		{braid(3, 1, 2, -1), [][]int64{{0, 1, 1}, {1, 0, -1}, {1, -1, 0}}},
	}
	for _, c := range cases {
		got, code := impl.CrossingsOf(c.b)
		if code != impl.ErrNone || !slices.EqualFunc(got, c.want, slices.Equal) {
			t.Errorf("CrossingsOf(%v) = %v, code %d, want %v", c.b, got, code, c.want)
		}
	}
}

func TestSumOf(t *testing.T) {
	cases := []struct {
		b    impl.Braid
		want int64
	}{
		{braid(1), 0}, {braid(3, 1, -2), 0}, {braid(8, 7, 7, -1), 1}, {braid(8, -7, -6, 5), -1},
		{longBraid(2, 200), 200},
	}
	for _, c := range cases {
		if got, code := impl.SumOf(c.b); code != impl.ErrNone || got != c.want {
			t.Errorf("SumOf(%v) = %d, code %d, want %d", c.b, got, code, c.want)
		}
	}
}

func TestIsPure(t *testing.T) {
	pure := []impl.Braid{braid(1), braid(8), braid(2, 1, 1), braid(2, -1, -1), braid(2, 1, -1),
		braid(3, 1, 2, -2, 1), braid(3, 1, 2, 1, 2, 1, 2), braid(8, 7, 6, 6, -7)}
	for _, b := range pure {
		if got, code := impl.IsPure(b); code != impl.ErrNone || !got {
			t.Errorf("IsPure(%v) = %v, code %d", b, got, code)
		}
	}
	others := []impl.Braid{braid(2, 1), braid(2, -1), braid(3, 1, 2), braid(3, 1, -2, 1),
		braid(4, 1, 3), braid(8, 7), braid(8, -7, 1, 1)}
	for _, b := range others {
		if got, code := impl.IsPure(b); code != impl.ErrNone || got {
			t.Errorf("IsPure(%v) = %v, code %d", b, got, code)
		}
	}
}

func TestIsPureTellsWhetherStrandsEndWhereTheyBegin(t *testing.T) {
	check := func(b impl.Braid) {
		t.Helper()
		home := true
		for strand, place := range must[[]int64](t)(impl.EndsOf(b)) {
			home = home && place == int64(strand)
		}
		if got, code := impl.IsPure(b); code != impl.ErrNone || got != home {
			t.Errorf("IsPure(%v) = %v, code %d, want %v", b, got, code, home)
		}
	}
	for _, b := range randomBraids(100) {
		check(b)
		check(must[impl.Braid](t)(impl.ProductOf(b, must[impl.Braid](t)(impl.ReverseOf(b)))))
	}
}

func TestTurnsOfStrands(t *testing.T) {
	halves := [][]int64{{}, {1}, {1, 2, 1}, {1, 2, 3, 1, 2, 1}}
	for at, letters := range halves {
		n := int64(at + 1)
		got, code := impl.HalfTurnBraid(n)
		checkBraid(t, "HalfTurnBraid", got, code, braid(n, letters...))
		got, code = impl.FullTurnBraid(n)
		checkBraid(t, "FullTurnBraid", got, code, braid(n, slices.Concat(letters, letters)...))
	}
	for n := int64(1); n <= 8; n++ {
		half := must[impl.Braid](t)(impl.HalfTurnBraid(n))
		full := must[impl.Braid](t)(impl.FullTurnBraid(n))
		if !sameWord(full, must[impl.Braid](t)(impl.ProductOf(half, half))) {
			t.Errorf("FullTurnBraid(%d) = %v", n, full)
		}
		for x, place := range must[[]int64](t)(impl.EndsOf(half)) {
			if place != n-1-int64(x) {
				t.Errorf("HalfTurnBraid(%d) leads %d to %d", n, x, place)
			}
		}
		for x, row := range must[[][]int64](t)(impl.CrossingsOf(half)) {
			for y, sum := range row {
				if (x == y) != (sum == 0) || sum < 0 || sum > 1 {
					t.Errorf("HalfTurnBraid(%d): %d and %d have the sum %d", n, x, y, sum)
				}
			}
		}
	}
	for _, n := range []int64{0, 9, -1, math.MinInt64, math.MaxInt64} {
		got, code := impl.HalfTurnBraid(n)
		checkNoBraid(t, "HalfTurnBraid", got, code, impl.ErrRange)
		got, code = impl.FullTurnBraid(n)
		checkNoBraid(t, "FullTurnBraid", got, code, impl.ErrRange)
	}
}

func TestTextsOfBraids(t *testing.T) {
	cases := []struct {
		b    impl.Braid
		text string
	}{
		{braid(1), "1:"}, {braid(8), "8:"}, {braid(3, 1, -2), "3: 1 -2"},
		{braid(8, -7, 7, 1), "8: -7 7 1"}, {braid(2, 1, -1), "2: 1 -1"},
		{longBraid(2, 200), "2:" + strings.Repeat(" 1", 200)},
	}
	for _, c := range cases {
		if text, code := impl.BraidText(c.b); code != impl.ErrNone || text != c.text {
			t.Errorf("BraidText(%v) = %q, code %d", c.b, text, code)
		}
		got, code := impl.ParseBraid(c.text)
		checkBraid(t, "ParseBraid", got, code, c.b)
	}
}

func TestParseBraidRefuses(t *testing.T) {
	texts := []string{
		"", ":", " ", "3", "3 1", "0:", "9:", "-1:", "-3: 1", "+3:", "03: 1", "10:", "3 :", " 3:",
		"3:1", "3:1 2", "3: ", "3: 1 ", "3:  1", "3: 1  2", "3: 1 2\n", "\n3: 1", "3:\t1", "3:\n1",
		"3: 0", "3: -0", "3: 3", "3: -3", "3: +1", "3: 01", "3: -01", "3: --1", "3: - 1", "3: -",
		"3: 1-", "3: x", "3: 1,2", "3: 1_", "3: 0x1", "3: 1.0", "3: 1: 2", "3:: 1", "3: 1:", "1: 1",
		"8: 8", "8: 7 -8", "3: 1\x00", "3: \xff", "3: ١", "٣: 1",
		"3: 9223372036854775807", "3: -9223372036854775808", "3: 18446744073709551617",
		"18446744073709551619: 1",
		"2:" + strings.Repeat(" 1", 201), "2:" + strings.Repeat(" 1", 199) + " 1 1",
		"2:" + strings.Repeat(" 1", 200) + " ", "2:" + strings.Repeat(" 1", 100000),
		"2:" + strings.Repeat(" ", 100000), strings.Repeat("3: 1", 50), strings.Repeat("2", 100000),
	}
	for _, text := range texts {
		got, code := impl.ParseBraid(text)
		checkNoBraid(t, "ParseBraid("+strconv.Quote(text)+")", got, code, impl.ErrSyntax)
	}
}

// TestParseBraidOfShortTexts compares ParseBraid with a pattern on all short texts of some bytes.
func TestParseBraidOfShortTexts(t *testing.T) {
	pattern := regexp.MustCompile(`^([1-8]):(?: -?[1-7])*$`)
	letter := regexp.MustCompile(`[1-7]`)
	isText := func(text string) bool {
		if !pattern.MatchString(text) {
			return false
		}
		for _, index := range letter.FindAllString(text[1:], -1) {
			if index >= text[:1] {
				return false
			}
		}
		return true
	}
	texts := []string{""}
	for range 6 {
		var longer []string
		for _, text := range texts {
			for _, end := range "0128-: " {
				longer = append(longer, text+string(end))
			}
		}
		for _, text := range longer {
			b, code := impl.ParseBraid(text)
			if !isText(text) {
				checkNoBraid(t, "ParseBraid("+strconv.Quote(text)+")", b, code, impl.ErrSyntax)
			} else if again, _ := impl.BraidText(b); code != impl.ErrNone || again != text {
				t.Errorf("ParseBraid(%q) = %v, code %d", text, b, code)
			}
		}
		texts = longer
	}
}

// Promise 1.
func TestProductsWithInversesHaveNoLetters(t *testing.T) {
	for _, b := range randomBraids(100) {
		inverse := must[impl.Braid](t)(impl.InverseOf(b))
		for _, pair := range [][2]impl.Braid{{b, inverse}, {inverse, b}} {
			product := must[impl.Braid](t)(impl.ProductOf(pair[0], pair[1]))
			if len(product.Letters) != 2*len(b.Letters) {
				t.Errorf("ProductOf(%v) has %d letters", pair, len(product.Letters))
			}
			got, code := impl.FreeForm(product)
			checkBraid(t, "FreeForm of a product with an inverse", got, code, braid(b.Strands))
		}
	}
}

// Promise 1.
func TestBraidsComeBackFromTheirTexts(t *testing.T) {
	for _, b := range randomBraids(200) {
		got, code := impl.ParseBraid(must[string](t)(impl.BraidText(b)))
		checkBraid(t, "ParseBraid of BraidText", got, code, b)
	}
}

func TestEndsAndCrossingsOfProducts(t *testing.T) {
	list := randomBraids(100)
	for at, a := range list {
		b := list[(at+1)%len(list)]
		if b.Strands != a.Strands {
			b = must[impl.Braid](t)(impl.TurnBraid(a))
		}
		product := must[impl.Braid](t)(impl.ProductOf(a, b))
		endsA := must[[]int64](t)(impl.EndsOf(a))
		endsB := must[[]int64](t)(impl.EndsOf(b))
		crossingsA := must[[][]int64](t)(impl.CrossingsOf(a))
		crossingsB := must[[][]int64](t)(impl.CrossingsOf(b))
		for x, end := range must[[]int64](t)(impl.EndsOf(product)) {
			if end != endsB[endsA[x]] {
				t.Fatalf("ends of the product of %v and %v are not composed", a, b)
			}
		}
		for x, row := range must[[][]int64](t)(impl.CrossingsOf(product)) {
			for y, sum := range row {
				if sum != crossingsA[x][y]+crossingsB[endsA[x]][endsA[y]] {
					t.Fatalf("crossings of the product of %v and %v are not added up", a, b)
				}
			}
		}
		sumA, sumB := must[int64](t)(impl.SumOf(a)), must[int64](t)(impl.SumOf(b))
		if must[int64](t)(impl.SumOf(product)) != sumA+sumB {
			t.Fatalf("sums of the product of %v and %v are not added up", a, b)
		}
	}
}

// guarded returns a braid whose letters have spare capacity, and a function that reports whether
// neither of them has been written to.
func guarded(b impl.Braid) (impl.Braid, func() bool) {
	all := append(slices.Clone(b.Letters), 91, 92, 93, 94)
	before := slices.Clone(all)
	b.Letters = all[:len(b.Letters)]
	return b, func() bool { return slices.Equal(all, before) }
}

// scribble writes over a list and its spare capacity.
func scribble(list []int64) {
	list = list[:cap(list)]
	for at := range list {
		list[at] = -77
	}
}

func TestResultsShareNoMemoryWithArguments(t *testing.T) {
	for name, call := range braidFunctions() {
		for _, word := range []impl.Braid{braid(3), braid(3, 1, -2), braid(3, 1, 2, -2, -1, 2)} {
			b, untouched := guarded(word)
			got, _ := call(b)
			if !untouched() {
				t.Errorf("%s changes its argument", name)
			}
			scribble(got.Letters)
			if !untouched() {
				t.Errorf("%s shares memory with its argument", name)
			}
		}
	}
	a, untouchedA := guarded(braid(3, 1, 2))
	b, untouchedB := guarded(braid(3, -2))
	for range 2 {
		got := must[impl.Braid](t)(impl.ProductOf(a, b))
		scribble(got.Letters)
		scribble(must[impl.Braid](t)(impl.PowerOf(a, -2)).Letters)
		scribble(must[impl.Braid](t)(impl.ShiftOf(b, 1)).Letters)
		scribble(must[[]int64](t)(impl.EndsOf(a)))
		impl.CrossingsOf(a)
		impl.SumOf(a)
		impl.IsPure(a)
		impl.BraidText(a)
		impl.IsBraid(a)
		if !untouchedA() || !untouchedB() {
			t.Fatalf("an argument has been changed: %v, %v", a, b)
		}
	}
}

func TestRowsOfCrossingsShareNoMemory(t *testing.T) {
	rows := must[[][]int64](t)(impl.CrossingsOf(braid(3, 1, -2)))
	want := slices.Clone(rows[1])
	scribble(rows[0])
	scribble(rows[2])
	if !slices.Equal(rows[1], want) {
		t.Errorf("rows share memory: %v", rows)
	}
}

func TestNothingIsKeptBetweenCalls(t *testing.T) {
	calls := map[string]func() (impl.Braid, int64){
		"HalfTurnBraid": func() (impl.Braid, int64) { return impl.HalfTurnBraid(4) },
		"FullTurnBraid": func() (impl.Braid, int64) { return impl.FullTurnBraid(4) },
		"ParseBraid":    func() (impl.Braid, int64) { return impl.ParseBraid("3: 1 -2") },
		"TurnBraid":     func() (impl.Braid, int64) { return impl.TurnBraid(braid(3, 1, -2)) },
		"PowerOf":       func() (impl.Braid, int64) { return impl.PowerOf(braid(3, 1, -2), -2) },
	}
	for name, call := range calls {
		first := must[impl.Braid](t)(call())
		want := slices.Clone(first.Letters)
		scribble(first.Letters)
		if got := must[impl.Braid](t)(call()); !slices.Equal(got.Letters, want) {
			t.Errorf("%s returns %v after its first result was written over", name, got)
		}
	}
}
