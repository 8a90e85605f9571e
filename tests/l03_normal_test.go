package tests

import (
	"math"
	"math/rand"
	"slices"
	"strconv"
	"testing"

	"loop.example/g01205/impl"
)

func normal(strands, power int64, factors ...impl.Simple) impl.Normal {
	return impl.Normal{Strands: strands, Power: power, Factors: factors}
}

// longNormal returns the normal form with count factors that are the exchange of 0 and 1.
func longNormal(strands, power int64, count int) impl.Normal {
	return normal(strands, power, slices.Repeat([]impl.Simple{plainLetter(1, strands)}, count)...)
}

func sameNormal(a, b impl.Normal) bool {
	return a.Strands == b.Strands && a.Power == b.Power && slices.Equal(a.Factors, b.Factors)
}

func checkNormal(t *testing.T, name string, got impl.Normal, code int64, want impl.Normal) {
	t.Helper()
	if code != impl.ErrNone || !sameNormal(got, want) {
		t.Errorf("%s = %v, code %d, want %v", name, got, code, want)
	}
}

func checkNoNormal(t *testing.T, name string, got impl.Normal, code, want int64) {
	t.Helper()
	if code != want || !sameNormal(got, impl.Normal{}) {
		t.Errorf("%s = %v, code %d, want the zero value and code %d", name, got, code, want)
	}
}

func checkNoAnswer(t *testing.T, name string, got bool, code, want int64) {
	t.Helper()
	if code != want || got {
		t.Errorf("%s = %v, code %d, want false and code %d", name, got, code, want)
	}
}

func normalOf(t *testing.T, b impl.Braid) impl.Normal {
	t.Helper()
	return must[impl.Normal](t)(impl.NormalOf(b))
}

func inverseOf(t *testing.T, a impl.Normal) impl.Normal {
	t.Helper()
	return must[impl.Normal](t)(impl.InverseNormal(a))
}

func productOf(t *testing.T, list ...impl.Normal) impl.Normal {
	t.Helper()
	product := list[0]
	for _, a := range list[1:] {
		product = must[impl.Normal](t)(impl.MultiplyNormals(product, a))
	}
	return product
}

func fractionOf(t *testing.T, a impl.Normal) (impl.Normal, impl.Normal) {
	t.Helper()
	c, d, code := impl.FractionOf(a)
	if code != impl.ErrNone {
		t.Fatalf("FractionOf(%v): code %d", a, code)
	}
	return c, d
}

// plainBeginsWith reports whether the letter i begins s.
func plainBeginsWith(s impl.Simple, i, n int64) bool {
	letter := plainLetter(i, n)
	return plainShort(letter, plainThen(letter, s, n), n)
}

// plainEndsWith reports whether the letter i ends s.
func plainEndsWith(s impl.Simple, i, n int64) bool {
	letter := plainLetter(i, n)
	return plainShort(plainThen(s, letter, n), letter, n)
}

// plainFits reports whether the numbers and the single factors are those of a normal form.
func plainFits(a impl.Normal) bool {
	n := a.Strands
	if n < 1 || n > 8 || a.Power < -200 || a.Power > 200 || len(a.Factors) > 200 || n == 1 && a.Power != 0 {
		return false
	}
	for _, s := range a.Factors {
		sorted := s
		slices.Sort(sorted[:n])
		if s == plainNothing(n) || s == plainHalf(n) || sorted != plainNothing(n) {
			return false
		}
	}
	return true
}

// plainIsLeft reports whether all letters that begin a factor end the one before it.
func plainIsLeft(a impl.Normal) bool {
	for at := 1; at < len(a.Factors); at++ {
		for i := int64(1); i < a.Strands; i++ {
			if plainBeginsWith(a.Factors[at], i, a.Strands) && !plainEndsWith(a.Factors[at-1], i, a.Strands) {
				return false
			}
		}
	}
	return true
}

// plainIsRight reports whether all letters that end a factor begin the one after it.
func plainIsRight(a impl.Normal) bool {
	for at := 1; at < len(a.Factors); at++ {
		for i := int64(1); i < a.Strands; i++ {
			if plainEndsWith(a.Factors[at-1], i, a.Strands) && !plainBeginsWith(a.Factors[at], i, a.Strands) {
				return false
			}
		}
	}
	return true
}

// plainSimpleWord sorts the entries of s by exchanges of neighbours, and returns their letters.
func plainSimpleWord(s impl.Simple, n int64) []int64 {
	var word []int64
	for i := int64(1); i < n; i++ {
		if s[i-1] > s[i] {
			s[i-1], s[i] = s[i], s[i-1]
			word = append(word, i)
			i = 0
		}
	}
	return word
}

// plainHalfWord returns a word of the half turn taken power times.
func plainHalfWord(n, power int64) []int64 {
	word := plainSimpleWord(plainHalf(n), n)
	if power < 0 {
		slices.Reverse(word)
		for at := range word {
			word[at] = -word[at]
		}
		power = -power
	}
	return slices.Repeat(word, int(power))
}

func plainFactorsWord(a impl.Normal) []int64 {
	var word []int64
	for _, s := range a.Factors {
		word = append(word, plainSimpleWord(s, a.Strands)...)
	}
	return word
}

// plainWord returns a word of any length of the braid of a left normal form.
func plainWord(a impl.Normal) []int64 {
	return slices.Concat(plainHalfWord(a.Strands, a.Power), plainFactorsWord(a))
}

// plainRightWord returns a word of any length of the braid of a right normal form.
func plainRightWord(a impl.Normal) []int64 {
	return slices.Concat(plainFactorsWord(a), plainHalfWord(a.Strands, a.Power))
}

// plainActedOnce returns what a letter makes of a free word.
func plainActedOnce(x int64, word []int64) []int64 {
	var next []int64
	for _, g := range word {
		for _, put := range plainLetterAction(x, g) {
			if last := len(next) - 1; last >= 0 && next[last] == -put {
				next = next[:last]
			} else {
				next = append(next, put)
			}
		}
	}
	return next
}

// plainImage returns what the letters make of a generator of a free group.
func plainImage(letters []int64, generator int64) []int64 {
	image := []int64{generator}
	for _, x := range letters {
		image = plainActedOnce(x, image)
	}
	return image
}

// plainAction returns what the letters make of the generators of a free group, as a text. Two
// words are the same braid exactly if these texts are equal.
func plainAction(letters []int64, n int64) string {
	var text []byte
	for generator := int64(1); generator <= n; generator++ {
		for _, g := range plainImage(letters, generator) {
			text = strconv.AppendInt(append(text, ' '), g, 10)
		}
		text = append(text, ';')
	}
	return string(text)
}

func plainLetterAction(x, g int64) []int64 {
	i := max(x, -x)
	var put []int64
	switch max(g, -g) {
	case i:
		put = []int64{i + 1}
		if x > 0 {
			put = []int64{i, i + 1, -i}
		}
	case i + 1:
		put = []int64{i}
		if x < 0 {
			put = []int64{-(i + 1), i, i + 1}
		}
	default:
		return []int64{g}
	}
	if g < 0 {
		slices.Reverse(put)
		for at := range put {
			put[at] = -put[at]
		}
	}
	return put
}

// plainBurau returns Burau's matrix for t = 7 in the field of 1000003 numbers, which long words of
// the same braid have in common.
func plainBurau(letters []int64, n int64) [8][8]int64 {
	const prime, variable, inverse = 1000003, 7, 714288 // 7 * 714288 = 5 * 1000003 + 1
	var rows [8][8]int64
	for x := range n {
		rows[x][x] = 1
	}
	for _, x := range letters {
		i := max(x, -x)
		for at := range rows {
			p, q := rows[at][i-1], rows[at][i]
			if x > 0 {
				rows[at][i-1], rows[at][i] = (p*(1-variable)+q)%prime, p*variable%prime
			} else {
				rows[at][i-1], rows[at][i] = q*inverse%prime, (p+q*(1-inverse))%prime
			}
			rows[at][i-1] = (rows[at][i-1] + prime) % prime
			rows[at][i] = (rows[at][i] + prime) % prime
		}
	}
	return rows
}

// braidsOfLetters returns all words of so many strands with at most count letters.
func braidsOfLetters(strands int64, count int) []impl.Braid {
	list := []impl.Braid{braid(strands)}
	longest := list
	for range count {
		var longer []impl.Braid
		for _, b := range longest {
			for x := 1 - strands; x < strands; x++ {
				if x != 0 {
					longer = append(longer, braid(strands, append(slices.Clone(b.Letters), x)...))
				}
			}
		}
		list = append(list, longer...)
		longest = longer
	}
	return list
}

// moved returns another word of the same braid: count times it puts a letter and its inverse in,
// takes such a pair away, exchanges letters that are far apart, or uses the relation of letters
// next to each other.
func moved(source *rand.Rand, b impl.Braid, count int) impl.Braid {
	letters := slices.Clone(b.Letters)
	for range count {
		at := source.Intn(len(letters) + 1)
		if pair := source.Int63n(4); pair == 0 && len(letters) < 199 && b.Strands > 1 {
			x := randomBraid(source, b.Strands, 1).Letters[0]
			letters = slices.Insert(letters, at, x, -x)
		}
		if at+1 < len(letters) {
			x, y := letters[at], letters[at+1]
			switch distance := max(x, -x) - max(y, -y); {
			case x == -y:
				letters = slices.Delete(letters, at, at+2)
			case distance > 1 || distance < -1:
				letters[at], letters[at+1] = y, x
			case at+2 < len(letters) && x == letters[at+2] && distance != 0 && (x < 0) == (y < 0):
				letters[at], letters[at+1], letters[at+2] = y, x, y
			}
		}
	}
	return braid(b.Strands, letters...)
}

// randomNormals returns the same normal forms in each run, of all numbers of strands.
func randomNormals(t *testing.T, most int) []impl.Normal {
	t.Helper()
	var list []impl.Normal
	for _, b := range randomBraids(most) {
		list = append(list, normalOf(t, b))
	}
	return list
}

// notNormals has what breaks each condition of a normal form, most of it by one.
func notNormals() map[string]impl.Normal {
	one, two, both := plainLetter(1, 3), plainLetter(2, 3), impl.Simple{2, 0, 1}
	return map[string]impl.Normal{
		"the zero value":                    {},
		"no strands":                        normal(0, 1),
		"less than no strands":              normal(-1, 0),
		"the fewest strands":                normal(math.MinInt64, 0),
		"a strand too many":                 normal(9, 0),
		"a strand too many, and a factor":   normal(9, 0, plainLetter(1, 8)),
		"strands that a byte cuts":          normal(256+3, 0, one),
		"the most strands":                  normal(math.MaxInt64, 0),
		"a power of one strand":             normal(1, 1),
		"an inverse power of one strand":    normal(1, -1),
		"a factor of one strand":            normal(1, 0, impl.Simple{}),
		"no simple braid of one strand":     normal(1, 0, impl.Simple{1}),
		"nothing with 2 strands":            normal(2, 0, impl.Simple{0, 1}),
		"the half turn of 2 strands":        normal(2, 0, impl.Simple{1, 0}),
		"a power too great":                 normal(3, 201, one),
		"a power too small":                 normal(3, -201, one),
		"the greatest power":                normal(3, math.MaxInt64),
		"the least power":                   normal(3, math.MinInt64),
		"a factor too many":                 longNormal(3, 0, 201),
		"far too many factors":              longNormal(8, -200, 5000),
		"nothing":                           normal(3, 0, plainNothing(3)),
		"nothing behind a factor":           normal(3, 0, one, plainNothing(3)),
		"nothing ahead of a factor":         normal(3, 0, plainNothing(3), one),
		"the half turn":                     normal(3, 0, plainHalf(3)),
		"the half turn ahead of a factor":   normal(3, 0, plainHalf(3), one),
		"the half turn behind a factor":     normal(3, 0, one, plainHalf(3)),
		"the zero value as a factor":        normal(3, 0, one, impl.Simple{}),
		"a factor of more strands":          normal(3, 0, plainLetter(1, 4)),
		"a factor of fewer strands":         normal(3, 0, plainLetter(1, 2)),
		"a factor with an entry behind it":  normal(3, 0, one, impl.Simple{1, 0, 2, 0, 0, 0, 0, 1}),
		"a factor with a number twice":      normal(3, 0, impl.Simple{1, 1, 0}, one),
		"a factor with a great number":      normal(3, 0, impl.Simple{1, 0, 255}),
		"a letter that the first can take":  normal(3, 0, one, two),
		"a letter that the second can take": normal(3, 0, one, one, two),
		"a letter that the last can take":   normal(3, -5, both, two, two, both),
		"letters that can be taken, and":    normal(3, 5, one, two, two, two),
		"one of two letters, not both":      normal(4, 0, plainLetter(1, 4), impl.Simple{1, 0, 3, 2}),
		"factors in right normal form":      normal(4, 0, plainLetter(3, 4), impl.Simple{1, 0, 3, 2}),
	}
}

func normalPairFunctions() map[string]func(a, b impl.Normal) (impl.Normal, int64) {
	return map[string]func(a, b impl.Normal) (impl.Normal, int64){
		"MultiplyNormals": impl.MultiplyNormals,
		"CommonBeginning": impl.CommonBeginning,
	}
}

func normalFunctions() map[string]func(a impl.Normal) (impl.Normal, int64) {
	power := func(k int64) func(a impl.Normal) (impl.Normal, int64) {
		return func(a impl.Normal) (impl.Normal, int64) { return impl.PowerNormal(a, k) }
	}
	return map[string]func(a impl.Normal) (impl.Normal, int64){
		"InverseNormal":  impl.InverseNormal,
		"PowerNormal 0":  power(0),
		"PowerNormal 1":  power(1),
		"PowerNormal -1": power(-1),
	}
}

func normalListFunctions() map[string]func(a impl.Normal) ([]int64, int64) {
	return map[string]func(a impl.Normal) ([]int64, int64){
		"LengthsOf":    impl.LengthsOf,
		"WordOfNormal": impl.WordOfNormal,
	}
}

func TestMaxFactors(t *testing.T) {
	if impl.MaxFactors != 200 {
		t.Errorf("MaxFactors = %d", impl.MaxFactors)
	}
}

func TestIsNormal(t *testing.T) {
	good := []impl.Normal{normal(1, 0), normal(2, 0), normal(2, 200), normal(2, -200), normal(8, 0),
		{Strands: 3, Factors: []impl.Simple{}}, normal(3, 0, plainLetter(2, 3)),
		normal(3, -1, plainLetter(1, 3), impl.Simple{2, 0, 1}, plainLetter(2, 3)),
		normal(4, 0, impl.Simple{1, 0, 3, 2}, plainLetter(1, 4)), longNormal(3, 200, 200), longNormal(8, -200, 200)}
	for _, a := range good {
		if !impl.IsNormal(a) {
			t.Errorf("IsNormal(%v) = false", a)
		}
	}
	for name, a := range notNormals() {
		if impl.IsNormal(a) {
			t.Errorf("IsNormal of %s = true", name)
		}
	}
}

// TestIsNormalOfShortLists asks for all lists of at most 3 factors of 3 strands, and of at most 2
// of 4 strands.
func TestIsNormalOfShortLists(t *testing.T) {
	count := 0
	check := func(n int64, factors ...impl.Simple) {
		a := normal(n, 0, factors...)
		want := plainFits(a) && plainIsLeft(a)
		if got := impl.IsNormal(a); got != want {
			t.Errorf("IsNormal(%v) = %v", a, got)
		}
		if want {
			count++
		}
	}
	three, four := permutations(3), permutations(4)
	for _, a := range three {
		check(3, a)
		for _, b := range three {
			check(3, a, b)
			for _, c := range three {
				check(3, a, b, c)
			}
		}
	}
	for _, a := range four {
		check(4, a)
		for _, b := range four {
			check(4, a, b)
		}
	}
	// 4, 8 and 16 lists of 3 strands: each of the 4 factors is followed by the 2 that begin with its
	// last letter. 22 lists and then 3*3 + 5*5 + 3*3 + 3*11 + 5*11 + 3*11 of 4 strands, by the
	// letters that end the first factor: {1}, {2}, {3}, {1, 2}, {1, 3} and {2, 3}.
	if count != 4+8+16+22+164 {
		t.Errorf("%d lists are factors of normal forms", count)
	}
}

func TestNormalOf(t *testing.T) {
	one, two := plainLetter(1, 3), plainLetter(2, 3)
	cases := []struct {
		b    impl.Braid
		want impl.Normal
	}{
		{braid(3, 1, 2, 1), normal(3, 1)}, {braid(3, 2, 1, 2), normal(3, 1)},
		{braid(1), normal(1, 0)}, {braid(2), normal(2, 0)}, {braid(8), normal(8, 0)},
		{braid(2, 1, 1, 1), normal(2, 3)}, {braid(2, -1, -1), normal(2, -2)}, {braid(2, -1, 1), normal(2, 0)},
		{braid(3, 1), normal(3, 0, one)}, {braid(3, 1, 1), normal(3, 0, one, one)},
		{braid(3, 1, 2), normal(3, 0, impl.Simple{2, 0, 1})}, {braid(3, 2, 1), normal(3, 0, impl.Simple{1, 2, 0})},
		{braid(3, -1), normal(3, -1, impl.Simple{2, 0, 1})}, {braid(3, -2), normal(3, -1, impl.Simple{1, 2, 0})},
		{braid(3, 1, -2), normal(3, -1, two, impl.Simple{1, 2, 0})},
		{braid(3, 1, -1), normal(3, 0)}, {braid(3, -1, -2, -1), normal(3, -1)},
		{braid(3, 2, 1, 2, 1), normal(3, 1, one)}, {braid(3, 1, 1, 2, 1), normal(3, 1, two)},
		{braid(4, 1, 3, 1), normal(4, 0, impl.Simple{1, 0, 3, 2}, plainLetter(1, 4))},
		{braid(4, 1, 1, 3), normal(4, 0, impl.Simple{1, 0, 3, 2}, plainLetter(1, 4))},
		{longBraid(2, 200), normal(2, 200)}, {longBraid(3, 200), longNormal(3, 0, 200)},
		{longBraid(8, 200), longNormal(8, 0, 200)},
	}
	for _, c := range cases {
		got, code := impl.NormalOf(c.b)
		checkNormal(t, "NormalOf", got, code, c.want)
	}
	for n := int64(1); n <= 8; n++ {
		full := normalOf(t, must[impl.Braid](t)(impl.FullTurnBraid(n)))
		if want := normal(n, 2); n > 1 && !sameNormal(full, want) {
			t.Errorf("NormalOf a full turn = %v, want %v", full, want)
		}
		mirror := normalOf(t, must[impl.Braid](t)(impl.MirrorOf(longBraid(max(n, 2), 200))))
		if n > 1 && (mirror.Power != -200 || n > 2 && len(mirror.Factors) != 200) {
			t.Errorf("NormalOf 200 inverse letters of %d strands = %v", n, mirror)
		}
	}
}

func TestRightNormalOf(t *testing.T) {
	one, two := plainLetter(1, 3), plainLetter(2, 3)
	cases := []struct {
		b    impl.Braid
		want impl.Normal
	}{
		{braid(1), normal(1, 0)}, {braid(8), normal(8, 0)}, {braid(2, -1, -1), normal(2, -2)},
		{braid(3, 1, 2, 1), normal(3, 1)}, {braid(3, 1, 2), normal(3, 0, impl.Simple{2, 0, 1})},
		{braid(3, 2, 1), normal(3, 0, impl.Simple{1, 2, 0})}, {braid(3, 1, 1), normal(3, 0, one, one)},
		{braid(3, 1, 2, 1, 1), normal(3, 1, two)}, {braid(3, 1, 1, 2, 1), normal(3, 1, one)},
		{braid(3, -1), normal(3, -1, impl.Simple{1, 2, 0})},
		{braid(3, 1, -2), normal(3, -1, one, impl.Simple{2, 0, 1})},
		{braid(4, 1, 3, 1), normal(4, 0, plainLetter(1, 4), impl.Simple{1, 0, 3, 2})},
		{longBraid(2, 200), normal(2, 200)}, {longBraid(8, 200), longNormal(8, 0, 200)},
	}
	for _, c := range cases {
		got, code := impl.RightNormalOf(c.b)
		checkNormal(t, "RightNormalOf", got, code, c.want)
	}
}

func TestNormalFormsOfNoBraids(t *testing.T) {
	for name, b := range notBraids() {
		got, code := impl.NormalOf(b)
		checkNoNormal(t, "NormalOf of "+name, got, code, impl.ErrInvalid)
		got, code = impl.RightNormalOf(b)
		checkNoNormal(t, "RightNormalOf of "+name, got, code, impl.ErrInvalid)
		for _, pair := range [][2]impl.Braid{{b, braid(3)}, {braid(3), b}, {b, b}} {
			same, code := impl.SameBraid(pair[0], pair[1])
			checkNoAnswer(t, "SameBraid of "+name, same, code, impl.ErrInvalid)
		}
	}
	same, code := impl.SameBraid(braid(3, 1), braid(4, 1))
	checkNoAnswer(t, "SameBraid with other strands", same, code, impl.ErrRange)
	same, code = impl.SameBraid(braid(1), braid(2))
	checkNoAnswer(t, "SameBraid with other strands, no letters", same, code, impl.ErrRange)
}

func checkInvalidNormal(t *testing.T, name string, a impl.Normal) {
	t.Helper()
	for function, call := range normalFunctions() {
		got, code := call(a)
		checkNoNormal(t, function+" of "+name, got, code, impl.ErrInvalid)
	}
	got, code := impl.PowerNormal(a, 51)
	checkNoNormal(t, "PowerNormal out of range of "+name, got, code, impl.ErrInvalid)
	for function, call := range normalListFunctions() {
		if got, code := call(a); code != impl.ErrInvalid || len(got) != 0 {
			t.Errorf("%s of %s = %v, code %d", function, name, got, code)
		}
	}
	answer, code := impl.IsPositive(a)
	checkNoAnswer(t, "IsPositive of "+name, answer, code, impl.ErrInvalid)
	first, second, code := impl.FractionOf(a)
	checkNoNormal(t, "FractionOf of "+name, first, code, impl.ErrInvalid)
	checkNoNormal(t, "FractionOf of "+name, second, code, impl.ErrInvalid)
}

func TestWhatIsNotNormalIsInvalid(t *testing.T) {
	for name, a := range notNormals() {
		checkInvalidNormal(t, name, a)
		// The other normal form is negative and mostly has other strands, which are later errors.
		good := normal(5, -1, plainLetter(2, 5))
		for _, pair := range [][2]impl.Normal{{a, good}, {good, a}, {a, a}, {a, normal(3, 0)}, {normal(3, 0), a}} {
			for function, call := range normalPairFunctions() {
				got, code := call(pair[0], pair[1])
				checkNoNormal(t, function+" of "+name, got, code, impl.ErrInvalid)
			}
			answer, code := impl.IsBeginningOf(pair[0], pair[1])
			checkNoAnswer(t, "IsBeginningOf of "+name, answer, code, impl.ErrInvalid)
		}
	}
}

// Promise 3: all short words are sorted alike by their normal forms and by what they make of the
// generators of a free group.
func TestShortWordsAreTheSameExactlyIfNormalFormsAreEqual(t *testing.T) {
	lists := [][]impl.Braid{braidsOfLetters(1, 0), braidsOfLetters(2, 7), braidsOfLetters(3, 5), braidsOfLetters(4, 4)}
	for _, list := range lists {
		forms, actions := map[string]impl.Normal{}, map[string]string{}
		for _, b := range list {
			left := normalOf(t, b)
			right := must[impl.Normal](t)(impl.RightNormalOf(b))
			action := plainAction(b.Letters, b.Strands)
			if known, found := forms[action]; found && !sameNormal(known, left) {
				t.Fatalf("NormalOf(%v) = %v, but of the same braid it is %v", b, left, known)
			}
			forms[action] = left
			for _, form := range []string{"left" + normalText(left), "right" + normalText(right)} {
				if known, found := actions[form]; found && known != action {
					t.Fatalf("%v has the %s normal form of another braid", b, form)
				}
				actions[form] = action
			}
		}
		if len(actions) != 2*len(forms) {
			t.Errorf("%d braids have %d left and right normal forms", len(forms), len(actions))
		}
	}
}

func normalText(a impl.Normal) string {
	text := strconv.FormatInt(a.Power, 10)
	for _, s := range a.Factors {
		text += " " + string(s[:])
	}
	return text
}

// Promise 3.
func TestSameBraidOfShortWords(t *testing.T) {
	for _, list := range [][]impl.Braid{braidsOfLetters(3, 3), braidsOfLetters(4, 2)} {
		actions := make([]string, len(list))
		for at, b := range list {
			actions[at] = plainAction(b.Letters, b.Strands)
		}
		for x, a := range list {
			for y, b := range list {
				got, code := impl.SameBraid(a, b)
				checkAnswer(t, "SameBraid", got, code, actions[x] == actions[y])
			}
		}
	}
}

// Promise 3: other words of the same braid have the same normal form, and a letter more leads to
// another one.
func TestNormalFormsOfMovedWords(t *testing.T) {
	source := rand.New(rand.NewSource(3))
	for _, b := range randomBraids(150) {
		other := moved(source, b, 400)
		got, code := impl.NormalOf(other)
		checkNormal(t, "NormalOf another word", got, code, normalOf(t, b))
		got, code = impl.RightNormalOf(other)
		checkNormal(t, "RightNormalOf another word", got, code, must[impl.Normal](t)(impl.RightNormalOf(b)))
		same, code := impl.SameBraid(b, other)
		checkAnswer(t, "SameBraid of another word", same, code, true)
		if b.Strands > 1 && len(other.Letters) < 200 {
			letter := randomBraid(source, b.Strands, 1).Letters[0]
			longer := braid(b.Strands, slices.Insert(other.Letters, len(other.Letters)/2, letter)...)
			same, code = impl.SameBraid(b, longer)
			checkAnswer(t, "SameBraid with a letter more", same, code, false)
		}
	}
}

// Promise 3: normal forms fulfil their conditions, and stand for the braids of which they are.
func TestNormalFormsStandForTheirBraids(t *testing.T) {
	for _, b := range randomBraids(12) {
		n := b.Strands
		action := plainAction(b.Letters, n)
		if left := normalOf(t, b); plainAction(plainWord(left), n) != action {
			t.Errorf("NormalOf(%v) = %v is another braid", b, left)
		}
		if right := must[impl.Normal](t)(impl.RightNormalOf(b)); plainAction(plainRightWord(right), n) != action {
			t.Errorf("RightNormalOf(%v) = %v is another braid", b, right)
		}
	}
	for _, b := range randomBraids(200) {
		n := b.Strands
		rows := plainBurau(b.Letters, n)
		left := normalOf(t, b)
		if !plainFits(left) || !plainIsLeft(left) || !impl.IsNormal(left) || plainBurau(plainWord(left), n) != rows {
			t.Errorf("NormalOf(%v) = %v", b, left)
		}
		right := must[impl.Normal](t)(impl.RightNormalOf(b))
		if !plainFits(right) || !plainIsRight(right) || plainBurau(plainRightWord(right), n) != rows {
			t.Errorf("RightNormalOf(%v) = %v", b, right)
		}
		if left.Power != right.Power || len(left.Factors) != len(right.Factors) {
			t.Errorf("%v has the left normal form %v and the right one %v", b, left, right)
		}
	}
}

func TestMultiplyNormals(t *testing.T) {
	one, two := plainLetter(1, 3), plainLetter(2, 3)
	both, turn := impl.Simple{2, 0, 1}, impl.Simple{1, 2, 0}
	cases := []struct{ a, b, want impl.Normal }{
		{normal(1, 0), normal(1, 0), normal(1, 0)},
		{normal(2, 3), normal(2, -5), normal(2, -2)},
		{normal(3, 0, one), normal(3, 0, one), normal(3, 0, one, one)},
		{normal(3, 0, one), normal(3, 0, two), normal(3, 0, both)},
		{normal(3, 0, both), normal(3, 0, one), normal(3, 1)},
		{normal(3, 0, one), normal(3, 1), normal(3, 1, two)},
		{normal(3, 0, one), normal(3, -2), normal(3, -2, one)},
		{normal(3, -1), normal(3, 0, one), normal(3, -1, one)},
		{normal(3, 0, one), normal(3, -1, both), normal(3, 0)},
		{normal(3, 0, one), normal(3, -1, turn), normal(3, -1, two, turn)},
	}
	for _, c := range cases {
		got, code := impl.MultiplyNormals(c.a, c.b)
		checkNormal(t, "MultiplyNormals", got, code, c.want)
	}
	got, code := impl.MultiplyNormals(normal(3, 200), normal(4, 200))
	checkNoNormal(t, "MultiplyNormals with other strands", got, code, impl.ErrRange)
	got, code = impl.MultiplyNormals(normal(1, 0), normal(2, 0))
	checkNoNormal(t, "MultiplyNormals with other strands, nothing", got, code, impl.ErrRange)
}

// Promise 13, the first part.
func TestProductsOfNormalFormsAreThoseOfTheWords(t *testing.T) {
	list := randomBraids(100)
	for at, a := range list {
		b := list[(at+7)%len(list)]
		if b.Strands != a.Strands {
			b = must[impl.Braid](t)(impl.TurnBraid(a))
		}
		x, y := normalOf(t, a), normalOf(t, b)
		word := must[impl.Braid](t)(impl.ProductOf(a, b))
		got, code := impl.MultiplyNormals(x, y)
		checkNormal(t, "MultiplyNormals", got, code, normalOf(t, word))
		// The greatest power of the product is at most the sum of the greatest powers.
		sum := greatestPower(t, x) + greatestPower(t, y)
		if greatestPower(t, got) > sum || got.Power < x.Power+y.Power {
			t.Errorf("%v and %v have the product %v", x, y, got)
		}
	}
}

func greatestPower(t *testing.T, a impl.Normal) int64 {
	t.Helper()
	return must[[]int64](t)(impl.LengthsOf(a))[1]
}

func TestProductsOfNormalFormsAreAssociative(t *testing.T) {
	list := randomNormals(t, 60)
	for at, a := range list {
		b, c := list[(at+3)%len(list)], list[(at+11)%len(list)]
		if b.Strands != a.Strands || c.Strands != a.Strands {
			b, c = inverseOf(t, a), a
		}
		left := productOf(t, productOf(t, a, b), c)
		if right := productOf(t, a, productOf(t, b, c)); !sameNormal(left, right) {
			t.Errorf("%v, %v and %v have the products %v and %v", a, b, c, left, right)
		}
	}
}

func TestMultiplyNormalsWithinTheLimits(t *testing.T) {
	one, two := plainLetter(1, 3), plainLetter(2, 3)
	long := longNormal(3, 0, 100)
	cases := []struct{ a, b, want impl.Normal }{
		{normal(2, 100), normal(2, 100), normal(2, 200)},
		{normal(2, -100), normal(2, -100), normal(2, -200)},
		{normal(2, 200), normal(2, -200), normal(2, 0)},
		{normal(8, 150), normal(8, 50), normal(8, 200)},
		{long, long, longNormal(3, 0, 200)},
		{longNormal(3, 200, 200), normal(3, -400+200), longNormal(3, 0, 200)},
		{longNormal(3, 0, 200), inverseOf(t, longNormal(3, 0, 200)), normal(3, 0)},
		{longNormal(3, 0, 200), inverseOf(t, longNormal(3, 0, 199)), normal(3, 0, one)},
		// The powers add up to -300, and the factors make 100 half turns.
		{longNormal(3, -200, 100), inverseOf(t, long), normal(3, -200)},
		{normal(3, 199, one), normal(3, 0, impl.Simple{1, 2, 0}), normal(3, 200)},
		{longNormal(3, 0, 199), normal(3, 0, two), normal(3, 0, append(longNormal(3, 0, 198).Factors, impl.Simple{2, 0, 1})...)},
	}
	for _, c := range cases {
		got, code := impl.MultiplyNormals(c.a, c.b)
		checkNormal(t, "MultiplyNormals", got, code, c.want)
	}
	beyond := []struct{ a, b impl.Normal }{
		{normal(2, 200), normal(2, 1)}, {normal(2, 1), normal(2, 200)},
		{normal(2, -200), normal(2, -1)}, {normal(2, -1), normal(2, -200)},
		{normal(8, 200), normal(8, 200)}, {normal(8, -200), normal(8, -200)},
		{longNormal(3, 0, 200), normal(3, 0, one)}, {normal(3, 0, one), longNormal(3, 0, 200)},
		{longNormal(3, 0, 200), longNormal(3, 0, 200)}, {longNormal(8, 200, 200), longNormal(8, 200, 200)},
		{longNormal(3, -200, 99), inverseOf(t, long)},
		{normal(3, 200, one), normal(3, 0, impl.Simple{1, 2, 0})},
	}
	for _, c := range beyond {
		got, code := impl.MultiplyNormals(c.a, c.b)
		checkNoNormal(t, "MultiplyNormals", got, code, impl.ErrLimit)
	}
}

func TestInverseNormal(t *testing.T) {
	one, two := plainLetter(1, 3), plainLetter(2, 3)
	both, turn := impl.Simple{2, 0, 1}, impl.Simple{1, 2, 0}
	cases := []struct{ a, want impl.Normal }{
		{normal(1, 0), normal(1, 0)}, {normal(2, 5), normal(2, -5)}, {normal(8, -3), normal(8, 3)},
		{normal(3, 0, one), normal(3, -1, both)}, {normal(3, 0, two), normal(3, -1, turn)},
		{normal(3, 0, one, one), normal(3, -2, turn, both)},
		{normal(3, -1, one), normal(3, 0, turn)}, {normal(3, -4, one), normal(3, 3, both)},
		{normal(2, 200), normal(2, -200)}, {normal(2, -200), normal(2, 200)},
		{normal(3, 199, one), normal(3, -200, turn)}, {normal(3, -200, one), normal(3, 199, both)},
	}
	for _, c := range cases {
		got, code := impl.InverseNormal(c.a)
		checkNormal(t, "InverseNormal", got, code, c.want)
	}
	for power := int64(-200); power <= 200; power++ {
		got, code := impl.InverseNormal(longNormal(4, power, 200))
		if power > 0 {
			checkNoNormal(t, "InverseNormal with the greatest power "+strconv.FormatInt(power+200, 10), got, code, impl.ErrLimit)
		} else if code != impl.ErrNone || got.Power != -power-200 || len(got.Factors) != 200 || !plainIsLeft(got) {
			t.Errorf("InverseNormal with the power %d = %v, code %d", power, got, code)
		}
	}
	got, code := impl.InverseNormal(normal(3, 200, one))
	checkNoNormal(t, "InverseNormal with the greatest power 201", got, code, impl.ErrLimit)
}

func TestInversesUndo(t *testing.T) {
	for _, b := range randomBraids(100) {
		a := normalOf(t, b)
		inverse, code := impl.InverseNormal(a)
		checkNormal(t, "InverseNormal", inverse, code, normalOf(t, must[impl.Braid](t)(impl.InverseOf(b))))
		for _, product := range []impl.Normal{productOf(t, a, inverse), productOf(t, inverse, a)} {
			if !sameNormal(product, normal(b.Strands, 0)) {
				t.Errorf("%v and its inverse have the product %v", a, product)
			}
		}
		got, code := impl.InverseNormal(inverse)
		checkNormal(t, "InverseNormal of an inverse", got, code, a)
	}
}

func TestPowerNormal(t *testing.T) {
	for _, b := range randomBraids(10) {
		a := normalOf(t, b)
		for k := int64(-6); k <= 6; k++ {
			got, code := impl.PowerNormal(a, k)
			checkNormal(t, "PowerNormal", got, code, normalOf(t, must[impl.Braid](t)(impl.PowerOf(b, k))))
		}
	}
	for _, k := range []int64{50, -50} {
		got, code := impl.PowerNormal(normal(3, 4), k)
		checkNormal(t, "PowerNormal with the power 200", got, code, normal(3, 4*k))
		got, code = impl.PowerNormal(normal(3, 5), k)
		checkNoNormal(t, "PowerNormal with the power 250", got, code, impl.ErrLimit)
		got, code = impl.PowerNormal(normal(1, 0), k)
		checkNormal(t, "PowerNormal of one strand", got, code, normal(1, 0))
	}
	got, code := impl.PowerNormal(longNormal(3, 0, 4), 50)
	checkNormal(t, "PowerNormal with 200 factors", got, code, longNormal(3, 0, 200))
	got, code = impl.PowerNormal(longNormal(3, 0, 5), 41)
	checkNoNormal(t, "PowerNormal with 205 factors", got, code, impl.ErrLimit)
	got, code = impl.PowerNormal(longNormal(3, 0, 67), 3)
	checkNoNormal(t, "PowerNormal with 201 factors", got, code, impl.ErrLimit)
	got, code = impl.PowerNormal(longNormal(3, 0, 67), -3)
	checkNoNormal(t, "PowerNormal with the power -201", got, code, impl.ErrLimit)
	for _, k := range []int64{51, -51, math.MaxInt64, math.MinInt64} {
		got, code = impl.PowerNormal(normal(3, 0), k)
		checkNoNormal(t, "PowerNormal out of range", got, code, impl.ErrRange)
		got, code = impl.PowerNormal(longNormal(8, 200, 200), k)
		checkNoNormal(t, "PowerNormal out of range and beyond the limits", got, code, impl.ErrRange)
	}
}

// TestPowersOfTheMostFactors has braids that are within the limits, while their powers or inverses
// are not.
func TestPowersOfTheMostFactors(t *testing.T) {
	for _, power := range []int64{-200, 0, 200} {
		a := longNormal(5, power, 200)
		got, code := impl.PowerNormal(a, 0)
		checkNormal(t, "PowerNormal 0", got, code, normal(5, 0))
		got, code = impl.PowerNormal(a, 1)
		checkNormal(t, "PowerNormal 1", got, code, a)
		got, code = impl.PowerNormal(a, 2)
		checkNoNormal(t, "PowerNormal 2", got, code, impl.ErrLimit)
		got, code = impl.PowerNormal(a, -1)
		if power > 0 {
			checkNoNormal(t, "PowerNormal -1", got, code, impl.ErrLimit)
		} else {
			checkNormal(t, "PowerNormal -1", got, code, inverseOf(t, a))
		}
	}
}

// TestPowersOnTheWay takes conjugates of the braid with the letters 1 and 2, which has the full turn
// as its third power, with inverse half turns. The second power of a long one has the power -202.
func TestPowersOnTheWay(t *testing.T) {
	conjugate := func(length int) impl.Normal {
		x := longNormal(3, 0, length)
		return productOf(t, x, normalOf(t, braid(3, 1, 2)), inverseOf(t, x), normal(3, -52))
	}
	short, long := conjugate(97), conjugate(99)
	for _, sign := range []int64{1, -1} {
		if sign < 0 {
			short, long = inverseOf(t, short), inverseOf(t, long)
		}
		got, code := impl.PowerNormal(short, 3*sign)
		checkNormal(t, "PowerNormal of a short conjugate", got, code, normal(3, -154))
		got, code = impl.PowerNormal(long, sign)
		if code != impl.ErrNone || len(got.Factors) < 198 {
			t.Errorf("PowerNormal of a long conjugate = %v, code %d", got, code)
		}
		for _, k := range []int64{2, 3} {
			got, code = impl.PowerNormal(long, k*sign)
			checkNoNormal(t, "PowerNormal of a long conjugate", got, code, impl.ErrLimit)
		}
	}
}

func TestLengthsOf(t *testing.T) {
	cases := []struct {
		a    impl.Normal
		want []int64
	}{
		{normal(1, 0), []int64{0, 0, 0}}, {normal(2, -7), []int64{-7, -7, 0}},
		{normal(3, 2, plainLetter(1, 3)), []int64{2, 3, 1}},
		{longNormal(3, -5, 3), []int64{-5, -2, 3}},
		{longNormal(8, 200, 200), []int64{200, 400, 200}}, {longNormal(8, -200, 200), []int64{-200, 0, 200}},
	}
	for _, c := range cases {
		got, code := impl.LengthsOf(c.a)
		checkList(t, "LengthsOf", got, code, c.want)
	}
}

func TestWordOfNormal(t *testing.T) {
	cases := []struct {
		a    impl.Normal
		want []int64
	}{
		{normal(1, 0), nil}, {normal(8, 0), nil}, {normal(2, 3), []int64{1, 1, 1}}, {normal(2, -2), []int64{-1, -1}},
		{normal(3, 1), []int64{1, 2, 1}}, {normal(3, -1), []int64{-1, -2, -1}},
		{normal(4, 1), []int64{1, 2, 1, 3, 2, 1}}, {normal(4, -1), []int64{-1, -2, -3, -1, -2, -1}},
		{normal(3, 2, impl.Simple{2, 0, 1}, plainLetter(2, 3)), []int64{1, 2, 1, 1, 2, 1, 1, 2, 2}},
		{normal(4, -1, impl.Simple{1, 0, 3, 2}, plainLetter(3, 4)), []int64{-1, -2, -3, -1, -2, -1, 1, 3, 3}},
		{normal(4, 0, impl.Simple{0, 3, 2, 1}), []int64{2, 3, 2}},
	}
	for _, c := range cases {
		got, code := impl.WordOfNormal(c.a)
		checkList(t, "WordOfNormal", got, code, c.want)
	}
}

func TestWordsOfNormalFormsWithinTheLimit(t *testing.T) {
	one, both := plainLetter(1, 3), impl.Simple{1, 2, 0}
	good := []impl.Normal{normal(2, 200), normal(2, -200), longNormal(3, 0, 200), longNormal(8, 0, 200),
		normal(3, 66, both), normal(3, -66, both), normal(3, 66, one, one), longNormal(8, 7, 4), longNormal(8, -7, 4)}
	for _, a := range good {
		got, code := impl.WordOfNormal(a)
		if code != impl.ErrNone || len(got) != 200 {
			t.Errorf("WordOfNormal(%v) has %d letters, code %d", a, len(got), code)
		}
	}
	beyond := []impl.Normal{normal(3, 67), normal(3, -67), normal(3, 66, both, one), normal(3, -66, both, one),
		longNormal(3, 1, 198), longNormal(3, -1, 198), longNormal(8, 7, 5), normal(8, 8), normal(8, -8), normal(8, 200),
		longNormal(8, -200, 200), longNormal(3, 200, 200)}
	for _, a := range beyond {
		got, code := impl.WordOfNormal(a)
		if code != impl.ErrLimit || len(got) != 0 {
			t.Errorf("WordOfNormal(%v) = %v, code %d", a, got, code)
		}
	}
}

func TestNormalFormsComeBackFromTheirWords(t *testing.T) {
	for _, a := range randomNormals(t, 12) {
		n := a.Strands
		half := must[[]int64](t)(impl.WordOfSimple(plainHalf(n), n))
		if a.Power < 0 {
			half = must[impl.Braid](t)(impl.InverseOf(braid(n, half...))).Letters
		}
		want := slices.Repeat(half, int(max(a.Power, -a.Power)))
		for _, s := range a.Factors {
			want = append(want, must[[]int64](t)(impl.WordOfSimple(s, n))...)
		}
		got, code := impl.WordOfNormal(a)
		if len(want) > 200 {
			if code != impl.ErrLimit || len(got) != 0 {
				t.Errorf("WordOfNormal(%v) = %v, code %d", a, got, code)
			}
			continue
		}
		checkList(t, "WordOfNormal", got, code, want)
		back, code := impl.NormalOf(braid(n, got...))
		checkNormal(t, "NormalOf WordOfNormal", back, code, a)
	}
}

func TestIsPositive(t *testing.T) {
	one := plainLetter(1, 3)
	for _, a := range []impl.Normal{normal(1, 0), normal(2, 0), normal(8, 200), normal(3, 0, one), normal(3, 1, one)} {
		got, code := impl.IsPositive(a)
		checkAnswer(t, "IsPositive", got, code, true)
	}
	for _, a := range []impl.Normal{normal(2, -1), normal(8, -200), normal(3, -1, one), longNormal(3, -1, 200)} {
		got, code := impl.IsPositive(a)
		checkAnswer(t, "IsPositive", got, code, false)
	}
	for _, b := range randomBraids(30) {
		for at := range b.Letters {
			b.Letters[at] = max(b.Letters[at], -b.Letters[at])
		}
		got, code := impl.IsPositive(normalOf(t, b))
		checkAnswer(t, "IsPositive of a word without inverse letters", got, code, true)
	}
}

// positiveWords returns all words without inverse letters that are the same braid: relations of
// positive words are enough to lead from each of them to each other one.
func positiveWords(letters []int64) [][]int64 {
	list := [][]int64{letters}
	for next := 0; next < len(list); next++ {
		for at := range list[next] {
			other := slices.Clone(list[next])
			rest := other[at:]
			if len(rest) >= 2 && (rest[0]-rest[1] > 1 || rest[1]-rest[0] > 1) {
				rest[0], rest[1] = rest[1], rest[0]
			} else if len(rest) >= 3 && rest[0] == rest[2] && rest[0] != rest[1] && rest[0]-rest[1] <= 1 && rest[1]-rest[0] <= 1 {
				rest[0], rest[1], rest[2] = rest[1], rest[0], rest[1]
			}
			if !slices.ContainsFunc(list, func(known []int64) bool { return slices.Equal(known, other) }) {
				list = append(list, other)
			}
		}
	}
	return list
}

// positiveBeginnings returns the beginnings of a positive braid, each as its least word.
func positiveBeginnings(letters []int64) map[string][]int64 {
	beginnings := map[string][]int64{}
	for _, word := range positiveWords(letters) {
		for end := range len(word) + 1 {
			least := slices.MinFunc(positiveWords(word[:end]), slices.Compare)
			beginnings[plainAction(least, 8)] = least
		}
	}
	return beginnings
}

func positiveWord(source *rand.Rand, n int64, count int) []int64 {
	var letters []int64
	for range count {
		letters = append(letters, 1+source.Int63n(n-1))
	}
	return letters
}

// TestCommonBeginningsOfShortWords finds the beginnings of short positive words, and compares the
// longest common one and each that is asked for.
func TestCommonBeginningsOfShortWords(t *testing.T) {
	source := rand.New(rand.NewSource(5))
	for round := range 120 {
		n := int64(2 + round%4)
		same := positiveWord(source, n, source.Intn(4))
		x := slices.Concat(same, positiveWord(source, n, source.Intn(5)))
		y := slices.Concat(same, positiveWord(source, n, source.Intn(5)))
		a, b := normalOf(t, braid(n, x...)), normalOf(t, braid(n, y...))
		beginningsX, beginningsY := positiveBeginnings(x), positiveBeginnings(y)
		var longest []int64
		for action, word := range beginningsX {
			if _, common := beginningsY[action]; common && len(word) > len(longest) {
				longest = word
			}
		}
		got, code := impl.CommonBeginning(a, b)
		checkNormal(t, "CommonBeginning", got, code, normalOf(t, braid(n, longest...)))
		_, want := beginningsY[plainAction(x, 8)]
		yes, code := impl.IsBeginningOf(a, b)
		checkAnswer(t, "IsBeginningOf", yes, code, want)
		for _, word := range beginningsX {
			yes, code = impl.IsBeginningOf(normalOf(t, braid(n, word...)), a)
			checkAnswer(t, "IsBeginningOf of a beginning", yes, code, true)
		}
		for _, word := range beginningsY {
			_, want := beginningsX[plainAction(word, 8)]
			yes, code = impl.IsBeginningOf(normalOf(t, braid(n, word...)), a)
			checkAnswer(t, "IsBeginningOf of another beginning", yes, code, want)
		}
	}
}

func TestExamplesOfCommonBeginnings(t *testing.T) {
	one, two, fine := normal(3, 0, plainLetter(1, 3)), normal(3, 0, plainLetter(2, 3)), normal(3, 0)
	both := normal(3, 0, impl.Simple{2, 0, 1})
	cases := []struct{ a, b, want impl.Normal }{
		{normal(1, 0), normal(1, 0), normal(1, 0)}, {normal(2, 3), normal(2, 5), normal(2, 3)},
		{normal(2, 200), normal(2, 0), normal(2, 0)}, {normal(8, 200), normal(8, 200), normal(8, 200)},
		{one, two, fine}, {one, both, one}, {two, both, fine}, {normal(3, 1), both, both},
		{normal(3, 1), longNormal(3, 0, 2), one}, {normal(3, 1, plainLetter(2, 3)), normal(3, 2), normal(3, 1, plainLetter(2, 3))},
		{longNormal(3, 200, 200), longNormal(3, 200, 200), longNormal(3, 200, 200)},
		{longNormal(3, 200, 200), longNormal(3, 200, 199), longNormal(3, 200, 199)},
		{longNormal(3, 0, 200), normal(3, 200), longNormal(3, 0, 200)},
		{longNormal(3, 0, 200), longNormal(3, 200, 200), longNormal(3, 0, 200)},
		{longNormal(3, 1, 200), longNormal(3, 200, 200), longNormal(3, 1, 199)},
	}
	for _, c := range cases {
		got, code := impl.CommonBeginning(c.a, c.b)
		checkNormal(t, "CommonBeginning", got, code, c.want)
		got, code = impl.CommonBeginning(c.b, c.a)
		checkNormal(t, "CommonBeginning, exchanged", got, code, c.want)
		yes, code := impl.IsBeginningOf(c.a, c.b)
		checkAnswer(t, "IsBeginningOf", yes, code, sameNormal(c.want, c.a))
		yes, code = impl.IsBeginningOf(c.b, c.a)
		checkAnswer(t, "IsBeginningOf, exchanged", yes, code, sameNormal(c.want, c.b))
	}
}

func TestCommonBeginningsAreAskedOfPositiveBraids(t *testing.T) {
	cases := []struct {
		a, b impl.Normal
		want int64
	}{
		{normal(3, -1), normal(3, 0), impl.ErrState}, {normal(3, 0), normal(3, -1), impl.ErrState},
		{longNormal(3, -1, 5), longNormal(3, -1, 5), impl.ErrState}, {normal(2, -200), normal(2, 200), impl.ErrState},
		{normal(3, 0), normal(4, 0), impl.ErrRange}, {normal(1, 0), normal(2, 0), impl.ErrRange},
		{normal(3, -1), normal(4, 0), impl.ErrRange}, {normal(3, 0), normal(4, -1), impl.ErrRange},
		{normal(3, -1), normal(4, -1), impl.ErrRange},
	}
	for _, c := range cases {
		got, code := impl.CommonBeginning(c.a, c.b)
		checkNoNormal(t, "CommonBeginning", got, code, c.want)
		yes, code := impl.IsBeginningOf(c.a, c.b)
		checkNoAnswer(t, "IsBeginningOf", yes, code, c.want)
	}
}

// checkNothingInCommon reports whether no letter begins both positive braids.
func checkNothingInCommon(t *testing.T, a, b impl.Normal) {
	t.Helper()
	for i := int64(1); i < a.Strands; i++ {
		if positiveBeginsWith(a, i) && positiveBeginsWith(b, i) {
			t.Errorf("the letter %d begins %v and %v", i, a, b)
		}
	}
	got, code := impl.CommonBeginning(a, b)
	checkNormal(t, "CommonBeginning", got, code, normal(a.Strands, 0))
}

// positiveBeginsWith asks what comes first in a normal form: all letters that begin the braid
// begin this.
func positiveBeginsWith(a impl.Normal, i int64) bool {
	return a.Power > 0 || len(a.Factors) > 0 && plainBeginsWith(a.Factors[0], i, a.Strands)
}

// TestCommonBeginningsOfLongWords takes the common beginning away from both braids.
func TestCommonBeginningsOfLongWords(t *testing.T) {
	source := rand.New(rand.NewSource(6))
	for round := range 60 {
		n := int64(2 + round%7)
		same := positiveWord(source, n, source.Intn(60))
		a := normalOf(t, braid(n, slices.Concat(same, positiveWord(source, n, source.Intn(60)))...))
		b := normalOf(t, braid(n, slices.Concat(same, positiveWord(source, n, source.Intn(60)))...))
		common := must[impl.Normal](t)(impl.CommonBeginning(a, b))
		yes, code := impl.IsBeginningOf(normalOf(t, braid(n, same...)), common)
		checkAnswer(t, "IsBeginningOf of the same letters", yes, code, true)
		for _, c := range []impl.Normal{a, b} {
			yes, code = impl.IsBeginningOf(common, c)
			checkAnswer(t, "IsBeginningOf of a common beginning", yes, code, true)
		}
		inverse := inverseOf(t, common)
		checkNothingInCommon(t, productOf(t, inverse, a), productOf(t, inverse, b))
	}
}

func TestExamplesOfFractions(t *testing.T) {
	one, two := plainLetter(1, 3), plainLetter(2, 3)
	both, turn := impl.Simple{2, 0, 1}, impl.Simple{1, 2, 0}
	cases := []struct{ a, first, second impl.Normal }{
		{normal(1, 0), normal(1, 0), normal(1, 0)}, {normal(2, 5), normal(2, 0), normal(2, 5)},
		{normal(2, -5), normal(2, 5), normal(2, 0)}, {normal(3, 0), normal(3, 0), normal(3, 0)},
		{normal(3, 2, one), normal(3, 0), normal(3, 2, one)},
		{normal(3, -1, both), normal(3, 0, one), normal(3, 0)},
		{normal(3, -1, one), normal(3, 0, turn), normal(3, 0)},
		{normal(3, -3, one), normal(3, 2, turn), normal(3, 0)},
		{normal(3, -1, both, two), normal(3, 0, one), normal(3, 0, two)},
		{normal(3, -1, two, turn), normal(3, 0, both), normal(3, 0, turn)},
		{normal(8, -200), normal(8, 200), normal(8, 0)}, {normal(8, 200), normal(8, 0), normal(8, 200)},
		{longNormal(3, 200, 200), normal(3, 0), longNormal(3, 200, 200)},
		{longNormal(3, -1, 200), normal(3, 0, turn), longNormal(3, 0, 199)},
		{inverseOf(t, longNormal(3, 0, 200)), longNormal(3, 0, 200), normal(3, 0)},
	}
	for _, c := range cases {
		first, second, code := impl.FractionOf(c.a)
		checkNormal(t, "FractionOf", first, code, c.first)
		checkNormal(t, "FractionOf, behind", second, code, c.second)
	}
}

// Promise 3: fractions multiply back, and are positive without common beginning.
func TestFractionsMultiplyBack(t *testing.T) {
	list := append(randomNormals(t, 150), longNormal(8, -200, 200), longNormal(8, -199, 200), longNormal(5, -100, 200))
	for _, a := range list {
		c, d := fractionOf(t, a)
		if !plainFits(c) || !plainFits(d) || !plainIsLeft(c) || !plainIsLeft(d) || c.Power < 0 || d.Power < 0 {
			t.Errorf("FractionOf(%v) = %v and %v", a, c, d)
		}
		checkNothingInCommon(t, c, d)
		if back := productOf(t, inverseOf(t, c), d); !sameNormal(back, a) {
			t.Errorf("FractionOf(%v) = %v and %v make %v", a, c, d, back)
		}
	}
}

// TestFractionsAreNotLonger gives fractions back to words: both have the letters that they need.
func TestFractionsAreNotLonger(t *testing.T) {
	source := rand.New(rand.NewSource(8))
	for round := range 60 {
		n := int64(2 + round%7)
		x, y := positiveWord(source, n, source.Intn(50)), positiveWord(source, n, source.Intn(50))
		inverse := must[impl.Braid](t)(impl.InverseOf(braid(n, x...)))
		a, b := normalOf(t, braid(n, x...)), normalOf(t, braid(n, y...))
		c, d := fractionOf(t, normalOf(t, must[impl.Braid](t)(impl.ProductOf(inverse, braid(n, y...)))))
		common := must[impl.Normal](t)(impl.CommonBeginning(a, b))
		if !sameNormal(productOf(t, common, c), a) || !sameNormal(productOf(t, common, d), b) {
			t.Errorf("the inverse of %v, and %v, have the fraction %v and %v", a, b, c, d)
		}
	}
}

// guardedNormal returns a normal form whose factors have spare capacity, and a function that
// reports whether neither of them has been written to.
func guardedNormal(a impl.Normal) (impl.Normal, func() bool) {
	spare := impl.Simple{9, 9, 9}
	all := append(slices.Clone(a.Factors), spare, spare, spare, spare)
	before := slices.Clone(all)
	a.Factors = all[:len(a.Factors)]
	return a, func() bool { return slices.Equal(all, before) }
}

// scribbleFactors writes over the factors and their spare capacity.
func scribbleFactors(a impl.Normal) {
	list := a.Factors[:cap(a.Factors)]
	for at := range list {
		list[at] = impl.Simple{7, 7, 7}
	}
}

func TestNormalFormsShareNoMemoryWithArguments(t *testing.T) {
	one, two, both := plainLetter(1, 3), plainLetter(2, 3), impl.Simple{2, 0, 1}
	list := []impl.Normal{normal(3, 0), normal(3, 1, one), normal(3, 0, one, one, both, two, impl.Simple{1, 2, 0}),
		normal(3, -1, both, two), normal(3, -3, one, one), normal(3, 2, both)}
	for _, x := range list {
		for _, y := range list {
			a, untouchedA := guardedNormal(x)
			b, untouchedB := guardedNormal(y)
			var results []impl.Normal
			for _, call := range normalPairFunctions() {
				got, _ := call(a, b)
				results = append(results, got)
			}
			impl.IsBeginningOf(a, b)
			for _, call := range normalFunctions() {
				got, _ := call(a)
				results = append(results, got)
			}
			first, second, _ := impl.FractionOf(a)
			third, _ := impl.PowerNormal(b, 2)
			results = append(results, first, second, third)
			for _, call := range normalListFunctions() {
				call(a)
			}
			impl.IsNormal(a)
			impl.IsPositive(a)
			if !untouchedA() || !untouchedB() {
				t.Fatalf("%v or %v has been changed", x, y)
			}
			checkNothingShared(t, results)
			if !untouchedA() || !untouchedB() {
				t.Fatalf("a result shares memory with %v or %v", x, y)
			}
		}
	}
}

// checkNothingShared writes over each result, one after the other, and looks at those behind it.
func checkNothingShared(t *testing.T, results []impl.Normal) {
	t.Helper()
	var before [][]impl.Simple
	for _, a := range results {
		before = append(before, slices.Clone(a.Factors))
	}
	for at, a := range results {
		if !slices.Equal(a.Factors, before[at]) {
			t.Fatalf("results share memory")
		}
		scribbleFactors(a)
	}
}

func TestNormalFormsKeepNothing(t *testing.T) {
	for _, call := range []func(impl.Braid) (impl.Normal, int64){impl.NormalOf, impl.RightNormalOf} {
		b, untouched := guarded(braid(4, 1, 1, -2, 3, 3, 2, -1))
		first := must[impl.Normal](t)(call(b))
		want := impl.Normal{Strands: 4, Power: first.Power, Factors: slices.Clone(first.Factors)}
		scribbleFactors(first)
		got, code := call(b)
		checkNormal(t, "a normal form after the first one was written over", got, code, want)
		impl.SameBraid(b, b)
		if !untouched() {
			t.Errorf("a braid has been changed")
		}
	}
	a := normal(4, -1, impl.Simple{1, 0, 3, 2}, plainLetter(3, 4))
	for name, call := range normalListFunctions() {
		first := must[[]int64](t)(call(a))
		want := slices.Clone(first)
		scribble(first)
		got, code := call(a)
		checkList(t, name+" after its first result was written over", got, code, want)
	}
}
