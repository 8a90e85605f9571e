package tests

import (
	"math"
	"math/rand"
	"slices"
	"testing"

	"loop.example/g01205/impl"
)

// permutations returns the permutations of 0 to n - 1.
func permutations(n int) []impl.Simple {
	list := []impl.Simple{{}}
	for size := 1; size < n; size++ {
		var longer []impl.Simple
		for _, s := range list {
			for at := 0; at <= size; at++ {
				entries := slices.Insert(slices.Clone(s[:size]), at, byte(size))
				var next impl.Simple
				copy(next[:], entries)
				longer = append(longer, next)
			}
		}
		list = longer
	}
	return list
}

// sampleSimples returns the same simple braids in each run, with nothing and the half turn.
func sampleSimples(n int64, count int) []impl.Simple {
	source := rand.New(rand.NewSource(n))
	list := []impl.Simple{plainNothing(n), plainHalf(n)}
	for range count {
		var s impl.Simple
		for x, end := range source.Perm(int(n)) {
			s[x] = byte(end)
		}
		list = append(list, s)
	}
	// Simple braids near nothing and near the half turn have few and many beginnings.
	for range count {
		s := list[source.Intn(2)]
		for range 1 + source.Intn(3) {
			if n > 1 {
				x := source.Int63n(n - 1)
				s[x], s[x+1] = s[x+1], s[x]
			}
		}
		list = append(list, s)
	}
	return list
}

func plainNothing(n int64) impl.Simple {
	var s impl.Simple
	for x := range n {
		s[x] = byte(x)
	}
	return s
}

func plainHalf(n int64) impl.Simple {
	var s impl.Simple
	for x := range n {
		s[x] = byte(n - 1 - x)
	}
	return s
}

func plainLetter(i, n int64) impl.Simple {
	s := plainNothing(n)
	s[i-1], s[i] = byte(i), byte(i-1)
	return s
}

func plainThen(a, b impl.Simple, n int64) impl.Simple {
	var s impl.Simple
	for x := range n {
		s[x] = b[a[x]]
	}
	return s
}

func plainLength(s impl.Simple, n int64) int64 {
	length := int64(0)
	for x := range n {
		for y := x + 1; y < n; y++ {
			if s[x] > s[y] {
				length++
			}
		}
	}
	return length
}

func plainShort(a, b impl.Simple, n int64) bool {
	return plainLength(plainThen(a, b, n), n) == plainLength(a, n)+plainLength(b, n)
}

// lattice tells which of all simple braids of n strands are beginnings of which other ones, as
// products that are short tell it.
type lattice struct {
	n      int64
	all    []impl.Simple
	begins map[[2]impl.Simple]bool
}

func latticeOf(n int64) lattice {
	l := lattice{n: n, all: permutations(int(n)), begins: map[[2]impl.Simple]bool{}}
	for _, a := range l.all {
		for _, c := range l.all {
			if plainShort(a, c, n) {
				l.begins[[2]impl.Simple{a, plainThen(a, c, n)}] = true
			}
		}
	}
	return l
}

// best returns the one that is better by length than all others, of those that keep allows.
func (l lattice) best(t *testing.T, sign int64, keep func(c impl.Simple) bool) impl.Simple {
	t.Helper()
	var found impl.Simple
	best, count := int64(math.MinInt64), 0
	for _, c := range l.all {
		if length := sign * plainLength(c, l.n); keep(c) && length >= best {
			if length > best {
				count = 0
			}
			found, best, count = c, length, count+1
		}
	}
	if count != 1 {
		t.Fatalf("%d strands: %d simple braids are the best", l.n, count)
	}
	return found
}

func checkSimple(t *testing.T, name string, got impl.Simple, code int64, want impl.Simple) {
	t.Helper()
	if code != impl.ErrNone || got != want {
		t.Errorf("%s = %v, code %d, want %v", name, got, code, want)
	}
}

func checkNoSimple(t *testing.T, name string, got impl.Simple, code, want int64) {
	t.Helper()
	if code != want || got != (impl.Simple{}) {
		t.Errorf("%s = %v, code %d, want the zero value and code %d", name, got, code, want)
	}
}

func checkList(t *testing.T, name string, got []int64, code int64, want []int64) {
	t.Helper()
	if code != impl.ErrNone || !slices.Equal(got, want) {
		t.Errorf("%s = %v, code %d, want %v", name, got, code, want)
	}
}

func checkAnswer(t *testing.T, name string, got bool, code int64, want bool) {
	t.Helper()
	if code != impl.ErrNone || got != want {
		t.Errorf("%s = %v, code %d, want %v", name, got, code, want)
	}
}

func simpleFunctions() map[string]func(impl.Simple, int64) (impl.Simple, int64) {
	return map[string]func(impl.Simple, int64) (impl.Simple, int64){
		"ComplementOf":     impl.ComplementOf,
		"LeftComplementOf": impl.LeftComplementOf,
		"TurnOf":           impl.TurnOf,
	}
}

func simpleListFunctions() map[string]func(impl.Simple, int64) ([]int64, int64) {
	return map[string]func(impl.Simple, int64) ([]int64, int64){
		"BeginningLetters": impl.BeginningLetters,
		"EndingLetters":    impl.EndingLetters,
		"WordOfSimple":     impl.WordOfSimple,
	}
}

func simplePairFunctions() map[string]func(a, b impl.Simple, n int64) (impl.Simple, int64) {
	return map[string]func(a, b impl.Simple, n int64) (impl.Simple, int64){
		"ThenSimple": impl.ThenSimple,
		"MeetOf":     impl.MeetOf,
		"JoinOf":     impl.JoinOf,
	}
}

func simpleAnswerFunctions() map[string]func(a, b impl.Simple, n int64) (bool, int64) {
	return map[string]func(a, b impl.Simple, n int64) (bool, int64){
		"IsShort":     impl.IsShort,
		"IsBeginning": impl.IsBeginning,
	}
}

type numberedSimple struct {
	s impl.Simple
	n int64
}

// notSimples has what breaks each condition of a simple braid of n strands.
func notSimples() map[string]numberedSimple {
	eight := impl.Simple{7, 6, 5, 4, 3, 2, 1, 0}
	return map[string]numberedSimple{
		"no strands":                   {impl.Simple{}, 0},
		"less than no strands":         {impl.Simple{}, -1},
		"the fewest strands":           {eight, math.MinInt64},
		"a strand too many":            {eight, 9},
		"strands that a byte cuts":     {impl.Simple{1, 0, 2}, 256 + 3},
		"strands that 32 bits cut":     {impl.Simple{1, 0, 2}, 1<<32 + 3},
		"the most strands":             {eight, math.MaxInt64},
		"the zero value of 2 strands":  {impl.Simple{}, 2},
		"the zero value of 8 strands":  {impl.Simple{}, 8},
		"one strand that leads to 1":   {impl.Simple{1}, 1},
		"an entry behind one strand":   {impl.Simple{0, 1}, 1},
		"a number twice":               {impl.Simple{1, 1, 0}, 3},
		"a number twice at the ends":   {impl.Simple{2, 0, 2}, 3},
		"all numbers too great by one": {impl.Simple{1, 2, 3}, 3},
		"a number too great by one":    {impl.Simple{0, 1, 3}, 3},
		"a number far too great":       {impl.Simple{0, 255, 1}, 3},
		"8 in 8 strands":               {impl.Simple{0, 1, 2, 3, 4, 5, 6, 8}, 8},
		"a strand too few":             {impl.Simple{2, 1, 0}, 2},
		"a strand more":                {impl.Simple{2, 1, 0}, 4},
		"an entry behind the strands":  {impl.Simple{2, 1, 0, 3}, 3},
		"the last entry is not 0":      {impl.Simple{2, 1, 0, 0, 0, 0, 0, 1}, 3},
	}
}

func TestIsSimple(t *testing.T) {
	for name, c := range notSimples() {
		if impl.IsSimple(c.s, c.n) {
			t.Errorf("IsSimple of %s = true", name)
		}
	}
	for n := int64(1); n <= 8; n++ {
		for _, s := range sampleSimples(n, 20) {
			if !impl.IsSimple(s, n) {
				t.Errorf("IsSimple(%v, %d) = false", s, n)
			}
		}
	}
}

// TestIsSimpleOfSmallArrays asks for all arrays with entries of at most 4 at the first 4 places.
func TestIsSimpleOfSmallArrays(t *testing.T) {
	good := map[numberedSimple]bool{}
	for n := int64(1); n <= 5; n++ {
		for _, s := range permutations(int(n)) {
			good[numberedSimple{s, n}] = true
		}
	}
	for code := range 5 * 5 * 5 * 5 {
		s := impl.Simple{byte(code % 5), byte(code / 5 % 5), byte(code / 25 % 5), byte(code / 125)}
		for n := int64(-1); n <= 9; n++ {
			if got := impl.IsSimple(s, n); got != good[numberedSimple{s, n}] {
				t.Errorf("IsSimple(%v, %d) = %v", s, n, got)
			}
		}
	}
}

func TestWhatIsNotSimpleIsInvalid(t *testing.T) {
	for name, c := range notSimples() {
		if length, code := impl.LengthOfSimple(c.s, c.n); code != impl.ErrInvalid || length != 0 {
			t.Errorf("LengthOfSimple of %s = %d, code %d", name, length, code)
		}
		for function, call := range simpleFunctions() {
			got, code := call(c.s, c.n)
			checkNoSimple(t, function+" of "+name, got, code, impl.ErrInvalid)
		}
		for function, call := range simpleListFunctions() {
			if got, code := call(c.s, c.n); code != impl.ErrInvalid || len(got) != 0 {
				t.Errorf("%s of %s = %v, code %d", function, name, got, code)
			}
		}
		checkInvalidPairs(t, name, c)
	}
}

// checkInvalidPairs puts what is not simple ahead of a simple braid of as many strands, behind it,
// and beside itself.
func checkInvalidPairs(t *testing.T, name string, c numberedSimple) {
	t.Helper()
	var good impl.Simple
	if c.n >= 1 && c.n <= 8 {
		good = plainNothing(c.n)
	}
	for _, pair := range [][2]impl.Simple{{c.s, good}, {good, c.s}, {c.s, c.s}} {
		for function, call := range simplePairFunctions() {
			got, code := call(pair[0], pair[1], c.n)
			checkNoSimple(t, function+" of "+name, got, code, impl.ErrInvalid)
		}
		for function, call := range simpleAnswerFunctions() {
			if got, code := call(pair[0], pair[1], c.n); code != impl.ErrInvalid || got {
				t.Errorf("%s of %s = %v, code %d", function, name, got, code)
			}
		}
	}
}

func TestHalfTurn(t *testing.T) {
	want := []impl.Simple{{0}, {1, 0}, {2, 1, 0}, {3, 2, 1, 0}, {4, 3, 2, 1, 0},
		{5, 4, 3, 2, 1, 0}, {6, 5, 4, 3, 2, 1, 0}, {7, 6, 5, 4, 3, 2, 1, 0}}
	for at, half := range want {
		got, code := impl.HalfTurn(int64(at + 1))
		checkSimple(t, "HalfTurn", got, code, half)
	}
	for _, n := range []int64{0, 9, -1, 257, math.MinInt64, math.MaxInt64} {
		got, code := impl.HalfTurn(n)
		checkNoSimple(t, "HalfTurn out of range", got, code, impl.ErrRange)
	}
}

func TestLengthOfSimple(t *testing.T) {
	cases := []struct {
		s    impl.Simple
		n    int64
		want int64
	}{
		{impl.Simple{}, 1, 0}, {impl.Simple{0, 1}, 2, 0}, {impl.Simple{1, 0}, 2, 1},
		{impl.Simple{3, 2, 1, 0}, 4, 6}, {impl.Simple{2, 0, 1}, 3, 2}, {impl.Simple{0, 3, 2, 1}, 4, 3},
		{impl.Simple{7, 6, 5, 4, 3, 2, 1, 0}, 8, 28}, {impl.Simple{7, 0, 1, 2, 3, 4, 5, 6}, 8, 7},
		{impl.Simple{0, 1, 2, 3, 4, 5, 6, 7}, 8, 0},
	}
	for _, c := range cases {
		if got, code := impl.LengthOfSimple(c.s, c.n); code != impl.ErrNone || got != c.want {
			t.Errorf("LengthOfSimple(%v, %d) = %d, code %d, want %d", c.s, c.n, got, code, c.want)
		}
	}
	for n := int64(1); n <= 8; n++ {
		for _, s := range sampleSimples(n, 30) {
			if got, code := impl.LengthOfSimple(s, n); code != impl.ErrNone || got != plainLength(s, n) {
				t.Errorf("LengthOfSimple(%v, %d) = %d, code %d", s, n, got, code)
			}
		}
	}
}

func TestThenSimple(t *testing.T) {
	got, code := impl.ThenSimple(impl.Simple{1, 0, 2}, impl.Simple{0, 2, 1}, 3)
	checkSimple(t, "ThenSimple", got, code, impl.Simple{2, 0, 1})
	got, code = impl.ThenSimple(impl.Simple{0, 2, 1}, impl.Simple{1, 0, 2}, 3)
	checkSimple(t, "ThenSimple", got, code, impl.Simple{1, 2, 0})
	got, code = impl.ThenSimple(impl.Simple{}, impl.Simple{}, 1)
	checkSimple(t, "ThenSimple of one strand", got, code, impl.Simple{})
	for n := int64(1); n <= 8; n++ {
		list := sampleSimples(n, 10)
		for _, a := range list {
			for _, b := range list {
				got, code := impl.ThenSimple(a, b, n)
				checkSimple(t, "ThenSimple", got, code, plainThen(a, b, n))
			}
		}
	}
}

func TestIsShort(t *testing.T) {
	one, two := impl.Simple{1, 0, 2}, impl.Simple{0, 2, 1}
	half := impl.Simple{2, 1, 0}
	cases := []struct {
		a, b impl.Simple
		want bool
	}{
		{one, two, true}, {one, one, false}, {impl.Simple{2, 0, 1}, one, true},
		{impl.Simple{2, 0, 1}, two, false}, {half, one, false}, {half, half, false},
		{half, impl.Simple{0, 1, 2}, true}, {impl.Simple{0, 1, 2}, half, true},
	}
	for _, c := range cases {
		got, code := impl.IsShort(c.a, c.b, 3)
		checkAnswer(t, "IsShort", got, code, c.want)
	}
	for n := int64(1); n <= 8; n++ {
		list := sampleSimples(n, 10)
		for _, a := range list {
			for _, b := range list {
				got, code := impl.IsShort(a, b, n)
				checkAnswer(t, "IsShort", got, code, plainShort(a, b, n))
			}
		}
	}
}

func TestBeginningAndEndingLetters(t *testing.T) {
	cases := []struct {
		s            impl.Simple
		n            int64
		begins, ends []int64
	}{
		{impl.Simple{}, 1, nil, nil},
		{impl.Simple{0, 1, 2}, 3, nil, nil},
		{impl.Simple{2, 0, 1}, 3, []int64{1}, []int64{2}},
		{impl.Simple{1, 2, 0}, 3, []int64{2}, []int64{1}},
		{impl.Simple{1, 0, 3, 2}, 4, []int64{1, 3}, []int64{1, 3}},
		{impl.Simple{1, 3, 0, 2}, 4, []int64{2}, []int64{1, 3}},
		{impl.Simple{2, 0, 3, 1}, 4, []int64{1, 3}, []int64{2}},
		{impl.Simple{7, 6, 5, 4, 3, 2, 1, 0}, 8, []int64{1, 2, 3, 4, 5, 6, 7}, []int64{1, 2, 3, 4, 5, 6, 7}},
	}
	for _, c := range cases {
		got, code := impl.BeginningLetters(c.s, c.n)
		checkList(t, "BeginningLetters", got, code, c.begins)
		got, code = impl.EndingLetters(c.s, c.n)
		checkList(t, "EndingLetters", got, code, c.ends)
	}
}

// TestLettersShortenFromTheirSide takes each letter away: only one that begins, or ends, what it is
// taken from makes it shorter.
func TestLettersShortenFromTheirSide(t *testing.T) {
	for n := int64(1); n <= 8; n++ {
		for _, s := range sampleSimples(n, 30) {
			var begins, ends []int64
			for i := int64(1); i < n; i++ {
				letter := plainLetter(i, n)
				if plainShort(letter, plainThen(letter, s, n), n) {
					begins = append(begins, i)
				}
				if plainShort(plainThen(s, letter, n), letter, n) {
					ends = append(ends, i)
				}
			}
			got, code := impl.BeginningLetters(s, n)
			checkList(t, "BeginningLetters", got, code, begins)
			got, code = impl.EndingLetters(s, n)
			checkList(t, "EndingLetters", got, code, ends)
		}
	}
}

func TestExamplesOfTheLattice(t *testing.T) {
	one, two := impl.Simple{1, 0, 2}, impl.Simple{0, 2, 1}
	fine, half := impl.Simple{0, 1, 2}, impl.Simple{2, 1, 0}
	got, code := impl.JoinOf(one, two, 3)
	checkSimple(t, "JoinOf two exchanges", got, code, half)
	got, code = impl.MeetOf(one, two, 3)
	checkSimple(t, "MeetOf two exchanges", got, code, fine)
	got, code = impl.MeetOf(impl.Simple{2, 0, 1}, one, 3)
	checkSimple(t, "MeetOf with a beginning", got, code, one)
	got, code = impl.MeetOf(impl.Simple{2, 0, 1}, two, 3)
	checkSimple(t, "MeetOf with an end", got, code, fine)
	got, code = impl.JoinOf(impl.Simple{2, 0, 1}, two, 3)
	checkSimple(t, "JoinOf with an end", got, code, half)
	got, code = impl.JoinOf(plainLetter(1, 8), plainLetter(7, 8), 8)
	checkSimple(t, "JoinOf far exchanges", got, code, impl.Simple{1, 0, 2, 3, 4, 5, 7, 6})
	got, code = impl.MeetOf(impl.Simple{2, 3, 0, 1}, impl.Simple{1, 3, 2, 0}, 4)
	checkSimple(t, "MeetOf", got, code, impl.Simple{0, 3, 1, 2})
	got, code = impl.MeetOf(impl.Simple{1, 3, 0, 2}, impl.Simple{3, 0, 1, 2}, 4)
	checkSimple(t, "MeetOf with a common crossing that nothing begins", got, code, impl.Simple{0, 1, 2, 3})
	yes, code := impl.IsBeginning(one, impl.Simple{2, 0, 1}, 3)
	checkAnswer(t, "IsBeginning of a beginning", yes, code, true)
	yes, code = impl.IsBeginning(two, impl.Simple{2, 0, 1}, 3)
	checkAnswer(t, "IsBeginning of an end", yes, code, false)
	yes, code = impl.IsBeginning(impl.Simple{2, 0, 1}, one, 3)
	checkAnswer(t, "IsBeginning of something longer", yes, code, false)
}

// Promise 2: all meets and joins of at most 4 strands, as the lattice tells them.
func TestMeetsAndJoinsOfFewStrands(t *testing.T) {
	for n := int64(1); n <= 4; n++ {
		l := latticeOf(n)
		for _, a := range l.all {
			for _, b := range l.all {
				yes, code := impl.IsBeginning(a, b, n)
				checkAnswer(t, "IsBeginning", yes, code, l.begins[[2]impl.Simple{a, b}])
				meet := l.best(t, 1, func(c impl.Simple) bool {
					return l.begins[[2]impl.Simple{c, a}] && l.begins[[2]impl.Simple{c, b}]
				})
				got, code := impl.MeetOf(a, b, n)
				checkSimple(t, "MeetOf", got, code, meet)
				join := l.best(t, -1, func(c impl.Simple) bool {
					return l.begins[[2]impl.Simple{a, c}] && l.begins[[2]impl.Simple{b, c}]
				})
				got, code = impl.JoinOf(a, b, n)
				checkSimple(t, "JoinOf", got, code, join)
			}
		}
	}
}

// Promise 2: with 5 strands, each common beginning is one of the meet, and the join begins what
// both begin.
func TestMeetsAndJoinsOfFiveStrands(t *testing.T) {
	l := latticeOf(5)
	list := sampleSimples(5, 12)
	for _, a := range list {
		for _, b := range list {
			meet := must[impl.Simple](t)(impl.MeetOf(a, b, 5))
			join := must[impl.Simple](t)(impl.JoinOf(a, b, 5))
			for _, c := range l.all {
				below := l.begins[[2]impl.Simple{c, a}] && l.begins[[2]impl.Simple{c, b}]
				above := l.begins[[2]impl.Simple{a, c}] && l.begins[[2]impl.Simple{b, c}]
				if below != l.begins[[2]impl.Simple{c, meet}] || above != l.begins[[2]impl.Simple{join, c}] {
					t.Fatalf("%v and %v: meet %v, join %v", a, b, meet, join)
				}
			}
		}
	}
}

// plainBegins tells a beginning by its rest: b is a then what leads back from a to b.
func plainBegins(a, b impl.Simple, n int64) bool {
	var rest impl.Simple
	for x := range n {
		rest[a[x]] = b[x]
	}
	return plainShort(a, rest, n)
}

// Promise 2: with more strands, meets and joins cannot be made longer or shorter by a letter,
// which makes them those of the lattice.
func TestMeetsAndJoinsOfManyStrands(t *testing.T) {
	for n := int64(6); n <= 8; n++ {
		list := sampleSimples(n, 30)
		for _, a := range list {
			for _, b := range list {
				meet := must[impl.Simple](t)(impl.MeetOf(a, b, n))
				join := must[impl.Simple](t)(impl.JoinOf(a, b, n))
				good := plainBegins(meet, a, n) && plainBegins(meet, b, n) &&
					plainBegins(a, join, n) && plainBegins(b, join, n)
				for i := int64(1); i < n; i++ {
					longer := plainThen(meet, plainLetter(i, n), n)
					if plainBegins(meet, longer, n) && plainBegins(longer, a, n) && plainBegins(longer, b, n) {
						good = false
					}
					shorter := plainThen(join, plainLetter(i, n), n)
					if plainBegins(shorter, join, n) && plainBegins(a, shorter, n) && plainBegins(b, shorter, n) {
						good = false
					}
				}
				if !good {
					t.Fatalf("%v and %v: meet %v, join %v", a, b, meet, join)
				}
				got, code := impl.IsBeginning(a, b, n)
				checkAnswer(t, "IsBeginning", got, code, plainBegins(a, b, n))
			}
		}
	}
}

// Promise 2: the laws of a lattice.
func TestLawsOfTheLattice(t *testing.T) {
	for n := int64(1); n <= 8; n++ {
		list := sampleSimples(n, 8)
		fine, half := plainNothing(n), plainHalf(n)
		for at, a := range list {
			meet := func(a, b impl.Simple) impl.Simple { return must[impl.Simple](t)(impl.MeetOf(a, b, n)) }
			join := func(a, b impl.Simple) impl.Simple { return must[impl.Simple](t)(impl.JoinOf(a, b, n)) }
			if meet(a, a) != a || join(a, a) != a || meet(a, fine) != fine || join(a, fine) != a ||
				meet(a, half) != a || join(a, half) != half {
				t.Fatalf("%v of %d strands: meets or joins with itself, nothing or the half turn", a, n)
			}
			for _, b := range list {
				c := list[(at+5)%len(list)]
				if meet(a, b) != meet(b, a) || join(a, b) != join(b, a) ||
					meet(a, join(a, b)) != a || join(a, meet(a, b)) != a ||
					meet(a, meet(b, c)) != meet(meet(a, b), c) || join(a, join(b, c)) != join(join(a, b), c) {
					t.Fatalf("%v, %v and %v of %d strands break a law", a, b, c, n)
				}
			}
		}
	}
}

func TestExamplesOfComplements(t *testing.T) {
	cases := []struct {
		s                       impl.Simple
		n                       int64
		complement, left, turns impl.Simple
	}{
		{impl.Simple{}, 1, impl.Simple{}, impl.Simple{}, impl.Simple{}},
		{impl.Simple{1, 0}, 2, impl.Simple{0, 1}, impl.Simple{0, 1}, impl.Simple{1, 0}},
		{impl.Simple{1, 0, 2}, 3, impl.Simple{1, 2, 0}, impl.Simple{2, 0, 1}, impl.Simple{0, 2, 1}},
		{impl.Simple{0, 1, 2}, 3, impl.Simple{2, 1, 0}, impl.Simple{2, 1, 0}, impl.Simple{0, 1, 2}},
		{impl.Simple{1, 2, 0}, 3, impl.Simple{0, 2, 1}, impl.Simple{1, 0, 2}, impl.Simple{2, 0, 1}},
		{impl.Simple{1, 2, 3, 0}, 4, impl.Simple{0, 3, 2, 1}, impl.Simple{2, 1, 0, 3}, impl.Simple{3, 0, 1, 2}},
	}
	for _, c := range cases {
		got, code := impl.ComplementOf(c.s, c.n)
		checkSimple(t, "ComplementOf", got, code, c.complement)
		got, code = impl.LeftComplementOf(c.s, c.n)
		checkSimple(t, "LeftComplementOf", got, code, c.left)
		got, code = impl.TurnOf(c.s, c.n)
		checkSimple(t, "TurnOf", got, code, c.turns)
	}
}

// Promise 2: complements of complements are turns, and complements undo left complements.
func TestComplementsOfComplementsAreTurns(t *testing.T) {
	for n := int64(1); n <= 8; n++ {
		list := sampleSimples(n, 40)
		if n <= 5 {
			list = permutations(int(n))
		}
		for _, s := range list {
			checkComplements(t, s, n)
		}
	}
}

func checkComplements(t *testing.T, s impl.Simple, n int64) {
	t.Helper()
	half := plainHalf(n)
	right := must[impl.Simple](t)(impl.ComplementOf(s, n))
	left := must[impl.Simple](t)(impl.LeftComplementOf(s, n))
	turn := must[impl.Simple](t)(impl.TurnOf(s, n))
	if plainThen(s, right, n) != half || plainThen(left, s, n) != half {
		t.Fatalf("%v of %d strands: complements %v and %v", s, n, right, left)
	}
	if plainLength(s, n)+plainLength(right, n) != n*(n-1)/2 || plainLength(left, n) != plainLength(right, n) {
		t.Fatalf("%v of %d strands: lengths of the complements %v and %v", s, n, right, left)
	}
	for x := range n {
		if int64(turn[n-1-x]) != n-1-int64(s[x]) {
			t.Fatalf("%v of %d strands: turn %v", s, n, turn)
		}
	}
	got, code := impl.ComplementOf(right, n)
	checkSimple(t, "ComplementOf a complement", got, code, turn)
	got, code = impl.LeftComplementOf(left, n)
	checkSimple(t, "LeftComplementOf a left complement", got, code, turn)
	got, code = impl.LeftComplementOf(right, n)
	checkSimple(t, "LeftComplementOf a complement", got, code, s)
	got, code = impl.ComplementOf(left, n)
	checkSimple(t, "ComplementOf a left complement", got, code, s)
	got, code = impl.TurnOf(turn, n)
	checkSimple(t, "TurnOf a turn", got, code, s)
}

func TestWordOfSimple(t *testing.T) {
	cases := []struct {
		s    impl.Simple
		n    int64
		want []int64
	}{
		{impl.Simple{}, 1, nil}, {impl.Simple{0, 1, 2, 3, 4, 5, 6, 7}, 8, nil},
		{impl.Simple{2, 1, 0}, 3, []int64{1, 2, 1}}, {impl.Simple{2, 0, 1}, 3, []int64{1, 2}},
		{impl.Simple{1, 2, 0}, 3, []int64{2, 1}}, {impl.Simple{1, 0, 3, 2}, 4, []int64{1, 3}},
		{impl.Simple{3, 2, 1, 0}, 4, []int64{1, 2, 1, 3, 2, 1}},
		{impl.Simple{0, 3, 2, 1}, 4, []int64{2, 3, 2}},
		{impl.Simple{7, 6, 5, 4, 3, 2, 1, 0}, 8, []int64{1, 2, 1, 3, 2, 1, 4, 3, 2, 1, 5, 4, 3, 2, 1,
			6, 5, 4, 3, 2, 1, 7, 6, 5, 4, 3, 2, 1}},
	}
	for _, c := range cases {
		got, code := impl.WordOfSimple(c.s, c.n)
		checkList(t, "WordOfSimple", got, code, c.want)
	}
}

// leastWords returns for each simple braid of n strands the least list of letters of its length
// that makes it. Lists are made in lexicographic order, so that the first one is the least.
func leastWords(n int64) map[impl.Simple][]int64 {
	least := map[impl.Simple][]int64{}
	var grow func(list []int64, s impl.Simple)
	grow = func(list []int64, s impl.Simple) {
		if plainLength(s, n) != int64(len(list)) {
			return
		}
		if _, known := least[s]; !known {
			least[s] = slices.Clone(list)
		}
		for i := int64(1); i < n; i++ {
			grow(append(list, i), plainThen(s, plainLetter(i, n), n))
		}
	}
	grow(nil, plainNothing(n))
	return least
}

func TestWordsOfSimplesAreTheLeastOnes(t *testing.T) {
	for n := int64(1); n <= 5; n++ {
		words := leastWords(n)
		if len(words) != len(permutations(int(n))) {
			t.Fatalf("%d words of %d strands", len(words), n)
		}
		for s, want := range words {
			got, code := impl.WordOfSimple(s, n)
			checkList(t, "WordOfSimple", got, code, want)
		}
	}
}

// TestWordsMakeTheirSimples takes words of simple braids as braids, too: these have the same ends,
// and two strands cross at most once, and positively.
func TestWordsMakeTheirSimples(t *testing.T) {
	for n := int64(1); n <= 8; n++ {
		for _, s := range sampleSimples(n, 40) {
			word := must[[]int64](t)(impl.WordOfSimple(s, n))
			got, code := impl.SimpleOfWord(word, n)
			checkSimple(t, "SimpleOfWord of WordOfSimple", got, code, s)
			for x, end := range must[[]int64](t)(impl.EndsOf(braid(n, word...))) {
				if end != int64(s[x]) {
					t.Errorf("the word %v of %v leads %d to %d", word, s, x, end)
				}
			}
			for x, row := range must[[][]int64](t)(impl.CrossingsOf(braid(n, word...))) {
				for y, sum := range row {
					if crosses := (x < y) != (s[x] < s[y]); (sum == 1) != crosses || sum < 0 || sum > 1 {
						t.Errorf("the word %v of %v crosses %d and %d with the sum %d", word, s, x, y, sum)
					}
				}
			}
		}
	}
}

func TestSimpleOfWord(t *testing.T) {
	cases := []struct {
		list []int64
		n    int64
		want impl.Simple
	}{
		{nil, 1, impl.Simple{}}, {[]int64{}, 3, impl.Simple{0, 1, 2}},
		{[]int64{1, 2}, 3, impl.Simple{2, 0, 1}}, {[]int64{2, 1}, 3, impl.Simple{1, 2, 0}},
		{[]int64{1, 2, 1}, 3, impl.Simple{2, 1, 0}}, {[]int64{2, 1, 2}, 3, impl.Simple{2, 1, 0}},
		{[]int64{3, 1}, 4, impl.Simple{1, 0, 3, 2}}, {[]int64{7}, 8, impl.Simple{0, 1, 2, 3, 4, 5, 7, 6}},
	}
	for _, c := range cases {
		got, code := impl.SimpleOfWord(c.list, c.n)
		checkSimple(t, "SimpleOfWord", got, code, c.want)
	}
	for n := int64(1); n <= 8; n++ {
		half := must[impl.Braid](t)(impl.HalfTurnBraid(n))
		got, code := impl.SimpleOfWord(half.Letters, n)
		checkSimple(t, "SimpleOfWord of the half turn", got, code, plainHalf(n))
		for i := int64(1); i < n; i++ {
			got, code = impl.SimpleOfWord(append(slices.Clone(half.Letters), i), n)
			checkNoSimple(t, "SimpleOfWord of more than the half turn", got, code, impl.ErrState)
		}
	}
}

func TestSimpleOfWordRefuses(t *testing.T) {
	long := slices.Repeat([]int64{1}, 100000)
	cases := []struct {
		name string
		list []int64
		n    int64
		want int64
	}{
		{"no strands", nil, 0, impl.ErrRange},
		{"less than no strands", nil, -1, impl.ErrRange},
		{"a strand too many", nil, 9, impl.ErrRange},
		{"the fewest strands", []int64{1}, math.MinInt64, impl.ErrRange},
		{"the most strands", []int64{1, 1}, math.MaxInt64, impl.ErrRange},
		{"too many strands, and not short", []int64{1, 1}, 9, impl.ErrRange},
		{"the letter 0", []int64{1, 0}, 3, impl.ErrRange},
		{"a letter of one strand", []int64{1}, 1, impl.ErrRange},
		{"a letter too great by one", []int64{3}, 3, impl.ErrRange},
		{"8 in 8 strands", []int64{8}, 8, impl.ErrRange},
		{"an inverse letter", []int64{-1}, 3, impl.ErrRange},
		{"the least letter", []int64{math.MinInt64}, 8, impl.ErrRange},
		{"the greatest letter", []int64{math.MaxInt64}, 8, impl.ErrRange},
		{"a letter that a byte cuts", []int64{257}, 3, impl.ErrRange},
		{"not short, and then no letter", []int64{1, 1, 3}, 3, impl.ErrRange},
		{"no letter, and then not short", []int64{0, 1, 1}, 3, impl.ErrRange},
		{"a long list, and then no letter", append(slices.Clone(long), 4), 4, impl.ErrRange},
		{"a letter twice", []int64{1, 1}, 2, impl.ErrState},
		{"strands that cross again", []int64{1, 2, 1, 2}, 3, impl.ErrState},
		{"strands that cross again later", []int64{2, 1, 3, 3}, 4, impl.ErrState},
		{"a long list", long, 4, impl.ErrState},
		{"a list that leads back", []int64{1, 2, 2, 1}, 3, impl.ErrState},
	}
	for _, c := range cases {
		got, code := impl.SimpleOfWord(c.list, c.n)
		checkNoSimple(t, "SimpleOfWord of "+c.name, got, code, c.want)
	}
}

func TestSimplesKeepNothing(t *testing.T) {
	s := impl.Simple{3, 0, 2, 1}
	for name, call := range simpleListFunctions() {
		first := must[[]int64](t)(call(s, 4))
		want := slices.Clone(first)
		scribble(first)
		got, code := call(s, 4)
		checkList(t, name+" after its first result was written over", got, code, want)
	}
	b, untouched := guarded(braid(4, 1, 2, 3, 2))
	for range 2 {
		got, code := impl.SimpleOfWord(b.Letters, 4)
		checkSimple(t, "SimpleOfWord", got, code, impl.Simple{3, 0, 2, 1})
	}
	if !untouched() {
		t.Errorf("SimpleOfWord changes its argument")
	}
	b, untouched = guarded(braid(4, 1, 1))
	impl.SimpleOfWord(b.Letters, 4)
	impl.SimpleOfWord(b.Letters, 1)
	if !untouched() {
		t.Errorf("SimpleOfWord changes an argument that it refuses")
	}
}
