package tests

import (
	"maps"
	"math/rand"
	"slices"
	"strings"
	"sync"
	"testing"

	"loop.example/g01205/impl"
)

func sameNormals(a, b []impl.Normal) bool { return slices.EqualFunc(a, b, sameNormal) }

func checkSet(t *testing.T, name string, got []impl.Normal, code int64, want []impl.Normal) {
	t.Helper()
	if code != impl.ErrNone || !sameNormals(got, want) {
		t.Errorf("%s = %v, code %d, want %v", name, got, code, want)
	}
}

func checkNoSet(t *testing.T, name string, got []impl.Normal, code, want int64) {
	t.Helper()
	if code != want || len(got) != 0 {
		t.Errorf("%s = %v, code %d, want nothing and code %d", name, got, code, want)
	}
}

// stepFunctions has what makes a conjugate of one normal form.
func stepFunctions() map[string]func(a impl.Normal) (impl.Normal, int64) {
	return map[string]func(a impl.Normal) (impl.Normal, int64){
		"CyclingOf":   impl.CyclingOf,
		"DecyclingOf": impl.DecyclingOf,
		"SlidingOf":   impl.SlidingOf,
		"SummitOf":    impl.SummitOf,
	}
}

func setFunctions() map[string]func(a impl.Normal) ([]impl.Normal, int64) {
	return map[string]func(a impl.Normal) ([]impl.Normal, int64){
		"SuperSummit": impl.SuperSummit,
		"UltraSummit": impl.UltraSummit,
	}
}

func kindFunctions() map[string]func(a impl.Normal) (bool, int64) {
	return map[string]func(a impl.Normal) (bool, int64){
		"IsCentral":  impl.IsCentral,
		"IsPeriodic": impl.IsPeriodic,
	}
}

func conjugateOf(t *testing.T, a, b impl.Normal) impl.Normal {
	t.Helper()
	return must[impl.Normal](t)(impl.ConjugateBy(a, b))
}

func lengthsOfSummit(t *testing.T, a impl.Normal) []int64 {
	t.Helper()
	return must[[]int64](t)(impl.SummitLengths(a))
}

// conjugateWord returns the letters of the inverse of c, of b, and of c.
func conjugateWord(t *testing.T, b, c impl.Braid) impl.Braid {
	t.Helper()
	inverse := must[impl.Braid](t)(impl.InverseOf(c))
	return braid(b.Strands, slices.Concat(inverse.Letters, b.Letters, c.Letters)...)
}

// repeatedWord returns a braid with count times the one and then times times the other letters.
func repeatedWord(strands int64, one []int64, count int, other []int64, times int) impl.Braid {
	return braid(strands, slices.Concat(slices.Repeat(one, count), slices.Repeat(other, times))...)
}

// differentNormals returns the normal forms of all words of so many strands with at most count
// letters, each one once.
func differentNormals(t *testing.T, strands int64, count int) []impl.Normal {
	t.Helper()
	known := map[string]bool{}
	var list []impl.Normal
	for _, b := range braidsOfLetters(strands, count) {
		a := normalOf(t, b)
		if !known[normalText(a)] {
			known[normalText(a)] = true
			list = append(list, a)
		}
	}
	return list
}

func TestConstantsOfSummits(t *testing.T) {
	if impl.MaxSummit != 120 || impl.SmallCount != 4 {
		t.Errorf("MaxSummit = %d, SmallCount = %d", impl.MaxSummit, impl.SmallCount)
	}
}

func TestNothingIsConjugateToWhatIsNotNormal(t *testing.T) {
	for name, a := range notNormals() {
		for function, call := range stepFunctions() {
			got, code := call(a)
			checkNoNormal(t, function+" of "+name, got, code, impl.ErrInvalid)
		}
		for function, call := range setFunctions() {
			got, code := call(a)
			checkNoSet(t, function+" of "+name, got, code, impl.ErrInvalid)
		}
		for function, call := range kindFunctions() {
			got, code := call(a)
			checkNoAnswer(t, function+" of "+name, got, code, impl.ErrInvalid)
		}
		if got, code := impl.SummitLengths(a); code != impl.ErrInvalid || len(got) != 0 {
			t.Errorf("SummitLengths of %s = %v, code %d", name, got, code)
		}
		// The other normal form has too many strands, or mostly others, which are later errors.
		good := normal(5, -1, plainLetter(2, 5))
		for _, pair := range [][2]impl.Normal{{a, good}, {good, a}, {a, a}, {a, normal(3, 0)}, {normal(3, 0), a}} {
			got, code := impl.ConjugateBy(pair[0], pair[1])
			checkNoNormal(t, "ConjugateBy of "+name, got, code, impl.ErrInvalid)
			yes, code := impl.AreConjugate(pair[0], pair[1])
			checkNoAnswer(t, "AreConjugate of "+name, yes, code, impl.ErrInvalid)
		}
	}
}

func TestStrandsOfConjugatesAreEqual(t *testing.T) {
	// Some pairs exceed the limits, too, which is a later error.
	pairs := [][2]impl.Normal{{normal(1, 0), normal(2, 0)}, {normal(3, 0), normal(4, 0)}, {normal(4, 0), normal(3, 0)},
		{normal(4, 1), normal(5, 1)}, {normal(5, 1), normal(4, 1)}, {normal(8, 0), normal(7, 0)},
		{normal(2, -200), normal(3, 200)}, {longNormal(3, 0, 200), longNormal(4, 0, 200)}}
	for _, pair := range pairs {
		got, code := impl.ConjugateBy(pair[0], pair[1])
		checkNoNormal(t, "ConjugateBy with other strands", got, code, impl.ErrRange)
		yes, code := impl.AreConjugate(pair[0], pair[1])
		checkNoAnswer(t, "AreConjugate with other strands", yes, code, impl.ErrRange)
	}
}

func TestSummitSetsHaveFewStrands(t *testing.T) {
	for n := int64(1); n <= 8; n++ {
		list := []impl.Normal{normal(n, 0), randomNormals(t, 3)[0]}
		if n > 2 {
			list = []impl.Normal{normal(n, 0), normal(n, 200), longNormal(n, 0, 1), longNormal(n, 200, 200)}
		}
		for _, a := range list {
			if n > 4 {
				for name, call := range setFunctions() {
					got, code := call(a)
					checkNoSet(t, name, got, code, impl.ErrRange)
				}
				for _, b := range list {
					yes, code := impl.AreConjugate(a, b)
					checkNoAnswer(t, "AreConjugate", yes, code, impl.ErrRange)
				}
				continue
			}
			for name, call := range setFunctions() {
				if got, code := call(a); code != impl.ErrNone || len(got) == 0 {
					t.Errorf("%s(%v) = %v, code %d", name, a, got, code)
				}
			}
			yes, code := impl.AreConjugate(a, a)
			checkAnswer(t, "AreConjugate", yes, code, true)
		}
	}
	// Beyond the limits, and with too many strands, which is the earlier error.
	for name, call := range setFunctions() {
		got, code := call(normal(5, 200, impl.Simple{4, 3, 2, 0, 1}, impl.Simple{0, 1, 2, 4, 3}))
		checkNoSet(t, name, got, code, impl.ErrRange)
	}
}

func TestConjugateBy(t *testing.T) {
	one, two := plainLetter(1, 3), plainLetter(2, 3)
	both, turn := impl.Simple{2, 0, 1}, impl.Simple{1, 2, 0}
	cases := []struct{ a, b, want impl.Normal }{
		{normal(1, 0), normal(1, 0), normal(1, 0)}, {normal(2, 7), normal(2, -3), normal(2, 7)},
		{normal(3, 0), normal(3, 5, one), normal(3, 0)}, {normal(3, 2), normal(3, 0, one, one), normal(3, 2)},
		{normal(3, 0, one), normal(3, 0), normal(3, 0, one)}, {normal(3, 0, one), normal(3, 1), normal(3, 0, two)},
		{normal(3, 0, one), normal(3, -1), normal(3, 0, two)}, {normal(3, 0, one), normal(3, 2), normal(3, 0, one)},
		{normal(3, 0, one), normal(3, 0, one), normal(3, 0, one)},
		{normal(3, 0, one), normal(3, 0, both), normal(3, -1, turn, both)},
		{normal(3, 0, one), normal(3, 0, turn), normal(3, 0, two)},
		{normal(3, 0, both), normal(3, 0, one), normal(3, 0, turn)},
		{normal(3, 1), normal(3, 0, one), normal(3, 0, turn, one)},
		{longNormal(8, 0, 3), normal(8, 1), normal(8, 0, plainLetter(7, 8), plainLetter(7, 8), plainLetter(7, 8))},
	}
	for _, c := range cases {
		got, code := impl.ConjugateBy(c.a, c.b)
		checkNormal(t, "ConjugateBy", got, code, c.want)
	}
}

// TestConjugatesAreThoseOfTheWords also goes back by the inverse.
func TestConjugatesAreThoseOfTheWords(t *testing.T) {
	source := rand.New(rand.NewSource(11))
	for _, b := range randomBraids(60) {
		c := randomBraid(source, b.Strands, source.Intn(60))
		a, by := normalOf(t, b), normalOf(t, c)
		got, code := impl.ConjugateBy(a, by)
		checkNormal(t, "ConjugateBy", got, code, normalOf(t, conjugateWord(t, b, c)))
		back, code := impl.ConjugateBy(got, inverseOf(t, by))
		checkNormal(t, "ConjugateBy the inverse", back, code, a)
	}
}

func TestConjugatesWithinTheLimits(t *testing.T) {
	one, two := plainLetter(1, 3), plainLetter(2, 3)
	both, turn := impl.Simple{2, 0, 1}, impl.Simple{1, 2, 0}
	longest := normal(3, -1, slices.Concat([]impl.Simple{turn}, slices.Repeat([]impl.Simple{one}, 198), []impl.Simple{both})...)
	ahead := normal(3, 0, append(slices.Repeat([]impl.Simple{one}, 99), both)...)
	good := []struct{ a, b, want impl.Normal }{
		{normal(2, -199), normal(2, 1), normal(2, -199)}, {normal(2, 199), normal(2, -1), normal(2, 199)},
		{normal(2, 200), normal(2, 200), normal(2, 200)}, {normal(2, -200), normal(2, -200), normal(2, -200)},
		{normal(2, 0), normal(2, 200), normal(2, 0)}, {normal(2, 0), normal(2, -200), normal(2, 0)},
		{longNormal(3, 0, 199), normal(3, 0, two), longest}, {longNormal(3, 0, 199), ahead, longest},
		{longNormal(3, 0, 200), longNormal(3, 0, 200), longNormal(3, 0, 200)},
		{normal(3, 198, turn, one), normal(3, 0, turn), normal(3, 199)},
		// Of these the inverse of b exceeds the limits, but not its product with a.
		{longNormal(3, 1, 200), longNormal(3, 1, 200), longNormal(3, 1, 200)},
		{longNormal(8, 200, 200), longNormal(8, 200, 200), longNormal(8, 200, 200)},
	}
	for _, c := range good {
		got, code := impl.ConjugateBy(c.a, c.b)
		checkNormal(t, "ConjugateBy", got, code, c.want)
	}
	beyond := []struct{ a, b impl.Normal }{
		// The product with the inverse, though not the conjugate.
		{normal(2, -200), normal(2, 1)}, {normal(2, 200), normal(2, -1)}, {normal(2, -1), normal(2, 200)},
		{normal(2, 1), normal(2, -200)}, {longNormal(3, 0, 200), normal(3, -1, both)},
		{normal(3, 0), longNormal(3, 1, 200)}, {normal(8, -200), longNormal(8, 0, 1)},
		// The conjugate, though not the product with the inverse.
		{longNormal(3, 0, 200), ahead}, {normal(3, 200, turn, one), normal(3, 0, turn)},
		// Both of them.
		{longNormal(3, 0, 200), normal(3, 0, two)}, {longNormal(3, -200, 5), normal(3, 0, two)},
		{longNormal(8, 200, 200), longNormal(8, -200, 200)},
	}
	for _, c := range beyond {
		got, code := impl.ConjugateBy(c.a, c.b)
		checkNoNormal(t, "ConjugateBy", got, code, impl.ErrLimit)
	}
}

// simpleNormal returns the normal form of a simple braid.
func simpleNormal(t *testing.T, s impl.Simple, n int64) impl.Normal {
	t.Helper()
	return normalOf(t, braid(n, plainSimpleWord(s, n)...))
}

// plainParts returns the first and the last part.
func plainParts(a impl.Normal) (impl.Simple, impl.Simple) {
	n := a.Strands
	first := a.Factors[0]
	if a.Power%2 != 0 {
		first = plainThen(plainThen(plainHalf(n), first, n), plainHalf(n), n)
	}
	return first, a.Factors[len(a.Factors)-1]
}

func TestExamplesOfSteps(t *testing.T) {
	one, two := plainLetter(1, 3), plainLetter(2, 3)
	both, turn := impl.Simple{2, 0, 1}, impl.Simple{1, 2, 0}
	cases := []struct{ a, cycled, decycled, slid impl.Normal }{
		{normal(1, 0), normal(1, 0), normal(1, 0), normal(1, 0)},
		{normal(2, -200), normal(2, -200), normal(2, -200), normal(2, -200)},
		{normal(8, 3), normal(8, 3), normal(8, 3), normal(8, 3)},
		{normal(3, 0, one), normal(3, 0, one), normal(3, 0, one), normal(3, 0, one)},
		{normal(3, 1, one), normal(3, 1, two), normal(3, 1, two), normal(3, 1, two)},
		{normal(3, -1, both), normal(3, -1, turn), normal(3, -1, turn), normal(3, -1, both)},
		{normal(3, 0, both, two), normal(3, 1), normal(3, 1), normal(3, 1)},
		{normal(3, 0, one, both), normal(3, 1), normal(3, 1), normal(3, 1)},
		{normal(3, 1, both, two), normal(3, 1, two, turn), normal(3, 1, one, both), normal(3, 1, both, two)},
		{normal(3, 1, turn, both), normal(3, 2, two), normal(3, 2, one), normal(3, 2, two)},
	}
	for _, c := range cases {
		got, code := impl.CyclingOf(c.a)
		checkNormal(t, "CyclingOf", got, code, c.cycled)
		got, code = impl.DecyclingOf(c.a)
		checkNormal(t, "DecyclingOf", got, code, c.decycled)
		got, code = impl.SlidingOf(c.a)
		checkNormal(t, "SlidingOf", got, code, c.slid)
	}
}

// TestStepsConjugateByParts compares the steps with products, and slides by the longest common
// beginning.
func TestStepsConjugateByParts(t *testing.T) {
	list := append(randomNormals(t, 60), differentNormals(t, 3, 5)...)
	for _, a := range append(list, differentNormals(t, 4, 3)...) {
		n := a.Strands
		cycled, decycled, slid := a, a, a
		if len(a.Factors) > 0 {
			first, last := plainParts(a)
			by := simpleNormal(t, first, n)
			cycled = productOf(t, inverseOf(t, by), a, by)
			by = inverseOf(t, simpleNormal(t, last, n))
			decycled = productOf(t, inverseOf(t, by), a, by)
			complement := must[impl.Simple](t)(impl.ComplementOf(last, n))
			by = simpleNormal(t, must[impl.Simple](t)(impl.MeetOf(first, complement, n)), n)
			slid = productOf(t, inverseOf(t, by), a, by)
		}
		got, code := impl.CyclingOf(a)
		checkNormal(t, "CyclingOf", got, code, cycled)
		got, code = impl.DecyclingOf(a)
		checkNormal(t, "DecyclingOf", got, code, decycled)
		got, code = impl.SlidingOf(a)
		checkNormal(t, "SlidingOf", got, code, slid)
	}
}

func TestStepsWithinTheLimits(t *testing.T) {
	one, two := plainLetter(1, 3), plainLetter(2, 3)
	both, turn := impl.Simple{2, 0, 1}, impl.Simple{1, 2, 0}
	cases := []struct {
		name    string
		a, want impl.Normal
	}{
		{"CyclingOf", normal(3, 199, turn, both), normal(3, 200, two)},
		{"DecyclingOf", normal(3, 199, turn, both), normal(3, 200, one)},
		{"SlidingOf", normal(3, 199, turn, both), normal(3, 200, two)},
		{"SummitOf", normal(3, 199, turn, both), normal(3, 200, two)},
	}
	for _, c := range cases {
		call := stepFunctions()[c.name]
		got, code := call(c.a)
		checkNormal(t, c.name, got, code, c.want)
		got, code = call(normal(3, 198, turn, one))
		checkNormal(t, c.name, got, code, normal(3, 199))
		got, code = call(normal(3, 200, turn, one))
		checkNoNormal(t, c.name, got, code, impl.ErrLimit)
		for _, a := range []impl.Normal{normal(8, 200), normal(8, -200), longNormal(8, 200, 200), longNormal(8, -200, 200)} {
			got, code = call(a)
			checkNormal(t, c.name, got, code, a)
		}
	}
}

// plainSummit cycles and decycles as often as the document says.
func plainSummit(t *testing.T, a impl.Normal) impl.Normal {
	t.Helper()
	steps := a.Strands * (a.Strands - 1) / 2
anew:
	for {
		b := a
		for range steps {
			next := must[impl.Normal](t)(impl.CyclingOf(b))
			if next.Power > b.Power {
				a = next
				continue anew
			}
			b = next
		}
		b = a
		for range steps {
			next := must[impl.Normal](t)(impl.DecyclingOf(b))
			if greatestPower(t, next) < greatestPower(t, b) {
				a = next
				continue anew
			}
			b = next
		}
		return a
	}
}

func TestSummitOf(t *testing.T) {
	one, two := plainLetter(1, 3), plainLetter(2, 3)
	both, turn := impl.Simple{2, 0, 1}, impl.Simple{1, 2, 0}
	cases := []struct{ a, want impl.Normal }{
		{normal(1, 0), normal(1, 0)}, {normal(2, -7), normal(2, -7)}, {normal(8, 1), normal(8, 1)},
		{normal(3, 0, one), normal(3, 0, one)}, {normal(3, 0, two), normal(3, 0, two)},
		{normal(3, 1, one), normal(3, 1, one)}, {normal(3, -1, turn), normal(3, -1, turn)},
		{normal(3, 0, both, two), normal(3, 1)}, {normal(3, 1, turn, both), normal(3, 2, two)},
		{normal(3, -1, turn, both), normal(3, 0, two)}, {normal(3, 1, both, two), normal(3, 1, both, two)},
	}
	for _, c := range cases {
		got, code := impl.SummitOf(c.a)
		checkNormal(t, "SummitOf", got, code, c.want)
		lengths, code := impl.SummitLengths(c.a)
		checkList(t, "SummitLengths", lengths, code, []int64{c.want.Power, int64(len(c.want.Factors))})
	}
	list := append(randomNormals(t, 60), differentNormals(t, 4, 3)...)
	source := rand.New(rand.NewSource(12))
	for _, b := range randomBraids(10) {
		list = append(list, normalOf(t, conjugateWord(t, b, randomBraid(source, b.Strands, 40))))
	}
	for _, a := range list {
		want := plainSummit(t, a)
		got, code := impl.SummitOf(a)
		checkNormal(t, "SummitOf", got, code, want)
		lengths, code := impl.SummitLengths(a)
		checkList(t, "SummitLengths", lengths, code, []int64{want.Power, int64(len(want.Factors))})
	}
}

// slidingLengths returns the power and the number of factors where sliding goes round. This leads to
// the super summit set, too.
func slidingLengths(t *testing.T, a impl.Normal) []int64 {
	t.Helper()
	known := map[string]bool{}
	for !known[normalText(a)] {
		known[normalText(a)] = true
		a = must[impl.Normal](t)(impl.SlidingOf(a))
	}
	return []int64{a.Power, int64(len(a.Factors))}
}

// Each of these words takes more than 3 steps of cycling or decycling until its lengths become
// better, and some take 6 or 7.
func TestSummitLengthsBehindManySteps(t *testing.T) {
	var list []impl.Normal
	for _, text := range []string{"5: 3 4 2 1 2 3 3 1 2 3 4", "5: 1 2 3 4 2 1 2 1 1", "6: 5 1 -4 2 -4 5 4 3",
		"6: 3 2 5 4 3 2 2 3 3 4 1 3 4 1 3 2 4 4", "7: -2 1 2 6 3 4 5", "7: 1 3 4 1 2 5 -1 6 -1",
		"7: 3 6 4 2 3 5 3 3 2 3 1 1 4 2 6 1", "8: 6 2 1 3 5 6 7 1 4 1 4 5", "8: -2 1 6 7 1 6 2 4 3 1 5 -6",
		"8: 1 3 -3 3 6 -1 7 -3 2 1 2 -2 1 4 -6 5 7 2 3 -1 -2 -1"} {
		list = append(list, normalOf(t, must[impl.Braid](t)(impl.ParseBraid(text))))
	}
	list = append(list, randomNormals(t, 20)...)
	source := rand.New(rand.NewSource(17))
	for _, b := range randomBraids(8) {
		list = append(list, normalOf(t, conjugateWord(t, b, randomBraid(source, b.Strands, 12))))
	}
	for _, a := range list {
		lengths, code := impl.SummitLengths(a)
		checkList(t, "SummitLengths", lengths, code, slidingLengths(t, a))
	}
}

// farConjugate returns a conjugate of the half turn, taken power times, if this is odd. Its power is
// less by 40.
func farConjugate(t *testing.T, power int64) impl.Normal {
	t.Helper()
	a := normalOf(t, repeatedWord(3, []int64{-1}, 40, []int64{2}, 40))
	if a.Power != -40 || len(a.Factors) != 80 {
		t.Fatalf("40 letters -1 and 40 letters 2 have the normal form %v", a)
	}
	a.Power += power
	return a
}

func TestSummitsBeyondTheLimits(t *testing.T) {
	turn, one := impl.Simple{1, 2, 0}, plainLetter(1, 3)
	cases := []struct {
		a    impl.Normal
		want int64
	}{
		{normal(3, 200, turn, one), 201}, {farConjugate(t, 239), 239}, {farConjugate(t, 201), 201},
	}
	for _, c := range cases {
		lengths, code := impl.SummitLengths(c.a)
		checkList(t, "SummitLengths", lengths, code, []int64{c.want, 0})
		got, code := impl.SummitOf(c.a)
		checkNoNormal(t, "SummitOf", got, code, impl.ErrLimit)
		for name, call := range setFunctions() {
			set, code := call(c.a)
			checkNoSet(t, name, set, code, impl.ErrLimit)
		}
		for _, other := range cases {
			yes, code := impl.AreConjugate(c.a, other.a)
			checkAnswer(t, "AreConjugate", yes, code, c.want == other.want)
		}
		yes, code := impl.AreConjugate(normal(3, 200), c.a)
		checkAnswer(t, "AreConjugate", yes, code, false)
	}
	a := farConjugate(t, 199)
	got, code := impl.SummitOf(a)
	checkNormal(t, "SummitOf", got, code, normal(3, 199))
	for name, call := range setFunctions() {
		set, code := call(a)
		checkSet(t, name, set, code, []impl.Normal{normal(3, 199)})
		set, code = call(normal(3, 199, turn, impl.Simple{2, 0, 1}))
		checkSet(t, name, set, code, []impl.Normal{normal(3, 200, plainLetter(2, 3)), normal(3, 200, one)})
	}
}

// plainClass returns the conjugates of a to which letters lead, one after the other, as long as the
// powers exceed those of a by at most one. All of its super summit set are among them, as the
// simple braids of cycling, decycling and the ways between summits consist of letters.
func plainClass(t *testing.T, a impl.Normal) []impl.Normal {
	t.Helper()
	var letters []impl.Normal
	for x := 1 - a.Strands; x < a.Strands; x++ {
		if x != 0 {
			letters = append(letters, normalOf(t, braid(a.Strands, x)))
		}
	}
	low, high := a.Power-1, greatestPower(t, a)+1
	known := map[string]bool{normalText(a): true}
	class := []impl.Normal{a}
	for at := 0; at < len(class); at++ {
		for _, letter := range letters {
			b := productOf(t, inverseOf(t, letter), class[at], letter)
			if text := normalText(b); b.Power >= low && greatestPower(t, b) <= high && !known[text] {
				known[text] = true
				class = append(class, b)
			}
		}
	}
	return class
}

// plainSuperSummit returns the summit lengths and the super summit set of a, from its plain class.
func plainSuperSummit(t *testing.T, a impl.Normal) ([]int64, []impl.Normal) {
	t.Helper()
	class := plainClass(t, a)
	low, high := a.Power, greatestPower(t, a)
	for _, b := range class {
		low, high = max(low, b.Power), min(high, greatestPower(t, b))
	}
	set := map[string]impl.Normal{}
	for _, b := range class {
		if b.Power == low && greatestPower(t, b) == high {
			set[normalText(b)] = b
		}
	}
	// The texts have the entries of all factors in order, behind the same power.
	var sorted []impl.Normal
	for _, text := range slices.Sorted(maps.Keys(set)) {
		sorted = append(sorted, set[text])
	}
	return []int64{low, high - low}, sorted
}

// plainUltraSummit returns those to which cycling leads back.
func plainUltraSummit(t *testing.T, set []impl.Normal) []impl.Normal {
	t.Helper()
	var ultra []impl.Normal
	for _, a := range set {
		b := a
		for range set {
			b = must[impl.Normal](t)(impl.CyclingOf(b))
			if sameNormal(a, b) {
				ultra = append(ultra, a)
				break
			}
		}
	}
	return ultra
}

// shortNormals returns the normal forms of short words of 1 to 4 strands.
func shortNormals(t *testing.T) []impl.Normal {
	t.Helper()
	return slices.Concat(differentNormals(t, 1, 0), differentNormals(t, 2, 3), differentNormals(t, 3, 4),
		differentNormals(t, 4, 3))
}

// Promise 4: the sets of short words, and whether these are conjugate, are found without cycling.
func TestSummitSetsOfShortWords(t *testing.T) {
	var representatives []impl.Normal
	classes := map[string]string{}
	for _, a := range shortNormals(t) {
		lengths, set := plainSuperSummit(t, a)
		got, code := impl.SummitLengths(a)
		checkList(t, "SummitLengths", got, code, lengths)
		super, code := impl.SuperSummit(a)
		checkSet(t, "SuperSummit", super, code, set)
		ultra, code := impl.UltraSummit(a)
		checkSet(t, "UltraSummit", ultra, code, plainUltraSummit(t, set))
		if len(ultra) == 0 {
			t.Errorf("UltraSummit(%v) is empty", a)
		}
		if at := len(classes); at%7 == 0 {
			representatives = append(representatives, a)
		}
		var text strings.Builder
		for _, b := range set {
			text.WriteString(normalText(b) + ";")
		}
		classes[string(rune('0'+a.Strands))+normalText(a)] = text.String()
	}
	for _, a := range representatives {
		for _, b := range representatives {
			if a.Strands == b.Strands {
				key := string(rune('0' + a.Strands))
				yes, code := impl.AreConjugate(a, b)
				checkAnswer(t, "AreConjugate", yes, code, classes[key+normalText(a)] == classes[key+normalText(b)])
			}
		}
	}
}

func TestExamplesOfSummitSets(t *testing.T) {
	one, two, turn, both := plainLetter(1, 3), plainLetter(2, 3), impl.Simple{1, 2, 0}, impl.Simple{2, 0, 1}
	cases := []struct {
		a           impl.Normal
		super, left []impl.Normal
	}{
		{normal(1, 0), []impl.Normal{normal(1, 0)}, nil}, {normal(2, 200), []impl.Normal{normal(2, 200)}, nil},
		{normal(4, -200), []impl.Normal{normal(4, -200)}, nil}, {normal(3, 0), []impl.Normal{normal(3, 0)}, nil},
		{normal(3, 0, one), []impl.Normal{normal(3, 0, two), normal(3, 0, one)}, nil},
		{normal(3, -1, both), []impl.Normal{normal(3, -1, turn), normal(3, -1, both)}, nil},
		{normal(3, -1, turn, both), []impl.Normal{normal(3, 0, two), normal(3, 0, one)}, nil},
		{normal(3, 0, both, two), []impl.Normal{normal(3, 1)}, nil},
		{normal(3, 0, both), []impl.Normal{normal(3, 0, turn), normal(3, 0, both)}, nil},
		{normal(4, 0, plainLetter(3, 4)), []impl.Normal{normal(4, 0, plainLetter(3, 4)), normal(4, 0, plainLetter(2, 4)),
			normal(4, 0, plainLetter(1, 4))}, nil},
		{normal(4, 0, impl.Simple{1, 0, 3, 2}), []impl.Normal{normal(4, 0, impl.Simple{1, 0, 3, 2})}, nil},
		// 2 1 3 1 2 of 4 strands.
		{normal(4, 0, impl.Simple{2, 0, 3, 1}, impl.Simple{0, 3, 1, 2}), []impl.Normal{
			normal(4, 0, impl.Simple{0, 2, 3, 1}, impl.Simple{1, 3, 0, 2}),
			normal(4, 0, impl.Simple{1, 3, 0, 2}, impl.Simple{0, 2, 3, 1}),
			normal(4, 0, impl.Simple{1, 3, 0, 2}, impl.Simple{2, 0, 1, 3}),
			normal(4, 0, impl.Simple{2, 0, 1, 3}, impl.Simple{1, 3, 0, 2}),
			normal(4, 0, impl.Simple{2, 0, 3, 1}, impl.Simple{0, 3, 1, 2}),
			normal(4, 0, impl.Simple{2, 0, 3, 1}, impl.Simple{1, 2, 0, 3}),
		}, []impl.Normal{
			normal(4, 0, impl.Simple{2, 0, 3, 1}, impl.Simple{0, 3, 1, 2}),
			normal(4, 0, impl.Simple{2, 0, 3, 1}, impl.Simple{1, 2, 0, 3}),
		}},
	}
	for _, c := range cases {
		got, code := impl.SuperSummit(c.a)
		checkSet(t, "SuperSummit", got, code, c.super)
		ultra := slices.DeleteFunc(slices.Clone(c.super), func(a impl.Normal) bool {
			return slices.ContainsFunc(c.left, func(b impl.Normal) bool { return sameNormal(a, b) })
		})
		got, code = impl.UltraSummit(c.a)
		checkSet(t, "UltraSummit", got, code, ultra)
	}
}

// Promise 4, and that the steps keep conjugacy.
func TestConjugateBraidsHaveTheSameSummits(t *testing.T) {
	source := rand.New(rand.NewSource(13))
	for _, b := range randomBraids(12) {
		a := normalOf(t, b)
		list := []impl.Normal{conjugateOf(t, a, normalOf(t, randomBraid(source, b.Strands, 30)))}
		for _, call := range stepFunctions() {
			list = append(list, must[impl.Normal](t)(call(a)), must[impl.Normal](t)(call(list[0])))
		}
		lengths := lengthsOfSummit(t, a)
		for _, c := range list {
			got, code := impl.SummitLengths(c)
			checkList(t, "SummitLengths of a conjugate", got, code, lengths)
		}
		if b.Strands > 4 {
			continue
		}
		super, limit := impl.SuperSummit(a)
		ultra, _ := impl.UltraSummit(a)
		for _, c := range list {
			yes, code := impl.AreConjugate(a, c)
			if code != limit || yes != (limit == impl.ErrNone) {
				t.Errorf("AreConjugate(%v, %v) = %v, code %d", a, c, yes, code)
			}
			got, code := impl.SuperSummit(c)
			if code != limit || !sameNormals(got, super) {
				t.Errorf("SuperSummit(%v) = %v, code %d, but of a conjugate it is %v", c, got, code, super)
			}
			got, code = impl.UltraSummit(c)
			if code != limit || !sameNormals(got, ultra) {
				t.Errorf("UltraSummit(%v) = %v, code %d, but of a conjugate it is %v", c, got, code, ultra)
			}
		}
	}
}

// checkSummitSet looks at the order, the lengths and the neighbours of a super summit set.
func checkSummitSet(t *testing.T, a impl.Normal, set []impl.Normal) {
	t.Helper()
	n, lengths := a.Strands, lengthsOfSummit(t, a)
	has := map[string]bool{}
	last := ""
	for _, b := range set {
		text := normalText(b)
		if !impl.IsNormal(b) || b.Power != lengths[0] || int64(len(b.Factors)) != lengths[1] || text <= last {
			t.Errorf("SuperSummit(%v) has %v behind %q", a, b, last)
		}
		has[text], last = true, text
	}
	if !has[normalText(must[impl.Normal](t)(impl.SummitOf(a)))] {
		t.Errorf("SuperSummit(%v) lacks the summit", a)
	}
	for _, b := range set {
		for _, s := range permutations(int(n)) {
			c := conjugateOf(t, b, simpleNormal(t, s, n))
			if c.Power == lengths[0] && int64(len(c.Factors)) == lengths[1] && !has[normalText(c)] {
				t.Errorf("SuperSummit(%v) lacks %v", a, c)
			}
		}
	}
}

func TestSummitSetsOfLongWords(t *testing.T) {
	source := rand.New(rand.NewSource(14))
	small := 0
	for round := range 60 {
		n := int64(3 + round%2)
		a := normalOf(t, randomBraid(source, n, 4+source.Intn(16)))
		set, code := impl.SuperSummit(a)
		if code != impl.ErrNone {
			checkNoSet(t, "SuperSummit", set, code, impl.ErrLimit)
			continue
		}
		small++
		checkSummitSet(t, a, set)
		ultra, code := impl.UltraSummit(a)
		checkSet(t, "UltraSummit", ultra, code, plainUltraSummit(t, set))
	}
	if small < 40 {
		t.Errorf("only %d super summit sets are small", small)
	}
}

// largeSets has braids whose super summit sets have a known size.
func largeSets(t *testing.T) map[int][]impl.Normal {
	t.Helper()
	across := func(two, others int) impl.Normal {
		return normalOf(t, repeatedWord(4, []int64{2}, two, []int64{-1, -3}, others))
	}
	// Super summit sets of 2 and twice the inverses of 1 and 3 have 5 and 3 braids more for each.
	return map[int][]impl.Normal{
		110: {normalOf(t, repeatedWord(3, []int64{1}, 55, []int64{2}, 2))},
		119: {across(22, 3)},
		120: {across(21, 5), across(18, 10), normalOf(t, repeatedWord(3, []int64{1}, 60, []int64{2}, 2)),
			normalOf(t, repeatedWord(3, []int64{1}, 59, []int64{-2}, 1))},
		121: {across(20, 7), across(17, 12)},
		122: {normalOf(t, repeatedWord(3, []int64{1}, 61, []int64{2}, 2)), across(22, 4)},
	}
}

func TestSummitSetsWithinTheLimit(t *testing.T) {
	source := rand.New(rand.NewSource(15))
	for size, list := range largeSets(t) {
		for _, a := range list {
			b := conjugateOf(t, a, normalOf(t, randomBraid(source, a.Strands, 10)))
			for _, c := range []impl.Normal{a, b} {
				set, code := impl.SuperSummit(c)
				ultra, codeOfUltra := impl.UltraSummit(c)
				yes, codeOfAnswer := impl.AreConjugate(c, a)
				if size > 120 {
					checkNoSet(t, "SuperSummit", set, code, impl.ErrLimit)
					checkNoSet(t, "UltraSummit", ultra, codeOfUltra, impl.ErrLimit)
					checkNoAnswer(t, "AreConjugate", yes, codeOfAnswer, impl.ErrLimit)
					continue
				}
				if code != impl.ErrNone || len(set) != size {
					t.Errorf("SuperSummit(%v) has %d braids, code %d", c, len(set), code)
				}
				checkSet(t, "UltraSummit", ultra, codeOfUltra, plainUltraSummit(t, set))
				checkAnswer(t, "AreConjugate", yes, codeOfAnswer, true)
			}
		}
	}
	// One with the most factors.
	set, code := impl.SuperSummit(longNormal(4, 200, 200))
	if code != impl.ErrNone || len(set) != 3 {
		t.Errorf("SuperSummit of the exchange of 0 and 1, 200 times, has %d braids, code %d", len(set), code)
	}
}

// TestLargeSetsOfTheOtherBraid asks for braids of which only one has a large set.
func TestLargeSetsOfTheOtherBraid(t *testing.T) {
	large := normalOf(t, repeatedWord(3, []int64{1}, 61, []int64{2}, 2))
	checkList(t, "SummitLengths", lengthsOfSummit(t, large), impl.ErrNone, []int64{0, 61})
	small := longNormal(3, 0, 61)
	yes, code := impl.AreConjugate(small, large)
	checkAnswer(t, "AreConjugate of a large set as b", yes, code, false)
	yes, code = impl.AreConjugate(large, small)
	checkNoAnswer(t, "AreConjugate of a large set as a", yes, code, impl.ErrLimit)
	yes, code = impl.AreConjugate(large, large)
	checkNoAnswer(t, "AreConjugate of a large set with itself", yes, code, impl.ErrLimit)
	higher := large
	higher.Power++
	for _, b := range []impl.Normal{longNormal(3, 0, 60), longNormal(3, 0, 62), longNormal(3, 1, 61), longNormal(3, 1, 60),
		longNormal(3, -1, 61), normal(3, 0), higher} {
		yes, code = impl.AreConjugate(large, b)
		checkAnswer(t, "AreConjugate with other lengths", yes, code, false)
		yes, code = impl.AreConjugate(b, large)
		checkAnswer(t, "AreConjugate with other lengths", yes, code, false)
	}
}

func TestAreConjugate(t *testing.T) {
	of := func(strands int64, letters ...int64) impl.Normal { return normalOf(t, braid(strands, letters...)) }
	cases := []struct {
		a, b impl.Normal
		want bool
	}{
		{of(1), of(1), true}, {of(2, 1), of(2, 1), true}, {of(2, 1), of(2, -1), false},
		{of(3, 1), of(3, 2), true}, {of(3, 1), of(3, -2), false}, {of(3), of(3, 1, -1), true},
		{of(3, 1, 1, 2), of(3, 1, 2, 1), true}, {of(3, 1, 1, 1), of(3, 1, 2, 1), false},
		{of(3, 1, -2), of(3, 2, -1), true}, {of(3, 1, 1, -2), of(3, 2, 2, -1), true},
		{of(4, 1, 3), of(4, 1, 2), false}, {of(4, 1, 2), of(4, 3, 2), true}, {of(4, 1, 3), of(4, 1, 1), false},
		{of(4, 1, -3), of(4, 2), false}, {of(4, 1, -2), of(4, 1, -3), false}, {of(4, 1, -3), of(4, 3, -1), true},
		{normal(4, 2), normal(4, 2), true}, {normal(4, 2), normal(4, 3), false},
		{longNormal(4, -200, 200), longNormal(4, -200, 200), true}, {longNormal(4, 200, 200), longNormal(4, 200, 199), false},
		// The same sums, and strands that end alike.
		{of(3, 1, 1, 1, -2), of(3, 1, 2), false}, {of(3, 1, 1, 1, 2, 2, 2), of(3, 1, 1, 1, 1, 1, 2), false},
		{of(4, 1, 1, 1, 2, 3), of(4, 1, 2, 1, 2, 3), true},
	}
	for _, c := range cases {
		yes, code := impl.AreConjugate(c.a, c.b)
		checkAnswer(t, "AreConjugate", yes, code, c.want)
		yes, code = impl.AreConjugate(c.b, c.a)
		checkAnswer(t, "AreConjugate, exchanged", yes, code, c.want)
	}
}

func TestExamplesOfKinds(t *testing.T) {
	of := func(strands int64, letters ...int64) impl.Normal { return normalOf(t, braid(strands, letters...)) }
	cases := []struct {
		a                 impl.Normal
		central, periodic bool
	}{
		{of(1), true, true}, {of(2), true, true}, {of(2, 1), true, true}, {of(2, -1, -1, -1), true, true},
		{normal(2, 200), true, true}, {normal(2, -199), true, true},
		{of(3), true, true}, {normal(3, 1), false, true}, {normal(3, 2), true, true}, {normal(3, -1), false, true},
		{normal(3, -2), true, true}, {normal(3, 200), true, true}, {normal(3, 199), false, true},
		{of(3, 1), false, false}, {of(3, 1, 2), false, true}, {of(3, 1, 1, 2), false, true}, {of(3, -2, -1), false, true},
		{of(3, 1, -2), false, false}, {of(3, 1, 1), false, false}, {longNormal(3, 2, 1), false, false},
		{of(4, 1, 2, 3), false, true}, {of(4, 1, 1, 2, 3), false, true}, {of(4, 1, 1, 1, 2, 3), false, false},
		{of(4, 1, 2), false, false}, {of(4, 1, 3), false, false}, {of(5, 1, 2, 3, 4), false, true},
		{of(8, 1, 2, 3, 4, 5, 6, 7), false, true}, {of(8, 1, 1, 2, 3, 4, 5, 6, 7), false, true},
		{of(8, 1, 1, 1, 2, 3, 4, 5, 6, 7), false, false}, {of(8, 7), false, false},
		{normal(8, 200), true, true}, {normal(8, -200), true, true}, {normal(8, 199), false, true},
		{longNormal(8, 200, 200), false, false}, {longNormal(8, -200, 200), false, false}, {longNormal(3, 0, 200), false, false},
		{farConjugate(t, 239), false, true}, {farConjugate(t, -159), false, true}, {farConjugate(t, 200), false, false},
	}
	for _, c := range cases {
		got, code := impl.IsCentral(c.a)
		checkAnswer(t, "IsCentral", got, code, c.central)
		got, code = impl.IsPeriodic(c.a)
		checkAnswer(t, "IsPeriodic", got, code, c.periodic)
	}
}

// plainIsCentral conjugates by all letters.
func plainIsCentral(t *testing.T, a impl.Normal) bool {
	t.Helper()
	for i := int64(1); i < a.Strands; i++ {
		if !sameNormal(conjugateOf(t, a, normalOf(t, braid(a.Strands, i))), a) {
			return false
		}
	}
	return true
}

// plainIsPeriodic tries the powers of the braid.
func plainIsPeriodic(t *testing.T, a impl.Normal, most int) bool {
	t.Helper()
	power := a
	for range most {
		if plainIsCentral(t, power) {
			return true
		}
		power = productOf(t, power, a)
	}
	return false
}

// TestKindsOfShortWords finds central and periodic braids by conjugation and powers. Each braid of
// these has a power of at most 2 n that is central, if one of its powers is.
func TestKindsOfShortWords(t *testing.T) {
	list := append(shortNormals(t), differentNormals(t, 5, 2)...)
	source := rand.New(rand.NewSource(16))
	for n := int64(3); n <= 8; n++ {
		round := braid(n)
		for i := int64(1); i < n; i++ {
			round.Letters = append(round.Letters, i)
		}
		for _, letters := range [][]int64{round.Letters, append([]int64{1}, round.Letters...), plainHalfWord(n, 1), plainHalfWord(n, 2)} {
			c := randomBraid(source, n, 5)
			list = append(list, normalOf(t, conjugateWord(t, braid(n, letters...), c)))
		}
	}
	for _, a := range list {
		got, code := impl.IsCentral(a)
		checkAnswer(t, "IsCentral", got, code, plainIsCentral(t, a))
		got, code = impl.IsPeriodic(a)
		checkAnswer(t, "IsPeriodic", got, code, plainIsPeriodic(t, a, int(2*a.Strands)))
	}
}

func TestConjugatesShareNoMemoryWithArguments(t *testing.T) {
	one, two, both := plainLetter(1, 3), plainLetter(2, 3), impl.Simple{2, 0, 1}
	list := []impl.Normal{normal(3, 0), normal(3, 1), normal(3, 1, one), normal(3, 0, one, one, both, two, impl.Simple{1, 2, 0}),
		normal(3, -1, both, two), normal(3, -3, one, one), normal(3, 2, both), normal(3, -1, impl.Simple{1, 2, 0})}
	for _, x := range list {
		for _, y := range list {
			a, untouchedA := guardedNormal(x)
			b, untouchedB := guardedNormal(y)
			impl.AreConjugate(a, b)
			results := []impl.Normal{conjugateOf(t, a, b)}
			for _, call := range stepFunctions() {
				results = append(results, must[impl.Normal](t)(call(a)))
			}
			for _, call := range setFunctions() {
				results = append(results, must[[]impl.Normal](t)(call(a))...)
			}
			for _, call := range kindFunctions() {
				call(a)
			}
			impl.SummitLengths(a)
			if !untouchedA() || !untouchedB() {
				t.Fatalf("%v or %v has been changed", x, y)
			}
			checkNothingShared(t, results)
			if !untouchedA() || !untouchedB() {
				t.Fatalf("a result shares memory with %v or %v", x, y)
			}
		}
	}
}

// TestSummitsKeepNothing asks again after the results were written over.
func TestSummitsKeepNothing(t *testing.T) {
	a := normalOf(t, braid(4, 2, 2, -1, -3, 2))
	for name, call := range setFunctions() {
		first := must[[]impl.Normal](t)(call(a))
		var want []impl.Normal
		for _, b := range first {
			want = append(want, normal(b.Strands, b.Power, slices.Clone(b.Factors)...))
		}
		checkNothingShared(t, first)
		got, code := call(a)
		checkSet(t, name+" after its first result was written over", got, code, want)
	}
	first := lengthsOfSummit(t, a)
	want := slices.Clone(first)
	scribble(first)
	got, code := impl.SummitLengths(a)
	checkList(t, "SummitLengths after its first result was written over", got, code, want)
}

// TestSummitSetsAtTheSameTime asks for the same sets, large and small, from many sides.
func TestSummitSetsAtTheSameTime(t *testing.T) {
	small := normalOf(t, braid(4, 2, 2, -1, -3, 2))
	large := normalOf(t, repeatedWord(4, []int64{2}, 20, []int64{-1, -3}, 7))
	want := must[[]impl.Normal](t)(impl.SuperSummit(small))
	var callers sync.WaitGroup
	for range 8 {
		callers.Go(func() {
			for range 3 {
				got, code := impl.SuperSummit(small)
				checkSet(t, "SuperSummit", got, code, want)
				got, code = impl.SuperSummit(large)
				checkNoSet(t, "SuperSummit", got, code, impl.ErrLimit)
			}
		})
	}
	callers.Wait()
}
