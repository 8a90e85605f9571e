package tests

import (
	"math"
	"math/big"
	"math/rand"
	"runtime"
	"slices"
	"sync"
	"testing"

	"loop.example/g01205/impl"
)

// bracketFunctions has the functions that lead from a braid with few letters to a polynomial.
func bracketFunctions() map[string]func(impl.Braid) (impl.Laurent, int64) {
	return map[string]func(impl.Braid) (impl.Laurent, int64){
		"BracketOf":   impl.BracketOf,
		"JonesOf":     impl.JonesOf,
		"PlatBracket": impl.PlatBracket,
	}
}

// componentFunctions has the functions that lead from a braid to lists of numbers.
func componentFunctions() map[string]func(impl.Braid) ([][]int64, int64) {
	return map[string]func(impl.Braid) ([][]int64, int64){
		"ComponentsOf":      impl.ComponentsOf,
		"ComponentLinkings": impl.ComponentLinkings,
	}
}

// closureNumberFunctions has the functions that lead from a braid to a number.
func closureNumberFunctions() map[string]func(impl.Braid) (int64, int64) {
	return map[string]func(impl.Braid) (int64, int64){
		"SeifertNumber":  impl.SeifertNumber,
		"SeifertGenus":   impl.SeifertGenus,
		"PlatComponents": impl.PlatComponents,
	}
}

// moveFunctions has the functions that lead from a braid to another one.
func moveFunctions() map[string]func(impl.Braid) (impl.Braid, int64) {
	return map[string]func(impl.Braid) (impl.Braid, int64){
		"AddStrand":                    func(b impl.Braid) (impl.Braid, int64) { return impl.AddStrand(b, 1) },
		"AddStrand, the other sign":    func(b impl.Braid) (impl.Braid, int64) { return impl.AddStrand(b, -1) },
		"RemoveStrand":                 impl.RemoveStrand,
		"ConjugateWord with itself":    func(b impl.Braid) (impl.Braid, int64) { return impl.ConjugateWord(b, b) },
		"ConjugateWord, the first one": func(b impl.Braid) (impl.Braid, int64) { return impl.ConjugateWord(b, braid(b.Strands)) },
		"ConjugateWord, the other one": func(b impl.Braid) (impl.Braid, int64) { return impl.ConjugateWord(braid(b.Strands), b) },
	}
}

func componentsOf(t *testing.T, b impl.Braid) [][]int64 {
	t.Helper()
	return must[[][]int64](t)(impl.ComponentsOf(b))
}

func jonesOf(t *testing.T, b impl.Braid) impl.Laurent {
	t.Helper()
	return must[impl.Laurent](t)(impl.JonesOf(b))
}

func alexanderOf(t *testing.T, b impl.Braid) impl.Laurent {
	t.Helper()
	return must[impl.Laurent](t)(impl.AlexanderOf(b))
}

func mirrorOf(t *testing.T, b impl.Braid) impl.Braid {
	t.Helper()
	return must[impl.Braid](t)(impl.MirrorOf(b))
}

// union joins things with numbers.
type union []int

func newUnion(count int) union {
	u := make(union, count)
	for x := range u {
		u[x] = x
	}
	return u
}

func (u union) first(x int) int {
	for u[x] != x {
		x = u[x]
	}
	return x
}

func (u union) join(x, y int) {
	x, y = u.first(x), u.first(y)
	u[max(x, y)] = min(x, y)
}

func (u union) count() int {
	count := 0
	for x := range u {
		if u[x] == x {
			count++
		}
	}
	return count
}

// plainUnion joins each strand of a braid with the one that begins where it ends.
func plainUnion(b impl.Braid) union {
	strands := newUnion(int(b.Strands))
	for place, strand := range plainPlaces(b) {
		strands.join(place, int(strand))
	}
	return strands
}

func plainComponents(b impl.Braid) [][]int64 {
	strands := plainUnion(b)
	var list [][]int64
	for x := range strands {
		var component []int64
		for y := range strands {
			if strands.first(y) == x {
				component = append(component, int64(y))
			}
		}
		if len(component) > 0 {
			list = append(list, component)
		}
	}
	return list
}

// plainComponentLinkings counts each crossing for the components of its two strands.
func plainComponentLinkings(b impl.Braid) [][]int64 {
	strands := plainUnion(b)
	table := map[[2]int]int64{}
	order := plainPlaces(braid(b.Strands))
	for _, x := range b.Letters {
		i := plainIndex(x)
		table[[2]int{strands.first(int(order[i-1])), strands.first(int(order[i]))}] += x / i
		order[i-1], order[i] = order[i], order[i-1]
	}
	var rows [][]int64
	for x := range strands {
		var row []int64
		for y := range strands {
			if strands[x] != x || strands[y] != y {
				continue
			}
			if x == y {
				row = append(row, table[[2]int{x, x}])
			} else {
				row = append(row, (table[[2]int{x, y}]+table[[2]int{y, x}])/2)
			}
		}
		if row != nil {
			rows = append(rows, row)
		}
	}
	return rows
}

// plainLoops returns the number of closed curves if each letter is taken away (0) or replaced by a hook
// above and one below (1), as the bits of a number tell.
func plainLoops(b impl.Braid, state int, plat bool) int {
	n, levels := int(b.Strands), len(b.Letters)
	points := newUnion((levels + 1) * n)
	for level, x := range b.Letters {
		right := int(plainIndex(x))
		for place := range n {
			if state>>level&1 == 0 || place != right && place != right-1 {
				points.join(level*n+place, (level+1)*n+place)
			}
		}
		if state>>level&1 == 1 {
			points.join(level*n+right-1, level*n+right)
			points.join((level+1)*n+right-1, (level+1)*n+right)
		}
	}
	for place := range n {
		if !plat {
			points.join(place, levels*n+place)
		} else if place%2 == 1 {
			points.join(place-1, place)
			points.join(levels*n+place-1, levels*n+place)
		}
	}
	return points.count()
}

func plainLoop() plainPoly { return plainMonomial(-1, 2).plus(plainMonomial(-1, -2)) }

func plainLoopPower(count int) plainPoly {
	power := plainMonomial(1, 0)
	for range count {
		power = power.times(plainLoop())
	}
	return power
}

// plainBracket adds up all states: the letters that are taken away and those that are replaced.
func plainBracket(b impl.Braid, plat bool) plainPoly {
	counts := map[[2]int64]int64{}
	for state := range 1 << len(b.Letters) {
		power := int64(0)
		for level, x := range b.Letters {
			if state>>level&1 == 0 {
				power += x / plainIndex(x)
			} else {
				power -= x / plainIndex(x)
			}
		}
		counts[[2]int64{power, int64(plainLoops(b, state, plat))}]++
	}
	sum := plainPoly{}
	for key, count := range counts {
		sum = sum.plus(plainMonomial(count, key[0]).times(plainLoopPower(int(key[1]) - 1)))
	}
	return sum
}

func plainSum(b impl.Braid) int64 {
	sum := int64(0)
	for _, x := range b.Letters {
		sum += x / plainIndex(x)
	}
	return sum
}

// plainJones returns Jones's polynomial of a braid with a bracket.
func plainJones(b impl.Braid, bracket plainPoly) plainPoly {
	sum := plainSum(b)
	sign := big.NewInt(1 - 2*(sum&1))
	jones := plainPoly{}
	for power, x := range bracket {
		jones.addAt(-(power-3*sum)/2, new(big.Int).Mul(x, sign))
	}
	return jones
}

// plainText returns a polynomial as the program has to return it.
func plainText(t *testing.T, p plainPoly) impl.Laurent {
	t.Helper()
	made, small := p.laurent()
	if !small {
		t.Fatalf("%v is beyond the limits", p)
	}
	return made
}

// opposite returns a polynomial with the opposite powers.
func opposite(p impl.Laurent) impl.Laurent {
	coefficients := slices.Clone(p.Coefficients)
	slices.Reverse(coefficients)
	return impl.Laurent{Low: 1 - p.Low - int64(len(coefficients)), Coefficients: coefficients}
}

// checkPowers checks that what a polynomial is made of is another one.
func checkPowers(t *testing.T, name string, got, want plainPoly) {
	t.Helper()
	if !sameLaurent(plainText(t, got), plainText(t, want)) {
		t.Errorf("%s: %v, want %v", name, plainText(t, got), plainText(t, want))
	}
}

// someLetters returns braids of all numbers of strands with at most most letters.
func someLetters(seed int64, count int, most int) []impl.Braid {
	source := rand.New(rand.NewSource(seed))
	var list []impl.Braid
	for n := int64(1); n <= 8; n++ {
		for range count {
			list = append(list, randomBraid(source, n, source.Intn(most+1)))
		}
		list = append(list, braid(n), randomBraid(source, n, most))
	}
	return list
}

// stateBraids returns braids of all numbers of strands with up to 30 letters, few of them of many
// strands, for which brackets take longer.
func stateBraids(seed int64) []impl.Braid {
	return slices.Concat(someLetters(seed, 12, 14), someLetters(seed+1, 2, 30))
}

func TestMaxStates(t *testing.T) {
	if impl.MaxStates != 30 {
		t.Errorf("MaxStates = %d", impl.MaxStates)
	}
}

func TestComponentsOf(t *testing.T) {
	for _, c := range []struct {
		b    impl.Braid
		want [][]int64
	}{
		{braid(1), [][]int64{{0}}}, {braid(2), [][]int64{{0}, {1}}}, {braid(2, 1), [][]int64{{0, 1}}}, {braid(2, -1), [][]int64{{0, 1}}}, {braid(2, 1, -1), [][]int64{{0}, {1}}}, {braid(3, 1, 1, 2), [][]int64{{0}, {1, 2}}},
		{braid(3, 1, 2), [][]int64{{0, 1, 2}}}, {braid(3, 2, 1), [][]int64{{0, 1, 2}}}, {braid(3, 1, 2, 1), [][]int64{{0, 2}, {1}}}, {braid(3, 2), [][]int64{{0}, {1, 2}}}, {braid(4, 1, 3), [][]int64{{0, 1}, {2, 3}}},
		{braid(4, 2, 1, 3, 2), [][]int64{{0, 2}, {1, 3}}}, {braid(4, 1, 2, 3, 1, 2, 1), [][]int64{{0, 3}, {1, 2}}}, {braid(4, 2, 1, 3), [][]int64{{0, 1, 2, 3}}}, {braid(5, 1, 2, -4, -3, 2), [][]int64{{0, 1, 3, 4}, {2}}},
		{braid(8), [][]int64{{0}, {1}, {2}, {3}, {4}, {5}, {6}, {7}}}, {braid(8, 7, 6, 5, 4, 3, 2, 1), [][]int64{{0, 1, 2, 3, 4, 5, 6, 7}}}, {braid(8, 2, 3, 4, 5, 6, 5, 4, 3, 2), [][]int64{{0}, {1, 6}, {2}, {3}, {4}, {5}, {7}}},
		{longBraid(8, 200), [][]int64{{0}, {1}, {2}, {3}, {4}, {5}, {6}, {7}}}, {longBraid(3, 199), [][]int64{{0, 1}, {2}}},
	} {
		got, code := impl.ComponentsOf(c.b)
		checkRows(t, "ComponentsOf", got, code, c.want)
	}
}

func TestComponentLinkings(t *testing.T) {
	for _, c := range []struct {
		b    impl.Braid
		want [][]int64
	}{
		{braid(1), [][]int64{{0}}}, {braid(2), [][]int64{{0, 0}, {0, 0}}}, {braid(2, 1), [][]int64{{1}}}, {braid(2, -1, -1, -1), [][]int64{{-3}}}, {braid(2, 1, -1), [][]int64{{0, 0}, {0, 0}}}, {braid(2, 1, 1), [][]int64{{0, 1}, {1, 0}}},
		{braid(2, -1, -1, -1, -1), [][]int64{{0, -2}, {-2, 0}}}, {braid(3, 1, 1, 2), [][]int64{{0, 1}, {1, 1}}}, {braid(3, 2, 1, 1), [][]int64{{0, 1}, {1, 1}}}, {braid(3, 2, 2, 1), [][]int64{{1, 1}, {1, 0}}},
		{braid(3, 1, -2, 1, -2, 1, -2), [][]int64{{0, 0, 0}, {0, 0, 0}, {0, 0, 0}}}, {braid(3, 1, 2, 1, 1, 2, 1), [][]int64{{0, 1, 1}, {1, 0, 1}, {1, 1, 0}}}, {braid(3, 1, 2, 1), [][]int64{{1, 1}, {1, 0}}},
		{braid(4, 1, 1, 1, 3, -1, 3, 3), [][]int64{{0, 1, 0}, {1, 0, 0}, {0, 0, 3}}}, {braid(4, 2, 1, 3, 2), [][]int64{{1, 1}, {1, 1}}}, {braid(4, 2, -1, 3, -2), [][]int64{{-1, 0}, {0, 1}}}, {longBraid(2, 200), [][]int64{{0, 100}, {100, 0}}}, {longBraid(2, 199), [][]int64{{199}}},
		{braid(3, 1, -2, -2), [][]int64{{1, -1}, {-1, 0}}},
	} {
		got, code := impl.ComponentLinkings(c.b)
		checkRows(t, "ComponentLinkings", got, code, c.want)
	}
}

// Promise 11, the first part: each linking number is that of two components, and is there twice.
func TestLinkingNumbersAndWrithesAddUp(t *testing.T) {
	kinds := map[int]int{}
	for _, b := range slices.Concat(shortWords(), braidsOfLetters(8, 2), randomBraids(60), randomBraids(200), pureBraids(100)) {
		components, code := impl.ComponentsOf(b)
		checkRows(t, "ComponentsOf", components, code, plainComponents(b))
		rows, code := impl.ComponentLinkings(b)
		checkRows(t, "ComponentLinkings", rows, code, plainComponentLinkings(b))
		kinds[len(rows)]++
		sum, mirrored := int64(0), must[[][]int64](t)(impl.ComponentLinkings(mirrorOf(t, b)))
		for x, row := range rows {
			for y, number := range row {
				sum += number
				if number != rows[y][x] || number != -mirrored[x][y] {
					t.Errorf("ComponentLinkings(%v) = %v, of the mirror image %v", b, rows, mirrored)
				}
			}
		}
		checkNumber(t, "the sum of linking numbers and writhes", sum, impl.ErrNone, must[int64](t)(impl.SumOf(b)))
	}
	for count := 1; count <= 8; count++ {
		if kinds[count] < 10 {
			t.Errorf("components %v", kinds)
		}
	}
}

func TestLinkingsOfPureBraidsAreThoseOfComponents(t *testing.T) {
	for _, b := range slices.Concat(shortPureWords(), pureBraids(200)) {
		want := must[[][]int64](t)(impl.LinkingsOf(b))
		got, code := impl.ComponentLinkings(b)
		checkRows(t, "ComponentLinkings of a pure braid", got, code, want)
	}
}

func TestSeifertNumber(t *testing.T) {
	for _, c := range []struct {
		b    impl.Braid
		want int64
	}{
		{braid(1), 1}, {braid(8), 8}, {braid(2, 1), 1}, {braid(2, 1, 1), 0}, {braid(2, 1, 1, 1), -1}, {braid(2, 1, -1, 1), -1}, {braid(3, 1, -2, 1, -2), -1}, {longBraid(2, 200), -198}, {longBraid(8, 200), -192}, {braid(8, 7), 7},
	} {
		got, code := impl.SeifertNumber(c.b)
		checkNumber(t, "SeifertNumber", got, code, c.want)
	}
}

func TestSeifertGenus(t *testing.T) {
	for _, c := range []struct {
		b    impl.Braid
		want int64
	}{
		{braid(1), 0}, {braid(2, 1), 0}, {braid(2, -1), 0}, {braid(2, 1, 1), 0}, {braid(2, 1, -1), 0}, {braid(2, 1, 1, 1), 1}, {braid(2, 1, -1, 1), 1}, {braid(3, 1, -2, 1, -2), 1}, {braid(3, 1, -2, 1, -2, 1, -2), 1},
		{braid(3, 2, 1), 0}, {braid(3, 1, 2, 1, 2, 1, 2, 1, 2), 3}, {longBraid(2, 200), 99}, {longBraid(2, 199), 99}, {braid(8, 7, 6, 5, 4, 3, 2, 1), 0}, {braid(8, -1, 2, -3, 4, -5, 6, -7), 0}, {braid(4, 1, 1, 2, 2, 3, 3), 0},
	} {
		got, code := impl.SeifertGenus(c.b)
		checkNumber(t, "SeifertGenus", got, code, c.want)
	}
	for _, b := range []impl.Braid{braid(2), braid(3, 1), braid(3, -2), braid(3, 2, 2, 2), braid(8), braid(4, 1, 3, -1, -3), braid(4, 2, 3), braid(4, 1, 2), braid(8, 1, 2, 3, 4, 5, 6), braid(8, 7, 6, 5, 3, 2, 1), longBraid(3, 200)} {
		got, code := impl.SeifertGenus(b)
		checkNoNumber(t, "SeifertGenus of a braid that is not connected", got, code, impl.ErrState)
	}
}

func TestSeifertGenusOfBraids(t *testing.T) {
	kinds := map[bool]int{}
	for _, b := range slices.Concat(shortWords(), braidsOfLetters(8, 1), randomBraids(60), randomBraids(200)) {
		number := b.Strands - int64(len(b.Letters))
		got, code := impl.SeifertNumber(b)
		checkNumber(t, "SeifertNumber", got, code, number)
		connected := true
		for i := int64(1); i < b.Strands; i++ {
			connected = connected && (slices.Contains(b.Letters, i) || slices.Contains(b.Letters, -i))
		}
		kinds[connected]++
		got, code = impl.SeifertGenus(b)
		if !connected {
			checkNoNumber(t, "SeifertGenus", got, code, impl.ErrState)
			continue
		}
		checkNumber(t, "SeifertGenus", 2*got, code, 2-int64(len(plainComponents(b)))-number)
		if got < 0 {
			t.Errorf("SeifertGenus(%v) = %d", b, got)
		}
	}
	if kinds[true] < 1000 || kinds[false] < 1000 {
		t.Errorf("connected: %v", kinds)
	}
}

// TestGenusOfPositiveBraids uses that the surface of a connected positive braid tells the degree of the
// polynomial of Alexander.
func TestGenusOfPositiveBraids(t *testing.T) {
	for _, b := range slices.Concat(shortWords(), someLetters(80, 40, 50)) {
		for at, x := range b.Letters {
			b.Letters[at] = plainIndex(x)
		}
		genus, code := impl.SeifertGenus(b)
		if code == impl.ErrNone {
			degree := 2*genus + int64(len(componentsOf(t, b))) - 1
			checkNumber(t, "the degree of AlexanderOf", int64(len(alexanderOf(t, b).Coefficients))-1, code, degree)
		}
	}
}

func TestConjugateWord(t *testing.T) {
	for _, c := range []struct {
		b, c impl.Braid
		want []int64
	}{
		{braid(1), braid(1), nil}, {braid(2), braid(2), nil}, {braid(2, 1), braid(2), []int64{1}}, {braid(2), braid(2, 1), []int64{1, -1}}, {braid(3, 1), braid(3, 2), []int64{2, 1, -2}}, {braid(3, 1), braid(3, -2), []int64{-2, 1, 2}},
		{braid(2, 1, 1, 1), braid(2, -1), []int64{-1, 1, 1, 1, 1}}, {braid(4, 3, -1), braid(4, 1, -2, 3), []int64{1, -2, 3, 3, -1, -3, 2, -1}}, {braid(8, 7), braid(8, -1, -7), []int64{-1, -7, 7, 7, 1}},
	} {
		got, code := impl.ConjugateWord(c.b, c.c)
		checkBraid(t, "ConjugateWord", got, code, braid(c.b.Strands, c.want...))
	}
	for _, c := range []struct{ first, second int }{{200, 0}, {198, 1}, {0, 100}, {2, 99}, {100, 50}, {199, 0}, {1, 99}} {
		got, code := impl.ConjugateWord(longBraid(3, c.first), longBraid(3, c.second))
		want := joined(3, ones(c.second), ones(c.first), ones(-c.second))
		checkBraid(t, "ConjugateWord within the limit", got, code, want)
	}
	for _, c := range []struct{ first, second int }{{199, 1}, {1, 100}, {101, 50}, {200, 1}, {200, 200}, {0, 101}, {0, 200}, {3, 99}} {
		got, code := impl.ConjugateWord(longBraid(3, c.first), longBraid(3, c.second))
		checkNoBraid(t, "ConjugateWord beyond the limit", got, code, impl.ErrLimit)
	}
}

func TestConjugatesOfBraids(t *testing.T) {
	source := rand.New(rand.NewSource(81))
	for _, b := range slices.Concat(braidsOfLetters(2, 4), braidsOfLetters(3, 3), randomBraids(100)) {
		c := randomBraid(source, b.Strands, source.Intn(51))
		got, code := impl.ConjugateWord(b, c)
		checkBraid(t, "ConjugateWord", got, code, conjugateWord(t, b, inverseWord(t, c)))
		other, code := impl.ConjugateWord(got, inverseWord(t, c))
		if code == impl.ErrNone {
			same, code := impl.SameBraid(other, b)
			checkAnswer(t, "SameBraid of a braid that is conjugated back", same, code, true)
		}
	}
}

func TestAddStrand(t *testing.T) {
	for _, c := range []struct {
		b    impl.Braid
		sign int64
		want []int64
	}{
		{braid(1), 1, []int64{1}}, {braid(1), -1, []int64{-1}}, {braid(2), 1, []int64{2}}, {braid(2, 1, 1, 1), -1, []int64{1, 1, 1, -2}}, {braid(2, -1), 1, []int64{-1, 2}}, {braid(7), 1, []int64{7}}, {braid(7, 6, -1), -1, []int64{6, -1, -7}},
	} {
		got, code := impl.AddStrand(c.b, c.sign)
		checkBraid(t, "AddStrand", got, code, braid(c.b.Strands+1, c.want...))
	}
	for _, sign := range []int64{1, -1} {
		for _, b := range []impl.Braid{longBraid(2, 199), longBraid(7, 199), longBraid(6, 198)} {
			got, code := impl.AddStrand(b, sign)
			checkBraid(t, "AddStrand within the limits", got, code, joined(b.Strands+1, b.Letters, []int64{sign * b.Strands}))
		}
		for _, b := range []impl.Braid{longBraid(2, 200), longBraid(7, 200), braid(8), braid(8, 7), longBraid(8, 199), longBraid(8, 200)} {
			got, code := impl.AddStrand(b, sign)
			checkNoBraid(t, "AddStrand beyond a limit", got, code, impl.ErrLimit)
		}
	}
}

func TestSignsOfAddedStrands(t *testing.T) {
	for _, sign := range []int64{0, 2, -2, 3, math.MinInt64, math.MaxInt64, 1 << 32, 1<<32 + 1} {
		for _, b := range []impl.Braid{braid(1), braid(2, 1), braid(7, 6), braid(8), longBraid(2, 200), longBraid(8, 200)} {
			got, code := impl.AddStrand(b, sign)
			checkNoBraid(t, "AddStrand with another sign", got, code, impl.ErrRange)
		}
		for name, b := range notBraids() {
			got, code := impl.AddStrand(b, sign)
			checkNoBraid(t, "AddStrand with another sign: "+name, got, code, impl.ErrInvalid)
		}
	}
}

func TestRemoveStrand(t *testing.T) {
	for _, c := range []struct {
		b    impl.Braid
		want []int64
	}{
		{braid(2, 1), nil}, {braid(2, -1), nil}, {braid(3, 2), nil}, {braid(3, 1, 1, -2), []int64{1, 1}}, {braid(3, 1, -1, 2), []int64{1, -1}}, {braid(8, 7), nil}, {braid(8, 1, -6, 3, -7), []int64{1, -6, 3}}, {joined(3, ones(199), []int64{2}), ones(199)},
	} {
		got, code := impl.RemoveStrand(c.b)
		checkBraid(t, "RemoveStrand", got, code, braid(c.b.Strands-1, c.want...))
	}
	for name, b := range map[string]impl.Braid{
		"one strand":                                   braid(1),
		"no letters":                                   braid(2),
		"no letters, eight strands":                    braid(8),
		"another letter of the index":                  braid(2, 1, 1),
		"another letter of the index that counts -1":   braid(2, -1, 1),
		"another letter of the index, counted -1 both": braid(3, -2, 1, -2),
		"another letter of the index far ahead":        braid(3, 2, 1, 1, 1, 1, 2),
		"inverse letters":                              braid(2, 1, -1),
		"a last letter of another index":               braid(3, 1),
		"a last letter behind the only one":            braid(3, 2, 1),
		"a last letter behind the only one, -1":        braid(3, 1, -2, 1),
		"a last letter of the index n - 2":             braid(8, 6),
		"a last letter of it behind that of n - 1":     braid(8, 7, -6),
		"all letters of the index":                     longBraid(2, 200),
		"no letter of the index":                       longBraid(3, 200),
	} {
		got, code := impl.RemoveStrand(b)
		checkNoBraid(t, "RemoveStrand: "+name, got, code, impl.ErrState)
	}
}

func TestRemovedStrandsOfBraids(t *testing.T) {
	kinds := map[bool]int{}
	for _, b := range slices.Concat(shortWords(), braidsOfLetters(8, 3), someLetters(82, 60, 8), randomBraids(200)) {
		count, last := 0, int64(0)
		for _, x := range b.Letters {
			if last = plainIndex(x); last == b.Strands-1 {
				count++
			}
		}
		got, code := impl.RemoveStrand(b)
		kinds[count == 1 && last == b.Strands-1]++
		if count != 1 || last != b.Strands-1 {
			checkNoBraid(t, "RemoveStrand", got, code, impl.ErrState)
		} else {
			checkBraid(t, "RemoveStrand", got, code, braid(b.Strands-1, b.Letters[:len(b.Letters)-1]...))
		}
		for _, sign := range []int64{1, -1} {
			more, code := impl.AddStrand(b, sign)
			if code == impl.ErrNone {
				back, code := impl.RemoveStrand(more)
				checkBraid(t, "RemoveStrand of an added strand", back, code, b)
			}
		}
	}
	if kinds[true] < 500 || kinds[false] < 500 {
		t.Errorf("removed: %v", kinds)
	}
}

func TestTorusBraid(t *testing.T) {
	for p := int64(1); p <= 8; p++ {
		round := generatorsUpTo(p - 1)
		for q := int64(0); q <= 200; q++ {
			got, code := impl.TorusBraid(p, q)
			if q*(p-1) > 200 {
				checkNoBraid(t, "TorusBraid beyond the limit", got, code, impl.ErrLimit)
				continue
			}
			checkBraid(t, "TorusBraid", got, code, braid(p, slices.Repeat(round, int(q))...))
			x, y := p, q
			for y != 0 {
				x, y = y, x%y
			}
			if components := componentsOf(t, got); int64(len(components)) != x {
				t.Errorf("TorusBraid(%d, %d) has the components %v", p, q, components)
			}
			if genus, code := impl.SeifertGenus(got); x == 1 && q > 0 {
				checkNumber(t, "SeifertGenus of a knot", 2*genus, code, (p-1)*(q-1))
			}
		}
	}
	for _, c := range []struct{ p, q int64 }{
		{0, 0}, {0, 3}, {9, 0}, {9, 3}, {-1, 3}, {1, -1}, {1, 201}, {2, -1}, {2, 201}, {8, 201}, {8, -1}, {9, 201}, {0, -1}, {math.MinInt64, 1}, {math.MaxInt64, 1}, {3, math.MinInt64}, {3, math.MaxInt64}, {8, 1 << 62}, {math.MaxInt64, math.MaxInt64}, {math.MinInt64, math.MinInt64},
	} {
		got, code := impl.TorusBraid(c.p, c.q)
		checkNoBraid(t, "TorusBraid out of range", got, code, impl.ErrRange)
	}
}

func TestLettersOfTorusBraids(t *testing.T) {
	for _, c := range []struct{ p, q, count, code int64 }{
		{2, 200, 200, 0}, {3, 100, 200, 0}, {3, 101, 0, 3}, {4, 66, 198, 0}, {4, 67, 0, 3}, {5, 50, 200, 0}, {5, 51, 0, 3}, {6, 40, 200, 0}, {6, 41, 0, 3}, {7, 33, 198, 0}, {7, 34, 0, 3}, {8, 28, 196, 0}, {8, 29, 0, 3}, {8, 200, 0, 3}, {1, 200, 0, 0}, {1, 0, 0, 0}, {8, 0, 0, 0},
	} {
		got, code := impl.TorusBraid(c.p, c.q)
		if code != c.code || int64(len(got.Letters)) != c.count {
			t.Errorf("TorusBraid(%d, %d) = %v, code %d", c.p, c.q, got, code)
		}
	}
}

func TestBracketOf(t *testing.T) {
	for _, c := range []struct {
		b    impl.Braid
		want impl.Laurent
	}{
		{braid(1), laurent(0, 1)}, {braid(2), laurent(-2, -1, 0, 0, 0, -1)}, {braid(2, 1), laurent(3, -1)}, {braid(2, -1), laurent(-3, -1)}, {braid(2, 1, -1), laurent(-2, -1, 0, 0, 0, -1)}, {braid(3), laurent(-4, 1, 0, 0, 0, 2, 0, 0, 0, 1)},
		{braid(2, 1, 1), laurent(-4, -1, 0, 0, 0, 0, 0, 0, 0, -1)}, {braid(2, -1, -1), laurent(-4, -1, 0, 0, 0, 0, 0, 0, 0, -1)}, {braid(2, 1, 1, 1), laurent(-7, 1, 0, 0, 0, -1, 0, 0, 0, 0, 0, 0, 0, -1)}, {braid(3, 1, 2), laurent(6, 1)}, {braid(3, 1, -2), laurent(0, 1)},
		{braid(8, 1, 2, 3, 4, 5, 6, 7), laurent(21, -1)}, {braid(8, -7, -6, -5, -4, -3, -2, -1), laurent(-21, -1)},
	} {
		got, code := impl.BracketOf(c.b)
		checkLaurent(t, "BracketOf", got, code, c.want)
	}
}

func TestJonesOf(t *testing.T) {
	for _, c := range []struct {
		b    impl.Braid
		want impl.Laurent
	}{
		{braid(1), laurent(0, 1)}, {braid(2, 1), laurent(0, 1)}, {braid(2, -1), laurent(0, 1)}, {braid(8, -1, 2, -3, 4, -5, 6, -7), laurent(0, 1)}, {braid(2), laurent(-1, -1, 0, -1)}, {braid(3), laurent(-2, 1, 0, 2, 0, 1)}, {braid(3, 2), laurent(-1, -1, 0, -1)},
		{braid(2, 1, 1), laurent(1, -1, 0, 0, 0, -1)}, {braid(2, -1, -1), laurent(-5, -1, 0, 0, 0, -1)}, {braid(2, 1, 1, 1), laurent(2, 1, 0, 0, 0, 1, 0, -1)}, {braid(2, -1, -1, -1), laurent(-8, -1, 0, 1, 0, 0, 0, 1)},
		{braid(3, 1, -2, 1, -2), laurent(-4, 1, 0, -1, 0, 1, 0, -1, 0, 1)}, {braid(2, 1, 1, 1, 1, 1), laurent(4, 1, 0, 0, 0, 1, 0, -1, 0, 1, 0, -1)}, {braid(3, 1, 1, 1, 2, -1, 2), laurent(2, 1, 0, -1, 0, 2, 0, -1, 0, 1, 0, -1)},
		{braid(3, 1, -2, 1, -2, 1, -2), laurent(-6, -1, 0, 3, 0, -2, 0, 4, 0, -2, 0, 3, 0, -1)}, {braid(3, 1, -2, 1, -2, -2), laurent(-7, 1, 0, -2, 0, 1, 0, -2, 0, 1, 0, -1)},
		{braid(3, 1, 2, 1, 2, 1, 2, 1, 2), laurent(6, 1, 0, 0, 0, 1, 0, 0, 0, 0, 0, -1)}, {braid(3, 1, 2, 1, 2, 1, 2, 1, 2, 1, 2), laurent(8, 1, 0, 0, 0, 1, 0, 0, 0, 0, 0, 0, 0, -1)},
		{braid(8), laurent(-7, -1, 0, -7, 0, -21, 0, -35, 0, -35, 0, -21, 0, -7, 0, -1)},
	} {
		got, code := impl.JonesOf(c.b)
		checkLaurent(t, "JonesOf", got, code, c.want)
	}
}

func TestPlats(t *testing.T) {
	for _, c := range []struct {
		b          impl.Braid
		components int64
		bracket    plainPoly
	}{
		{braid(2), 1, plainMonomial(1, 0)}, {braid(2, 1), 1, plainMonomial(-1, -3)}, {braid(2, -1), 1, plainMonomial(-1, 3)}, {braid(2, 1, 1), 1, plainMonomial(1, -6)}, {braid(4), 2, plainLoop()}, {braid(4, 2), 1, plainMonomial(-1, 3)},
		{braid(4, 1), 2, plainMonomial(-1, -3).times(plainLoop())}, {braid(4, 1, 3), 2, plainMonomial(1, -6).times(plainLoop())}, {braid(4, 2, 2), 2, plainMonomial(-1, -4).plus(plainMonomial(-1, 4))}, {braid(4, 2, 1, 3, 2), 2, plainLoop()},
		{braid(4, 2, 2, 2), 1, plainMonomial(1, -7).plus(plainMonomial(-1, -3)).plus(plainMonomial(-1, 5))}, {braid(4, 1, 2, 3, -2), 1, plainMonomial(1, 0)}, {braid(6), 3, plainLoopPower(2)}, {braid(6, 2, 4), 1, plainMonomial(1, 6)},
		{braid(6, 3), 3, plainMonomial(-1, -3).times(plainLoopPower(2))}, {braid(8), 4, plainLoopPower(3)}, {braid(8, 2, -4, 6), 1, plainMonomial(-1, 3)}, {braid(8, 7, 7, -1), 4, plainMonomial(-1, -3).times(plainLoopPower(3))},
	} {
		got, code := impl.PlatComponents(c.b)
		checkNumber(t, "PlatComponents", got, code, c.components)
		bracket, code := impl.PlatBracket(c.b)
		checkLaurent(t, "PlatBracket", bracket, code, plainText(t, c.bracket))
	}
}

// checkBrackets checks all polynomials of a braid that is so short that all states can be asked.
func checkBrackets(t *testing.T, b impl.Braid) {
	t.Helper()
	bracket := plainBracket(b, false)
	got, code := impl.BracketOf(b)
	checkLaurent(t, "BracketOf", got, code, plainText(t, bracket))
	got, code = impl.JonesOf(b)
	checkLaurent(t, "JonesOf", got, code, plainText(t, plainJones(b, bracket)))
	got, code = impl.PlatBracket(b)
	if b.Strands%2 == 1 {
		checkNoLaurent(t, "PlatBracket", got, code, impl.ErrState)
	} else {
		checkLaurent(t, "PlatBracket", got, code, plainText(t, plainBracket(b, true)))
	}
}

func TestBracketsOfShortWords(t *testing.T) {
	for _, b := range slices.Concat(braidsOfLetters(1, 0), braidsOfLetters(2, 7), braidsOfLetters(3, 5), braidsOfLetters(4, 4), braidsOfLetters(6, 2), braidsOfLetters(8, 2)) {
		checkBrackets(t, b)
	}
}

func TestBracketsByStates(t *testing.T) {
	for _, b := range someLetters(83, 6, 11) {
		checkBrackets(t, b)
	}
}

func TestPlatComponents(t *testing.T) {
	kinds := map[int64]int{}
	for _, b := range slices.Concat(shortWords(), braidsOfLetters(6, 3), braidsOfLetters(8, 3), randomBraids(60), randomBraids(200)) {
		got, code := impl.PlatComponents(b)
		if b.Strands%2 == 1 {
			checkNoNumber(t, "PlatComponents", got, code, impl.ErrState)
			continue
		}
		// What is joined above is joined as strands, and what is joined below by the strands that end there.
		strands, order := newUnion(int(b.Strands)), plainPlaces(b)
		for place := 0; place < len(order); place += 2 {
			strands.join(place, place+1)
			strands.join(int(order[place]), int(order[place+1]))
		}
		checkNumber(t, "PlatComponents", got, code, int64(strands.count()))
		kinds[got]++
	}
	if kinds[1] < 100 || kinds[2] < 100 || kinds[3] < 100 || kinds[4] < 10 {
		t.Errorf("components %v", kinds)
	}
}

// TestBracketsOfTwoStrands has all words of one letter up to the limit. There the letter is a times 1 and
// a^-1 times a hook, and of the hook it makes -a^-3 times it.
func TestBracketsOfTwoStrands(t *testing.T) {
	for count := -30; count <= 30; count++ {
		b := braid(2, slices.Repeat([]int64{1}, max(count, 0))...)
		if count < 0 {
			b = braid(2, slices.Repeat([]int64{-1}, -count)...)
		}
		k := int64(count)
		hook := plainMonomial(1-2*(k&1), -3*k)
		got, code := impl.PlatBracket(b)
		checkLaurent(t, "PlatBracket of two strands", got, code, plainText(t, hook))
		rest := plainMonomial(1, k).times(plainLoopPower(2).plus(plainMonomial(-1, 0)))
		checkPowers(t, "BracketOf two strands, times that of a curve", plainOf(must[impl.Laurent](t)(impl.BracketOf(b))).times(plainLoop()), rest.plus(hook))
	}
}

func TestJonesOfTorusKnots(t *testing.T) {
	count := 0
	for p := int64(1); p <= 8; p++ {
		for q := int64(1); q*(p-1) <= 30 && q <= 40; q++ {
			b := must[impl.Braid](t)(impl.TorusBraid(p, q))
			if len(componentsOf(t, b)) > 1 {
				continue
			}
			count++
			// The powers are those of the root of t.
			ends := plainMonomial(1, 0).plus(plainMonomial(-1, 2*(p+1))).plus(plainMonomial(-1, 2*(q+1))).plus(plainMonomial(1, 2*(p+q)))
			got := plainOf(jonesOf(t, b)).times(plainMonomial(1, 0).plus(plainMonomial(-1, 4)))
			checkPowers(t, "JonesOf a torus knot, times 1 - t^2", got, ends.times(plainMonomial(1, (p-1)*(q-1))))
		}
	}
	if count < 50 {
		t.Errorf("only %d knots", count)
	}
}

// TestJonesOfThreeStrands uses the trace of the reduced matrix of Burau, which is told of long words, too.
func TestJonesOfThreeStrands(t *testing.T) {
	source := rand.New(rand.NewSource(84))
	list := []impl.Braid{beginningOf(3, 30, 1, -2), beginningOf(3, 30, 1, 2), beginningOf(3, 30, -2, -2, 1), longBraid(3, 30)}
	for range 300 {
		list = append(list, randomBraid(source, 3, source.Intn(31)))
	}
	for _, b := range list {
		want := plainMonomial(1, 2).plus(plainMonomial(1, -2))
		for power, x := range plainOf(must[impl.Laurent](t)(impl.TraceOf(b))) {
			want.addAt(2*power, x)
		}
		sum := plainSum(b)
		got, code := impl.JonesOf(b)
		checkLaurent(t, "JonesOf three strands", got, code, plainText(t, want.times(plainMonomial(1-2*(sum&1), sum))))
	}
}

// TestJonesOfChangedLetters uses the relation between a letter, its inverse and no letter there.
func TestJonesOfChangedLetters(t *testing.T) {
	source := rand.New(rand.NewSource(85))
	for _, b := range stateBraids(86) {
		if len(b.Letters) == 0 {
			continue
		}
		at := source.Intn(len(b.Letters))
		more, less := plainIndex(b.Letters[at]), -plainIndex(b.Letters[at])
		ahead, behind := b.Letters[:at], b.Letters[at+1:]
		first := plainOf(jonesOf(t, joined(b.Strands, ahead, []int64{more}, behind)))
		second := plainOf(jonesOf(t, joined(b.Strands, ahead, []int64{less}, behind)))
		without := plainOf(jonesOf(t, joined(b.Strands, ahead, behind)))
		checkPowers(t, "JonesOf a changed letter", first.times(plainMonomial(1, -2)).plus(second.times(plainMonomial(-1, 2))), without.times(plainMonomial(1, 1).plus(plainMonomial(-1, -1))))
	}
}

// TestValuesOfJones has the values for the roots 1 and i of t: the one tells the number of components,
// the other one the determinant of chapter 5.
func TestValuesOfJones(t *testing.T) {
	for _, b := range slices.Concat(stateBraids(88), braidsOfLetters(3, 4)) {
		p := jonesOf(t, b)
		value, code := impl.ValueAtSign(p, 1)
		components := int64(len(componentsOf(t, b)))
		want := int64(1)
		for range components - 1 {
			want *= -2
		}
		checkNumber(t, "the sum of the coefficients of JonesOf", value, code, want)
		sum, sign := int64(0), int64(1)
		for at, x := range p.Coefficients {
			if at%2 == 1 && x != 0 || (p.Low+components)%2 == 0 {
				t.Fatalf("JonesOf(%v) = %v", b, p)
			}
			if at%2 == 0 {
				sum, sign = sum+sign*x, -sign
			}
		}
		checkNumber(t, "JonesOf at -1", max(sum, -sum), code, must[int64](t)(impl.DeterminantOf(b)))
	}
}

// Promise 11, the second part.
func TestMirrorImagesHaveTheOppositePowers(t *testing.T) {
	different := 0
	for _, b := range slices.Concat(stateBraids(90), braidsOfLetters(2, 6), braidsOfLetters(3, 3)) {
		mirrored := mirrorOf(t, b)
		for name, call := range bracketFunctions() {
			p, code := call(b)
			if code == impl.ErrState {
				continue
			}
			got, code := call(mirrored)
			checkLaurent(t, name+" of a mirror image", got, code, opposite(p))
			if !sameLaurent(got, p) {
				different++
			}
		}
	}
	if different < 300 {
		t.Errorf("only %d polynomials change", different)
	}
}

func TestJonesOfTurnsAndReversals(t *testing.T) {
	for _, b := range stateBraids(92) {
		p := jonesOf(t, b)
		for name, call := range map[string]func(impl.Braid) (impl.Braid, int64){"turn": impl.TurnBraid, "reversal": impl.ReverseOf} {
			got, code := impl.JonesOf(must[impl.Braid](t)(call(b)))
			checkLaurent(t, "JonesOf the "+name, got, code, p)
		}
	}
}

// TestBracketsOfOtherWords uses that words of the same braid have the same brackets.
func TestBracketsOfOtherWords(t *testing.T) {
	source := rand.New(rand.NewSource(94))
	compared := 0
	for _, b := range stateBraids(95) {
		other := moved(source, b, 20)
		if len(other.Letters) > 30 {
			continue
		}
		for name, call := range bracketFunctions() {
			want, code := call(b)
			got, codeOfOther := call(other)
			if code != codeOfOther || !sameLaurent(got, want) {
				t.Errorf("%s(%v) = %v, code %d, but of %v it is %v, code %d", name, b, want, code, other, got, codeOfOther)
			}
			compared++
		}
	}
	if compared < 250 {
		t.Errorf("only %d brackets are compared", compared)
	}
}

// sizes returns the numbers of strands of the components of a braid, in order.
func sizes(t *testing.T, b impl.Braid) []int64 {
	t.Helper()
	var list []int64
	for _, component := range componentsOf(t, b) {
		list = append(list, int64(len(component)))
	}
	slices.Sort(list)
	return list
}

// checkMove checks that a move of Markov has kept the polynomials.
func checkMove(t *testing.T, name string, b, other impl.Braid) {
	t.Helper()
	got, code := impl.AlexanderOf(other)
	checkLaurent(t, "AlexanderOf "+name, got, code, alexanderOf(t, b))
	got, code = impl.JonesOf(other)
	checkLaurent(t, "JonesOf "+name, got, code, jonesOf(t, b))
}

// Promise 20, with the guarantee of the chapter: conjugates.
func TestConjugatesKeepPolynomials(t *testing.T) {
	source := rand.New(rand.NewSource(97))
	for _, b := range slices.Concat(someLetters(98, 12, 14), someLetters(99, 3, 24), braidsOfLetters(3, 3)) {
		c := randomBraid(source, b.Strands, source.Intn((30-len(b.Letters))/2+1))
		other := must[impl.Braid](t)(impl.ConjugateWord(b, c))
		checkMove(t, "a conjugate", b, other)
		if got, want := sizes(t, other), sizes(t, b); !slices.Equal(got, want) {
			t.Errorf("the components of %v have %v strands, those of %v %v", other, got, b, want)
		}
		// The strand x of the conjugate goes on as that of b at the place where x of c ends.
		ends := must[[]int64](t)(impl.EndsOf(c))
		for _, component := range componentsOf(t, other) {
			var led []int64
			for _, x := range component {
				led = append(led, ends[x])
			}
			slices.Sort(led)
			if !slices.ContainsFunc(componentsOf(t, b), func(known []int64) bool { return slices.Equal(known, led) }) {
				t.Errorf("the component %v of %v is none of %v", component, other, b)
			}
		}
	}
}

// Promise 20, with the guarantee of the chapter: strands that are added and removed.
func TestAddedStrandsKeepPolynomials(t *testing.T) {
	for _, b := range slices.Concat(someLetters(101, 12, 14), someLetters(102, 2, 29), braidsOfLetters(3, 3)) {
		for _, sign := range []int64{1, -1} {
			other, code := impl.AddStrand(b, sign)
			if b.Strands == 8 {
				checkNoBraid(t, "AddStrand", other, code, impl.ErrLimit)
				continue
			}
			if len(b.Letters) < 30 {
				checkMove(t, "a braid with a strand added", b, other)
			}
			components := componentsOf(t, other)
			for at, component := range components {
				components[at] = slices.DeleteFunc(component, func(x int64) bool { return x == b.Strands })
			}
			checkRows(t, "ComponentsOf but for the added strand", components, code, componentsOf(t, b))
			rows, linkings := must[[][]int64](t)(impl.ComponentLinkings(other)), must[[][]int64](t)(impl.ComponentLinkings(b))
			changed := slices.IndexFunc(componentsOf(t, other), func(component []int64) bool { return slices.Contains(component, b.Strands) })
			linkings[changed][changed] += sign
			checkRows(t, "ComponentLinkings with an added strand", rows, code, linkings)
		}
	}
}

// TestBracketsOfBraidsBesideEachOther has closures that are apart, and those that one letter connects.
func TestBracketsOfBraidsBesideEachOther(t *testing.T) {
	source := rand.New(rand.NewSource(104))
	for range 100 {
		m := 1 + source.Int63n(7)
		a := randomBraid(source, m, source.Intn(15))
		b := randomBraid(source, 1+source.Int63n(8-m), source.Intn(15))
		both, connected := beside(t, a, b)
		product := plainOf(jonesOf(t, a)).times(plainOf(jonesOf(t, b)))
		got, code := impl.JonesOf(connected)
		checkLaurent(t, "JonesOf connected closures", got, code, plainText(t, product))
		got, code = impl.JonesOf(both)
		checkLaurent(t, "JonesOf both closures", got, code, plainText(t, product.times(plainMonomial(-1, 1).plus(plainMonomial(-1, -1)))))
		for name, call := range map[string]func(impl.Braid) (impl.Laurent, int64){"BracketOf": impl.BracketOf, "PlatBracket": impl.PlatBracket} {
			first, code := call(a)
			second, codeOfSecond := call(b)
			if max(code, codeOfSecond) == impl.ErrNone {
				got, code := call(both)
				checkLaurent(t, name+" both", got, code, plainText(t, plainOf(first).times(plainOf(second)).times(plainLoop())))
			}
		}
	}
}

// evenBraids returns braids of 2, 4, 6 and 8 strands with at most most letters.
func evenBraids(seed int64, count int, most int) []impl.Braid {
	return slices.DeleteFunc(someLetters(seed, count, most), func(b impl.Braid) bool { return b.Strands%2 == 1 })
}

// platMove has letters that are put at an end of a braid, and the factor that its plat gets from them.
type platMove struct {
	letters []int64
	factor  plainPoly
}

// platMoves returns letters that twist two places that are joined, or lead them past the next two.
func platMoves(n int64) []platMove {
	moves := []platMove{{nil, plainMonomial(1, 0)}}
	for left := int64(1); left < n; left += 2 {
		moves = append(moves, platMove{[]int64{left}, plainMonomial(-1, -3)})
		if left+2 < n {
			moves = append(moves, platMove{[]int64{left + 1, left, left + 2, left + 1}, plainMonomial(1, 0)})
		}
	}
	return moves
}

func TestMovesOfPlats(t *testing.T) {
	source := rand.New(rand.NewSource(105))
	for _, b := range evenBraids(106, 25, 14) {
		count := must[int64](t)(impl.PlatComponents(b))
		bracket := plainOf(must[impl.Laurent](t)(impl.PlatBracket(b)))
		moves := platMoves(b.Strands)
		above, below := moves[source.Intn(len(moves))], moves[source.Intn(len(moves))]
		other := joined(b.Strands, above.letters, b.Letters, below.letters)
		got, code := impl.PlatBracket(other)
		checkLaurent(t, "PlatBracket behind a move", got, code, plainText(t, bracket.times(above.factor).times(below.factor)))
		number, code := impl.PlatComponents(other)
		checkNumber(t, "PlatComponents behind a move", number, code, count)
	}
}

// asPlat returns a braid of twice as many strands whose plat is the closure of a braid: the strands to the
// right go back, and those that are joined above with places next to them are led over all others.
func asPlat(t *testing.T, b impl.Braid) impl.Braid {
	t.Helper()
	strands := 2 * b.Strands
	var letters []int64
	for at := int64(2); at < strands; at++ {
		for place := at; place <= strands+1-at; place++ {
			letters = append(letters, place)
		}
	}
	way := braid(strands, letters...)
	return must[impl.Braid](t)(impl.ConjugateWord(braid(strands, b.Letters...), way))
}

func TestClosuresAsPlats(t *testing.T) {
	source := rand.New(rand.NewSource(108))
	for n, most := range map[int64]int{1: 0, 2: 26, 3: 18, 4: 6} {
		for range 40 {
			b := randomBraid(source, n, source.Intn(most+1))
			plat := asPlat(t, b)
			got, code := impl.PlatBracket(plat)
			checkLaurent(t, "PlatBracket of a closure", got, code, must[impl.Laurent](t)(impl.BracketOf(b)))
			count, code := impl.PlatComponents(plat)
			checkNumber(t, "PlatComponents of a closure", count, code, int64(len(componentsOf(t, b))))
		}
	}
}

func TestBracketsWithinTheLimit(t *testing.T) {
	source := rand.New(rand.NewSource(109))
	for n := int64(2); n <= 8; n++ {
		for _, b := range []impl.Braid{longBraid(n, 30), randomBraid(source, n, 30), beginningOf(n, 30, generatorsUpTo(n-1)...)} {
			for name, call := range bracketFunctions() {
				got, code := call(b)
				if name == "PlatBracket" && n%2 == 1 {
					checkNoLaurent(t, name, got, code, impl.ErrState)
				} else if code != impl.ErrNone || len(got.Coefficients) == 0 {
					t.Errorf("%s(%v) = %v, code %d", name, b, got, code)
				}
			}
		}
		for _, count := range []int{31, 32, 60, 200} {
			for _, b := range []impl.Braid{longBraid(n, count), randomBraid(source, n, count), pattern(n, count-1, []int64{n - 1, 1 - n}, 1)} {
				for name, call := range bracketFunctions() {
					got, code := call(b)
					if name == "PlatBracket" && n%2 == 1 {
						checkNoLaurent(t, name, got, code, impl.ErrState)
					} else {
						checkNoLaurent(t, name, got, code, impl.ErrLimit)
					}
				}
			}
		}
	}
	// The components of plats, and of closures, are told of more letters.
	for _, b := range []impl.Braid{longBraid(2, 200), longBraid(8, 200)} {
		got, code := impl.PlatComponents(b)
		checkNumber(t, "PlatComponents of many letters", got, code, b.Strands/2)
	}
}

func TestLettersThatCancelWithinTheLimit(t *testing.T) {
	for _, c := range []impl.Braid{pattern(2, 30, []int64{1, -1}), pattern(4, 30, []int64{2, -2}), pattern(8, 30, []int64{7, -7})} {
		got, code := impl.BracketOf(c)
		checkLaurent(t, "BracketOf", got, code, plainText(t, plainLoopPower(int(c.Strands)-1)))
		got, code = impl.PlatBracket(c)
		checkLaurent(t, "PlatBracket", got, code, plainText(t, plainLoopPower(int(c.Strands)/2-1)))
	}
	got, code := impl.BracketOf(pattern(2, 31, []int64{1, -1}))
	checkNoLaurent(t, "BracketOf of letters that cancel", got, code, impl.ErrLimit)
}

func TestPlatsOfOddNumbersOfStrands(t *testing.T) {
	for _, n := range []int64{1, 3, 5, 7} {
		list := []impl.Braid{braid(n)}
		if n > 1 {
			list = append(list, braid(n, 1, -2), longBraid(n, 30), longBraid(n, 31), longBraid(n, 200))
		}
		for _, b := range list {
			number, code := impl.PlatComponents(b)
			checkNoNumber(t, "PlatComponents", number, code, impl.ErrState)
			p, code := impl.PlatBracket(b)
			checkNoLaurent(t, "PlatBracket", p, code, impl.ErrState)
		}
	}
}

func TestInvalidBraidsOfLinks(t *testing.T) {
	for name, b := range notBraids() {
		for of, call := range componentFunctions() {
			got, code := call(b)
			checkNoRows(t, of+": "+name, got, code, impl.ErrInvalid)
		}
		for of, call := range closureNumberFunctions() {
			got, code := call(b)
			checkNoNumber(t, of+": "+name, got, code, impl.ErrInvalid)
		}
		for of, call := range moveFunctions() {
			got, code := call(b)
			checkNoBraid(t, of+": "+name, got, code, impl.ErrInvalid)
		}
		for of, call := range bracketFunctions() {
			got, code := call(b)
			checkNoLaurent(t, of+": "+name, got, code, impl.ErrInvalid)
		}
		for _, good := range []impl.Braid{braid(1), braid(2), braid(3, 1, -2), longBraid(8, 200)} {
			got, code := impl.ConjugateWord(good, b)
			checkNoBraid(t, "ConjugateWord by what is none: "+name, got, code, impl.ErrInvalid)
			got, code = impl.ConjugateWord(b, good)
			checkNoBraid(t, "ConjugateWord of what is none: "+name, got, code, impl.ErrInvalid)
		}
	}
}

func TestOrderOfErrorsOfLinks(t *testing.T) {
	for _, c := range []struct{ b, c impl.Braid }{
		{braid(1), braid(2)}, {braid(2), braid(1)}, {braid(3, 1), braid(4, 1)}, {braid(8), braid(7)}, {longBraid(2, 200), longBraid(3, 200)}, {longBraid(8, 200), longBraid(2, 200)}, {longBraid(3, 100), longBraid(2, 51)},
	} {
		got, code := impl.ConjugateWord(c.b, c.c)
		checkNoBraid(t, "ConjugateWord of different numbers of strands", got, code, impl.ErrRange)
	}
	bad := longBraid(3, 40)
	bad.Letters[39] = 3
	for name, call := range bracketFunctions() {
		got, code := call(bad)
		checkNoLaurent(t, name+" of too many letters and a bad one", got, code, impl.ErrInvalid)
	}
	number, code := impl.SeifertGenus(braid(3, 1, 3))
	checkNoNumber(t, "SeifertGenus of what is not connected and no braid", number, code, impl.ErrInvalid)
}

// checkNothingKept writes over the result of a call, which has to return the same again.
func checkNothingKept(t *testing.T, name string, call func() ([]int64, int64)) {
	t.Helper()
	first, code := call()
	want := slices.Clone(first)
	scribble(first)
	again, codeAgain := call()
	if code != codeAgain || !slices.Equal(again, want) {
		t.Errorf("%s = %v after its first result %v was written over", name, again, want)
	}
}

func TestLinksShareNoMemory(t *testing.T) {
	for _, word := range []impl.Braid{braid(1), braid(2), braid(2, 1), braid(3, 1, 1, -2), braid(4, 1, 3, 2, 1, 3), braid(6, 5), braid(7, 1, 2, 3, 3, 2, 1), braid(8, 7, 1, -4, 3), braid(4, 1, -2, 3)} {
		b, untouched := guarded(word)
		for name, call := range componentFunctions() {
			first := must[[][]int64](t)(call(b))
			want := copiedRows(first)
			checkApart(t, name, first)
			again, code := call(b)
			checkRows(t, name+" after its first result was written over", again, code, want)
		}
		for name, call := range moveFunctions() {
			checkNothingKept(t, name, func() ([]int64, int64) {
				got, code := call(b)
				return got.Letters, code
			})
		}
		for name, call := range bracketFunctions() {
			checkNothingKept(t, name, func() ([]int64, int64) {
				got, code := call(b)
				return got.Coefficients, code
			})
		}
		for _, call := range closureNumberFunctions() {
			call(b)
		}
		if !untouched() {
			t.Fatalf("%v has been changed, or shares memory with a result", word)
		}
	}
	for range 2 {
		got, code := impl.TorusBraid(3, 2)
		checkBraid(t, "TorusBraid", got, code, braid(3, 1, 2, 1, 2))
		scribble(got.Letters)
	}
}

// TestBracketsAtTheSameTime asks for brackets in several goroutines, again and again.
func TestBracketsAtTheSameTime(t *testing.T) {
	before := runtime.NumGoroutine()
	var group sync.WaitGroup
	for _, b := range evenBraids(110, 2, 20) {
		for name, call := range bracketFunctions() {
			want := must[impl.Laurent](t)(call(b))
			for range 3 {
				group.Go(func() {
					if got, code := call(b); code != impl.ErrNone || !sameLaurent(got, want) {
						t.Errorf("%s(%v) = %v, code %d, and %v", name, b, got, code, want)
					}
				})
			}
		}
	}
	group.Wait()
	for range 1000 {
		runtime.Gosched()
	}
	if after := runtime.NumGoroutine(); after > before {
		t.Errorf("%d goroutines are left of %d", after, before)
	}
}
