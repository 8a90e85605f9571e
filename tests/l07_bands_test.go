package tests

import (
	"bytes"
	"math"
	"math/rand"
	"slices"
	"strconv"
	"testing"

	"loop.example/g01205/impl"
)

func dual(strands, power int64, parts ...impl.Part) impl.Dual {
	return impl.Dual{Strands: strands, Power: power, Parts: parts}
}

// longDual returns the dual form with count parts that exchange 0 and 1.
func longDual(strands, power int64, count int) impl.Dual {
	return dual(strands, power, slices.Repeat([]impl.Part{impl.Part(plainLetter(1, strands))}, count)...)
}

func sameDual(a, b impl.Dual) bool {
	return a.Strands == b.Strands && a.Power == b.Power && slices.Equal(a.Parts, b.Parts)
}

func dualText(d impl.Dual) string {
	text := strconv.FormatInt(d.Power, 10)
	for _, p := range d.Parts {
		text += " " + string(p[:])
	}
	return text
}

func dualOf(t *testing.T, b impl.Braid) impl.Dual {
	t.Helper()
	return must[impl.Dual](t)(impl.DualForm(b))
}

func checkDual(t *testing.T, name string, got impl.Dual, code int64, want impl.Dual) {
	t.Helper()
	if code != impl.ErrNone || !sameDual(got, want) {
		t.Errorf("%s = %v, code %d, want %v", name, got, code, want)
	}
}

func checkNoDual(t *testing.T, name string, got impl.Dual, code, want int64) {
	t.Helper()
	if code != want || !sameDual(got, impl.Dual{}) {
		t.Errorf("%s = %v, code %d, want the zero value and code %d", name, got, code, want)
	}
}

func checkPart(t *testing.T, name string, got impl.Part, code int64, want impl.Part) {
	t.Helper()
	if code != impl.ErrNone || got != want {
		t.Errorf("%s = %v, code %d, want %v", name, got, code, want)
	}
}

func checkNoPart(t *testing.T, name string, got impl.Part, code, want int64) {
	t.Helper()
	if code != want || got != (impl.Part{}) {
		t.Errorf("%s = %v, code %d, want the zero value and code %d", name, got, code, want)
	}
}

func partFunctions() map[string]func(impl.Part, int64) (impl.Part, int64) {
	return map[string]func(impl.Part, int64) (impl.Part, int64){
		"ComplementOfPart": impl.ComplementOfPart,
		"TurnOfPart":       impl.TurnOfPart,
	}
}

func partPairFunctions() map[string]func(p, q impl.Part, n int64) (impl.Part, int64) {
	return map[string]func(p, q impl.Part, n int64) (impl.Part, int64){
		"MeetOfParts": impl.MeetOfParts,
		"JoinOfParts": impl.JoinOfParts,
	}
}

// names tells a partition: numbers are in one block exactly if they have the same name. Blocks are
// named 0, 1, .. in ascending order of their least numbers.
type names []int64

// plainPartitions returns all partitions of n numbers, also those that are not noncrossing.
func plainPartitions(n int64) []names {
	list := []names{{}}
	for range n {
		var longer []names
		for _, known := range list {
			for name := range known.count() + 1 {
				longer = append(longer, append(slices.Clone(known), name))
			}
		}
		list = longer
	}
	return list
}

// count returns the number of blocks.
func (p names) count() int64 {
	count := int64(0)
	for _, name := range p {
		count = max(count, name+1)
	}
	return count
}

func (p names) blocks() [][]int64 {
	blocks := make([][]int64, p.count())
	for x, name := range p {
		blocks[name] = append(blocks[name], int64(x))
	}
	return blocks
}

func (p names) isNoncrossing() bool {
	for d := range p {
		for c := range d {
			for b := range c {
				for a := range b {
					if p[a] == p[c] && p[b] == p[d] && p[a] != p[b] {
						return false
					}
				}
			}
		}
	}
	return true
}

// part returns what the document tells of a partition, also of one that is not noncrossing.
func (p names) part() impl.Part {
	var part impl.Part
	for x := range p {
		part[x] = byte(slices.Index(p, p[x]))
		for y := len(p) - 1; y > x; y-- {
			if p[y] == p[x] {
				part[x] = byte(y)
			}
		}
	}
	return part
}

// isInside reports whether each block of p is inside of a block of q.
func (p names) isInside(q names) bool {
	for x := range p {
		for y := range x {
			if p[x] == p[y] && q[x] != q[y] {
				return false
			}
		}
	}
	return true
}

// named returns the partition in which x and y are in one block if same tells so.
func named(n int64, same func(x, y int64) bool) names {
	var p names
	for y := range n {
		name := p.count()
		for x := range y {
			if same(x, y) {
				name = p[x]
			}
		}
		p = append(p, name)
	}
	return p
}

// plainNoncrossing returns the noncrossing partitions of n numbers.
func plainNoncrossing(n int64) []names {
	return slices.DeleteFunc(plainPartitions(n), func(p names) bool { return !p.isNoncrossing() })
}

// plainNames returns the names of the blocks of a part.
func plainNames(p impl.Part, n int64) names {
	return named(n, func(x, y int64) bool {
		at := int64(p[x])
		for at != x && at != y {
			at = int64(p[at])
		}
		return at == y
	})
}

func plainFine(n int64) impl.Part { return impl.Part(plainNothing(n)) }

func plainWhole(n int64) impl.Part {
	var p impl.Part
	for x := range n {
		p[x] = byte((x + 1) % n)
	}
	return p
}

func plainMeet(p, q names) names {
	return named(int64(len(p)), func(x, y int64) bool { return p[x] == p[y] && q[x] == q[y] })
}

// plainComplement finds the part that makes p the whole one.
func plainComplement(p impl.Part, n int64) impl.Part {
	var q impl.Part
	for x := range n {
		q[p[x]] = plainWhole(n)[x]
	}
	return q
}

func plainBandWord(t, s int64) []int64 {
	word := []int64{s + 1}
	for i := s + 2; i <= t; i++ {
		word = append(append([]int64{i}, word...), -i)
	}
	return word
}

func plainPartWord(p names) []int64 {
	var word []int64
	for _, block := range p.blocks() {
		for at := len(block) - 1; at >= 1; at-- {
			word = append(word, plainBandWord(block[at], block[at-1])...)
		}
	}
	return word
}

// plainDualWord returns the word of any length of the braid of a dual form.
func plainDualWord(d impl.Dual) []int64 {
	var whole, word []int64
	for i := d.Strands - 1; i >= 1; i-- {
		whole = append(whole, i)
	}
	if d.Power < 0 {
		slices.Reverse(whole)
		for at := range whole {
			whole[at] = -whole[at]
		}
	}
	word = slices.Repeat(whole, int(max(d.Power, -d.Power)))
	for _, p := range d.Parts {
		word = append(word, plainPartWord(plainNames(p, d.Strands))...)
	}
	return word
}

// plainIsDual reports whether numbers and noncrossing partitions are those of a dual form.
func plainIsDual(d impl.Dual) bool {
	n := d.Strands
	if n < 1 || n > 8 || d.Power < -400 || d.Power > 400 || len(d.Parts) > 400 || n == 1 && d.Power != 0 {
		return false
	}
	for at, p := range d.Parts {
		if p == plainFine(n) || p == plainWhole(n) {
			return false
		}
		if at > 0 && plainMeet(plainNames(plainComplement(d.Parts[at-1], n), n), plainNames(p, n)).part() != plainFine(n) {
			return false
		}
	}
	return true
}

func TestMaxParts(t *testing.T) {
	if impl.MaxParts != 400 {
		t.Errorf("MaxParts = %d", impl.MaxParts)
	}
}

func TestExamplesOfBands(t *testing.T) {
	for _, c := range []struct {
		n, t, s int64
		want    []int64
	}{
		{2, 1, 0, []int64{1}}, {3, 1, 0, []int64{1}}, {3, 2, 1, []int64{2}}, {3, 2, 0, []int64{2, 1, -2}},
		{4, 3, 0, []int64{3, 2, 1, -2, -3}}, {4, 3, 1, []int64{3, 2, -3}}, {4, 2, 0, []int64{2, 1, -2}}, {8, 7, 6, []int64{7}},
		{8, 7, 0, []int64{7, 6, 5, 4, 3, 2, 1, -2, -3, -4, -5, -6, -7}}, {8, 5, 2, []int64{5, 4, 3, -4, -5}},
	} {
		got, code := impl.BandOf(c.n, c.t, c.s)
		checkBraid(t, "BandOf", got, code, braid(c.n, c.want...))
	}
}

func TestBandOf(t *testing.T) {
	numbers := []int64{math.MinInt64, -256, -1, 0, 1, 2, 3, 4, 5, 6, 7, 8, 9, 256 + 3, 1<<32 + 3, math.MaxInt64}
	bands := 0
	for _, n := range numbers {
		for _, upper := range numbers {
			for _, lower := range numbers {
				got, code := impl.BandOf(n, upper, lower)
				if n < 2 || n > 8 || lower < 0 || lower >= upper || upper >= n {
					checkNoBraid(t, "BandOf", got, code, impl.ErrRange)
					continue
				}
				bands++
				checkBraid(t, "BandOf", got, code, braid(n, plainBandWord(upper, lower)...))
				ends, code := impl.EndsOf(got)
				want := []int64{0, 1, 2, 3, 4, 5, 6, 7}
				want[lower], want[upper] = upper, lower
				checkList(t, "ends of a band", ends, code, want[:n])
			}
		}
	}
	if bands != 1+3+6+10+15+21+28 {
		t.Errorf("%d bands", bands)
	}
}

// TestBandsAreThoseOfTheirRelations holds bands against the relations by which products of two of
// them are the same.
func TestBandsAreThoseOfTheirRelations(t *testing.T) {
	for n := int64(3); n <= 8; n++ {
		band := func(upper, lower int64) []int64 {
			return must[impl.Braid](t)(impl.BandOf(n, upper, lower)).Letters
		}
		for x := range n {
			for y := range x {
				for z := range y {
					first, second, third := joined(n, band(x, y), band(y, z)), joined(n, band(x, z), band(x, y)), joined(n, band(y, z), band(x, z))
					for _, other := range []impl.Braid{second, third} {
						same, code := impl.EqualByBands(first, other)
						checkAnswer(t, "EqualByBands of two bands", same, code, true)
						same, code = impl.SameBraid(first, other)
						checkAnswer(t, "SameBraid of two bands", same, code, true)
					}
				}
			}
		}
	}
}

type numberedPart struct {
	p impl.Part
	n int64
}

// notParts has what breaks each condition of a noncrossing partition of n numbers.
func notParts() map[string]numberedPart {
	list := map[string]numberedPart{
		"a block that descends":             {impl.Part{2, 0, 1}, 3},
		"a block that goes up and down":     {impl.Part{2, 3, 1, 0}, 4},
		"a block with two beginnings":       {impl.Part{3, 2, 0, 1}, 4},
		"a block of 8 that descends":        {impl.Part{7, 0, 1, 2, 3, 4, 5, 6}, 8},
		"blocks that cross":                 {impl.Part{2, 3, 0, 1}, 4},
		"blocks that cross, and another":    {impl.Part{3, 1, 4, 0, 2}, 5},
		"blocks that cross at the end":      {impl.Part{0, 1, 2, 3, 6, 7, 4, 5}, 8},
		"blocks of three that cross":        {impl.Part{2, 3, 4, 5, 0, 1}, 6},
		"a block that crosses one of two":   {impl.Part{1, 3, 4, 0, 2}, 5},
		"a partition of other numbers":      {impl.Part{1, 0, 2}, 4},
		"a partition of fewer numbers":      {impl.Part{1, 0, 2, 3}, 3},
		"the whole one of more numbers":     {impl.Part{1, 2, 3, 0}, 3},
		"the whole one of fewer numbers":    {impl.Part{1, 2, 0}, 4},
		"next numbers without the way back": {impl.Part{1, 2, 2}, 3},
	}
	for name, c := range notSimples() {
		list[name] = numberedPart{impl.Part(c.s), c.n}
	}
	return list
}

func TestIsPart(t *testing.T) {
	for name, c := range notParts() {
		if impl.IsPart(c.p, c.n) {
			t.Errorf("IsPart of %s = true", name)
		}
	}
	for n := int64(1); n <= 8; n++ {
		good := map[impl.Part]bool{}
		for _, p := range plainNoncrossing(n) {
			good[p.part()] = true
		}
		found := 0
		for _, s := range permutations(int(n)) {
			got := impl.IsPart(impl.Part(s), n)
			if got != good[impl.Part(s)] {
				t.Errorf("IsPart(%v, %d) = %v", s, n, got)
			}
			if got {
				found++
			}
		}
		if catalan := []int{1, 2, 5, 14, 42, 132, 429, 1430}; found != catalan[n-1] || len(good) != found {
			t.Errorf("%d of %d noncrossing partitions of %d numbers", found, len(good), n)
		}
	}
}

// TestIsPartOfSmallArrays asks for all arrays with entries of at most 4 at the first 4 places.
func TestIsPartOfSmallArrays(t *testing.T) {
	good := map[numberedPart]bool{}
	for n := int64(1); n <= 5; n++ {
		for _, p := range plainNoncrossing(n) {
			good[numberedPart{p.part(), n}] = true
		}
	}
	for code := range 5 * 5 * 5 * 5 {
		p := impl.Part{byte(code % 5), byte(code / 5 % 5), byte(code / 25 % 5), byte(code / 125)}
		for n := int64(-1); n <= 9; n++ {
			if got := impl.IsPart(p, n); got != good[numberedPart{p, n}] {
				t.Errorf("IsPart(%v, %d) = %v", p, n, got)
			}
		}
	}
}

func TestWhatIsNoPartIsInvalid(t *testing.T) {
	for name, c := range notParts() {
		blocks, code := impl.BlocksOfPart(c.p, c.n)
		checkNoRows(t, "BlocksOfPart of "+name, blocks, code, impl.ErrInvalid)
		rank, code := impl.RankOf(c.p, c.n)
		checkNoNumber(t, "RankOf "+name, rank, code, impl.ErrInvalid)
		word, code := impl.WordOfPart(c.p, c.n)
		checkNoBraid(t, "WordOfPart of "+name, word, code, impl.ErrInvalid)
		for function, call := range partFunctions() {
			got, code := call(c.p, c.n)
			checkNoPart(t, function+" of "+name, got, code, impl.ErrInvalid)
		}
		var good impl.Part
		if c.n >= 1 && c.n <= 8 {
			good = plainWhole(c.n)
		}
		for _, pair := range [][2]impl.Part{{c.p, good}, {good, c.p}, {c.p, c.p}} {
			for function, call := range partPairFunctions() {
				got, code := call(pair[0], pair[1], c.n)
				checkNoPart(t, function+" of "+name, got, code, impl.ErrInvalid)
			}
		}
	}
}

func TestExamplesOfParts(t *testing.T) {
	for _, c := range []struct {
		blocks [][]int64
		n      int64
		want   impl.Part
	}{
		{nil, 1, impl.Part{0}}, {[][]int64{}, 3, impl.Part{0, 1, 2}}, {[][]int64{{0}}, 1, impl.Part{0}}, {[][]int64{{1}, {0}}, 2, impl.Part{0, 1}},
		{[][]int64{{0, 1}}, 2, impl.Part{1, 0}}, {[][]int64{{0, 2}}, 4, impl.Part{2, 1, 0, 3}}, {[][]int64{{1, 2, 4}}, 5, impl.Part{0, 2, 4, 3, 1}},
		{[][]int64{{2, 3}, {0, 1}}, 4, impl.Part{1, 0, 3, 2}}, {[][]int64{{1, 2}, {0, 3}}, 4, impl.Part{3, 2, 1, 0}},
		{[][]int64{{0, 1, 2, 3, 4, 5, 6, 7}}, 8, impl.Part{1, 2, 3, 4, 5, 6, 7, 0}}, {[][]int64{{7}}, 8, impl.Part{0, 1, 2, 3, 4, 5, 6, 7}},
		{[][]int64{{0, 4, 7}, {5, 6}, {1, 3}, {2}}, 8, impl.Part{4, 3, 2, 1, 7, 6, 5, 0}},
	} {
		got, code := impl.PartOfBlocks(c.blocks, c.n)
		checkPart(t, "PartOfBlocks", got, code, c.want)
	}
}

func TestPartOfBlocks(t *testing.T) {
	source := rand.New(rand.NewSource(41))
	for n := int64(1); n <= 8; n++ {
		for _, p := range plainPartitions(n) {
			blocks := p.blocks()
			source.Shuffle(len(blocks), func(x, y int) { blocks[x], blocks[y] = blocks[y], blocks[x] })
			long := slices.DeleteFunc(slices.Clone(blocks), func(block []int64) bool { return len(block) == 1 && source.Intn(3) > 0 })
			for _, list := range [][][]int64{blocks, long} {
				got, code := impl.PartOfBlocks(list, n)
				if p.isNoncrossing() {
					checkPart(t, "PartOfBlocks", got, code, p.part())
				} else {
					checkNoPart(t, "PartOfBlocks of blocks that cross", got, code, impl.ErrInvalid)
				}
			}
		}
	}
}

func TestPartOfBlocksRefuses(t *testing.T) {
	for name, blocks := range map[string][][]int64{
		"an empty block":              {{}},
		"an empty block behind":       {{0, 1}, {}},
		"an empty block ahead":        {nil, {0, 1}},
		"a block that descends":       {{1, 0}},
		"a block that goes down":      {{0, 3, 2}},
		"a number twice in a block":   {{1, 1}},
		"a number twice at the end":   {{0, 2, 2}},
		"a block twice":               {{0, 2}, {0, 2}},
		"a number in two blocks":      {{0, 1}, {1, 2}},
		"a number alone and in one":   {{0, 1}, {2}, {1}},
		"a number alone twice":        {{3}, {3}},
		"a number too great by one":   {{4}},
		"a number of 8":               {{0, 7}},
		"a number far too great":      {{0, 256}},
		"the greatest number":         {{0, math.MaxInt64}},
		"a number too small by one":   {{-1}},
		"a number less than 0, ahead": {{-1, 0, 1}},
		"a number that a byte cuts":   {{-255, 2}},
		"the least number":            {{math.MinInt64, 1}},
		"more blocks than numbers":    {{0}, {1}, {2}, {3}, {0}},
		"many empty blocks":           make([][]int64, 1000),
		// To cross is a later error.
		"an empty block behind a crossing":    {{0, 2}, {1, 3}, {}},
		"a bad number behind a crossing":      {{0, 2}, {1, 3, 4}},
		"a number twice behind a crossing":    {{0, 2}, {1, 3}, {3}},
		"blocks that cross in the same place": {{0, 2}, {1, 2, 3}},
	} {
		got, code := impl.PartOfBlocks(blocks, 4)
		checkNoPart(t, "PartOfBlocks of "+name, got, code, impl.ErrRange)
	}
	for _, n := range []int64{math.MinInt64, -1, 0, 9, 10, 256 + 4, 1<<32 + 4, math.MaxInt64} {
		for _, blocks := range [][][]int64{nil, {{0, 1}}, {{0, 2}, {1, 3}}, {{}}} {
			got, code := impl.PartOfBlocks(blocks, n)
			checkNoPart(t, "PartOfBlocks of a bad number", got, code, impl.ErrRange)
		}
	}
	for n := int64(1); n <= 8; n++ {
		got, code := impl.PartOfBlocks([][]int64{{n - 1}}, n)
		checkPart(t, "PartOfBlocks of the greatest number", got, code, plainFine(n))
		got, code = impl.PartOfBlocks([][]int64{{n}}, n)
		checkNoPart(t, "PartOfBlocks of a number too great", got, code, impl.ErrRange)
	}
}

func TestBlocksAndRanks(t *testing.T) {
	blocks, code := impl.BlocksOfPart(impl.Part{2, 1, 0, 3}, 4)
	if want := [][]int64{{0, 2}, {1}, {3}}; code != impl.ErrNone || !sameRows(blocks, want) {
		t.Errorf("BlocksOfPart = %v, code %d", blocks, code)
	}
	for n := int64(1); n <= 8; n++ {
		for _, p := range plainNoncrossing(n) {
			blocks, code := impl.BlocksOfPart(p.part(), n)
			if code != impl.ErrNone || !sameRows(blocks, p.blocks()) {
				t.Errorf("BlocksOfPart(%v) = %v, code %d", p.part(), blocks, code)
			}
			rank, code := impl.RankOf(p.part(), n)
			checkNumber(t, "RankOf", rank, code, n-p.count())
			back, code := impl.PartOfBlocks(blocks, n)
			checkPart(t, "PartOfBlocks of BlocksOfPart", back, code, p.part())
		}
		rank, code := impl.RankOf(plainFine(n), n)
		checkNumber(t, "RankOf the fine partition", rank, code, 0)
		rank, code = impl.RankOf(plainWhole(n), n)
		checkNumber(t, "RankOf the whole partition", rank, code, n-1)
	}
}

func TestExamplesOfMeetsAndJoins(t *testing.T) {
	for _, c := range []struct {
		n                int64
		p, q, meet, join impl.Part
	}{
		{1, impl.Part{0}, impl.Part{0}, impl.Part{0}, impl.Part{0}},
		{2, impl.Part{0, 1}, impl.Part{1, 0}, impl.Part{0, 1}, impl.Part{1, 0}},
		{3, impl.Part{1, 0, 2}, impl.Part{0, 2, 1}, impl.Part{0, 1, 2}, impl.Part{1, 2, 0}},
		{4, impl.Part{1, 0, 2, 3}, impl.Part{0, 1, 3, 2}, impl.Part{0, 1, 2, 3}, impl.Part{1, 0, 3, 2}},
		// Blocks that would cross each other are joined.
		{4, impl.Part{2, 1, 0, 3}, impl.Part{0, 3, 2, 1}, impl.Part{0, 1, 2, 3}, impl.Part{1, 2, 3, 0}},
		{5, impl.Part{2, 1, 0, 3, 4}, impl.Part{0, 3, 2, 1, 4}, impl.Part{0, 1, 2, 3, 4}, impl.Part{1, 2, 3, 0, 4}},
		{5, impl.Part{1, 2, 3, 0, 4}, impl.Part{0, 2, 3, 4, 1}, impl.Part{0, 2, 3, 1, 4}, impl.Part{1, 2, 3, 4, 0}},
		{6, impl.Part{3, 2, 1, 0, 5, 4}, impl.Part{1, 4, 2, 3, 0, 5}, impl.Part{0, 1, 2, 3, 4, 5}, impl.Part{1, 2, 3, 4, 5, 0}},
		{8, impl.Part{4, 1, 2, 3, 0, 5, 6, 7}, impl.Part{0, 1, 6, 3, 4, 5, 2, 7}, impl.Part{0, 1, 2, 3, 4, 5, 6, 7}, impl.Part{2, 1, 4, 3, 6, 5, 0, 7}},
	} {
		for _, pair := range [][2]impl.Part{{c.p, c.q}, {c.q, c.p}} {
			got, code := impl.MeetOfParts(pair[0], pair[1], c.n)
			checkPart(t, "MeetOfParts", got, code, c.meet)
			got, code = impl.JoinOfParts(pair[0], pair[1], c.n)
			checkPart(t, "JoinOfParts", got, code, c.join)
		}
	}
}

// plainBest returns the one of some partitions with the most blocks, or with the fewest ones.
func plainBest(t *testing.T, list []names, sign int64) impl.Part {
	t.Helper()
	slices.SortFunc(list, func(p, q names) int { return int(sign * (q.count() - p.count())) })
	if len(list) > 1 && list[0].count() == list[1].count() {
		t.Fatalf("%v and %v have as many blocks", list[0], list[1])
	}
	return list[0].part()
}

// checkMeetAndJoin looks for the meet and the join among all noncrossing partitions.
func checkMeetAndJoin(t *testing.T, all []names, p, q names) {
	t.Helper()
	n := int64(len(p))
	below := slices.DeleteFunc(slices.Clone(all), func(c names) bool { return !c.isInside(p) || !c.isInside(q) })
	above := slices.DeleteFunc(slices.Clone(all), func(c names) bool { return !p.isInside(c) || !q.isInside(c) })
	meet, code := impl.MeetOfParts(p.part(), q.part(), n)
	checkPart(t, "MeetOfParts", meet, code, plainMeet(p, q).part())
	join, code := impl.JoinOfParts(p.part(), q.part(), n)
	checkPart(t, "JoinOfParts", join, code, plainBest(t, above, 1))
	// They are the greatest and the least one of the lattice, too.
	if meet != plainBest(t, below, -1) {
		t.Errorf("MeetOfParts(%v, %v) = %v is not the greatest one", p.part(), q.part(), meet)
	}
	for _, c := range below {
		if !c.isInside(plainNames(meet, n)) {
			t.Errorf("%v is not below the meet of %v and %v", c, p.part(), q.part())
		}
	}
	for _, c := range above {
		if !plainNames(join, n).isInside(c) {
			t.Errorf("%v is not above the join of %v and %v", c, p.part(), q.part())
		}
	}
}

// Promise 7, the first part: all pairs of few numbers.
func TestMeetsAndJoinsOfFewNumbers(t *testing.T) {
	for n := int64(1); n <= 5; n++ {
		all := plainNoncrossing(n)
		for _, p := range all {
			for _, q := range all {
				checkMeetAndJoin(t, all, p, q)
			}
		}
	}
}

// Promise 7, the first part: some pairs of many numbers.
func TestMeetsAndJoinsOfManyNumbers(t *testing.T) {
	source := rand.New(rand.NewSource(42))
	for n := int64(6); n <= 8; n++ {
		all := plainNoncrossing(n)
		for range 300 {
			p, q := all[source.Intn(len(all))], all[source.Intn(len(all))]
			checkMeetAndJoin(t, all, p, q)
			// Partitions with many blocks have joins with several ones, and others meets.
			few := slices.DeleteFunc(slices.Clone(all), func(c names) bool { return n-c.count() > 2 })
			checkMeetAndJoin(t, all, few[source.Intn(len(few))], few[source.Intn(len(few))])
			many := slices.DeleteFunc(slices.Clone(all), func(c names) bool { return c.count() > 3 })
			checkMeetAndJoin(t, all, many[source.Intn(len(many))], many[source.Intn(len(many))])
		}
		for _, p := range all {
			for name, call := range partPairFunctions() {
				got, code := call(p.part(), p.part(), n)
				checkPart(t, name+" of a partition and itself", got, code, p.part())
			}
			got, code := impl.MeetOfParts(p.part(), plainWhole(n), n)
			checkPart(t, "MeetOfParts with the whole one", got, code, p.part())
			got, code = impl.JoinOfParts(plainFine(n), p.part(), n)
			checkPart(t, "JoinOfParts with the fine one", got, code, p.part())
		}
	}
}

func TestLawsOfParts(t *testing.T) {
	for n := int64(1); n <= 4; n++ {
		meet := func(p, q impl.Part) impl.Part { return must[impl.Part](t)(impl.MeetOfParts(p, q, n)) }
		join := func(p, q impl.Part) impl.Part { return must[impl.Part](t)(impl.JoinOfParts(p, q, n)) }
		all := must[[]impl.Part](t)(impl.AllParts(n))
		for _, p := range all {
			for _, q := range all {
				if meet(p, q) != meet(q, p) || join(p, q) != join(q, p) || meet(p, join(p, q)) != p || join(p, meet(p, q)) != p {
					t.Errorf("%v and %v break a law", p, q)
				}
				for _, r := range all {
					if meet(meet(p, q), r) != meet(p, meet(q, r)) || join(join(p, q), r) != join(p, join(q, r)) {
						t.Errorf("%v, %v and %v break a law", p, q, r)
					}
				}
			}
		}
	}
}

func TestExamplesOfComplementsAndTurns(t *testing.T) {
	for _, c := range []struct {
		n                   int64
		p, complement, turn impl.Part
	}{
		{1, impl.Part{0}, impl.Part{0}, impl.Part{0}},
		{2, impl.Part{0, 1}, impl.Part{1, 0}, impl.Part{0, 1}}, {2, impl.Part{1, 0}, impl.Part{0, 1}, impl.Part{1, 0}},
		{3, impl.Part{1, 0, 2}, impl.Part{2, 1, 0}, impl.Part{0, 2, 1}}, {3, impl.Part{0, 2, 1}, impl.Part{1, 0, 2}, impl.Part{2, 1, 0}},
		{3, impl.Part{2, 1, 0}, impl.Part{0, 2, 1}, impl.Part{1, 0, 2}}, {4, impl.Part{2, 1, 0, 3}, impl.Part{3, 2, 1, 0}, impl.Part{0, 3, 2, 1}},
		{4, impl.Part{0, 1, 3, 2}, impl.Part{1, 2, 0, 3}, impl.Part{3, 1, 2, 0}}, {4, impl.Part{1, 0, 3, 2}, impl.Part{2, 1, 0, 3}, impl.Part{3, 2, 1, 0}},
		{8, impl.Part{1, 2, 3, 4, 5, 6, 7, 0}, impl.Part{0, 1, 2, 3, 4, 5, 6, 7}, impl.Part{1, 2, 3, 4, 5, 6, 7, 0}},
		{8, impl.Part{7, 1, 2, 3, 4, 5, 6, 0}, impl.Part{0, 2, 3, 4, 5, 6, 7, 1}, impl.Part{1, 0, 2, 3, 4, 5, 6, 7}},
	} {
		got, code := impl.ComplementOfPart(c.p, c.n)
		checkPart(t, "ComplementOfPart", got, code, c.complement)
		got, code = impl.TurnOfPart(c.p, c.n)
		checkPart(t, "TurnOfPart", got, code, c.turn)
	}
}

func TestComplementsAndTurns(t *testing.T) {
	for n := int64(1); n <= 8; n++ {
		complements := map[impl.Part]bool{}
		for _, p := range plainNoncrossing(n) {
			q, code := impl.ComplementOfPart(p.part(), n)
			if then := plainThen(impl.Simple(p.part()), impl.Simple(q), n); code != impl.ErrNone || impl.Part(then) != plainWhole(n) {
				t.Errorf("ComplementOfPart(%v) = %v, code %d", p.part(), q, code)
			}
			complements[q] = true
			// Complements have the rest of the rank.
			rank, code := impl.RankOf(q, n)
			checkNumber(t, "RankOf a complement", rank, code, p.count()-1)
			turn, code := impl.TurnOfPart(p.part(), n)
			before := func(x int64) int64 { return (x + n - 1) % n }
			want := named(n, func(x, y int64) bool { return p[before(x)] == p[before(y)] })
			checkPart(t, "TurnOfPart", turn, code, want.part())
			got, code := impl.ComplementOfPart(q, n)
			checkPart(t, "ComplementOfPart of a complement", got, code, turn)
		}
		if len(complements) != len(plainNoncrossing(n)) {
			t.Errorf("%d noncrossing partitions of %d numbers have %d complements", len(plainNoncrossing(n)), n, len(complements))
		}
	}
}

// TestComplementsTurnTheLatticeOver holds meets of complements against complements of joins.
func TestComplementsTurnTheLatticeOver(t *testing.T) {
	source := rand.New(rand.NewSource(43))
	for n := int64(1); n <= 8; n++ {
		all := plainNoncrossing(n)
		complement := func(p impl.Part) impl.Part { return must[impl.Part](t)(impl.ComplementOfPart(p, n)) }
		for range 200 {
			p, q := all[source.Intn(len(all))].part(), all[source.Intn(len(all))].part()
			got, code := impl.MeetOfParts(complement(p), complement(q), n)
			checkPart(t, "MeetOfParts of complements", got, code, complement(must[impl.Part](t)(impl.JoinOfParts(p, q, n))))
			got, code = impl.JoinOfParts(complement(p), complement(q), n)
			checkPart(t, "JoinOfParts of complements", got, code, complement(must[impl.Part](t)(impl.MeetOfParts(p, q, n))))
		}
	}
}

func TestAllParts(t *testing.T) {
	for n := int64(1); n <= 7; n++ {
		var want []impl.Part
		for _, p := range plainNoncrossing(n) {
			want = append(want, p.part())
		}
		slices.SortFunc(want, func(p, q impl.Part) int { return bytes.Compare(p[:], q[:]) })
		got, code := impl.AllParts(n)
		if code != impl.ErrNone || !slices.Equal(got, want) {
			t.Errorf("AllParts(%d) = %v, code %d, want %v", n, got, code, want)
		}
	}
	got, code := impl.AllParts(2)
	if want := []impl.Part{{0, 1}, {1, 0}}; code != impl.ErrNone || !slices.Equal(got, want) {
		t.Errorf("AllParts(2) = %v, code %d", got, code)
	}
	got, code = impl.AllParts(3)
	if want := []impl.Part{{0, 1, 2}, {0, 2, 1}, {1, 0, 2}, {1, 2, 0}, {2, 1, 0}}; code != impl.ErrNone || !slices.Equal(got, want) {
		t.Errorf("AllParts(3) = %v, code %d", got, code)
	}
	for _, n := range []int64{math.MinInt64, -1, 0, 8, 9, 256 + 3, 1<<32 + 3, math.MaxInt64} {
		if got, code := impl.AllParts(n); code != impl.ErrRange || len(got) != 0 {
			t.Errorf("AllParts(%d) has %d parts, code %d", n, len(got), code)
		}
	}
}

func TestWordOfPart(t *testing.T) {
	for _, c := range []struct {
		p    impl.Part
		n    int64
		want []int64
	}{
		{impl.Part{0}, 1, nil}, {impl.Part{0, 1}, 2, nil}, {impl.Part{1, 0}, 2, []int64{1}}, {impl.Part{1, 2, 0}, 3, []int64{2, 1}},
		{impl.Part{2, 1, 0}, 3, []int64{2, 1, -2}}, {impl.Part{1, 0, 3, 2}, 4, []int64{1, 3}}, {impl.Part{3, 2, 1, 0}, 4, []int64{3, 2, 1, -2, -3, 2}},
		{impl.Part{2, 1, 3, 0}, 4, []int64{3, 2, 1, -2}}, {impl.Part{1, 3, 2, 0}, 4, []int64{3, 2, -3, 1}},
		{impl.Part{1, 2, 3, 4, 5, 6, 7, 0}, 8, []int64{7, 6, 5, 4, 3, 2, 1}}, {impl.Part{1, 0, 3, 2, 5, 4, 7, 6}, 8, []int64{1, 3, 5, 7}},
	} {
		got, code := impl.WordOfPart(c.p, c.n)
		checkBraid(t, "WordOfPart", got, code, braid(c.n, c.want...))
	}
	for n := int64(1); n <= 8; n++ {
		for _, p := range plainNoncrossing(n) {
			word, code := impl.WordOfPart(p.part(), n)
			checkBraid(t, "WordOfPart", word, code, braid(n, plainPartWord(p)...))
			var ends []int64
			for x := range n {
				ends = append(ends, int64(p.part()[x]))
			}
			got, code := impl.EndsOf(word)
			checkList(t, "EndsOf a word", got, code, ends)
			sum, code := impl.SumOf(word)
			checkNumber(t, "SumOf a word", sum, code, n-p.count())
			// It is a dual form of one part, unless it is the fine or the whole one.
			form := dual(n, 0, p.part())
			if p.part() == plainFine(n) {
				form = dual(n, 0)
			} else if p.part() == plainWhole(n) {
				form = dual(n, 1)
			}
			d, code := impl.DualForm(word)
			checkDual(t, "DualForm of WordOfPart", d, code, form)
		}
	}
}

// TestWordsOfComplements holds what is left of parts against products of words.
func TestWordsOfComplements(t *testing.T) {
	for n := int64(1); n <= 6; n++ {
		whole := must[impl.Braid](t)(impl.WordOfPart(plainWhole(n), n))
		for _, p := range plainNoncrossing(n) {
			word := must[impl.Braid](t)(impl.WordOfPart(p.part(), n))
			rest := must[impl.Braid](t)(impl.WordOfPart(must[impl.Part](t)(impl.ComplementOfPart(p.part(), n)), n))
			same, code := impl.EqualByBands(joined(n, word.Letters, rest.Letters), whole)
			checkAnswer(t, "EqualByBands of a part with its complement", same, code, true)
			turn := must[impl.Braid](t)(impl.WordOfPart(must[impl.Part](t)(impl.TurnOfPart(p.part(), n)), n))
			same, code = impl.EqualByBands(joined(n, word.Letters, whole.Letters), joined(n, whole.Letters, turn.Letters))
			checkAnswer(t, "EqualByBands of a part and its turn", same, code, true)
		}
	}
}

// notDuals has what breaks each condition of a dual form, most of it by one.
func notDuals() map[string]impl.Dual {
	one, two, outer := impl.Part{1, 0, 2}, impl.Part{0, 2, 1}, impl.Part{2, 1, 0}
	return map[string]impl.Dual{
		"the zero value":                   {},
		"no strands":                       dual(0, 1),
		"less than no strands":             dual(-1, 0),
		"the fewest strands":               dual(math.MinInt64, 0),
		"a strand too many":                dual(9, 0),
		"a strand too many, and a part":    dual(9, 0, impl.Part{1, 0, 2, 3, 4, 5, 6, 7}),
		"strands that a byte cuts":         dual(256+3, 0, one),
		"the most strands":                 dual(math.MaxInt64, 0),
		"a power of one strand":            dual(1, 1),
		"an inverse power of one strand":   dual(1, -1),
		"a part of one strand":             dual(1, 0, impl.Part{}),
		"no part of one strand":            dual(1, 0, impl.Part{1}),
		"the fine part of 2 strands":       dual(2, 0, impl.Part{0, 1}),
		"the whole part of 2 strands":      dual(2, 0, impl.Part{1, 0}),
		"a power too great":                dual(3, 401, one),
		"a power too small":                dual(3, -401, one),
		"a power too great alone":          dual(2, 401),
		"a power too small alone":          dual(2, -401),
		"the greatest power":               dual(3, math.MaxInt64),
		"the least power":                  dual(3, math.MinInt64),
		"a part too many":                  longDual(3, 0, 401),
		"far too many parts":               longDual(8, -400, 5000),
		"the fine part":                    dual(3, 0, plainFine(3)),
		"the fine part behind a part":      dual(3, 0, one, plainFine(3)),
		"the fine part ahead of a part":    dual(3, 0, plainFine(3), one),
		"the fine part between":            dual(3, 0, one, plainFine(3), one),
		"the whole part":                   dual(3, 0, plainWhole(3)),
		"the whole part ahead of a part":   dual(3, 0, plainWhole(3), one),
		"the whole part behind a part":     dual(3, 0, one, plainWhole(3)),
		"the zero value as a part":         dual(3, 0, one, impl.Part{}),
		"a part of more strands":           dual(3, 0, impl.Part{1, 0, 2, 3}),
		"a part of fewer strands":          dual(3, 0, impl.Part{1, 0}),
		"a part with an entry behind it":   dual(3, 0, one, impl.Part{1, 0, 2, 0, 0, 0, 0, 1}),
		"a part with a number twice":       dual(3, 0, impl.Part{1, 1, 0}, one),
		"a part with a great number":       dual(3, 0, impl.Part{1, 0, 255}),
		"a part that descends":             dual(3, 0, impl.Part{2, 0, 1}),
		"a part that crosses itself":       dual(4, 0, impl.Part{2, 3, 0, 1}),
		"a part that the first can take":   dual(3, 0, two, one),
		"a part that the second can take":  dual(3, 0, two, two, one),
		"a part that the last can take":    dual(3, -5, two, two, one, outer),
		"parts that can be taken at first": dual(3, 5, outer, two, two, two),
		"one of two blocks can be taken":   dual(4, 0, impl.Part{1, 0, 2, 3}, impl.Part{3, 2, 1, 0}),
		"a part of a block can be taken":   dual(4, 0, impl.Part{2, 1, 0, 3}, impl.Part{0, 2, 3, 1}),
	}
}

func TestIsDual(t *testing.T) {
	one, two, outer := impl.Part{1, 0, 2}, impl.Part{0, 2, 1}, impl.Part{2, 1, 0}
	good := []impl.Dual{dual(1, 0), dual(2, 0), dual(2, 400), dual(2, -400), dual(8, 0), {Strands: 3, Parts: []impl.Part{}},
		dual(3, 0, two), dual(3, -1, outer, one, two, outer), dual(3, 0, one, one), dual(3, 0, one, two), dual(3, 0, two, outer), dual(3, 0, outer, one),
		longDual(3, 400, 400), longDual(8, -400, 400)}
	for _, d := range good {
		if !impl.IsDual(d) {
			t.Errorf("IsDual(%v) = false", d)
		}
	}
	for name, d := range notDuals() {
		if impl.IsDual(d) {
			t.Errorf("IsDual of %s = true", name)
		}
		word, code := impl.WordOfDual(d)
		checkNoBraid(t, "WordOfDual of "+name, word, code, impl.ErrInvalid)
	}
}

// shortDuals returns the lists of at most 3 parts of at most 3 strands, of at most 2 of 4 strands,
// and of single parts of 5 strands, that are dual forms, and the other ones.
func shortDuals() ([]impl.Dual, []impl.Dual) {
	var good, bad []impl.Dual
	for n, most := range map[int64]int{1: 3, 2: 3, 3: 3, 4: 2, 5: 1} {
		lists := [][]impl.Part{nil}
		for at := 0; at < len(lists); at++ {
			for _, power := range []int64{-2, -1, 0, 1, 2} {
				if d := dual(n, power, lists[at]...); plainIsDual(d) {
					good = append(good, d)
				} else {
					bad = append(bad, d)
				}
			}
			if len(lists[at]) < most {
				for _, p := range plainNoncrossing(n) {
					lists = append(lists, append(slices.Clone(lists[at]), p.part()))
				}
			}
		}
	}
	return good, bad
}

func TestIsDualOfShortLists(t *testing.T) {
	good, bad := shortDuals()
	for _, d := range good {
		if !impl.IsDual(d) {
			t.Errorf("IsDual(%v) = false", d)
		}
	}
	for _, d := range bad {
		if impl.IsDual(d) {
			t.Errorf("IsDual(%v) = true", d)
		}
	}
	// Of 3 strands each of three parts has two that can follow it. Of 4 and of 5 strands there are 12
	// and 40 parts.
	if len(good) != 1+5*(1+1+3+6+12+1+12+72+1+40) || len(bad) < 1000 {
		t.Errorf("%d lists are dual forms, %d are not", len(good), len(bad))
	}
}

// alternating returns count parts: the last one is the first one of the list, the one ahead of it the
// next one, and so on, again and again.
func alternating(count int, list ...impl.Part) []impl.Part {
	parts := make([]impl.Part, count)
	for at := range parts {
		parts[count-1-at] = list[at%len(list)]
	}
	return parts
}

func TestExamplesOfDualForms(t *testing.T) {
	one, two, outer := impl.Part{1, 0, 2}, impl.Part{0, 2, 1}, impl.Part{2, 1, 0}
	for _, c := range []struct {
		b    impl.Braid
		want impl.Dual
	}{
		{braid(1), dual(1, 0)}, {braid(8), dual(8, 0)}, {braid(2, 1), dual(2, 1)}, {braid(2, -1), dual(2, -1)}, {braid(2, 1, -1), dual(2, 0)},
		{braid(3, 1), dual(3, 0, one)}, {braid(3, 2), dual(3, 0, two)}, {braid(3, 2, 1), dual(3, 1)}, {braid(3, 1, 2), dual(3, 0, one, two)},
		{braid(3, 2, 1, -2), dual(3, 0, outer)}, {braid(3, -1, 2, 1), dual(3, 0, outer)}, {braid(3, -1), dual(3, -1, two)}, {braid(3, -2), dual(3, -1, outer)},
		{braid(3, 1, 2, 1), dual(3, 1, two)}, {braid(3, 2, 1, 2), dual(3, 1, two)}, {braid(3, 1, -2), dual(3, -1, outer, outer)},
		{braid(3, -1, 2), dual(3, -1, two, two)}, {braid(3, 1, 2, -1), dual(3, -1, outer, one, two)}, {braid(3, -1, -2), dual(3, -1)},
		{braid(4, 1, 3), dual(4, 0, impl.Part{1, 0, 3, 2})}, {braid(4, 3, 1), dual(4, 0, impl.Part{1, 0, 3, 2})}, {braid(4, 3, 2, 1), dual(4, 1)},
		{braid(3, plainHalfWord(3, 2)...), dual(3, 3)}, {braid(3, plainHalfWord(3, -2)...), dual(3, -3)}, {braid(8, plainHalfWord(8, 2)...), dual(8, 8)},
		// These have the most letters.
		{longBraid(2, 200), dual(2, 200)}, {inverseWord(t, longBraid(2, 200)), dual(2, -200)}, {longBraid(3, 200), longDual(3, 0, 200)},
		{longBraid(8, 200), longDual(8, 0, 200)}, {inverseWord(t, longBraid(3, 200)), dual(3, -200, alternating(200, two, one, outer)...)},
		{beginningOf(3, 200, 2, 1), dual(3, 100)}, {beginningOf(3, 200, -1, -2), dual(3, -100)}, {beginningOf(3, 200, 1, 2), dual(3, 99, one, two)},
	} {
		got, code := impl.DualForm(c.b)
		checkDual(t, "DualForm", got, code, c.want)
	}
	for name, b := range notBraids() {
		got, code := impl.DualForm(b)
		checkNoDual(t, "DualForm of "+name, got, code, impl.ErrInvalid)
	}
}

// checkIsDual reports an error if a result is no dual form.
func checkIsDual(t *testing.T, d impl.Dual) {
	t.Helper()
	for _, p := range d.Parts {
		if blocks := plainNames(p, d.Strands); !blocks.isNoncrossing() || blocks.part() != p {
			t.Errorf("%v is no noncrossing partition", p)
		}
	}
	if !plainIsDual(d) || !impl.IsDual(d) {
		t.Errorf("%v is no dual form", d)
	}
}

// Dual forms fulfil their conditions, and are those of the braids for which they stand.
func TestDualFormsStandForTheirBraids(t *testing.T) {
	for _, b := range append(shortWords(), randomBraids(12)...) {
		d := dualOf(t, b)
		checkIsDual(t, d)
		if d.Strands != b.Strands || plainAction(plainDualWord(d), d.Strands) != plainAction(b.Letters, b.Strands) {
			t.Errorf("DualForm(%v) = %v is another braid", b, d)
		}
	}
	for _, b := range randomBraids(200) {
		d := dualOf(t, b)
		checkIsDual(t, d)
		if d.Strands != b.Strands || plainBurau(plainDualWord(d), d.Strands) != plainBurau(b.Letters, b.Strands) {
			t.Errorf("DualForm(%v) = %v is another braid", b, d)
		}
	}
}

// checkFormOfWord holds the dual form of the word of a dual form against it. It returns whether the
// word has few enough letters.
func checkFormOfWord(t *testing.T, d impl.Dual) bool {
	t.Helper()
	word, code := impl.WordOfDual(d)
	want := plainDualWord(d)
	if len(want) > 200 {
		checkNoBraid(t, "WordOfDual", word, code, impl.ErrLimit)
		return false
	}
	checkBraid(t, "WordOfDual", word, code, braid(d.Strands, want...))
	got, code := impl.DualForm(word)
	checkDual(t, "DualForm of WordOfDual", got, code, d)
	return true
}

// Promise 7, the second part.
func TestDualFormsAreThoseOfTheirWords(t *testing.T) {
	good, _ := shortDuals()
	for _, b := range append(shortWords(), randomBraids(60)...) {
		good = append(good, dualOf(t, b))
	}
	within := 0
	for _, d := range good {
		if checkFormOfWord(t, d) {
			within++
		}
	}
	if within < 5000 || within == len(good) {
		t.Errorf("the words of %d of %d dual forms are within the limit", within, len(good))
	}
}

func TestWordsOfDualFormsWithinTheLimit(t *testing.T) {
	one, two, outer, pairs := impl.Part{1, 0, 2}, impl.Part{0, 2, 1}, impl.Part{2, 1, 0}, impl.Part{1, 0, 3, 2, 5, 4, 7, 6}
	first, more := impl.Part{1, 0, 2, 3, 4, 5, 6, 7}, impl.Part{2, 1, 0, 3, 4, 5, 6, 7}
	for _, c := range []struct {
		d       impl.Dual
		letters int
	}{
		{dual(1, 0), 0}, {dual(8, 0), 0}, {dual(2, 200), 200}, {dual(2, 201), 201}, {dual(2, 400), 400}, {dual(2, -200), 200}, {dual(2, -201), 201},
		{dual(2, -400), 400}, {dual(3, 100), 200}, {dual(3, 101), 202}, {dual(3, -100), 200}, {dual(3, -101), 202}, {dual(3, 99, one), 199},
		{dual(3, 99, one, one), 200}, {dual(3, 99, outer), 201}, {dual(3, 100, two), 201}, {dual(3, -100, two), 201}, {dual(3, 98, outer, one), 200},
		{dual(3, -98, outer, outer), 202}, {longDual(3, 0, 200), 200}, {longDual(3, 0, 201), 201}, {longDual(3, 50, 100), 200}, {longDual(3, -50, 101), 201},
		{longDual(8, 0, 200), 200}, {longDual(8, 0, 201), 201}, {dual(8, 28, pairs), 200}, {dual(8, -28, pairs), 200}, {dual(8, 29), 203},
		{dual(8, 28, more), 199}, {dual(8, 27, pairs, pairs, first, first, first), 200}, {dual(8, 27, pairs, pairs, first, first, first, first), 201},
		{dual(8, 27, more, more, more, first, first), 200}, {dual(8, -27, more, more, more, first, first, first), 201},
		{dual(8, 28, more, more), 202}, {dual(8, -28, pairs, pairs), 204}, {longDual(8, 400, 400), 3200}, {longDual(3, -400, 400), 1200},
	} {
		checkIsDual(t, c.d)
		if letters := len(plainDualWord(c.d)); letters != c.letters {
			t.Fatalf("%v has %d letters, not %d", c.d, letters, c.letters)
		}
		if checkFormOfWord(t, c.d) != (c.letters <= 200) {
			t.Errorf("WordOfDual(%v) of %d letters", c.d, c.letters)
		}
	}
}

func TestExamplesOfWordsOfDualForms(t *testing.T) {
	one, two, outer := impl.Part{1, 0, 2}, impl.Part{0, 2, 1}, impl.Part{2, 1, 0}
	for _, c := range []struct {
		d    impl.Dual
		want []int64
	}{
		{dual(1, 0), nil}, {dual(2, 2), []int64{1, 1}}, {dual(2, -2), []int64{-1, -1}}, {dual(3, 1), []int64{2, 1}}, {dual(3, -1), []int64{-1, -2}},
		{dual(3, 0, one, two), []int64{1, 2}}, {dual(3, -1, two), []int64{-1, -2, 2}}, {dual(3, 2, outer), []int64{2, 1, 2, 1, 2, 1, -2}},
		{dual(3, -2, outer, one), []int64{-1, -2, -1, -2, 2, 1, -2, 1}}, {dual(4, 0, impl.Part{3, 2, 1, 0}), []int64{3, 2, 1, -2, -3, 2}},
		{dual(8, -1), []int64{-1, -2, -3, -4, -5, -6, -7}},
	} {
		got, code := impl.WordOfDual(c.d)
		checkBraid(t, "WordOfDual", got, code, braid(c.d.Strands, c.want...))
	}
}

// Promise 18: all short words are sorted alike by their dual forms and by their normal forms.
func TestShortWordsHaveTheSameDualFormExactlyIfTheSameNormalForm(t *testing.T) {
	lists := [][]impl.Braid{braidsOfLetters(1, 0), braidsOfLetters(2, 7), braidsOfLetters(3, 6), braidsOfLetters(4, 4), braidsOfLetters(5, 3), braidsOfLetters(8, 2)}
	for _, list := range lists {
		duals, normals := map[string]string{}, map[string]string{}
		for _, b := range list {
			dual, normal := dualText(dualOf(t, b)), normalText(normalOf(t, b))
			if known, found := duals[normal]; found && known != dual {
				t.Fatalf("the braid of %v has two dual forms", b)
			}
			if known, found := normals[dual]; found && known != normal {
				t.Fatalf("%v has the dual form of another braid", b)
			}
			duals[normal], normals[dual] = dual, normal
		}
		if len(list) > 1 && len(duals) >= len(list) {
			t.Errorf("%d words are %d braids", len(list), len(duals))
		}
	}
}

// Promise 18: other words of the same braid have the same dual form, and a letter more leads to
// another one, as it does for normal forms.
func TestDualFormsOfMovedWords(t *testing.T) {
	source := rand.New(rand.NewSource(44))
	for _, b := range randomBraids(150) {
		other := moved(source, b, 400)
		got, code := impl.DualForm(other)
		checkDual(t, "DualForm of another word", got, code, dualOf(t, b))
		list := []impl.Braid{other}
		if b.Strands > 1 && len(other.Letters) < 200 {
			letter := randomBraid(source, b.Strands, 1).Letters[0]
			list = append(list, braid(b.Strands, slices.Insert(slices.Clone(other.Letters), len(other.Letters)/2, letter)...))
		}
		for at, c := range list {
			for _, pair := range [][2]impl.Braid{{b, c}, {c, b}} {
				equal, code := impl.EqualByBands(pair[0], pair[1])
				checkAnswer(t, "EqualByBands", equal, code, at == 0)
				same, code := impl.SameBraid(pair[0], pair[1])
				checkAnswer(t, "SameBraid", same, code, at == 0)
			}
		}
		if word, code := impl.WordOfNormal(normalOf(t, b)); code == impl.ErrNone {
			equal, code := impl.EqualByBands(b, braid(b.Strands, word...))
			checkAnswer(t, "EqualByBands of a normal form", equal, code, true)
		}
		if word, code := impl.WordOfDual(dualOf(t, b)); code == impl.ErrNone {
			checkNormal(t, "NormalOf WordOfDual", normalOf(t, word), impl.ErrNone, normalOf(t, b))
		}
	}
}

func TestEqualByBands(t *testing.T) {
	for _, c := range []struct {
		a, b impl.Braid
		want bool
	}{
		{braid(1), braid(1), true}, {braid(8), braid(8), true}, {braid(2, 1), braid(2, 1), true}, {braid(2, 1), braid(2, -1), false}, {braid(2, 1, -1), braid(2), true},
		{braid(3, 1, 2, 1), braid(3, 2, 1, 2), true}, {braid(3, 1, 2), braid(3, 2, 1), false}, {braid(3, 2, 1, -2), braid(3, -1, 2, 1), true},
		{braid(3, 1), braid(3, 2), false}, {braid(3, 1), braid(3, 1, 1), false}, {braid(3), braid(3, 2, 1), false}, {braid(3, 2, 1, 1), braid(3, 1), false},
		{braid(4, 1, 3), braid(4, 3, 1), true}, {braid(4, 1, 3), braid(4, 1), false}, {braid(8, 1, 7, -1, -7), braid(8), true},
		{longBraid(8, 200), longBraid(8, 200), true}, {longBraid(8, 200), longBraid(8, 199), false}, {longBraid(2, 200), longBraid(2, 199), false},
	} {
		for _, pair := range [][2]impl.Braid{{c.a, c.b}, {c.b, c.a}} {
			got, code := impl.EqualByBands(pair[0], pair[1])
			checkAnswer(t, "EqualByBands", got, code, c.want)
		}
	}
	for _, pair := range [][2]impl.Braid{{braid(1), braid(2)}, {braid(3, 1), braid(4, 1)}, {braid(4, 1), braid(3, 1)}, {braid(8), braid(7)}, {longBraid(2, 200), braid(1)}} {
		got, code := impl.EqualByBands(pair[0], pair[1])
		checkNoAnswer(t, "EqualByBands with other strands", got, code, impl.ErrRange)
	}
	for name, b := range notBraids() {
		// The other braid mostly has other strands, which is a later error.
		for _, pair := range [][2]impl.Braid{{b, braid(5, 1)}, {braid(5, 1), b}, {b, b}, {b, braid(3)}, {braid(3), b}} {
			got, code := impl.EqualByBands(pair[0], pair[1])
			checkNoAnswer(t, "EqualByBands of "+name, got, code, impl.ErrInvalid)
		}
	}
}

// guardedDual returns a dual form whose parts have spare capacity, and a function that reports
// whether neither of them has been written to.
func guardedDual(d impl.Dual) (impl.Dual, func() bool) {
	spare := impl.Part{9, 9, 9}
	all := append(slices.Clone(d.Parts), spare, spare, spare, spare)
	before := slices.Clone(all)
	d.Parts = all[:len(d.Parts)]
	return d, func() bool { return slices.Equal(all, before) }
}

// scribbleParts writes over a list and its spare capacity.
func scribbleParts(list []impl.Part) {
	list = list[:cap(list)]
	for at := range list {
		list[at] = impl.Part{7, 7, 7}
	}
}

func TestDualFormsShareNoMemoryWithArguments(t *testing.T) {
	for _, word := range []impl.Braid{braid(1), braid(2, 1), braid(3), braid(3, 1), braid(3, 2, 1), braid(3, 1, 2, -1), braid(4, 1, 1, -2, 3, 3, 2, -1), longBraid(3, 200)} {
		b, untouched := guarded(word)
		form := dualOf(t, b)
		want := dual(form.Strands, form.Power, slices.Clone(form.Parts)...)
		impl.EqualByBands(b, b)
		scribbleParts(form.Parts)
		if !untouched() {
			t.Errorf("%v has been changed", word)
		}
		checkDual(t, "DualForm after the first one was written over", dualOf(t, b), impl.ErrNone, want)
		d, untouchedDual := guardedDual(want)
		impl.IsDual(d)
		got, code := impl.WordOfDual(d)
		scribble(got.Letters)
		if !untouchedDual() {
			t.Errorf("%v has been changed", want)
		}
		again, codeOfAgain := impl.WordOfDual(d)
		if code != codeOfAgain || code == impl.ErrNone && !slices.Equal(again.Letters, plainDualWord(want)) {
			t.Errorf("WordOfDual(%v) = %v, code %d, after the first one was written over", d, again, codeOfAgain)
		}
	}
}

func TestPartsShareNoMemory(t *testing.T) {
	first, firstUntouched := guarded(braid(0, 0, 4))
	second, secondUntouched := guarded(braid(0, 1, 2, 3))
	spare := []int64{5}
	blocks := [][]int64{first.Letters, second.Letters, spare}[:2]
	got, code := impl.PartOfBlocks(blocks, 6)
	checkPart(t, "PartOfBlocks", got, code, impl.Part{4, 2, 3, 1, 0, 5})
	impl.PartOfBlocks([][]int64{first.Letters, {2, 5}}, 6)
	if !firstUntouched() || !secondUntouched() || spare[0] != 5 || !sameRows(blocks[:3], [][]int64{{0, 4}, {1, 2, 3}, {5}}) {
		t.Errorf("PartOfBlocks changes its argument: %v", blocks[:3])
	}
	for n := int64(1); n <= 8; n++ {
		for _, p := range []impl.Part{plainFine(n), plainWhole(n)} {
			checkRowsAreApart(t, "BlocksOfPart", must[[][]int64](t)(impl.BlocksOfPart(p, n)))
			scribble(must[impl.Braid](t)(impl.WordOfPart(p, n)).Letters)
			got, code := impl.WordOfPart(p, n)
			checkBraid(t, "WordOfPart after the first one was written over", got, code, braid(n, plainPartWord(plainNames(p, n))...))
		}
	}
	checkRowsAreApart(t, "BlocksOfPart", must[[][]int64](t)(impl.BlocksOfPart(got, 6)))
	list := must[[]impl.Part](t)(impl.AllParts(4))
	want := slices.Clone(list)
	scribbleParts(list)
	if got := must[[]impl.Part](t)(impl.AllParts(4)); !slices.Equal(got, want) {
		t.Errorf("AllParts after the first result was written over = %v", got)
	}
	scribble(must[impl.Braid](t)(impl.BandOf(4, 3, 0)).Letters)
	word, code := impl.BandOf(4, 3, 0)
	checkBraid(t, "BandOf after the first one was written over", word, code, braid(4, 3, 2, 1, -2, -3))
}
