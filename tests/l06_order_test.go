package tests

import (
	"math/rand"
	"slices"
	"testing"

	"loop.example/g01205/impl"
)

func checkNoList(t *testing.T, name string, got []int64, code, want int64) {
	t.Helper()
	if code != want || len(got) != 0 {
		t.Errorf("%s = %v, code %d, want nothing and code %d", name, got, code, want)
	}
}

// orderNumberFunctions has the functions that lead from one braid to a number.
func orderNumberFunctions() map[string]func(impl.Braid) (int64, int64) {
	return map[string]func(impl.Braid) (int64, int64){
		"WordSign":   impl.WordSign,
		"MainLetter": impl.MainLetter,
		"FloorOf":    impl.FloorOf,
	}
}

// handleFunctions has the functions that reduce handles of one braid.
func handleFunctions() map[string]func(impl.Braid) (impl.Braid, int64) {
	return map[string]func(impl.Braid) (impl.Braid, int64){
		"ReduceHandle": impl.ReduceHandle,
		"HandleFree":   impl.HandleFree,
	}
}

func plainIndex(x int64) int64 { return max(x, -x) }

// plainHandles returns the places of the first and the last letter of all handles of a word, in the
// order in which they end.
func plainHandles(word []int64) [][]int64 {
	var list [][]int64
	for last, x := range word {
		for first, y := range word[:last] {
			hinders := func(z int64) bool {
				return plainIndex(z) == plainIndex(x) || plainIndex(z) == plainIndex(x)-1
			}
			if y == -x && !slices.ContainsFunc(word[first+1:last], hinders) {
				list = append(list, []int64{int64(first), int64(last)})
			}
		}
	}
	return list
}

// plainFirstHandle looks back from each letter until one hinders a handle.
func plainFirstHandle(word []int64) []int64 {
	for last, x := range word {
		for first := last - 1; first >= 0; first-- {
			if word[first] == -x {
				return []int64{int64(first), int64(last)}
			}
			if i := plainIndex(word[first]); i == plainIndex(x) || i == plainIndex(x)-1 {
				break
			}
		}
	}
	return nil
}

// plainReduced returns a word one of whose handles has been reduced.
func plainReduced(word []int64, handle []int64) []int64 {
	first, last := handle[0], handle[1]
	i := plainIndex(word[last])
	sign := word[last] / i
	var between []int64
	for _, x := range word[first+1 : last] {
		switch x {
		case i + 1:
			between = append(between, sign*(i+1), i, -sign*(i+1))
		case -i - 1:
			between = append(between, sign*(i+1), -i, -sign*(i+1))
		default:
			between = append(between, x)
		}
	}
	return slices.Concat(word[:first], between, word[last+1:])
}

// plainReduction returns the word to which the reduction of a word leads, the steps that it takes,
// and the most letters on the way. It gives up behind 10000 steps.
func plainReduction(word []int64) ([]int64, int, int) {
	most := len(word)
	for steps := range 10000 {
		handle := plainFirstHandle(word)
		if handle == nil {
			return word, steps, most
		}
		word = plainReduced(word, handle)
		most = max(most, len(word))
	}
	return nil, 10000, most
}

// plainSign returns the least index of a word, and the sign of its letters, or 0 if both occur.
func plainSign(word []int64) (int64, int64) {
	for i := int64(1); i < 8; i++ {
		switch positive, negative := slices.Contains(word, i), slices.Contains(word, -i); {
		case positive && negative:
			return i, 0
		case positive:
			return i, 1
		case negative:
			return i, -1
		}
	}
	return 0, 0
}

// plainMainLetter reads the main letter of a braid from what it makes of the generators of a free
// group. Words that are positive in 1 lead the first generator to what ends with its inverse, words
// without 1 keep it, and all other ones are negative; then the same holds for 2, and so on.
func plainMainLetter(letters []int64, n int64) int64 {
	for i := int64(1); i < n; i++ {
		image := plainImage(letters, i)
		if image[len(image)-1] == -i {
			return i
		}
		if !slices.Equal(image, []int64{i}) {
			return -i
		}
	}
	return 0
}

// plainBetween returns the letters of the inverse of a, and those of b.
func plainBetween(a, b []int64) []int64 {
	var word []int64
	for _, x := range slices.Backward(a) {
		word = append(word, -x)
	}
	return append(word, b...)
}

// plainOrder compares two braids by what they make of generators.
func plainOrder(a, b impl.Braid) int64 {
	main := plainMainLetter(plainBetween(a.Letters, b.Letters), a.Strands)
	return min(max(-main, -1), 1)
}

// plainFullTurns returns the letters of the full turn, taken times times.
func plainFullTurns(t *testing.T, n, times int64) []int64 {
	t.Helper()
	full := must[impl.Braid](t)(impl.FullTurnBraid(n))
	if times < 0 {
		full = must[impl.Braid](t)(impl.InverseOf(full))
	}
	return slices.Repeat(full.Letters, int(max(times, -times)))
}

// joined returns the braid with the letters of all words, one after the other.
func joined(strands int64, words ...[]int64) impl.Braid {
	return braid(strands, slices.Concat(words...)...)
}

// pattern returns the braid of the first count letters of a word that is repeated, and a few more.
func pattern(strands int64, count int, word []int64, tail ...int64) impl.Braid {
	return joined(strands, beginningOf(strands, count, word...).Letters, tail)
}

func inverseWord(t *testing.T, b impl.Braid) impl.Braid {
	t.Helper()
	return must[impl.Braid](t)(impl.InverseOf(b))
}

func TestConstantsOfOrder(t *testing.T) {
	got := []int64{impl.MaxReductions, impl.MaxWork, impl.MaxFloor}
	if want := []int64{3000, 2000, 6}; !slices.Equal(got, want) {
		t.Errorf("constants %v, want %v", got, want)
	}
}

func TestWhatIsNoBraidHasNoOrder(t *testing.T) {
	for name, b := range notBraids() {
		list, code := impl.FirstHandle(b)
		checkNoList(t, "FirstHandle of "+name, list, code, impl.ErrInvalid)
		for function, call := range handleFunctions() {
			got, code := call(b)
			checkNoBraid(t, function+" of "+name, got, code, impl.ErrInvalid)
		}
		for function, call := range orderNumberFunctions() {
			got, code := call(b)
			checkNoNumber(t, function+" of "+name, got, code, impl.ErrInvalid)
		}
		answer, code := impl.IsTrivial(b)
		checkNoAnswer(t, "IsTrivial of "+name, answer, code, impl.ErrInvalid)
		// The other braid mostly has other strands, which is a later error.
		for _, pair := range [][2]impl.Braid{{b, braid(5, 1)}, {braid(5, 1), b}, {b, b}, {b, braid(3)}, {braid(3), b}} {
			got, code := impl.CompareBraids(pair[0], pair[1])
			checkNoNumber(t, "CompareBraids of "+name, got, code, impl.ErrInvalid)
			list, code = impl.SortBraids(pair[:])
			checkNoList(t, "SortBraids of "+name, list, code, impl.ErrInvalid)
		}
		// So is that there are too many of them.
		for _, count := range []int{1, 2, 10, 11, 12} {
			for at := range count {
				long := slices.Repeat([]impl.Braid{braid(3, 1)}, count)
				long[at] = b
				list, code = impl.SortBraids(long)
				checkNoList(t, "SortBraids of "+name, list, code, impl.ErrInvalid)
			}
		}
	}
}

func TestExamplesOfHandles(t *testing.T) {
	cases := []struct{ b, reduced, free impl.Braid }{
		{braid(2, 1, -1), braid(2), braid(2)}, {braid(2, -1, 1), braid(2), braid(2)},
		{braid(2, 1, 1, -1, -1), braid(2, 1, -1), braid(2)}, {braid(2, 1, 1, -1), braid(2, 1), braid(2, 1)},
		{braid(3, 1, 2, -1), braid(3, -2, 1, 2), braid(3, -2, 1, 2)}, {braid(3, -1, 2, 1), braid(3, 2, 1, -2), braid(3, 2, 1, -2)},
		{braid(3, 1, -2, -1), braid(3, -2, -1, 2), braid(3, -2, -1, 2)}, {braid(3, -1, -2, 1), braid(3, 2, -1, -2), braid(3, 2, -1, -2)},
		{braid(3, 2, 1, 2, -1), braid(3, 2, -2, 1, 2), braid(3, 1, 2)}, {braid(3, 1, 2, 2, -1), braid(3, -2, 1, 2, -2, 1, 2), braid(3, -2, 1, 1, 2)},
		{braid(3, 1, 2, -2, -1), braid(3, 1, -1), braid(3)}, {braid(3, 1, 2, 1, -2, -1, -2), braid(3, 1, 2, -2, -1, 2, -2), braid(3)},
		{braid(4, 1, 3, -1), braid(4, 3), braid(4, 3)}, {braid(4, 1, 3, 2, -3, -1), braid(4, 3, -2, 1, 2, -3), braid(4, 3, -2, 1, 2, -3)},
		{braid(4, 2, 3, -2), braid(4, -3, 2, 3), braid(4, -3, 2, 3)}, {braid(4, 1, 3, 2, -1), braid(4, 3, -2, 1, 2), braid(4, 3, -2, 1, 2)},
		{braid(5, 3, 1, 4, 1, -3, 2), braid(5, 1, -4, 3, 4, 1, 2), braid(5, 1, -4, 3, 4, 1, 2)},
		{braid(8, 7, 5, -7), braid(8, 5), braid(8, 5)}, {braid(8, 6, 7, -6), braid(8, -7, 6, 7), braid(8, -7, 6, 7)},
		// Here the handle that ends first begins behind another one, and is not the shortest one.
		{braid(4, 1, 2, 3, -2, -1), braid(4, 1, -3, 2, 3, -1), braid(4, -3, -2, 1, 2, 3)},
		{braid(4, 1, 2, -1, 3, -3), braid(4, -2, 1, 2, 3, -3), braid(4, -2, 1, 2)},
	}
	for _, c := range cases {
		got, code := impl.ReduceHandle(c.b)
		checkBraid(t, "ReduceHandle", got, code, c.reduced)
		got, code = impl.HandleFree(c.b)
		checkBraid(t, "HandleFree", got, code, c.free)
	}
}

func TestFirstHandle(t *testing.T) {
	cases := []struct {
		b    impl.Braid
		want []int64
	}{
		{braid(3, 1, 2, -1), []int64{0, 2}}, {braid(2, 1, -1), []int64{0, 1}}, {braid(2, 1, 1, -1, -1), []int64{1, 2}},
		{braid(2, 1, -1, 1), []int64{0, 1}}, {braid(3, 2, 1, -2, -1), []int64{1, 3}}, {braid(3, 1, 1, 2, 2, -1), []int64{1, 4}},
		{braid(4, 3, 1, -3, -1), []int64{0, 2}}, {braid(4, 1, 3, -1, -3), []int64{0, 2}}, {braid(4, 1, 2, 3, -2, -1), []int64{1, 3}},
		{braid(4, 3, 2, 1, -3, -2, -1), []int64{2, 5}}, {braid(8, 7, 1, 2, 3, 4, 5, -7), []int64{0, 6}},
		{braid(8, 1, 7, 6, 5, 4, 3, 2, -1), []int64{0, 7}}, {joined(2, longBraid(2, 199).Letters, []int64{-1}), []int64{198, 199}},
		{joined(3, []int64{-1}, slices.Repeat([]int64{2}, 198), []int64{1}), []int64{0, 199}},
	}
	for _, c := range cases {
		got, code := impl.FirstHandle(c.b)
		checkList(t, "FirstHandle", got, code, c.want)
	}
	without := []impl.Braid{braid(1), braid(8), braid(2, 1), braid(2, -1, -1), braid(3, 1, 2, 1), braid(3, 2, 1, -2), braid(3, -2, -1, 2),
		braid(4, 3, -1, 2, -3), braid(8, 7, 6, -7), longBraid(2, 200), longBraid(8, 200), beginningOf(3, 200, 1, -2)}
	for _, b := range without {
		list, code := impl.FirstHandle(b)
		checkNoList(t, "FirstHandle", list, code, impl.ErrNotFound)
		got, code := impl.ReduceHandle(b)
		checkNoBraid(t, "ReduceHandle", got, code, impl.ErrNotFound)
		got, code = impl.HandleFree(b)
		checkBraid(t, "HandleFree", got, code, b)
	}
}

// checkHandles holds the handles of a braid, and what they are reduced to, against the document. It
// returns the code of HandleFree.
func checkHandles(t *testing.T, b impl.Braid) int64 {
	t.Helper()
	list, code := impl.FirstHandle(b)
	reduced, codeOfReduced := impl.ReduceHandle(b)
	if handle := plainFirstHandle(b.Letters); handle == nil {
		checkNoList(t, "FirstHandle", list, code, impl.ErrNotFound)
		checkNoBraid(t, "ReduceHandle", reduced, codeOfReduced, impl.ErrNotFound)
	} else {
		checkList(t, "FirstHandle", list, code, handle)
		if want := plainReduced(b.Letters, handle); len(want) > 200 {
			checkNoBraid(t, "ReduceHandle", reduced, codeOfReduced, impl.ErrLimit)
		} else {
			checkBraid(t, "ReduceHandle", reduced, codeOfReduced, braid(b.Strands, want...))
		}
	}
	free, steps, most := plainReduction(b.Letters)
	small := steps <= 3000 && most <= 2000
	got, code := impl.HandleFree(b)
	if !small || len(free) > 200 {
		checkNoBraid(t, "HandleFree", got, code, impl.ErrLimit)
	} else {
		checkBraid(t, "HandleFree", got, code, braid(b.Strands, free...))
	}
	main, codeOfMain := impl.MainLetter(b)
	trivial, codeOfTrivial := impl.IsTrivial(b)
	if small {
		index, sign := plainSign(free)
		checkNumber(t, "MainLetter", main, codeOfMain, index*sign)
		checkAnswer(t, "IsTrivial", trivial, codeOfTrivial, len(free) == 0)
	} else {
		checkNoNumber(t, "MainLetter", main, codeOfMain, impl.ErrLimit)
		checkNoAnswer(t, "IsTrivial", trivial, codeOfTrivial, impl.ErrLimit)
	}
	return code
}

// shortWords returns all words of 1 to 5 strands with few letters.
func shortWords() []impl.Braid {
	return slices.Concat(braidsOfLetters(1, 0), braidsOfLetters(2, 7), braidsOfLetters(3, 6), braidsOfLetters(4, 4), braidsOfLetters(5, 3))
}

func TestHandlesOfShortWords(t *testing.T) {
	for _, b := range shortWords() {
		handles := plainHandles(b.Letters)
		for at := 1; at < len(handles); at++ {
			if handles[at-1][1] == handles[at][1] {
				t.Fatalf("two handles of %v end at a place", b)
			}
		}
		first := plainFirstHandle(b.Letters)
		if len(handles) == 0 && first != nil || len(handles) > 0 && !slices.Equal(first, handles[0]) {
			t.Fatalf("%v has the handles %v, and first %v", b, handles, first)
		}
		if code := checkHandles(t, b); code != impl.ErrNone {
			t.Errorf("HandleFree(%v): code %d", b, code)
		}
	}
}

func TestHandlesOfLongWords(t *testing.T) {
	list := append(randomBraids(60), randomBraids(200)...)
	source := rand.New(rand.NewSource(31))
	for range 200 {
		n := 3 + source.Int63n(6)
		list = append(list, beginningOf(n, 200, randomBraid(source, n, 2+source.Intn(7)).Letters...))
	}
	codes := map[int64]int{}
	for _, b := range list {
		codes[checkHandles(t, b)]++
	}
	if codes[impl.ErrNone] < 500 || codes[impl.ErrLimit] < 1 {
		t.Errorf("codes %v", codes)
	}
}

func TestReduceHandleWithinTheLimit(t *testing.T) {
	// Each letter 2 between the letters 1 and -1 becomes three letters.
	handle := func(inside, behind int) impl.Braid {
		return joined(3, []int64{1}, slices.Repeat([]int64{2}, inside), []int64{-1}, slices.Repeat([]int64{2}, behind))
	}
	for _, c := range []struct{ inside, behind, letters int }{
		{1, 197, 200}, {66, 2, 200}, {66, 1, 199}, {50, 50, 200}, {0, 198, 198},
		{2, 196, 202}, {66, 3, 201}, {67, 0, 201}, {67, 1, 202}, {50, 51, 201}, {198, 0, 594}, {100, 0, 300},
	} {
		b := handle(c.inside, c.behind)
		for _, word := range []impl.Braid{b, must[impl.Braid](t)(impl.MirrorOf(b))} {
			got, code := impl.ReduceHandle(word)
			if c.letters > 200 {
				checkNoBraid(t, "ReduceHandle", got, code, impl.ErrLimit)
			} else if code != impl.ErrNone || len(got.Letters) != c.letters {
				t.Errorf("ReduceHandle(%v) has %d letters, code %d, want %d", word, len(got.Letters), code, c.letters)
			}
			// What is reduced further may be shorter again.
			checkHandles(t, word)
		}
	}
	// The whole reduction would take too many steps.
	long := pattern(3, 151, []int64{-1, 2, 2, 1}, -2, 1, -1, 2, -1)
	got, code := impl.ReduceHandle(long)
	checkBraid(t, "ReduceHandle of a long reduction", got, code, braid(3, plainReduced(long.Letters, plainFirstHandle(long.Letters))...))
}

// longReductions has words of which the reduction takes exactly so many steps.
func longReductions(t *testing.T, steps int) []impl.Braid {
	t.Helper()
	list := []impl.Braid{
		pattern(3, 150, []int64{-1, 2, 2, 1}, 1, -1), pattern(4, 172, []int64{1, -3, -3, -2, -2, -3, -1}, -1),
		pattern(5, 128, []int64{-1, 2, -3, -3, 1, 4}, 3, 4), pattern(7, 177, []int64{-3, -6, 4, -5, 1, -6, 3}, 5, 4, -3, 1, 1),
		pattern(8, 161, []int64{1, 4, -3, -2, -4, -3, -1}, -6, -6, 4, 5, 4),
	}
	if steps == 3001 {
		list = []impl.Braid{
			pattern(3, 151, []int64{-1, 2, 2, 1}, -2, 1, -1, 2, -1), pattern(4, 173, []int64{1, -3, -3, -2, -2, -3, -1}, -1),
			pattern(5, 129, []int64{-1, 2, -3, -3, 1, 4}, 3, 4), pattern(7, 190, []int64{4, -5, -4, 4, -4}, 3, 2, 2),
			pattern(8, 172, []int64{-2, -6, -2, -1, 2, 1, -3}, 1, 3),
		}
	}
	for _, b := range list {
		if free, got, most := plainReduction(b.Letters); got != steps || most > 2000 || len(free) > 200 {
			t.Fatalf("%v takes %d steps to %d letters, with %d letters on the way", b, got, len(free), most)
		}
	}
	return list
}

func TestStepsOfReductionsWithinTheLimit(t *testing.T) {
	for steps, want := range map[int]int64{3000: impl.ErrNone, 3001: impl.ErrLimit} {
		for _, b := range longReductions(t, steps) {
			for _, word := range []impl.Braid{b, must[impl.Braid](t)(impl.MirrorOf(b))} {
				if code := checkHandles(t, word); code != want {
					t.Errorf("HandleFree with %d steps: code %d", steps, code)
				}
				none := braid(word.Strands)
				main, _ := impl.MainLetter(word)
				order, code := impl.CompareBraids(none, word)
				if code != want || order != min(max(-main, -1), 1) {
					t.Errorf("CompareBraids with %d steps = %d, code %d", steps, order, code)
				}
				// The word of the other comparison is another one, with other steps.
				_, other, _ := plainReduction(inverseWord(t, word).Letters)
				order, code = impl.CompareBraids(word, none)
				if (code == impl.ErrNone) != (other <= 3000) || code != impl.ErrNone && (code != impl.ErrLimit || order != 0) {
					t.Errorf("CompareBraids with %d steps = %d, code %d", other, order, code)
				}
			}
		}
		// A limit that was met is forgotten.
		got, code := impl.HandleFree(braid(3, 1, 2, -1))
		checkBraid(t, "HandleFree", got, code, braid(3, -2, 1, 2))
	}
}

// TestLettersOfResultsWithinTheLimit has words that become longer, some of them only on the way.
func TestLettersOfResultsWithinTheLimit(t *testing.T) {
	for _, c := range []struct {
		b       impl.Braid
		letters int
	}{
		{pattern(7, 125, []int64{3, 1, 3, 4, -2, 6, -1, 2}, 5), 200}, {pattern(7, 126, []int64{3, 1, 3, 4, -2, 6, -1, 2}, 5), 201},
		{pattern(4, 141, []int64{-3, 1, -1, 2, -3, -1, -1, 2}, 2, 3, -2), 200}, {pattern(4, 142, []int64{-3, 1, -1, 2, -3, -1, -1, 2}, 2, 3, -2), 201},
		{pattern(4, 143, []int64{-3, 1, -1, 2, -3, -1, -1, 2}, 2, 3, -2), 202}, {pattern(6, 147, []int64{-3, 1, -5, 5, -1, -1, 4, 2}, -5, 5, 5, 3), 199},
		{pattern(6, 146, []int64{-3, 1, -5, 5, -1, -1, 4, 2}, -5, 5, 5, 3), 200}, {pattern(6, 127, []int64{4, 2, -3, 5, 5, -3, -2, 3}, -4, -4, -5, 3), 217},
	} {
		free, steps, most := plainReduction(c.b.Letters)
		if len(free) != c.letters || steps > 3000 || most > 2000 || most <= 202 {
			t.Fatalf("%v leads to %d letters, by %d on the way", c.b, len(free), most)
		}
		for _, word := range []impl.Braid{c.b, must[impl.Braid](t)(impl.MirrorOf(c.b))} {
			if code := checkHandles(t, word); (code == impl.ErrLimit) != (c.letters > 200) {
				t.Errorf("HandleFree(%v) with %d letters: code %d", word, c.letters, code)
			}
			// These have no such limit.
			if main, code := impl.MainLetter(word); code != impl.ErrNone || main == 0 {
				t.Errorf("MainLetter(%v) = %d, code %d", word, main, code)
			}
			order, code := impl.CompareBraids(word, word)
			checkNumber(t, "CompareBraids of a braid and itself", order, code, 0)
		}
	}
}

// The letters of these two, one after the other, lead to just 2000 letters on the way.
const (
	workAhead = "8: 1 -2 -3 -3 -4 -3 -3 -3 -3 -3 -5 -6 7 4 2 1 1 5 6 1 1 -7 3 6 -5 -4 3 3 3 3 -2 3 3 1 1 -2 1 1 3 1 7 3 3 " +
		"3 3 -2 -3 -4 -4 -3 -3 -5 -6 -3 -3 7 4 2 1 5 1 6 -7 3 6 -5 1 -4 3 3 3 3 -2 3 1 -4 1 3 1 1 -2 3 3 3 7 1 -2 " +
		"-3 -4 -4 -3 -3 -5 -6 -3 -3 7 4 2 5 1 6 -7 3 6 -5 -4 1 1 3 1 3 3 3 -2 3 3 1 3 3 3 3 7 3 1 -2 3 3 1 3 3 -2 " +
		"-3 -4 -4 -3 -3 -5 -6 -3 -3 7 4 2 1 5 6 -7 3 6 -5 -4 7 3 1 3 3 3 -2 3 3 1 -4 1 3 3 -2 1 1 1 3 3 3 -2 3 3 " +
		"1 -4 1 3 3 -2 1 1 1 3"
	workBehind = "8: 3 -2 -3 -4 -3 -3 -5 -6 -3 -3 7 4 2 5 1 1 1 6 -7 3 6 1 -5 1 -4 3 1 3 3 3 1 3 -2 1 1 3 3 3 3 -2 -3 -4 " +
		"-3 -3 -5 -6 -3 -3 7 4 2 1 5 6 -7 3 6 -5 -4 7 3 1 3 3 3 -2 3 -4 1 1 3 -2 1 3 1 3 3 -2 -3 -4 -4 -3 -3 -5 " +
		"-6 -3 -3 7 4 2 5 1 1 1 6 -7 3 6 -5 -4 3 1 3 3 3 -2 3 3 7 3 1 3 3 -2 3 3 -4 1 3 3 -2 1 1 3 3 3 -2 -3 -4 " +
		"-4 -3 -3 -5 -6 -3 -3 7 4 2 1 1 5 1 6 -7 3 6 -5 -4 3 1 3 3 3 -2 3 -4 1 3 3 -2 1 -5 3 -4 3 3 3 3 -2 3 -4 1 " +
		"3 3 -2 1 3 1 -2 3 4 -2 -1 -3 1"
)

// TestLettersOnTheWayWithinTheLimit compares braids whose words become long. All of these take at
// most 3000 steps.
func TestLettersOnTheWayWithinTheLimit(t *testing.T) {
	ahead, behind := must[impl.Braid](t)(impl.ParseBraid(workAhead)), must[impl.Braid](t)(impl.ParseBraid(workBehind))
	for _, c := range []struct {
		more []int64
		most int
	}{{nil, 2000}, {[]int64{1}, 2001}, {[]int64{-6}, 2001}, {[]int64{7, 7}, 2002}} {
		word := joined(8, ahead.Letters, behind.Letters, c.more)
		if _, steps, most := plainReduction(word.Letters); steps > 3000 || most != c.most {
			t.Fatalf("%d steps, %d letters on the way", steps, most)
		}
		for _, mirrored := range []bool{false, true} {
			a, b, sign := inverseWord(t, ahead), joined(8, behind.Letters, c.more), int64(-1)
			if mirrored {
				a, b, sign = must[impl.Braid](t)(impl.MirrorOf(a)), must[impl.Braid](t)(impl.MirrorOf(b)), 1
			}
			order, code := impl.CompareBraids(a, b)
			list, codeOfList := impl.SortBraids([]impl.Braid{a, b})
			if c.most > 2000 {
				checkNoNumber(t, "CompareBraids", order, code, impl.ErrLimit)
				checkNoList(t, "SortBraids", list, codeOfList, impl.ErrLimit)
			} else {
				checkNumber(t, "CompareBraids", order, code, sign)
				checkList(t, "SortBraids", list, codeOfList, map[int64][]int64{-1: {0, 1}, 1: {1, 0}}[sign])
			}
		}
	}
}

// Promise 6, the first part.
func TestWordsWithoutHandlesHaveASign(t *testing.T) {
	for _, b := range append(shortWords(), randomBraids(60)...) {
		free := must[impl.Braid](t)(impl.HandleFree(b))
		list, code := impl.FirstHandle(free)
		checkNoList(t, "FirstHandle of HandleFree", list, code, impl.ErrNotFound)
		sign := must[int64](t)(impl.WordSign(free))
		if (sign == 0) != (len(free.Letters) == 0) || sign < -1 || sign > 1 {
			t.Errorf("WordSign(%v) = %d", free, sign)
		}
		// The braid stays the same.
		same, code := impl.SameBraid(b, free)
		checkAnswer(t, "SameBraid of HandleFree", same, code, true)
	}
}

func TestReductionsKeepEndsAndSums(t *testing.T) {
	for _, b := range randomBraids(60) {
		results := []impl.Braid{must[impl.Braid](t)(impl.HandleFree(b))}
		if reduced, code := impl.ReduceHandle(b); code == impl.ErrNone {
			results = append(results, reduced)
		}
		for _, c := range results {
			ends, code := impl.EndsOf(c)
			checkList(t, "EndsOf", ends, code, must[[]int64](t)(impl.EndsOf(b)))
			sum, code := impl.SumOf(c)
			checkNumber(t, "SumOf", sum, code, must[int64](t)(impl.SumOf(b)))
			if c.Strands != b.Strands || plainBurau(c.Letters, b.Strands) != plainBurau(b.Letters, b.Strands) {
				t.Errorf("%v is reduced to another braid, %v", b, c)
			}
		}
	}
}

func TestWordSign(t *testing.T) {
	cases := []struct {
		b    impl.Braid
		want int64
	}{
		{braid(1), 0}, {braid(8), 0}, {braid(2, 1), 1}, {braid(2, -1), -1}, {braid(2, 1, -1), 0}, {braid(2, -1, 1), 0},
		{braid(3, 2, -1, 2), -1}, {braid(3, 1, 2, -1), 0}, {braid(3, -2, 1, -2), 1}, {braid(3, 2), 1}, {braid(3, -2), -1},
		{braid(3, 2, -2), 0}, {braid(3, 2, -2, 1), 1}, {braid(3, -1, 2, -2), -1}, {braid(3, 1, -1, 1), 0}, {braid(3, 2, -2, 2), 0},
		{braid(4, 3, -3, 2), 1}, {braid(4, -2, 3, -3, -2), -1}, {braid(4, 2, 3, -2, -3), 0}, {braid(8, 7), 1}, {braid(8, -7, -7), -1},
		{braid(8, 7, -7), 0}, {braid(8, 7, -6), -1}, {braid(8, -7, 6), 1}, {longBraid(2, 200), 1},
		{joined(2, longBraid(2, 199).Letters, []int64{-1}), 0}, {joined(8, longBraid(8, 199).Letters, []int64{-7}), 1},
		// The letters are read as they are, and not reduced.
		{pattern(3, 151, []int64{-1, 2, 2, 1}, -2, 1, -1, 2, -1), 0},
	}
	for _, c := range cases {
		got, code := impl.WordSign(c.b)
		checkNumber(t, "WordSign", got, code, c.want)
	}
	for _, b := range append(shortWords(), randomBraids(5)...) {
		_, want := plainSign(b.Letters)
		got, code := impl.WordSign(b)
		checkNumber(t, "WordSign", got, code, want)
	}
}

func TestMainLetter(t *testing.T) {
	cases := []struct {
		b    impl.Braid
		want int64
	}{
		{braid(1), 0}, {braid(8), 0}, {braid(2, 1), 1}, {braid(2, -1), -1}, {braid(2, 1, -1), 0}, {braid(2, 1, 1, -1), 1},
		{braid(3, 1, 2, -1), 1}, {braid(3, 1, -2, -1), -1}, {braid(3, -2), -2}, {braid(3, 2, -1, 2), -1}, {braid(3, 1, 2, -1, -2), 1},
		{braid(3, 2, 1, -2, -1), -1}, {braid(3, 1, 2, 1, -2, -1, -2), 0}, {braid(3, 1, 2, 1, -2, -1), 2}, {braid(3, -1, -2, -1, 2, 1), -2},
		{braid(4, 3), 3}, {braid(4, 1, -3, -1), -3}, {braid(4, 1, 3, -1, -3), 0}, {braid(4, 2, 3, -2), 2}, {braid(8, -7), -7},
		{braid(8, 7), 7}, {braid(8, 1, 7, -1, -7), 0}, {braid(8, 1, 2, 3, 4, 5, 6, 7, -1), 1}, {longBraid(8, 200), 1},
	}
	for _, c := range cases {
		got, code := impl.MainLetter(c.b)
		checkNumber(t, "MainLetter", got, code, c.want)
		got, code = impl.MainLetter(inverseWord(t, c.b))
		checkNumber(t, "MainLetter of the inverse", got, code, -c.want)
		trivial, code := impl.IsTrivial(c.b)
		checkAnswer(t, "IsTrivial", trivial, code, c.want == 0)
	}
}

// TestMainLettersAreThoseOfTheAction finds main letters without handles.
func TestMainLettersAreThoseOfTheAction(t *testing.T) {
	letters := map[int64]int{}
	for _, b := range append(shortWords(), randomBraids(12)...) {
		want := plainMainLetter(b.Letters, b.Strands)
		letters[want]++
		got, code := impl.MainLetter(b)
		checkNumber(t, "MainLetter", got, code, want)
	}
	for want := int64(-4); want <= 4; want++ {
		if letters[want] < 20 {
			t.Errorf("the main letter %d occurs %d times", want, letters[want])
		}
	}
}

func TestMainLettersOfMovedWords(t *testing.T) {
	source := rand.New(rand.NewSource(32))
	for _, b := range randomBraids(60) {
		got, code := impl.MainLetter(moved(source, b, 100))
		checkNumber(t, "MainLetter of a moved word", got, code, must[int64](t)(impl.MainLetter(b)))
	}
}

// Promise 13, the second part.
func TestReductionLeadsToNothingExactlyForNothing(t *testing.T) {
	trivial := 0
	check := func(b impl.Braid) {
		t.Helper()
		want := sameNormal(normalOf(t, b), normal(b.Strands, 0))
		if want && len(b.Letters) > 0 {
			trivial++
		}
		got, code := impl.IsTrivial(b)
		checkAnswer(t, "IsTrivial", got, code, want)
		free := must[impl.Braid](t)(impl.HandleFree(b))
		if (len(free.Letters) == 0) != want {
			t.Errorf("HandleFree(%v) = %v, and the normal form of nothing: %v", b, free, want)
		}
	}
	for _, b := range shortWords() {
		check(b)
	}
	source := rand.New(rand.NewSource(33))
	for _, b := range randomBraids(40) {
		word := must[impl.Braid](t)(impl.ProductOf(inverseWord(t, b), moved(source, b, 60)))
		check(word)
		if b.Strands > 1 {
			at := source.Intn(len(word.Letters) + 1)
			check(joined(b.Strands, word.Letters[:at], randomBraid(source, b.Strands, 1).Letters, word.Letters[at:]))
		}
	}
	for n := int64(2); n <= 8; n++ {
		// The full turn can be moved over all letters.
		full := plainFullTurns(t, n, 1)
		b := randomBraid(source, n, 30).Letters
		check(joined(n, full, b, plainFullTurns(t, n, -1), plainBetween(b, nil)))
		check(joined(n, full, b, plainBetween(b, nil)))
	}
	if trivial < 500 {
		t.Errorf("only %d words are nothing", trivial)
	}
}

func TestCompareBraids(t *testing.T) {
	cases := []struct {
		a, b impl.Braid
		want int64
	}{
		{braid(1), braid(1), 0}, {braid(8), braid(8), 0}, {braid(2), braid(2, 1), -1}, {braid(2, -1), braid(2), -1},
		{braid(2, 1, 1), braid(2, 1), 1}, {braid(2, 1, -1), braid(2), 0}, {braid(3, 2), braid(3, 1), -1}, {braid(3), braid(3, 2), -1},
		{braid(3, 1, 2, 1), braid(3, 2, 1, 2), 0}, {braid(3, 2, 2, 2, 2), braid(3, 1), -1}, {braid(3, -1), braid(3, -2, -2, -2), -1},
		{braid(3, 1, -2), braid(3, 1), -1}, {braid(3, 1, 2), braid(3, 1), 1}, {braid(3, 2, 1), braid(3, 1), 1},
		{braid(3, -2, 1), braid(3, 1), -1}, {braid(3, 2, -1), braid(3), -1}, {braid(3, -2, 1), braid(3), 1},
		{braid(4, 3), braid(4, 2), -1}, {braid(4, 1, 3), braid(4, 3, 1), 0}, {braid(8, 7), braid(8, 6), -1}, {braid(8, -7), braid(8, 7), -1},
		{longBraid(2, 200), longBraid(2, 199), 1}, {longBraid(8, 200), longBraid(8, 200), 0}, {longBraid(8, 199), longBraid(8, 200), -1},
	}
	for _, c := range cases {
		got, code := impl.CompareBraids(c.a, c.b)
		checkNumber(t, "CompareBraids", got, code, c.want)
		got, code = impl.CompareBraids(c.b, c.a)
		checkNumber(t, "CompareBraids, exchanged", got, code, -c.want)
	}
	// The words of some of these would take too many steps, which is a later error.
	long := longReductions(t, 3001)[1]
	for _, pair := range [][2]impl.Braid{{braid(1), braid(2)}, {braid(3, 1), braid(4, 1)}, {braid(4, 1), braid(3, 1)},
		{braid(8), braid(7)}, {long, braid(8)}, {braid(3), long}} {
		got, code := impl.CompareBraids(pair[0], pair[1])
		checkNoNumber(t, "CompareBraids with other strands", got, code, impl.ErrRange)
		for _, list := range [][]impl.Braid{pair[:], {pair[0], pair[0], pair[1]}, {braid(4), long, pair[0], pair[1]}} {
			sorted, code := impl.SortBraids(list)
			checkNoList(t, "SortBraids with other strands", sorted, code, impl.ErrRange)
		}
	}
}

// TestOrderOfShortWords compares all short words, and finds their order without handles.
func TestOrderOfShortWords(t *testing.T) {
	for _, list := range [][]impl.Braid{braidsOfLetters(1, 0), braidsOfLetters(2, 4), braidsOfLetters(3, 3), braidsOfLetters(4, 2), braidsOfLetters(8, 1)} {
		for _, a := range list {
			for _, b := range list {
				got, code := impl.CompareBraids(a, b)
				checkNumber(t, "CompareBraids", got, code, plainOrder(a, b))
				// Equal ones are the same braid.
				if same := must[bool](t)(impl.SameBraid(a, b)); same != (got == 0) {
					t.Errorf("CompareBraids(%v, %v) = %d, SameBraid %v", a, b, got, same)
				}
			}
		}
	}
}

// TestOrderIsOne sorts short braids, and looks at all pairs of them.
func TestOrderIsOne(t *testing.T) {
	compare := func(a, b impl.Braid) int { return int(must[int64](t)(impl.CompareBraids(a, b))) }
	source := rand.New(rand.NewSource(34))
	for n := int64(2); n <= 8; n++ {
		var list []impl.Braid
		for range 40 {
			list = append(list, randomBraid(source, n, source.Intn(25)))
		}
		slices.SortFunc(list, compare)
		for x, a := range list {
			for y, b := range list {
				if order := compare(a, b); x < y && order > 0 || x > y && order < 0 || x == y && order != 0 || order != -compare(b, a) {
					t.Errorf("%v and %v, sorted in this order, are compared as %d", a, b, order)
				}
			}
		}
	}
}

// Promise 6, the second part. The order may change with braids behind.
func TestOrderStaysTheSameWithBraidsAhead(t *testing.T) {
	source := rand.New(rand.NewSource(35))
	changed := 0
	check := func(a, b, c impl.Braid) {
		t.Helper()
		want := must[int64](t)(impl.CompareBraids(a, b))
		got, code := impl.CompareBraids(joined(a.Strands, c.Letters, a.Letters), joined(a.Strands, c.Letters, b.Letters))
		checkNumber(t, "CompareBraids with a braid ahead", got, code, want)
		if must[int64](t)(impl.CompareBraids(joined(a.Strands, a.Letters, c.Letters), joined(a.Strands, b.Letters, c.Letters))) != want {
			changed++
		}
	}
	short := braidsOfLetters(3, 2)
	for _, a := range short {
		for _, b := range short {
			for _, c := range short {
				check(a, b, c)
			}
		}
	}
	for _, a := range randomBraids(40) {
		b, c := moved(source, a, 30), randomBraid(source, a.Strands, source.Intn(60))
		if source.Intn(2) == 0 && a.Strands > 1 {
			b.Letters = append(b.Letters, randomBraid(source, a.Strands, 1+source.Intn(20)).Letters...)
		}
		check(a, b, c)
	}
	if changed < 50 {
		t.Errorf("braids behind change the order only %d times", changed)
	}
}

// TestOrderOfComparisons has words that are within the limits in one of two directions only: the
// inverse of the first braid comes ahead.
func TestOrderOfComparisons(t *testing.T) {
	for _, b := range []impl.Braid{
		pattern(4, 161, []int64{1, 2, -1}, 2, -1), pattern(4, 193, []int64{-1, 1, 2, -1, 3}), pattern(4, 185, []int64{-1, 1, 2, -1}),
		inverseWord(t, pattern(4, 196, []int64{1, -2, -1, -3}, -1)),
	} {
		none, inverse := braid(4), inverseWord(t, b)
		if _, steps, _ := plainReduction(b.Letters); steps > 3000 {
			t.Fatalf("%v takes %d steps", b, steps)
		}
		if _, steps, _ := plainReduction(inverse.Letters); steps <= 3000 {
			t.Fatalf("the inverse of %v takes %d steps", b, steps)
		}
		order := must[int64](t)(impl.CompareBraids(none, b))
		got, code := impl.CompareBraids(inverse, none)
		checkNumber(t, "CompareBraids of the inverse and nothing", got, code, order)
		got, code = impl.CompareBraids(b, none)
		checkNoNumber(t, "CompareBraids of a braid and nothing", got, code, impl.ErrLimit)
		got, code = impl.CompareBraids(none, inverse)
		checkNoNumber(t, "CompareBraids of nothing and the inverse", got, code, impl.ErrLimit)
		list, code := impl.SortBraids([]impl.Braid{none, b})
		checkList(t, "SortBraids", list, code, map[int64][]int64{-1: {0, 1}, 1: {1, 0}}[order])
		list, code = impl.SortBraids([]impl.Braid{b, none})
		checkNoList(t, "SortBraids", list, code, impl.ErrLimit)
	}
}

// TestEqualBraidsWithinTheLimit compares braids whose word is reduced to nothing, with some steps.
func TestEqualBraidsWithinTheLimit(t *testing.T) {
	for _, c := range []struct {
		b     impl.Braid
		steps int
	}{
		{pattern(3, 166, []int64{1, 1, -2, -1, 1, 1, -2}, 1, -1, 1), 3000}, {pattern(3, 167, []int64{1, 1, -2, -1, 1, 1, -2}, 1, -1, 1), 3001},
		{pattern(4, 192, []int64{3, 2, 1, -3, -2, -1, 3, 2}, 3, -3), 3000}, {pattern(4, 193, []int64{3, 2, 1, -3, -2, -1, 3, 2}, 3, -3), 3001},
		{pattern(7, 138, []int64{6, 5, 3, -4, -3}, 3, -6, -3), 3000}, {pattern(7, 139, []int64{6, 5, 3, -4, -3}, 3, -6, -3), 3001},
	} {
		a, b := inverseWord(t, c.b), inverseWord(t, must[impl.Braid](t)(impl.HandleFree(c.b)))
		if free, steps, _ := plainReduction(plainBetween(a.Letters, b.Letters)); len(free) > 0 || steps != c.steps {
			t.Fatalf("%d steps to %v", steps, free)
		}
		got, code := impl.CompareBraids(a, b)
		list, codeOfList := impl.SortBraids([]impl.Braid{a, b})
		if c.steps > 3000 {
			checkNoNumber(t, "CompareBraids of equal braids", got, code, impl.ErrLimit)
			checkNoList(t, "SortBraids of equal braids", list, codeOfList, impl.ErrLimit)
		} else {
			checkNumber(t, "CompareBraids of equal braids", got, code, 0)
			checkList(t, "SortBraids of equal braids", list, codeOfList, []int64{0, 1})
		}
	}
}

func TestSortBraids(t *testing.T) {
	one, two, none := braid(3, 1), braid(3, 2), braid(3)
	cases := []struct {
		list []impl.Braid
		want []int64
	}{
		{nil, nil}, {[]impl.Braid{}, nil}, {[]impl.Braid{one}, []int64{0}}, {[]impl.Braid{one, none, two}, []int64{1, 2, 0}},
		{[]impl.Braid{two, two, two}, []int64{0, 1, 2}}, {[]impl.Braid{one, two, one, two}, []int64{1, 3, 0, 2}},
		{[]impl.Braid{braid(3, 1, 2, 1), one, braid(3, 2, 1, 2), two, braid(3, 1, -1, 2)}, []int64{3, 4, 1, 0, 2}},
		{[]impl.Braid{braid(3, -2), braid(3, -1), none, braid(3, 2, -2)}, []int64{1, 0, 2, 3}},
		{slices.Repeat([]impl.Braid{braid(1)}, 10), []int64{0, 1, 2, 3, 4, 5, 6, 7, 8, 9}},
		{slices.Repeat([]impl.Braid{one, none}, 5), []int64{1, 3, 5, 7, 9, 0, 2, 4, 6, 8}},
		{[]impl.Braid{braid(2, 1), braid(2, 1, 1), braid(2), braid(2, -1)}, []int64{3, 2, 0, 1}},
		{[]impl.Braid{longReductions(t, 3001)[0]}, []int64{0}},
	}
	for _, c := range cases {
		got, code := impl.SortBraids(c.list)
		checkList(t, "SortBraids", got, code, c.want)
	}
	for _, count := range []int{11, 12, 100} {
		for _, b := range []impl.Braid{none, one, braid(1), braid(8, 7), longReductions(t, 3001)[0]} {
			got, code := impl.SortBraids(slices.Repeat([]impl.Braid{b}, count))
			checkNoList(t, "SortBraids of too many braids", got, code, impl.ErrRange)
		}
		got, code := impl.SortBraids(append(slices.Repeat([]impl.Braid{none}, count), braid(4)))
		checkNoList(t, "SortBraids of too many braids, with other strands", got, code, impl.ErrRange)
	}
}

// TestSortedListsAreThoseOfTheAction sorts lists, with equal braids in them, without handles.
func TestSortedListsAreThoseOfTheAction(t *testing.T) {
	source := rand.New(rand.NewSource(36))
	for round := range 150 {
		n := int64(2 + round%7)
		var list []impl.Braid
		for range source.Intn(11) {
			b := randomBraid(source, n, source.Intn(6))
			if len(list) > 0 && source.Intn(4) == 0 {
				b = moved(source, list[source.Intn(len(list))], 10)
			}
			list = append(list, b)
		}
		var want []int64
		for at := range list {
			want = append(want, int64(at))
		}
		slices.SortStableFunc(want, func(x, y int64) int { return int(plainOrder(list[x], list[y])) })
		got, code := impl.SortBraids(list)
		checkList(t, "SortBraids", got, code, want)
	}
}

// TestAllPairsAreCompared has lists of which one pair is beyond the limits, though the others tell
// the order.
func TestAllPairsAreCompared(t *testing.T) {
	within, beyond := longReductions(t, 3000)[0], longReductions(t, 3001)[0]
	for _, c := range []struct {
		list []impl.Braid
		want []int64
	}{
		{[]impl.Braid{braid(3), braid(3, -1), within}, []int64{1, 2, 0}}, {[]impl.Braid{braid(3), braid(3, -1), beyond}, nil},
		{[]impl.Braid{braid(3, -1), braid(3), beyond}, nil}, {[]impl.Braid{braid(3, -1), beyond}, []int64{1, 0}},
	} {
		got, code := impl.SortBraids(c.list)
		if c.want == nil {
			checkNoList(t, "SortBraids", got, code, impl.ErrLimit)
		} else {
			checkList(t, "SortBraids", got, code, c.want)
		}
	}
	ten := slices.Repeat([]impl.Braid{braid(3, -1)}, 10)
	for at := range ten {
		list := slices.Clone(ten)
		list[at] = braid(3)
		list[9] = beyond
		got, code := impl.SortBraids(list)
		if at < 9 {
			checkNoList(t, "SortBraids of ten", got, code, impl.ErrLimit)
		} else {
			checkList(t, "SortBraids of ten", got, code, []int64{9, 0, 1, 2, 3, 4, 5, 6, 7, 8})
		}
	}
}

func TestExamplesOfFloors(t *testing.T) {
	cases := []struct {
		b    impl.Braid
		want int64
	}{
		{braid(2), 0}, {braid(8), 0}, {braid(2, 1), 0}, {braid(2, -1), -1}, {braid(2, 1, 1), 1}, {braid(2, -1, -1), -1}, {braid(2, 1, 1, 1), 1},
		{braid(2, -1, -1, -1), -2}, {longBraid(2, 12), 6}, {longBraid(2, 13), 6}, {inverseWord(t, longBraid(2, 12)), -6},
		{inverseWord(t, longBraid(2, 11)), -6}, {longBraid(3, 200), 0}, {longBraid(8, 200), 0}, {inverseWord(t, longBraid(8, 200)), -1},
		{braid(3, 1, 2, 1), 0}, {braid(3, 1, 2, 1, 2), 0}, {braid(3, 1, 2, 1, 2, 1), 0}, {braid(3, 1, 2, 1, 2, 1, 2), 1},
		{braid(3, 2), 0}, {braid(3, -2), -1}, {braid(3, 1, -2), 0}, {braid(3, 2, -1), -1}, {braid(8, 7, -7), 0},
		{braid(3, plainHalfWord(3, 12)...), 6}, {braid(3, plainHalfWord(3, 13)...), 6}, {braid(3, plainHalfWord(3, -12)...), -6},
		{braid(3, plainHalfWord(3, -11)...), -6}, {braid(8, plainHalfWord(8, 7)...), 3}, {braid(8, plainHalfWord(8, -7)...), -4},
	}
	for _, c := range cases {
		got, code := impl.FloorOf(c.b)
		checkNumber(t, "FloorOf", got, code, c.want)
	}
	for _, b := range []impl.Braid{longBraid(2, 14), longBraid(2, 15), longBraid(2, 200), inverseWord(t, longBraid(2, 13)), inverseWord(t, longBraid(2, 200)),
		braid(3, plainHalfWord(3, 14)...), braid(3, plainHalfWord(3, -13)...), braid(4, plainFullTurns(t, 4, 7)...), braid(5, plainFullTurns(t, 5, -7)...),
		braid(5, plainFullTurns(t, 5, 10)...), braid(4, plainFullTurns(t, 4, -16)...)} {
		got, code := impl.FloorOf(b)
		checkNoNumber(t, "FloorOf out of the range", got, code, impl.ErrLimit)
	}
	got, code := impl.FloorOf(braid(1))
	checkNoNumber(t, "FloorOf one strand", got, code, impl.ErrRange)
}

// TestFloorsAreThoseOfTheAction finds floors without handles, also those out of the range.
func TestFloorsAreThoseOfTheAction(t *testing.T) {
	source := rand.New(rand.NewSource(37))
	floors := map[int64]int{}
	for round := range 240 {
		n := int64(2 + round%3)
		b := joined(n, randomBraid(source, n, source.Intn(5)).Letters, plainFullTurns(t, n, source.Int63n(15)-7), randomBraid(source, n, source.Intn(5)).Letters)
		floor := int64(-10)
		for plainMainLetter(plainBetween(b.Letters, plainFullTurns(t, n, floor+1)), n) <= 0 {
			floor++
		}
		floors[floor]++
		got, code := impl.FloorOf(b)
		if floor < -6 || floor > 6 {
			checkNoNumber(t, "FloorOf out of the range", got, code, impl.ErrLimit)
		} else {
			checkNumber(t, "FloorOf", got, code, floor)
		}
	}
	for floor := int64(-7); floor <= 7; floor++ {
		if floors[floor] < 5 {
			t.Errorf("the floor %d occurs %d times", floor, floors[floor])
		}
	}
}

func TestFloorsGrowByFullTurns(t *testing.T) {
	source := rand.New(rand.NewSource(38))
	for n := int64(2); n <= 8; n++ {
		for turns := int64(-6); turns <= 6; turns++ {
			full := plainFullTurns(t, n, turns)
			if len(full) > 170 {
				continue
			}
			got, code := impl.FloorOf(braid(n, full...))
			checkNumber(t, "FloorOf full turns", got, code, turns)
			b := randomBraid(source, n, source.Intn(30))
			floor := must[int64](t)(impl.FloorOf(b))
			got, code = impl.FloorOf(joined(n, b.Letters, full))
			if floor+turns < -6 || floor+turns > 6 {
				checkNoNumber(t, "FloorOf out of the range", got, code, impl.ErrLimit)
			} else {
				checkNumber(t, "FloorOf with full turns", got, code, floor+turns)
			}
		}
	}
}

// TestFloorsWithinTheLimits has floors for which some comparison takes many steps: most often that
// with the full turn taken -6 times, or with the first one that is greater.
func TestFloorsWithinTheLimits(t *testing.T) {
	turns := func(n, times int64, count int, word []int64, tail ...int64) impl.Braid {
		return joined(n, plainFullTurns(t, n, times), pattern(n, count, word, tail...).Letters)
	}
	cases := []struct {
		b           impl.Braid
		floor       int64
		steps, code int64
	}{
		{turns(3, -6, 153, []int64{-2, 1, 2, -1}, 2, 1), -6, 3000, impl.ErrNone}, {turns(3, -6, 154, []int64{-2, 1, 2, -1}, 2, 1), -6, 3001, impl.ErrLimit},
		{turns(3, 6, 155, []int64{-2, 1, -1}, 1, 2, -1), 6, 3000, impl.ErrNone}, {turns(3, 6, 155, []int64{-2, 1, -1}, 2, 2, -1), 6, 3001, impl.ErrLimit},
		{joined(4, pattern(4, 100, []int64{2}, 1, -2, -3, 2, -3).Letters, plainFullTurns(t, 4, 6)), 6, 2782, impl.ErrNone},
		{joined(4, pattern(4, 115, []int64{2}, 1, -2, -3, 2, -3).Letters, plainFullTurns(t, 4, 6)), 6, 3172, impl.ErrLimit},
		{turns(5, 0, 152, []int64{2, 3, -2, -2}, -2, -4, -4, -4), 0, 3000, impl.ErrNone}, {turns(4, 3, 155, []int64{-2, 1, -1}, 2, -1, -1), 3, 3001, impl.ErrLimit},
		// These would be within the limits, or not, if the full turns were compared with the braid.
		{pattern(3, 172, []int64{1, -2, -1, 1, 1, -2}, 1), 0, 144, impl.ErrNone}, {pattern(3, 197, []int64{1, -2, -2, -1}, 2, 1, 2), 0, 150, impl.ErrNone},
		{pattern(4, 193, []int64{-1, 1, 2, -1, 3}), -1, 5813, impl.ErrLimit}, {pattern(4, 160, []int64{3, -3, -2, 1, 1, 3, -1}, 3, -2, 2), 0, 3310, impl.ErrLimit},
	}
	for _, c := range cases {
		most, floor := 0, int64(-7)
		for floor <= 6 {
			free, steps, _ := plainReduction(plainBetween(c.b.Letters, plainFullTurns(t, c.b.Strands, floor+1)))
			most = max(most, steps)
			if _, sign := plainSign(free); sign > 0 {
				break
			}
			floor++
		}
		if int64(most) != c.steps || floor != c.floor {
			t.Fatalf("%v has the floor %d, with at most %d steps", c.b, floor, most)
		}
		got, code := impl.FloorOf(c.b)
		if c.code != impl.ErrNone {
			checkNoNumber(t, "FloorOf", got, code, c.code)
		} else {
			checkNumber(t, "FloorOf", got, code, c.floor)
		}
	}
}

// wordOf returns the braid of a normal form, and whether it has few enough letters to be closed.
func wordOf(a impl.Normal) (impl.Braid, bool) {
	letters, code := impl.WordOfNormal(a)
	return braid(a.Strands, letters...), code == impl.ErrNone && len(letters) <= 60
}

// Promise 15: conjugates by braids, summits and sets of them.
func TestConjugatesHaveTheSamePolynomialsOfClosures(t *testing.T) {
	source := rand.New(rand.NewSource(39))
	closed := 0
	for _, b := range randomBraids(12) {
		a := normalOf(t, b)
		list := []impl.Normal{a, conjugateOf(t, a, normalOf(t, randomBraid(source, b.Strands, source.Intn(4))))}
		for _, call := range stepFunctions() {
			list = append(list, must[impl.Normal](t)(call(a)))
		}
		for _, call := range setFunctions() {
			if set, code := call(a); code == impl.ErrNone {
				list = append(list, set...)
			}
		}
		want := must[impl.Laurent](t)(impl.AlexanderOf(b))
		for _, c := range list {
			if word, short := wordOf(c); short {
				closed++
				got, code := impl.AlexanderOf(word)
				checkLaurent(t, "AlexanderOf a conjugate", got, code, want)
			}
		}
	}
	if closed < 1000 {
		t.Errorf("only %d conjugates are closed", closed)
	}
}

// Promise 15: all short words that AreConjugate finds to be conjugate.
func TestShortConjugatesHaveTheSamePolynomialsOfClosures(t *testing.T) {
	pairs, others := 0, 0
	for _, list := range [][]impl.Braid{braidsOfLetters(1, 0), braidsOfLetters(2, 4), braidsOfLetters(3, 3), braidsOfLetters(4, 2)} {
		for _, a := range list {
			want := must[impl.Laurent](t)(impl.AlexanderOf(a))
			for _, b := range list {
				if !must[bool](t)(impl.AreConjugate(normalOf(t, a), normalOf(t, b))) {
					others++
					continue
				}
				pairs++
				got, code := impl.AlexanderOf(b)
				checkLaurent(t, "AlexanderOf a conjugate", got, code, want)
			}
		}
	}
	if pairs < 500 || others < 500 {
		t.Errorf("%d pairs are conjugate, %d are not", pairs, others)
	}
}

func TestOrderSharesNoMemoryWithArguments(t *testing.T) {
	words := []impl.Braid{braid(3), braid(3, 1, 2), braid(3, 1, 2, -1), braid(3, 1, 2, 2, 1, -2, -1, 2), braid(3, 1, -1),
		braid(3, 2, 1, -2, 1, -1, -2), longBraid(3, 200), pattern(3, 150, []int64{-1, 2, 2, 1}, 1, -1)}
	for _, word := range words {
		b, untouched := guarded(word)
		var results [][]int64
		for _, call := range handleFunctions() {
			got, _ := call(b)
			results = append(results, got.Letters)
		}
		list, _ := impl.FirstHandle(b)
		results = append(results, list)
		for _, call := range orderNumberFunctions() {
			call(b)
		}
		impl.IsTrivial(b)
		if !untouched() {
			t.Fatalf("%v has been changed", word)
		}
		checkRowsAreApart(t, "handles", results)
		if !untouched() {
			t.Fatalf("a result shares memory with %v", word)
		}
		// Nothing is kept, either.
		checkHandles(t, word)
		for _, other := range words {
			c, untouchedOther := guarded(other)
			impl.CompareBraids(b, c)
			list := []impl.Braid{b, c, b, braid(3, 2), {}, {}}
			sorted, _ := impl.SortBraids(list[:4])
			scribble(sorted)
			if !untouched() || !untouchedOther() || list[4].Strands != 0 || !sameWord(list[1], other) || !sameWord(list[3], braid(3, 2)) {
				t.Fatalf("%v or %v has been changed", word, other)
			}
		}
	}
}
