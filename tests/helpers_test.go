package tests

import (
	"math/rand"
	"slices"
	"testing"

	"loop.example/g01205/impl"
)

func braid(strands int64, letters ...int64) impl.Braid {
	return impl.Braid{Strands: strands, Letters: letters}
}

// sameWord reports whether two braids are the same word; a nil list is an empty one.
func sameWord(a, b impl.Braid) bool {
	return a.Strands == b.Strands && slices.Equal(a.Letters, b.Letters)
}

func isZeroBraid(b impl.Braid) bool { return sameWord(b, impl.Braid{}) }

// longBraid returns the braid with count letters 1.
func longBraid(strands int64, count int) impl.Braid {
	return braid(strands, slices.Repeat([]int64{1}, count)...)
}

// randomBraid returns a braid with count letters, without letters for one strand.
func randomBraid(source *rand.Rand, strands int64, count int) impl.Braid {
	b := impl.Braid{Strands: strands}
	for range count {
		if strands > 1 {
			sign := int64(1 - 2*source.Intn(2))
			b.Letters = append(b.Letters, sign*(1+source.Int63n(strands-1)))
		}
	}
	return b
}

// randomBraids returns the same braids in each run: some of each number of strands, with few, some
// and at most most letters.
func randomBraids(most int) []impl.Braid {
	source := rand.New(rand.NewSource(1))
	var list []impl.Braid
	for strands := int64(1); strands <= impl.MaxStrands; strands++ {
		for _, limit := range []int{3, 12, most} {
			for range 12 {
				list = append(list, randomBraid(source, strands, source.Intn(limit+1)))
			}
		}
		list = append(list, randomBraid(source, strands, most))
	}
	return list
}

// must returns the result of a call that has to return ErrNone.
func must[T any](t *testing.T) func(T, int64) T {
	return func(result T, code int64) T {
		t.Helper()
		if code != impl.ErrNone {
			t.Fatalf("code %d", code)
		}
		return result
	}
}
