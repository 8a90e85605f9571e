package impl

import (
	"iter"
	"slices"
	"strconv"
	"strings"
)

// Error codes of all chapters.
const (
	ErrNone = iota
	ErrInvalid
	ErrRange
	ErrLimit
	ErrNotFound
	ErrState
	ErrSyntax
)

// Limits of braids.
const (
	MaxStrands = 8
	MaxLetters = 200
)

// maxExponent is the largest number of factors of PowerOf, of braids or of inverses.
const maxExponent = 100

// Braid is a word of crossings, read from the left: the letter i exchanges the strands at the
// places i - 1 and i and counts 1, the letter -i exchanges them and counts -1.
type Braid struct {
	Strands int64
	Letters []int64
}

// letter is one crossing of a word. Its methods other than fits expect a letter that fits.
type letter int64

// fits reports whether l is a letter of words with so many strands. It negates the number of
// strands and not the letter, because the least int64 has no opposite.
func (l letter) fits(strands int64) bool {
	return l != 0 && -strands < int64(l) && int64(l) < strands
}

func (l letter) count() int64 {
	if l < 0 {
		return -1
	}
	return 1
}

func (l letter) index() int64 { return int64(l) * l.count() }

func (l letter) inverse() letter { return -l }

// withIndex returns the letter of another index that counts the same.
func (l letter) withIndex(index int64) letter { return letter(index * l.count()) }

// strandOrder holds the strand that is at each place.
type strandOrder [MaxStrands]int64

func firstOrder() strandOrder {
	var order strandOrder
	for place := range order {
		order[place] = int64(place)
	}
	return order
}

// crossed returns the order behind a crossing, and the two strands that it exchanges.
func (order strandOrder) crossed(l letter) (strandOrder, int64, int64) {
	right := l.index()
	left := right - 1
	order[left], order[right] = order[right], order[left]
	return order, order[left], order[right]
}

// crossingTable holds for each two strands the sum of the counts of their crossings.
type crossingTable [MaxStrands][MaxStrands]int64

func crossingTableOf(b Braid) crossingTable {
	var table crossingTable
	order := firstOrder()
	for _, x := range b.Letters {
		l := letter(x)
		next, one, other := order.crossed(l)
		table[one][other] += l.count()
		table[other][one] += l.count()
		order = next
	}
	return table
}

// parities returns the table of the remainders of the sums by 2.
func (table crossingTable) parities() crossingTable {
	for x := range table {
		for y := range table[x] {
			table[x][y] &= 1
		}
	}
	return table
}

// IsBraid reports whether b is a braid.
func IsBraid(b Braid) bool {
	if b.Strands < 1 || b.Strands > MaxStrands || len(b.Letters) > MaxLetters {
		return false
	}
	for _, x := range b.Letters {
		if !letter(x).fits(b.Strands) {
			return false
		}
	}
	return true
}

// changed returns the word of so many strands that has for each letter what change makes of it.
func changed(b Braid, strands int64, change func(letter) letter) Braid {
	letters := make([]int64, len(b.Letters))
	for at, x := range b.Letters {
		letters[at] = int64(change(letter(x)))
	}
	return Braid{Strands: strands, Letters: letters}
}

// backwards returns the word with the same letters in the reversed order.
func backwards(b Braid) Braid {
	letters := make([]int64, len(b.Letters))
	for at, x := range b.Letters {
		letters[len(letters)-1-at] = x
	}
	return Braid{Strands: b.Strands, Letters: letters}
}

// repeated returns the word that has the letters of b again and again.
func repeated(b Braid, times int64) Braid {
	var letters []int64
	for range times {
		letters = append(letters, b.Letters...)
	}
	return Braid{Strands: b.Strands, Letters: letters}
}

func inverted(b Braid) Braid {
	return backwards(changed(b, b.Strands, letter.inverse))
}

// withoutPairs returns some numbers in order, but for pairs of a number and its negative next to each
// other, which are taken away as long as there are any.
func withoutPairs(numbers iter.Seq[int64]) []int64 {
	var kept []int64
	for x := range numbers {
		last := len(kept) - 1
		if last >= 0 && kept[last] == -x {
			kept = kept[:last]
		} else {
			kept = append(kept, x)
		}
	}
	return kept
}

// powered returns the power with k factors, however many letters it has.
func powered(b Braid, k int64) Braid {
	if k < 0 {
		return repeated(inverted(b), -k)
	}
	return repeated(b, k)
}

// braidsCode returns the code for arguments that have to be braids of equally many strands.
func braidsCode(list ...Braid) int64 {
	for _, b := range list {
		if !IsBraid(b) {
			return ErrInvalid
		}
	}
	for _, b := range list {
		if b.Strands != list[0].Strands {
			return ErrRange
		}
	}
	return ErrNone
}

// InverseOf returns the inverse, and ErrNone.
func InverseOf(b Braid) (Braid, int64) {
	if !IsBraid(b) {
		return Braid{}, ErrInvalid
	}
	return inverted(b), ErrNone
}

// MirrorOf returns the mirror image, and ErrNone.
func MirrorOf(b Braid) (Braid, int64) {
	if !IsBraid(b) {
		return Braid{}, ErrInvalid
	}
	return changed(b, b.Strands, letter.inverse), ErrNone
}

// ReverseOf returns the reversal, and ErrNone.
func ReverseOf(b Braid) (Braid, int64) {
	if !IsBraid(b) {
		return Braid{}, ErrInvalid
	}
	return backwards(b), ErrNone
}

// TurnBraid returns the turn, and ErrNone.
func TurnBraid(b Braid) (Braid, int64) {
	if !IsBraid(b) {
		return Braid{}, ErrInvalid
	}
	turned := func(l letter) letter { return l.withIndex(b.Strands - l.index()) }
	return changed(b, b.Strands, turned), ErrNone
}

// ShiftOf returns the shift by k, for k of at least 0 for which the strands are at most
// MaxStrands, and ErrNone.
func ShiftOf(b Braid, k int64) (Braid, int64) {
	if !IsBraid(b) {
		return Braid{}, ErrInvalid
	}
	if k < 0 || k > MaxStrands-b.Strands {
		return Braid{}, ErrRange
	}
	shifted := func(l letter) letter { return l.withIndex(l.index() + k) }
	return changed(b, b.Strands+k, shifted), ErrNone
}

// ProductOf returns the product, and ErrNone.
func ProductOf(a Braid, b Braid) (Braid, int64) {
	if code := braidsCode(a, b); code != ErrNone {
		return Braid{}, code
	}
	if len(a.Letters)+len(b.Letters) > MaxLetters {
		return Braid{}, ErrLimit
	}
	product := repeated(a, 1)
	product.Letters = append(product.Letters, b.Letters...)
	return product, ErrNone
}

// PowerOf returns the power with k factors, for k in -100..100, and ErrNone.
func PowerOf(b Braid, k int64) (Braid, int64) {
	if !IsBraid(b) {
		return Braid{}, ErrInvalid
	}
	if k < -maxExponent || k > maxExponent {
		return Braid{}, ErrRange
	}
	if max(k, -k)*int64(len(b.Letters)) > MaxLetters {
		return Braid{}, ErrLimit
	}
	return powered(b, k), ErrNone
}

// FreeForm returns the free form, and ErrNone.
func FreeForm(b Braid) (Braid, int64) {
	if !IsBraid(b) {
		return Braid{}, ErrInvalid
	}
	return Braid{Strands: b.Strands, Letters: withoutPairs(slices.Values(b.Letters))}, ErrNone
}

// EndsOf returns for each strand the place where it ends, and ErrNone.
func EndsOf(b Braid) ([]int64, int64) {
	if !IsBraid(b) {
		return nil, ErrInvalid
	}
	order := firstOrder()
	for _, x := range b.Letters {
		order, _, _ = order.crossed(letter(x))
	}
	ends := make([]int64, b.Strands)
	for place, strand := range order[:b.Strands] {
		ends[strand] = int64(place)
	}
	return ends, ErrNone
}

// CrossingsOf returns for each strand x and each strand y the sum of the counts of their
// crossings, which is 0 for x = y, and ErrNone.
func CrossingsOf(b Braid) ([][]int64, int64) {
	if !IsBraid(b) {
		return nil, ErrInvalid
	}
	table := crossingTableOf(b)
	rows := make([][]int64, b.Strands)
	for x := range rows {
		rows[x] = make([]int64, b.Strands)
		copy(rows[x], table[x][:])
	}
	return rows, ErrNone
}

// SumOf returns the sum, and ErrNone.
func SumOf(b Braid) (int64, int64) {
	if !IsBraid(b) {
		return 0, ErrInvalid
	}
	sum := int64(0)
	for _, x := range b.Letters {
		sum += letter(x).count()
	}
	return sum, ErrNone
}

// IsPure reports whether b is pure, and returns ErrNone.
func IsPure(b Braid) (bool, int64) {
	if !IsBraid(b) {
		return false, ErrInvalid
	}
	// Two strands end exchanged exactly if they cross an odd number of times, and all strands end
	// where they begin exactly if no two of them end exchanged.
	return crossingTableOf(b).parities() == crossingTable{}, ErrNone
}

// HalfTurnBraid returns the half turn of n strands, n in 1..MaxStrands, and ErrNone. (ErrInvalid
// is not returned.)
func HalfTurnBraid(n int64) (Braid, int64) {
	if n < 1 || n > MaxStrands {
		return Braid{}, ErrRange
	}
	var letters []int64
	for last := n - 1; last >= 1; last-- {
		for i := int64(1); i <= last; i++ {
			letters = append(letters, i)
		}
	}
	return Braid{Strands: n, Letters: letters}, ErrNone
}

// FullTurnBraid returns the full turn of n strands, n in 1..MaxStrands, and ErrNone. (ErrInvalid
// is not returned.)
func FullTurnBraid(n int64) (Braid, int64) {
	half, code := HalfTurnBraid(n)
	if code != ErrNone {
		return Braid{}, code
	}
	return ProductOf(half, half)
}

// BraidText returns the text of b, and ErrNone.
func BraidText(b Braid) (string, int64) {
	if !IsBraid(b) {
		return "", ErrInvalid
	}
	text := strconv.AppendInt(nil, b.Strands, 10)
	text = append(text, ':')
	for _, x := range b.Letters {
		text = append(text, ' ')
		text = strconv.AppendInt(text, x, 10)
	}
	return string(text), ErrNone
}

// ParseBraid returns the braid with a text, and ErrNone. Errors: ErrSyntax if there is none. (No
// other errors are returned.)
func ParseBraid(text string) (Braid, int64) {
	b := looseBraid(text)
	// Only the text of a braid comes back, so that reading it may be generous.
	if back, code := BraidText(b); code != ErrNone || back != text {
		return Braid{}, ErrSyntax
	}
	return b, ErrNone
}

// looseBraid returns the braid of a text, and anything for what is no text of a braid.
func looseBraid(text string) Braid {
	head, tail, _ := strings.Cut(text, ":")
	// One letter too many is enough to tell that a long text is none of a braid.
	words := strings.SplitN(tail, " ", MaxLetters+2)[1:]
	letters := make([]int64, len(words))
	for at, word := range words {
		letters[at] = looseNumber(word)
	}
	return Braid{Strands: looseNumber(head), Letters: letters}
}

// looseNumber returns the number of a text, and for what is none a number that no braid has.
func looseNumber(text string) int64 {
	number, err := strconv.ParseInt(text, 10, 64)
	if err != nil {
		return 0
	}
	return number
}
