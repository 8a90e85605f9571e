package tests

import (
	"math"
	"math/big"
	"math/rand"
	"slices"
	"testing"

	"loop.example/g01205/impl"
)

// fieldPrime is the prime as the document writes it.
const fieldPrime = 10007

// inField returns the remainder of any number.
func inField(x int64) int64 { return (x%fieldPrime + fieldPrime) % fieldPrime }

func plainPower(x int64, exponent int64) int64 {
	power := int64(1)
	for range exponent {
		power = power * x % fieldPrime
	}
	return power
}

// diagonal returns the square matrix with x in its diagonal.
func diagonal(size int, x int64) [][]int64 {
	rows := make([][]int64, size)
	for at := range rows {
		rows[at] = make([]int64, size)
		rows[at][at] = x
	}
	return rows
}

// filled returns the square matrix in which all entries are x.
func filled(size int, x int64) [][]int64 {
	rows := make([][]int64, size)
	for at := range rows {
		rows[at] = slices.Repeat([]int64{x}, size)
	}
	return rows
}

// withEntry returns a copy of a matrix with another entry.
func withEntry(a [][]int64, x int, y int, entry int64) [][]int64 {
	rows := copiedRows(a)
	rows[x][y] = entry
	return rows
}

func copiedRows(a [][]int64) [][]int64 {
	var rows [][]int64
	for _, row := range a {
		rows = append(rows, slices.Clone(row))
	}
	return rows
}

// randomRows returns a square matrix with entries chosen from a list, or from the field if it is empty.
func randomRows(source *rand.Rand, size int, entries ...int64) [][]int64 {
	rows := diagonal(size, 0)
	for x := range rows {
		for y := range rows {
			rows[x][y] = source.Int63n(fieldPrime)
			if len(entries) > 0 {
				rows[x][y] = entries[source.Intn(len(entries))]
			}
		}
	}
	return rows
}

// sampleRows returns matrices of all sizes: with any entries, with few kinds of them, of permutations,
// and such ones without inverses.
func sampleRows() [][][]int64 {
	source := rand.New(rand.NewSource(60))
	var list [][][]int64
	for size := 1; size <= 28; size++ {
		list = append(list, diagonal(size, 0), diagonal(size, 1), diagonal(size, 10006), filled(size, 1), filled(size, 10006))
		list = append(list, randomRows(source, size), randomRows(source, size), randomRows(source, size, 0, 1), randomRows(source, size, 0, 0, 0, 1, 10006))
		permuted, dependent, triangle := diagonal(size, 1), randomRows(source, size), randomRows(source, size)
		source.Shuffle(size, func(x, y int) { permuted[x], permuted[y] = permuted[y], permuted[x] })
		for y := range dependent {
			dependent[size-1][y] = 0
			for x := range size - 1 {
				dependent[size-1][y] = inField(dependent[size-1][y] + int64(x+2)*dependent[x][y])
			}
		}
		for x := range triangle {
			for y := range x {
				triangle[x][y] = 0
			}
		}
		source.Shuffle(size, func(x, y int) { dependent[x], dependent[y] = dependent[y], dependent[x] })
		list = append(list, permuted, dependent, triangle)
	}
	return list
}

func plainRowsTimes(a, b [][]int64) [][]int64 {
	product := diagonal(len(a), 0)
	for x := range a {
		for y := range a {
			for middle := range a {
				product[x][y] = inField(product[x][y] + a[x][middle]*b[middle][y])
			}
		}
	}
	return product
}

// plainFieldDeterminant returns the remainder of the determinant of z less a, as whole numbers.
func plainFieldDeterminant(z int64, a [][]int64) int64 {
	rows := make([][]*big.Int, len(a))
	for x, row := range a {
		for y, entry := range row {
			if x == y {
				entry -= z
			}
			rows[x] = append(rows[x], big.NewInt(-entry))
		}
	}
	determinant := plainDeterminant(rows)
	return determinant.Mod(determinant, big.NewInt(fieldPrime)).Int64()
}

// matrixNumberFunctions has the functions that lead from a matrix to a number.
func matrixNumberFunctions() map[string]func([][]int64) (int64, int64) {
	return map[string]func([][]int64) (int64, int64){
		"DeterminantIn": impl.DeterminantIn,
		"TraceIn":       impl.TraceIn,
	}
}

// notMatrices has what breaks each condition of a matrix, most of it by one.
func notMatrices() map[string][][]int64 {
	long, short := diagonal(28, 1), diagonal(28, 1)
	long[27] = append(long[27], 0)
	short[0] = short[0][:27]
	return map[string][][]int64{
		"no rows":                       nil,
		"an empty list":                 {},
		"a row without numbers":         {{}},
		"a nil row":                     {nil},
		"two rows without numbers":      {nil, nil},
		"a size too great":              diagonal(29, 1),
		"a size far too great":          diagonal(200, 1),
		"a row too few":                 {{1, 2}},
		"a row too many":                {{1}, {2}},
		"two rows for three numbers":    {{1, 2, 3}, {4, 5, 6}},
		"three rows for two numbers":    {{1, 2}, {3, 4}, {5, 6}},
		"a first row too short":         {{1}, {2, 3}},
		"a last row too short":          {{1, 2}, {3}},
		"a first row too long":          {{1, 2, 3}, {4, 5}},
		"a last row too long":           {{1, 2}, {3, 4, 5}},
		"a middle row too long":         {{1, 2, 3}, {1, 2, 3, 4}, {1, 2, 3}},
		"a short row and a long one":    {{1}, {2, 3, 4}},
		"a last row that is nil":        {{1, 2}, nil},
		"a long row of the most rows":   long,
		"a short row of the most rows":  short,
		"29 rows of 28 numbers":         append(diagonal(28, 1), make([]int64, 28)),
		"27 rows of 28 numbers":         diagonal(28, 1)[:27],
		"the number -1":                 {{-1}},
		"the prime":                     {{10007}},
		"-1 at the end":                 {{0, 1}, {2, -1}},
		"the prime at the end":          {{0, 1}, {2, 10007}},
		"-1 ahead":                      {{-1, 1}, {2, 3}},
		"the prime in the last column":  {{0, 10007}, {2, 3}},
		"-1 in the last row":            {{0, 1}, {-1, 3}},
		"the greatest number":           {{0, 1}, {2, math.MaxInt64}},
		"the least number":              {{math.MinInt64, 1}, {2, 3}},
		"-1 in the greatest matrix":     withEntry(diagonal(28, 1), 27, 27, -1),
		"the prime in the greatest one": withEntry(diagonal(28, 1), 0, 27, 10007),
	}
}

func checkNoMatrixNumbers(t *testing.T, name string, a [][]int64) {
	t.Helper()
	for function, call := range matrixNumberFunctions() {
		got, code := call(a)
		checkNoNumber(t, function+" of "+name, got, code, impl.ErrInvalid)
	}
	rows, code := impl.InverseMatrix(a)
	checkNoRows(t, "InverseMatrix of "+name, rows, code, impl.ErrInvalid)
	list, code := impl.CharacteristicOf(a)
	checkNoList(t, "CharacteristicOf "+name, list, code, impl.ErrInvalid)
}

func TestFieldPrime(t *testing.T) {
	if impl.FieldPrime != 10007 {
		t.Errorf("FieldPrime = %d", impl.FieldPrime)
	}
}

func TestIsFieldMatrix(t *testing.T) {
	for name, a := range notMatrices() {
		if impl.IsFieldMatrix(a) {
			t.Errorf("IsFieldMatrix of %s", name)
		}
	}
	for _, a := range sampleRows() {
		if !impl.IsFieldMatrix(a) {
			t.Errorf("IsFieldMatrix(%v) is false", a)
		}
		for x := range a {
			y := (x * 7) % len(a)
			for _, entry := range []int64{-1, 0, 10006, 10007, math.MinInt64, math.MaxInt64} {
				if got, want := impl.IsFieldMatrix(withEntry(a, x, y, entry)), entry == 0 || entry == 10006; got != want {
					t.Errorf("IsFieldMatrix with %d at %d and %d of %d rows is %v", entry, x, y, len(a), got)
				}
			}
		}
	}
}

func TestWhatIsNoMatrixIsInvalid(t *testing.T) {
	for name, a := range notMatrices() {
		checkNoMatrixNumbers(t, name, a)
		// The other matrix mostly has another size, which is a later error.
		for _, other := range [][][]int64{diagonal(1, 1), diagonal(2, 1), diagonal(3, 1), diagonal(28, 1), a} {
			for _, pair := range [][2][][]int64{{a, other}, {other, a}} {
				got, code := impl.MultiplyMatrices(pair[0], pair[1])
				checkNoRows(t, "MultiplyMatrices of "+name, got, code, impl.ErrInvalid)
			}
		}
	}
	for size := 1; size <= 28; size++ {
		for other := 1; other <= 28; other++ {
			if size != other {
				got, code := impl.MultiplyMatrices(diagonal(size, 1), diagonal(other, 1))
				checkNoRows(t, "MultiplyMatrices of different sizes", got, code, impl.ErrRange)
			}
		}
	}
}

func TestExamplesOfFieldMatrices(t *testing.T) {
	for _, c := range []struct {
		a, inverse     [][]int64
		determinant    int64
		trace          int64
		characteristic []int64
	}{
		{[][]int64{{2}}, [][]int64{{5004}}, 2, 2, []int64{10005, 1}}, {[][]int64{{0}}, nil, 0, 0, []int64{0, 1}}, {[][]int64{{1}}, [][]int64{{1}}, 1, 1, []int64{10006, 1}},
		{[][]int64{{10006}}, [][]int64{{10006}}, 10006, 10006, []int64{1, 1}}, {[][]int64{{5004}}, [][]int64{{2}}, 5004, 5004, []int64{5003, 1}},
		{[][]int64{{1, 1}, {0, 1}}, [][]int64{{1, 10006}, {0, 1}}, 1, 2, []int64{1, 10005, 1}}, {[][]int64{{0, 1}, {1, 0}}, [][]int64{{0, 1}, {1, 0}}, 10006, 0, []int64{10006, 0, 1}},
		{[][]int64{{1, 2}, {3, 4}}, [][]int64{{10005, 1}, {5005, 5003}}, 10005, 5, []int64{10005, 10002, 1}}, {[][]int64{{1, 2}, {2, 4}}, nil, 0, 5, []int64{0, 10002, 1}},
		{[][]int64{{0, 0}, {1, 0}}, nil, 0, 0, []int64{0, 0, 1}}, {[][]int64{{10006, 10006}, {10006, 0}}, [][]int64{{0, 10006}, {10006, 1}}, 10006, 10006, []int64{10006, 1, 1}},
		{[][]int64{{0, 1, 0}, {0, 0, 1}, {1, 0, 0}}, [][]int64{{0, 0, 1}, {1, 0, 0}, {0, 1, 0}}, 1, 0, []int64{10006, 0, 0, 1}},
		{[][]int64{{0, 2, 0}, {0, 0, 3}, {5, 0, 0}}, [][]int64{{0, 0, 4003}, {5004, 0, 0}, {0, 3336, 0}}, 30, 0, []int64{9977, 0, 0, 1}},
		{[][]int64{{1, 2, 3}, {4, 5, 6}, {7, 8, 9}}, nil, 0, 15, []int64{0, 9989, 9992, 1}},
	} {
		determinant, code := impl.DeterminantIn(c.a)
		checkNumber(t, "DeterminantIn", determinant, code, c.determinant)
		trace, code := impl.TraceIn(c.a)
		checkNumber(t, "TraceIn", trace, code, c.trace)
		characteristic, code := impl.CharacteristicOf(c.a)
		checkList(t, "CharacteristicOf", characteristic, code, c.characteristic)
		inverse, code := impl.InverseMatrix(c.a)
		if c.inverse == nil {
			checkNoRows(t, "InverseMatrix", inverse, code, impl.ErrState)
		} else {
			checkRows(t, "InverseMatrix", inverse, code, c.inverse)
		}
	}
}

func TestMultiplyMatrices(t *testing.T) {
	for _, c := range []struct{ a, b, want [][]int64 }{
		{[][]int64{{2}}, [][]int64{{3}}, [][]int64{{6}}}, {[][]int64{{10006}}, [][]int64{{10006}}, [][]int64{{1}}}, {[][]int64{{0}}, [][]int64{{5}}, [][]int64{{0}}},
		{[][]int64{{1, 2}, {3, 4}}, [][]int64{{5, 6}, {7, 8}}, [][]int64{{19, 22}, {43, 50}}}, {[][]int64{{5, 6}, {7, 8}}, [][]int64{{1, 2}, {3, 4}}, [][]int64{{23, 34}, {31, 46}}},
		{[][]int64{{0, 1}, {0, 0}}, [][]int64{{0, 0}, {1, 0}}, [][]int64{{1, 0}, {0, 0}}}, {[][]int64{{5003, 5004}, {1, 0}}, [][]int64{{2, 0}, {2, 1}}, [][]int64{{0, 5004}, {2, 0}}},
		{filled(28, 10006), filled(28, 10006), filled(28, 28)}, {filled(3, 10006), filled(3, 1), filled(3, 10004)},
	} {
		got, code := impl.MultiplyMatrices(c.a, c.b)
		checkRows(t, "MultiplyMatrices", got, code, c.want)
	}
	source := rand.New(rand.NewSource(61))
	for _, a := range sampleRows() {
		size := len(a)
		for _, b := range [][][]int64{randomRows(source, size), randomRows(source, size, 0, 0, 1, 10006), diagonal(size, 3), a} {
			got, code := impl.MultiplyMatrices(a, b)
			checkRows(t, "MultiplyMatrices", got, code, plainRowsTimes(a, b))
			got, code = impl.MultiplyMatrices(b, a)
			checkRows(t, "MultiplyMatrices, the other way round", got, code, plainRowsTimes(b, a))
		}
		got, code := impl.MultiplyMatrices(a, diagonal(size, 1))
		checkRows(t, "MultiplyMatrices with the unit matrix", got, code, a)
	}
}

func TestInversesAndDeterminants(t *testing.T) {
	with, without := 0, 0
	for _, a := range sampleRows() {
		want := plainFieldDeterminant(0, a)
		if len(a)%2 != 0 {
			want = inField(-want)
		}
		determinant, code := impl.DeterminantIn(a)
		checkNumber(t, "DeterminantIn", determinant, code, want)
		trace := int64(0)
		for at := range a {
			trace = inField(trace + a[at][at])
		}
		got, code := impl.TraceIn(a)
		checkNumber(t, "TraceIn", got, code, trace)
		inverse, code := impl.InverseMatrix(a)
		if want == 0 {
			without++
			checkNoRows(t, "InverseMatrix", inverse, code, impl.ErrState)
			continue
		}
		with++
		if code != impl.ErrNone || !impl.IsFieldMatrix(inverse) {
			t.Fatalf("InverseMatrix(%v) = %v, code %d", a, inverse, code)
		}
		checkRows(t, "the matrix times its inverse", plainRowsTimes(a, inverse), code, diagonal(len(a), 1))
		checkRows(t, "the inverse times the matrix", plainRowsTimes(inverse, a), code, diagonal(len(a), 1))
		opposite, code := impl.DeterminantIn(inverse)
		checkNumber(t, "DeterminantIn of the inverse, times that of the matrix", opposite*want%fieldPrime, code, 1)
	}
	if with < 100 || without < 50 {
		t.Errorf("%d matrices with an inverse, %d without", with, without)
	}
}

// TestEveryNumberHasAnInverse has all numbers of the field, and all places of a number on which an
// inverse depends.
func TestEveryNumberHasAnInverse(t *testing.T) {
	for x := int64(0); x < fieldPrime; x++ {
		got, code := impl.InverseMatrix([][]int64{{x}})
		if x == 0 {
			checkNoRows(t, "InverseMatrix of 0", got, code, impl.ErrState)
		} else if code != impl.ErrNone || got[0][0] < 1 || got[0][0] >= fieldPrime || got[0][0]*x%fieldPrime != 1 {
			t.Errorf("InverseMatrix({{%d}}) = %v, code %d", x, got, code)
		}
	}
	for size := 1; size <= 28; size++ {
		for at := range size {
			a := withEntry(diagonal(size, 1), at, at, 0)
			got, code := impl.InverseMatrix(a)
			checkNoRows(t, "InverseMatrix with a 0", got, code, impl.ErrState)
			determinant, code := impl.DeterminantIn(a)
			checkNumber(t, "DeterminantIn with a 0", determinant, code, 0)
		}
	}
}

func TestSmallMatrices(t *testing.T) {
	entries := []int64{0, 1, 2, 5003, 10006}
	for _, p := range entries {
		for _, q := range entries {
			for _, r := range entries {
				for _, s := range entries {
					a := [][]int64{{p, q}, {r, s}}
					determinant := inField(p*s - q*r)
					got, code := impl.DeterminantIn(a)
					checkNumber(t, "DeterminantIn", got, code, determinant)
					list, code := impl.CharacteristicOf(a)
					checkList(t, "CharacteristicOf", list, code, []int64{determinant, inField(-p - s), 1})
					inverse, code := impl.InverseMatrix(a)
					if determinant == 0 {
						checkNoRows(t, "InverseMatrix", inverse, code, impl.ErrState)
						continue
					}
					x := plainPower(determinant, fieldPrime-2)
					checkRows(t, "InverseMatrix", inverse, code, [][]int64{{s * x % fieldPrime, inField(-q * x)}, {inField(-r * x), p * x % fieldPrime}})
				}
			}
		}
	}
}

func TestCharacteristicOf(t *testing.T) {
	for at, a := range sampleRows() {
		got, code := impl.CharacteristicOf(a)
		if code != impl.ErrNone || len(got) != len(a)+1 || got[len(a)] != 1 {
			t.Fatalf("CharacteristicOf(%v) = %v, code %d", a, got, code)
		}
		if at%3 != 0 && len(a) > 6 {
			continue
		}
		// As many values as numbers determine the polynomial.
		for z := range int64(len(a)) + 1 {
			value := int64(0)
			for _, x := range slices.Backward(got) {
				if x < 0 || x >= fieldPrime {
					t.Fatalf("CharacteristicOf(%v) = %v", a, got)
				}
				value = (value*z + x) % fieldPrime
			}
			checkNumber(t, "the characteristic polynomial", value, impl.ErrNone, plainFieldDeterminant(z, a))
		}
	}
}

// valueOfMatrix puts a matrix into its characteristic polynomial.
func valueOfMatrix(t *testing.T, a [][]int64) [][]int64 {
	t.Helper()
	value := diagonal(len(a), 0)
	for _, x := range slices.Backward(must[[]int64](t)(impl.CharacteristicOf(a))) {
		value = must[[][]int64](t)(impl.MultiplyMatrices(value, a))
		for at := range value {
			value[at][at] = (value[at][at] + x) % fieldPrime
		}
	}
	return value
}

// Promise 9, the first part: also for matrices of braids.
func TestMatricesAreZerosOfTheirPolynomials(t *testing.T) {
	source := rand.New(rand.NewSource(62))
	list := sampleRows()
	for _, b := range randomBraids(60) {
		q, u := 1+source.Int63n(10006), 1+source.Int63n(10006)
		list = append(list, must[[][]int64](t)(impl.BurauModulo(b, u)))
		if b.Strands > 1 {
			list = append(list, must[[][]int64](t)(impl.KrammerMatrix(b, q, u)))
		}
	}
	for _, a := range list {
		checkRows(t, "the value of the characteristic polynomial", valueOfMatrix(t, a), impl.ErrNone, diagonal(len(a), 0))
	}
}

// plainPairs returns the pairs of n places in lexicographic order.
func plainPairs(n int64) [][2]int64 {
	var pairs [][2]int64
	for i := int64(1); i <= n; i++ {
		for j := i + 1; j <= n; j++ {
			pairs = append(pairs, [2]int64{i, j})
		}
	}
	return pairs
}

// plainKrammerEntry returns the coefficient of the unit of a pair in the row of another one, as the
// document lists the sums.
func plainKrammerEntry(k int64, row, column [2]int64, q, u int64) int64 {
	i, j := row[0], row[1]
	sum := int64(0)
	unit := func(x, y int64, coefficients ...int64) {
		if column == [2]int64{x, y} {
			product := int64(1)
			for _, c := range coefficients {
				product = product * inField(c) % fieldPrime
			}
			sum = (sum + product) % fieldPrime
		}
	}
	if i == k && j == k+1 {
		unit(k, k+1, u, q, q)
	} else if j == k {
		unit(i, k, 1-q)
		unit(i, k+1, q)
	} else if j == k+1 && i < k {
		unit(i, k)
		unit(k, k+1, u, plainPower(q, k-i+1), q-1)
	} else if i == k && j > k+1 {
		unit(k, k+1, u, q, q-1)
		unit(k+1, j, q)
	} else if i == k+1 {
		unit(k, j)
		unit(k+1, j, 1-q)
	} else if i < k && j > k+1 {
		unit(i, j)
		unit(k, k+1, u, plainPower(q, k-i), q-1, q-1)
	} else {
		unit(i, j)
	}
	return sum
}

func plainKrammerLetter(k, n, q, u int64) [][]int64 {
	pairs := plainPairs(n)
	rows := diagonal(len(pairs), 0)
	for x, row := range pairs {
		for y, column := range pairs {
			rows[x][y] = plainKrammerEntry(k, row, column, q, u)
		}
	}
	return rows
}

func plainBurauRows(k, n, u int64) [][]int64 {
	rows := diagonal(int(n), 1)
	rows[k-1][k-1], rows[k-1][k], rows[k][k-1], rows[k][k] = inField(1-u), u, 1, 0
	return rows
}

// combined returns the sum of matrices times numbers.
func combined(matrices [][][]int64, numbers ...int64) [][]int64 {
	sum := diagonal(len(matrices[0]), 0)
	for at, a := range matrices {
		for x := range a {
			for y := range a {
				sum[x][y] = inField(sum[x][y] + a[x][y]*inField(numbers[at]))
			}
		}
	}
	return sum
}

// plainInverseLetter inverts Krammer's matrix X of a letter, for which the product of X - 1, X + q and
// X - u q^2 is 0.
func plainInverseLetter(a [][]int64, q, u int64) [][]int64 {
	last := u * q % fieldPrime * q % fieldPrime
	factor := inField(-plainPower(last*q%fieldPrime, fieldPrime-2))
	whole := combined([][][]int64{plainRowsTimes(a, a), a, diagonal(len(a), 1)}, 1, q-1-last, last-q-q*last%fieldPrime)
	return combined([][][]int64{whole}, factor)
}

// plainInverseBurau inverts Burau's matrix X of a letter, for which the product of X - 1 and X + u is 0.
func plainInverseBurau(a [][]int64, u int64) [][]int64 {
	factor := plainPower(u, fieldPrime-2)
	return combined([][][]int64{a, diagonal(len(a), 1)}, factor, (u-1)*factor)
}

// plainMatrixOf multiplies the matrices of the letters, each one found by ofLetter.
func plainMatrixOf(b impl.Braid, size int64, ofLetter func(x int64) [][]int64) [][]int64 {
	product := diagonal(int(size), 1)
	known := map[int64][][]int64{}
	for _, x := range b.Letters {
		if known[x] == nil {
			known[x] = ofLetter(x)
		}
		product = plainRowsTimes(product, known[x])
	}
	return product
}

func plainKrammer(b impl.Braid, q, u int64) [][]int64 {
	return plainMatrixOf(b, b.Strands*(b.Strands-1)/2, func(x int64) [][]int64 {
		a := plainKrammerLetter(plainIndex(x), b.Strands, q, u)
		if x < 0 {
			return plainInverseLetter(a, q, u)
		}
		return a
	})
}

func plainBurauModulo(b impl.Braid, u int64) [][]int64 {
	return plainMatrixOf(b, b.Strands, func(x int64) [][]int64 {
		a := plainBurauRows(plainIndex(x), b.Strands, u)
		if x < 0 {
			return plainInverseBurau(a, u)
		}
		return a
	})
}

// checkBraidMatrices holds the matrices of a braid against the document.
func checkBraidMatrices(t *testing.T, b impl.Braid, q, u int64) {
	t.Helper()
	rows, code := impl.BurauModulo(b, u)
	checkRows(t, "BurauModulo", rows, code, plainBurauModulo(b, u))
	rows, code = impl.KrammerMatrix(b, q, u)
	trace, traceCode := impl.KrammerTrace(b, q, u)
	if b.Strands == 1 {
		checkNoRows(t, "KrammerMatrix of one strand", rows, code, impl.ErrRange)
		checkNoNumber(t, "KrammerTrace of one strand", trace, traceCode, impl.ErrRange)
		return
	}
	want := plainKrammer(b, q, u)
	checkRows(t, "KrammerMatrix", rows, code, want)
	sum := int64(0)
	for at := range want {
		sum = (sum + want[at][at]) % fieldPrime
	}
	checkNumber(t, "KrammerTrace", trace, traceCode, sum)
}

// edgeUnits has numbers that q and t may be, those at the ends of the range among them.
func edgeUnits() []int64 { return []int64{1, 2, 3, 5003, 5004, 10005, 10006} }

// notUnits has numbers that they may not be.
func notUnits() []int64 {
	return []int64{0, -1, 10007, 10008, 20014, -10006, -10007, math.MinInt64, math.MaxInt64}
}

func TestExamplesOfMatricesOfBraids(t *testing.T) {
	for _, c := range []struct {
		b    impl.Braid
		q, u int64
		want [][]int64
	}{
		{braid(2, 1), 2, 3, [][]int64{{12}}}, {braid(2, -1), 2, 3, [][]int64{{834}}}, {braid(2), 2, 3, [][]int64{{1}}}, {braid(2, 1, 1), 2, 3, [][]int64{{144}}}, {braid(2, 1), 10006, 10006, [][]int64{{10006}}},
		{braid(3), 7, 8, diagonal(3, 1)}, {braid(8), 1, 10006, diagonal(28, 1)}, {braid(2, 1), 1, 1, [][]int64{{1}}}, {braid(2, 1), 10006, 1, [][]int64{{1}}},
		{braid(3, 1), 3, 5, [][]int64{{45, 0, 0}, {30, 0, 3}, {0, 1, 10005}}}, {braid(3, 2), 3, 5, [][]int64{{10005, 3, 0}, {1, 0, 90}, {0, 0, 45}}},
		{braid(3, 1), 1, 5, [][]int64{{5, 0, 0}, {0, 0, 1}, {0, 1, 0}}}, {braid(3, 2), 1, 1, [][]int64{{0, 1, 0}, {1, 0, 0}, {0, 0, 1}}}, {braid(3, -2), 1, 1, [][]int64{{0, 1, 0}, {1, 0, 0}, {0, 0, 1}}},
		{braid(3, 1, 2), 3, 5, [][]int64{{45 * 10005 % 10007, 135, 0}, {9947, 90, 135}, {1, 0, 0}}}, {braid(3, 2, 1), 3, 5, [][]int64{{0, 0, 9}, {45, 90, 9827}, {0, 45, 9917}}},
		{braid(4, 1), 3, 5, [][]int64{{45, 0, 0, 0, 0, 0}, {30, 0, 0, 3, 0, 0}, {30, 0, 0, 0, 3, 0}, {0, 1, 0, 10005, 0, 0}, {0, 0, 1, 0, 10005, 0}, {0, 0, 0, 0, 0, 1}}},
		{braid(4, 2), 3, 5, [][]int64{{10005, 3, 0, 0, 0, 0}, {1, 0, 0, 90, 0, 0}, {0, 0, 1, 60, 0, 0}, {0, 0, 0, 45, 0, 0}, {0, 0, 0, 30, 0, 3}, {0, 0, 0, 0, 1, 10005}}},
		{braid(4, 3), 3, 5, [][]int64{{1, 0, 0, 0, 0, 0}, {0, 10005, 3, 0, 0, 0}, {0, 1, 0, 0, 0, 270}, {0, 0, 0, 10005, 3, 0}, {0, 0, 0, 1, 0, 90}, {0, 0, 0, 0, 0, 45}}},
	} {
		got, code := impl.KrammerMatrix(c.b, c.q, c.u)
		checkRows(t, "KrammerMatrix", got, code, c.want)
		sum := int64(0)
		for at := range c.want {
			sum = (sum + c.want[at][at]) % fieldPrime
		}
		trace, code := impl.KrammerTrace(c.b, c.q, c.u)
		checkNumber(t, "KrammerTrace", trace, code, sum)
	}
	for _, c := range []struct {
		b    impl.Braid
		u    int64
		want [][]int64
	}{
		{braid(2, 1), 3, [][]int64{{10005, 3}, {1, 0}}}, {braid(2, -1), 3, [][]int64{{0, 1}, {3336, 6672}}}, {braid(2, 1, 1), 3, [][]int64{{7, 10001}, {10005, 3}}}, {braid(2, 1), 1, [][]int64{{0, 1}, {1, 0}}},
		{braid(2, 1), 10006, [][]int64{{2, 10006}, {1, 0}}}, {braid(2, -1), 10006, [][]int64{{0, 1}, {10006, 2}}}, {braid(1), 5, [][]int64{{1}}}, {braid(2), 5, diagonal(2, 1)}, {braid(8), 10006, diagonal(8, 1)},
		{braid(3, 1), 3, [][]int64{{10005, 3, 0}, {1, 0, 0}, {0, 0, 1}}}, {braid(3, 2), 3, [][]int64{{1, 0, 0}, {0, 10005, 3}, {0, 1, 0}}},
		{braid(3, 1, 2), 3, [][]int64{{10005, 10001, 9}, {1, 0, 0}, {0, 1, 0}}}, {braid(3, 2, 1), 3, [][]int64{{10005, 3, 0}, {10005, 0, 3}, {1, 0, 0}}},
	} {
		got, code := impl.BurauModulo(c.b, c.u)
		checkRows(t, "BurauModulo", got, code, c.want)
	}
}

// TestMatricesOfLetters has all letters, with numbers at the ends of their range.
func TestFieldMatricesOfLetters(t *testing.T) {
	for n := int64(1); n <= 8; n++ {
		for k := 1 - n; k < n; k++ {
			b := braid(n, k)
			if k == 0 {
				b = braid(n)
			}
			for _, q := range edgeUnits() {
				for _, u := range edgeUnits() {
					checkBraidMatrices(t, b, q, u)
				}
			}
		}
	}
}

func TestMatricesOfBraids(t *testing.T) {
	source := rand.New(rand.NewSource(63))
	for _, b := range slices.Concat(randomBraids(20), randomBraids(200)[:150], braidsOfLetters(2, 4), braidsOfLetters(3, 3), braidsOfLetters(4, 2)) {
		checkBraidMatrices(t, b, 1+source.Int63n(10006), 1+source.Int63n(10006))
	}
	checkBraidMatrices(t, longBraid(8, 200), 2, 10006)
	checkBraidMatrices(t, beginningOf(8, 200, -1, 2, -3, 4, -5, 6, -7), 10006, 5)
}

func TestRangesOfMatricesOfBraids(t *testing.T) {
	checkCodes := func(name string, b impl.Braid, q, u int64, want int64) {
		t.Helper()
		rows, code := impl.KrammerMatrix(b, q, u)
		checkNoRows(t, "KrammerMatrix: "+name, rows, code, want)
		trace, code := impl.KrammerTrace(b, q, u)
		checkNoNumber(t, "KrammerTrace: "+name, trace, code, want)
	}
	strange := notUnits()
	for _, x := range strange {
		for _, b := range []impl.Braid{braid(1), braid(2), braid(2, 1), braid(8, -7), longBraid(8, 200)} {
			for _, other := range slices.Concat(edgeUnits(), strange) {
				checkCodes("a strange q", b, x, other, impl.ErrRange)
				checkCodes("a strange t", b, other, x, impl.ErrRange)
			}
			rows, code := impl.BurauModulo(b, x)
			checkNoRows(t, "BurauModulo: a strange t", rows, code, impl.ErrRange)
		}
	}
	for name, b := range notBraids() {
		for _, q := range []int64{1, 10006, 0, 10007} {
			for _, u := range []int64{1, 10006, 0, 10007} {
				checkCodes(name, b, q, u, impl.ErrInvalid)
			}
			rows, code := impl.BurauModulo(b, q)
			checkNoRows(t, "BurauModulo: "+name, rows, code, impl.ErrInvalid)
		}
	}
	for _, u := range edgeUnits() {
		checkCodes("one strand", braid(1), u, 1, impl.ErrRange)
		rows, code := impl.BurauModulo(braid(1), u)
		checkRows(t, "BurauModulo of one strand", rows, code, [][]int64{{1}})
	}
}

// braidMatrixFunctions has the functions that lead from a braid of at least two strands, and two numbers,
// to a matrix.
func braidMatrixFunctions() map[string]func(b impl.Braid, q, u int64) ([][]int64, int64) {
	return map[string]func(b impl.Braid, q, u int64) ([][]int64, int64){
		"KrammerMatrix": impl.KrammerMatrix,
		"BurauModulo":   func(b impl.Braid, _, u int64) ([][]int64, int64) { return impl.BurauModulo(b, u) },
	}
}

// severalBraids returns braids of at least two strands.
func severalBraids(most int) []impl.Braid {
	return slices.DeleteFunc(randomBraids(most), func(b impl.Braid) bool { return b.Strands == 1 })
}

// Promise 9, the second part: products, inverses and powers.
func TestFieldMatricesOfProductsAreProducts(t *testing.T) {
	source := rand.New(rand.NewSource(64))
	for _, a := range severalBraids(100) {
		b := randomBraid(source, a.Strands, source.Intn(101))
		q, u := 1+source.Int63n(10006), 1+source.Int63n(10006)
		both := must[impl.Braid](t)(impl.ProductOf(a, b))
		for name, call := range braidMatrixFunctions() {
			first, second := must[[][]int64](t)(call(a, q, u)), must[[][]int64](t)(call(b, q, u))
			want := must[[][]int64](t)(impl.MultiplyMatrices(first, second))
			got, code := call(both, q, u)
			checkRows(t, name+" of a product", got, code, want)
			inverse, code := impl.InverseMatrix(first)
			got, otherCode := call(inverseWord(t, a), q, u)
			checkRows(t, name+" of an inverse", got, max(code, otherCode), inverse)
			nothing, code := call(withInverse(t, a), q, u)
			checkRows(t, name+" of a product with an inverse", nothing, code, diagonal(len(first), 1))
		}
	}
}

// Promise 17: all short words of the same braid, as the action on a free group tells them. Other braids
// have other matrices of Krammer.
func TestShortWordsOfTheSameBraidHaveTheSameMatrices(t *testing.T) {
	for _, list := range [][]impl.Braid{braidsOfLetters(2, 6), braidsOfLetters(3, 5), braidsOfLetters(4, 3), braidsOfLetters(5, 2)} {
		for name, call := range braidMatrixFunctions() {
			known := map[string][][]int64{}
			for _, b := range list {
				action := plainAction(b.Letters, b.Strands)
				got, code := call(b, 4321, 1234)
				if known[action] == nil {
					for _, other := range known {
						if sameRows(got, other) && name == "KrammerMatrix" {
							t.Errorf("%v has the Krammer matrix of another braid", b)
						}
					}
					known[action] = got
				}
				checkRows(t, name, got, code, known[action])
			}
		}
	}
}

// Promise 17: other words of long braids.
func TestMovedWordsHaveTheSameMatrices(t *testing.T) {
	source := rand.New(rand.NewSource(65))
	ofNormals := 0
	for _, b := range severalBraids(150) {
		q, u := 1+source.Int63n(10006), 1+source.Int63n(10006)
		others := []impl.Braid{moved(source, b, 400), must[impl.Braid](t)(impl.FreeForm(b))}
		if word, code := impl.WordOfNormal(normalOf(t, b)); code == impl.ErrNone && len(word) <= 200 {
			others = append(others, braid(b.Strands, word...))
			ofNormals++
		}
		for name, call := range braidMatrixFunctions() {
			want := must[[][]int64](t)(call(b, q, u))
			for _, other := range others {
				same, code := impl.SameBraid(b, other)
				checkAnswer(t, "SameBraid", same, code, true)
				got, code := call(other, q, u)
				checkRows(t, name+" of another word", got, code, want)
			}
		}
		trace, code := impl.KrammerTrace(others[0], q, u)
		checkNumber(t, "KrammerTrace of another word", trace, code, must[int64](t)(impl.KrammerTrace(b, q, u)))
	}
	if ofNormals < 100 {
		t.Errorf("only %d normal forms have words", ofNormals)
	}
}

func TestConjugatesHaveTheSameCharacteristicPolynomials(t *testing.T) {
	source := rand.New(rand.NewSource(66))
	for _, b := range severalBraids(100) {
		q, u := 1+source.Int63n(10006), 1+source.Int63n(10006)
		other := conjugateWord(t, b, randomBraid(source, b.Strands, source.Intn(51)))
		for name, call := range braidMatrixFunctions() {
			want := must[[]int64](t)(impl.CharacteristicOf(must[[][]int64](t)(call(b, q, u))))
			matrix := must[[][]int64](t)(call(other, q, u))
			got, code := impl.CharacteristicOf(matrix)
			checkList(t, "CharacteristicOf "+name, got, code, want)
			// Its ends are the determinant, up to the sign, and the trace.
			determinant := must[int64](t)(impl.DeterminantIn(matrix))
			if len(matrix)%2 != 0 {
				determinant = inField(-determinant)
			}
			trace := must[int64](t)(impl.TraceIn(matrix))
			if got[0] != determinant || inField(-got[len(matrix)-1]) != trace {
				t.Errorf("%s of %v has the determinant %d, the trace %d and the polynomial %v", name, other, determinant, trace, got)
			}
		}
		trace, code := impl.KrammerTrace(other, q, u)
		checkNumber(t, "KrammerTrace of a conjugate", trace, code, must[int64](t)(impl.KrammerTrace(b, q, u)))
	}
}

// TestMatricesOfFullTurns uses that full turns are exchanged with all braids.
func TestMatricesOfFullTurns(t *testing.T) {
	for n := int64(2); n <= 8; n++ {
		for _, q := range edgeUnits() {
			for _, u := range edgeUnits() {
				turn := must[impl.Braid](t)(impl.FullTurnBraid(n))
				got, code := impl.KrammerMatrix(turn, q, u)
				checkRows(t, "KrammerMatrix of a full turn", got, code, diagonal(int(n*(n-1)/2), u*u%fieldPrime*plainPower(q, 2*n)%fieldPrime))
			}
		}
	}
}

// TestBurauModuloAndBurauOf puts t into the polynomials of chapter 5.
func TestBurauModuloAndBurauOf(t *testing.T) {
	source := rand.New(rand.NewSource(67))
	compared := 0
	for _, b := range randomBraids(60) {
		polynomials, code := impl.BurauOf(b)
		if code != impl.ErrNone {
			continue
		}
		compared++
		u := edgeUnits()[source.Intn(7)]
		want := diagonal(int(b.Strands), 0)
		for x, row := range polynomials {
			for y, p := range row {
				for at, c := range p.Coefficients {
					power := p.Low + int64(at) + 10006
					want[x][y] = (want[x][y] + inField(c)*plainPower(u, power)) % fieldPrime
				}
			}
		}
		got, code := impl.BurauModulo(b, u)
		checkRows(t, "BurauModulo", got, code, want)
	}
	if compared < 200 {
		t.Errorf("only %d matrices are compared", compared)
	}
}

// guardedRows returns a copy of a matrix whose lists have spare capacity, and a function that reports
// whether nothing of it has been written to.
func guardedRows(a [][]int64) ([][]int64, func() bool) {
	spare := []int64{91, 92}
	rows := [][]int64{}
	var untouched []func() bool
	for _, row := range a {
		list, ok := guarded(braid(0, row...))
		rows, untouched = append(rows, list.Letters), append(untouched, ok)
	}
	all := append(rows, spare, spare)
	kept := slices.Clone(all)
	return all[:len(a)], func() bool {
		for at, list := range all {
			if &list[:1][0] != &kept[at][:1][0] || len(list) != len(kept[at]) {
				return false
			}
		}
		return !slices.ContainsFunc(untouched, func(ok func() bool) bool { return !ok() }) && slices.Equal(spare, []int64{91, 92})
	}
}

// checkApart writes over the rows of a result, also behind their ends.
func checkApart(t *testing.T, name string, rows [][]int64) {
	t.Helper()
	before := copiedRows(rows)
	for x := range rows {
		_ = append(rows[x], 99, 99)
	}
	if !sameRows(rows, before) {
		t.Fatalf("%s: rows share memory", name)
	}
	checkRowsAreApart(t, name, rows)
	for at := range rows {
		rows[at] = nil
	}
}

func TestFieldMatricesShareNoMemory(t *testing.T) {
	for _, plain := range [][][]int64{{{2}}, {{1}}, {{0, 1}, {1, 0}}, diagonal(3, 1), {{0, 2, 0}, {0, 0, 3}, {5, 0, 0}}, {{1, 2}, {2, 4}}, diagonal(28, 10006)} {
		a, untouchedA := guardedRows(plain)
		b, untouchedB := guardedRows(diagonal(len(plain), 1))
		impl.IsFieldMatrix(a)
		impl.DeterminantIn(a)
		impl.TraceIn(a)
		scribble(must[[]int64](t)(impl.CharacteristicOf(a)))
		for name, call := range map[string]func() ([][]int64, int64){
			"InverseMatrix":                           func() ([][]int64, int64) { return impl.InverseMatrix(a) },
			"InverseMatrix of the unit matrix":        func() ([][]int64, int64) { return impl.InverseMatrix(b) },
			"MultiplyMatrices":                        func() ([][]int64, int64) { return impl.MultiplyMatrices(a, b) },
			"MultiplyMatrices, the other way round":   func() ([][]int64, int64) { return impl.MultiplyMatrices(b, a) },
			"MultiplyMatrices, both of them the same": func() ([][]int64, int64) { return impl.MultiplyMatrices(a, a) },
		} {
			first, code := call()
			want := copiedRows(first)
			checkApart(t, name, first)
			again, codeAgain := call()
			if code != codeAgain || !sameRows(again, want) {
				t.Errorf("%s = %v after its first result %v was written over", name, again, want)
			}
			if !untouchedA() || !untouchedB() {
				t.Fatalf("%s has changed an argument, or shares memory with it", name)
			}
		}
	}
}

func TestMatricesOfBraidsShareNoMemory(t *testing.T) {
	for _, word := range []impl.Braid{braid(2), braid(2, 1), braid(3, 1, -2, 1), braid(8, 7, -1, 7), braid(8)} {
		b, untouched := guarded(word)
		for name, call := range braidMatrixFunctions() {
			first := must[[][]int64](t)(call(b, 5, 10006))
			checkApart(t, name, first)
		}
		impl.KrammerTrace(b, 5, 10006)
		if !untouched() {
			t.Fatalf("%v has been changed", word)
		}
		checkBraidMatrices(t, word, 5, 10006)
	}
}
