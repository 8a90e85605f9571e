package tests

import (
	"math"
	"math/big"
	"math/rand"
	"slices"
	"testing"

	"loop.example/g01205/impl"
)

const million, billion, greatest = 1000000, 1000000000, 1000000000000

func laurent(low int64, coefficients ...int64) impl.Laurent {
	return impl.Laurent{Low: low, Coefficients: coefficients}
}

// flatLaurent returns the polynomial with count times the same coefficient.
func flatLaurent(low int64, count int, coefficient int64) impl.Laurent {
	return laurent(low, slices.Repeat([]int64{coefficient}, count)...)
}

func sameLaurent(p, q impl.Laurent) bool {
	return p.Low == q.Low && slices.Equal(p.Coefficients, q.Coefficients)
}

func sameLaurents(a, b [][]impl.Laurent) bool {
	return slices.EqualFunc(a, b, func(x, y []impl.Laurent) bool { return slices.EqualFunc(x, y, sameLaurent) })
}

func sameRows(a, b [][]int64) bool { return slices.EqualFunc(a, b, slices.Equal) }

func checkLaurent(t *testing.T, name string, got impl.Laurent, code int64, want impl.Laurent) {
	t.Helper()
	if code != impl.ErrNone || !sameLaurent(got, want) {
		t.Errorf("%s = %v, code %d, want %v", name, got, code, want)
	}
}

func checkNoLaurent(t *testing.T, name string, got impl.Laurent, code, want int64) {
	t.Helper()
	if code != want || !sameLaurent(got, impl.Laurent{}) {
		t.Errorf("%s = %v, code %d, want the zero value and code %d", name, got, code, want)
	}
}

func checkNumber(t *testing.T, name string, got, code, want int64) {
	t.Helper()
	if code != impl.ErrNone || got != want {
		t.Errorf("%s = %d, code %d, want %d", name, got, code, want)
	}
}

func checkNoNumber(t *testing.T, name string, got, code, want int64) {
	t.Helper()
	if code != want || got != 0 {
		t.Errorf("%s = %d, code %d, want 0 and code %d", name, got, code, want)
	}
}

func checkLaurents(t *testing.T, name string, got [][]impl.Laurent, code int64, want [][]impl.Laurent) {
	t.Helper()
	if code != impl.ErrNone || !sameLaurents(got, want) {
		t.Errorf("%s = %v, code %d, want %v", name, got, code, want)
	}
}

func checkNoRows[E any](t *testing.T, name string, got [][]E, code, want int64) {
	t.Helper()
	if code != want || len(got) != 0 {
		t.Errorf("%s = %v, code %d, want nothing and code %d", name, got, code, want)
	}
}

// burauFunctions has the functions that return a matrix of polynomials.
func burauFunctions() map[string]func(impl.Braid) ([][]impl.Laurent, int64) {
	return map[string]func(impl.Braid) ([][]impl.Laurent, int64){
		"BurauOf":      impl.BurauOf,
		"ReducedBurau": impl.ReducedBurau,
	}
}

func braidLaurentFunctions() map[string]func(impl.Braid) (impl.Laurent, int64) {
	return map[string]func(impl.Braid) (impl.Laurent, int64){
		"TraceOf":     impl.TraceOf,
		"AlexanderOf": impl.AlexanderOf,
	}
}

func laurentPairFunctions() map[string]func(p, q impl.Laurent) (impl.Laurent, int64) {
	return map[string]func(p, q impl.Laurent) (impl.Laurent, int64){
		"AddLaurents":      impl.AddLaurents,
		"MultiplyLaurents": impl.MultiplyLaurents,
	}
}

// plainPoly has the coefficients that are not 0 by the powers of t.
type plainPoly map[int64]*big.Int

func plainMonomial(coefficient, power int64) plainPoly {
	return plainPoly{}.plus(plainPoly{power: big.NewInt(coefficient)})
}

func plainOf(p impl.Laurent) plainPoly {
	made := plainPoly{}
	for at, x := range p.Coefficients {
		if x != 0 {
			made[p.Low+int64(at)] = big.NewInt(x)
		}
	}
	return made
}

func (p plainPoly) addAt(power int64, x *big.Int) {
	sum := new(big.Int).Set(x)
	if known, ok := p[power]; ok {
		sum.Add(sum, known)
	}
	p[power] = sum
	if sum.Sign() == 0 {
		delete(p, power)
	}
}

func (p plainPoly) plus(q plainPoly) plainPoly {
	sum := plainPoly{}
	for _, part := range []plainPoly{p, q} {
		for power, x := range part {
			sum.addAt(power, x)
		}
	}
	return sum
}

func (p plainPoly) times(q plainPoly) plainPoly {
	product := plainPoly{}
	for one, x := range p {
		for other, y := range q {
			product.addAt(one+other, new(big.Int).Mul(x, y))
		}
	}
	return product
}

// laurent returns the polynomial, and whether it is one within the limits.
func (p plainPoly) laurent() (impl.Laurent, bool) {
	made := impl.Laurent{}
	low, high := int64(math.MaxInt64), int64(math.MinInt64)
	for power := range p {
		low, high = min(low, power), max(high, power)
	}
	for power := low; power <= high; power++ {
		x, ok := p[power]
		if !ok {
			x = new(big.Int)
		}
		if x.CmpAbs(big.NewInt(greatest)) > 0 {
			return impl.Laurent{}, false
		}
		made.Low = low
		made.Coefficients = append(made.Coefficients, x.Int64())
	}
	return made, len(p) == 0 || -1000 <= low && high <= 1000
}

type plainMatrix [][]plainPoly

func plainUnit(size int64) plainMatrix {
	m := make(plainMatrix, size)
	for x := range m {
		m[x] = make([]plainPoly, size)
		for y := range m[x] {
			m[x][y] = plainPoly{}
		}
		m[x][x] = plainMonomial(1, 0)
	}
	return m
}

// plainBurauLetter and plainReducedLetter are written as the document tells it.
func plainBurauLetter(x, n int64) plainMatrix {
	m := plainUnit(n)
	i := max(x, -x)
	one := plainMonomial(1, 0)
	if x > 0 {
		m[i-1][i-1], m[i-1][i] = one.plus(plainMonomial(-1, 1)), plainMonomial(1, 1)
		m[i][i-1], m[i][i] = one, plainPoly{}
	} else {
		m[i-1][i-1], m[i-1][i] = plainPoly{}, one
		m[i][i-1], m[i][i] = plainMonomial(1, -1), one.plus(plainMonomial(-1, -1))
	}
	return m
}

func plainReducedLetter(x, n int64) plainMatrix {
	m := plainUnit(n - 1)
	i := max(x, -x)
	list := []plainPoly{plainMonomial(1, 1), plainMonomial(-1, 1), plainMonomial(1, 0)}
	if x < 0 {
		list = []plainPoly{plainMonomial(1, 0), plainMonomial(-1, -1), plainMonomial(1, -1)}
	}
	for at, entry := range list {
		if column := i - 2 + int64(at); 0 <= column && column < n-1 {
			m[i-1][column] = entry
		}
	}
	return m
}

func (a plainMatrix) times(b plainMatrix) plainMatrix {
	product := make(plainMatrix, len(a))
	for x := range a {
		product[x] = make([]plainPoly, len(a))
		for y := range a {
			sum := plainPoly{}
			for k := range a {
				if len(a[x][k]) > 0 && len(b[k][y]) > 0 {
					sum = sum.plus(a[x][k].times(b[k][y]))
				}
			}
			product[x][y] = sum
		}
	}
	return product
}

// laurents returns the matrix, and whether all its polynomials are within the limits.
func (a plainMatrix) laurents() ([][]impl.Laurent, bool) {
	rows := make([][]impl.Laurent, len(a))
	for x := range a {
		for _, p := range a[x] {
			made, small := p.laurent()
			if !small {
				return nil, false
			}
			rows[x] = append(rows[x], made)
		}
	}
	return rows, true
}

// plainProduct returns the matrix of a braid, and whether those of all its beginnings are within
// the limits.
func plainProduct(b impl.Braid, size int64, ofLetter func(x, n int64) plainMatrix) (plainMatrix, bool) {
	m, small := plainUnit(size), true
	for _, x := range b.Letters {
		m = m.times(ofLetter(x, b.Strands))
		if small {
			_, small = m.laurents()
		}
	}
	return m, small
}

func plainBurauOf(b impl.Braid) (plainMatrix, bool) {
	return plainProduct(b, b.Strands, plainBurauLetter)
}

func plainReducedOf(b impl.Braid) (plainMatrix, bool) {
	return plainProduct(b, b.Strands-1, plainReducedLetter)
}

func plainTrace(m plainMatrix) plainPoly {
	sum := plainPoly{}
	for x := range m {
		sum = sum.plus(m[x][x])
	}
	return sum
}

// checkMatrices holds the matrices and the trace of a braid against the document, and returns their
// codes.
func checkMatrices(t *testing.T, b impl.Braid) []int64 {
	t.Helper()
	full, fullSmall := plainBurauOf(b)
	reduced, reducedSmall := plainReducedOf(b)
	var codes []int64
	for _, c := range []struct {
		name  string
		m     plainMatrix
		small bool
	}{{"BurauOf", full, fullSmall}, {"ReducedBurau", reduced, reducedSmall}} {
		got, code := burauFunctions()[c.name](b)
		codes = append(codes, code)
		if !c.small {
			checkNoRows(t, c.name, got, code, impl.ErrLimit)
			continue
		}
		want, _ := c.m.laurents()
		checkLaurents(t, c.name, got, code, want)
	}
	got, code := impl.TraceOf(b)
	codes = append(codes, code)
	want, small := plainTrace(reduced).laurent()
	if reducedSmall && small {
		checkLaurent(t, "TraceOf", got, code, want)
	} else {
		checkNoLaurent(t, "TraceOf", got, code, impl.ErrLimit)
	}
	return codes
}

// plainSigned returns the reduced matrix for t = -1, of any number of strands, and the greatest
// absolute value in the matrices of all beginnings.
func plainSigned(b impl.Braid) ([][]*big.Int, *big.Int) {
	size := int(b.Strands) - 1
	rows := make([][]*big.Int, size)
	for x := range rows {
		for y := range rows {
			rows[x] = append(rows[x], big.NewInt(0))
			if x == y {
				rows[x][y].SetInt64(1)
			}
		}
	}
	most := big.NewInt(1)
	for _, x := range b.Letters {
		i := int(max(x, -x))
		list := []int64{-1, 1, 1}
		if x < 0 {
			list = []int64{1, 1, -1}
		}
		for _, row := range rows {
			entry := row[i-1]
			row[i-1] = big.NewInt(0)
			for at, factor := range list {
				if column := i - 2 + at; 0 <= column && column < size {
					row[column] = new(big.Int).Add(row[column], new(big.Int).Mul(entry, big.NewInt(factor)))
				}
			}
			for _, y := range row {
				if y.CmpAbs(most) > 0 {
					most = new(big.Int).Abs(y)
				}
			}
		}
	}
	return rows, most
}

// checkSigned holds the reduced matrix for t = -1 against the document, and returns its code.
func checkSigned(t *testing.T, b impl.Braid) int64 {
	t.Helper()
	got, code := impl.BurauAtMinusOne(b)
	rows, most := plainSigned(b)
	if most.Cmp(big.NewInt(greatest)) > 0 {
		checkNoRows(t, "BurauAtMinusOne", got, code, impl.ErrLimit)
		return code
	}
	want := make([][]int64, len(rows))
	for x := range rows {
		for _, y := range rows[x] {
			want[x] = append(want[x], y.Int64())
		}
	}
	if code != impl.ErrNone || !sameRows(got, want) {
		t.Errorf("BurauAtMinusOne(%v) = %v, code %d, want %v", b, got, code, want)
	}
	return code
}

// plainDeterminant leaves only whole numbers on the way, and changes its argument.
func plainDeterminant(rows [][]*big.Int) *big.Int {
	last, sign := big.NewInt(1), int64(1)
	for k := range rows {
		at := k
		for at < len(rows) && rows[at][k].Sign() == 0 {
			at++
		}
		if at == len(rows) {
			return big.NewInt(0)
		}
		if at != k {
			rows[at], rows[k] = rows[k], rows[at]
			sign = -sign
		}
		for x := k + 1; x < len(rows); x++ {
			for y := k + 1; y < len(rows); y++ {
				one := new(big.Int).Mul(rows[x][y], rows[k][k])
				other := new(big.Int).Mul(rows[x][k], rows[k][y])
				rows[x][y] = one.Quo(one.Sub(one, other), last)
			}
		}
		last = rows[k][k]
	}
	return new(big.Int).Mul(last, big.NewInt(sign))
}

// plainClosure returns the coefficients of the polynomial of the closure of a braid. All is
// computed for one t, a power of 2 that is so large that the coefficients can be read off.
func plainClosure(b impl.Braid) []*big.Int {
	const bits = 100
	variable := new(big.Int).Lsh(big.NewInt(1), bits)
	size := int(b.Strands) - 1
	rows := make([][]*big.Int, size)
	for x := range rows {
		for y := range rows {
			rows[x] = append(rows[x], big.NewInt(0))
			if x == y {
				rows[x][y].SetInt64(1)
			}
		}
	}
	// For -i the matrix is multiplied by t, and in the end so is the unit matrix.
	unit := big.NewInt(1)
	minus := new(big.Int).Neg(variable)
	for _, x := range b.Letters {
		i := int(max(x, -x))
		list, rest := []*big.Int{variable, minus, big.NewInt(1)}, big.NewInt(1)
		if x < 0 {
			list, rest = []*big.Int{variable, big.NewInt(-1), big.NewInt(1)}, variable
			unit = new(big.Int).Mul(unit, variable)
		}
		for _, row := range rows {
			entry := row[i-1]
			for y := range row {
				row[y] = new(big.Int).Mul(row[y], rest)
			}
			row[i-1] = big.NewInt(0)
			for at, factor := range list {
				if column := i - 2 + at; 0 <= column && column < size {
					row[column] = new(big.Int).Add(row[column], new(big.Int).Mul(entry, factor))
				}
			}
		}
	}
	for x, row := range rows {
		for y := range row {
			row[y] = new(big.Int).Neg(row[y])
			if x == y {
				row[y].Add(row[y], unit)
			}
		}
	}
	value := plainDeterminant(rows)
	sum := big.NewInt(0)
	for range b.Strands {
		sum.Add(sum.Mul(sum, variable), big.NewInt(1))
	}
	value, rest := new(big.Int).QuoRem(value, sum, new(big.Int))
	if rest.Sign() != 0 {
		panic("a remainder")
	}
	return plainDigits(value, bits)
}

// plainDigits reads coefficients off, the first one being greater than 0.
func plainDigits(value *big.Int, bits uint) []*big.Int {
	if value.Sign() == 0 {
		return nil
	}
	value = new(big.Int).Rsh(value, value.TrailingZeroBits()/bits*bits)
	variable := new(big.Int).Lsh(big.NewInt(1), bits)
	half := new(big.Int).Rsh(variable, 1)
	var list []*big.Int
	for value.Sign() != 0 {
		digit := new(big.Int).Mod(value, variable)
		if digit.Cmp(half) > 0 {
			digit.Sub(digit, variable)
		}
		list = append(list, digit)
		value = new(big.Int).Rsh(new(big.Int).Sub(value, digit), bits)
	}
	if list[0].Sign() < 0 {
		for _, digit := range list {
			digit.Neg(digit)
		}
	}
	return list
}

// checkClosure holds the polynomial and the determinant of the closure of a braid against the
// document, and returns the code of the polynomial.
func checkClosure(t *testing.T, b impl.Braid) int64 {
	t.Helper()
	want, small := impl.Laurent{}, true
	value, sign := big.NewInt(0), int64(1)
	for _, x := range plainClosure(b) {
		small = small && x.CmpAbs(big.NewInt(greatest)) <= 0
		want.Coefficients = append(want.Coefficients, x.Int64())
		value.Add(value, new(big.Int).Mul(x, big.NewInt(sign)))
		sign = -sign
	}
	got, code := impl.AlexanderOf(b)
	if small {
		checkLaurent(t, "AlexanderOf", got, code, want)
	} else {
		checkNoLaurent(t, "AlexanderOf", got, code, impl.ErrLimit)
	}
	number, codeOfNumber := impl.DeterminantOf(b)
	checkNumber(t, "DeterminantOf", number, codeOfNumber, value.Abs(value).Int64())
	return code
}

func TestConstantsOfPolynomials(t *testing.T) {
	if impl.MaxCoefficient != greatest || impl.MaxPower != 1000 || impl.MaxClosed != 60 {
		t.Errorf("MaxCoefficient = %d, MaxPower = %d, MaxClosed = %d", impl.MaxCoefficient, impl.MaxPower, impl.MaxClosed)
	}
}

// goodLaurents has polynomials, among them those at the limits.
func goodLaurents() []impl.Laurent {
	return []impl.Laurent{
		{}, {Coefficients: []int64{}}, laurent(0, 1), laurent(0, -1), laurent(-1, 1, 2), laurent(5, 1, 0, 0, -3),
		laurent(1000, 7), laurent(-1000, 7), laurent(999, 1, 1), laurent(-3, 2, 0, 2),
		laurent(0, greatest), laurent(0, -greatest), laurent(-2, 1, greatest, 1), laurent(2, 1, -greatest, 1),
		flatLaurent(-1000, 2001, greatest), flatLaurent(-1000, 2001, -greatest), flatLaurent(-999, 2000, 1),
		flatLaurent(0, 1001, 1), flatLaurent(-1000, 2000, 3), flatLaurent(-500, 1501, -3),
	}
}

// notLaurents has what breaks each condition of a polynomial, most of it by one.
func notLaurents() map[string]impl.Laurent {
	return map[string]impl.Laurent{
		"a Low of 0":                   laurent(1),
		"another Low of 0":             laurent(-1),
		"the least Low of 0":           laurent(math.MinInt64),
		"the greatest Low of 0":        {Low: math.MaxInt64, Coefficients: []int64{}},
		"0 alone":                      laurent(0, 0),
		"0 at the beginning":           laurent(0, 0, 1),
		"0 at the end":                 laurent(0, 1, 0),
		"0 at both ends":               laurent(-1, 0, 1, 0),
		"a Low too small":              laurent(-1001, 1, 1),
		"a Low too great":              laurent(1001, 1),
		"the least Low":                laurent(math.MinInt64, 1, 2),
		"the greatest Low":             laurent(math.MaxInt64, 1, 2),
		"a power too great":            laurent(1000, 1, 1),
		"the powers too great":         flatLaurent(1, 1001, 1),
		"a coefficient too many":       flatLaurent(-1000, 2002, 1),
		"far too many coefficients":    flatLaurent(-1000, 9000, 1),
		"a coefficient too many below": flatLaurent(-1001, 2001, 1),
		"a coefficient too great":      laurent(0, greatest+1),
		"a coefficient too small":      laurent(0, -greatest-1),
		"too great at the end":         laurent(-2, 1, 1, greatest+1),
		"too small in the middle":      laurent(-2, 1, -greatest-1, 1),
		"the greatest coefficient":     laurent(0, 1, math.MaxInt64),
		"the least coefficient":        laurent(0, 1, math.MinInt64, 1),
		"the least coefficient ahead":  laurent(0, math.MinInt64),
	}
}

func TestIsLaurent(t *testing.T) {
	for _, p := range goodLaurents() {
		if !impl.IsLaurent(p) {
			t.Errorf("IsLaurent(%v) = false", p)
		}
	}
	for name, p := range notLaurents() {
		if impl.IsLaurent(p) {
			t.Errorf("IsLaurent of %s = true", name)
		}
	}
}

func TestWhatIsNoPolynomialIsInvalid(t *testing.T) {
	// Together with the others, some polynomials would exceed the limits, which is a later error.
	others := []impl.Laurent{{}, laurent(0, 1), flatLaurent(-1000, 2001, greatest)}
	for name, p := range notLaurents() {
		for function, call := range laurentPairFunctions() {
			for _, q := range append(others, p) {
				got, code := call(p, q)
				checkNoLaurent(t, function+" with "+name+" ahead", got, code, impl.ErrInvalid)
				got, code = call(q, p)
				checkNoLaurent(t, function+" with "+name+" behind", got, code, impl.ErrInvalid)
			}
		}
		for _, sign := range []int64{1, -1, 0, 2, math.MinInt64} {
			got, code := impl.ValueAtSign(p, sign)
			checkNoNumber(t, "ValueAtSign of "+name, got, code, impl.ErrInvalid)
		}
		got, code := impl.IsPalindrome(p)
		checkNoNumber(t, "IsPalindrome of "+name, got, code, impl.ErrInvalid)
	}
}

func TestWhatIsNoBraidHasNoMatrix(t *testing.T) {
	list := notBraids()
	// Too many letters to be closed, or too large a matrix, which are later errors.
	list["a letter too great behind many"] = repeatedWord(3, []int64{1, -2}, 90, []int64{3}, 1)
	list["the letter 0 behind many"] = repeatedWord(8, []int64{1, -2}, 90, []int64{0}, 1)
	list["too many letters of 3 strands"] = repeatedWord(3, []int64{1, -2}, 100, []int64{1}, 1)
	for name, b := range list {
		for function, call := range burauFunctions() {
			got, code := call(b)
			checkNoRows(t, function+" of "+name, got, code, impl.ErrInvalid)
		}
		for function, call := range braidLaurentFunctions() {
			got, code := call(b)
			checkNoLaurent(t, function+" of "+name, got, code, impl.ErrInvalid)
		}
		rows, code := impl.BurauAtMinusOne(b)
		checkNoRows(t, "BurauAtMinusOne of "+name, rows, code, impl.ErrInvalid)
		number, code := impl.DeterminantOf(b)
		checkNoNumber(t, "DeterminantOf of "+name, number, code, impl.ErrInvalid)
	}
}

func TestAddLaurents(t *testing.T) {
	cases := []struct{ p, q, want impl.Laurent }{
		{laurent(0), laurent(0), laurent(0)},
		{laurent(-7, 3, 4), laurent(0), laurent(-7, 3, 4)},
		{laurent(1000, 3), laurent(0), laurent(1000, 3)},
		{laurent(-1, 1, 2), laurent(0, -2), laurent(-1, 1)},
		{laurent(-1, 1, 2), laurent(-1, -1), laurent(0, 2)},
		{laurent(-1, 1, 2), laurent(-1, -1, -2), laurent(0)},
		{laurent(-1000, 5), laurent(-1000, -5), laurent(0)},
		{laurent(2, 1, 2, 3), laurent(2, -1, -2), laurent(4, 3)},
		{laurent(2, 1, 2, 3), laurent(3, -2, -3), laurent(2, 1)},
		{laurent(2, 1, 2, 3), laurent(3, -2), laurent(2, 1, 0, 3)},
		{laurent(-3, 1), laurent(2, 1), laurent(-3, 1, 0, 0, 0, 0, 1)},
		{laurent(-3, 1, 1), laurent(-1, 4, 5), laurent(-3, 1, 1, 4, 5)},
		{laurent(-2, 1, 1, 1, 1, 1), laurent(0, 7), laurent(-2, 1, 1, 8, 1, 1)},
		{laurent(0, greatest-1, 1), laurent(0, 1, 1), laurent(0, greatest, 2)},
		{laurent(0, 1-greatest, 1), laurent(0, -1, 1), laurent(0, -greatest, 2)},
		{laurent(0, greatest, 1), laurent(0, -greatest, 1), laurent(1, 2)},
		{flatLaurent(-1000, 2001, greatest), flatLaurent(-1000, 2001, -1), flatLaurent(-1000, 2001, greatest-1)},
		{flatLaurent(-1000, 1000, -greatest), flatLaurent(0, 1001, -greatest), flatLaurent(-1000, 2001, -greatest)},
		{flatLaurent(-1000, 2001, greatest), flatLaurent(-1000, 2001, -greatest), laurent(0)},
	}
	for _, c := range cases {
		got, code := impl.AddLaurents(c.p, c.q)
		checkLaurent(t, "AddLaurents", got, code, c.want)
		got, code = impl.AddLaurents(c.q, c.p)
		checkLaurent(t, "AddLaurents, exchanged", got, code, c.want)
	}
	far := flatLaurent(-1000, 2001, 0)
	far.Coefficients[0], far.Coefficients[2000] = 3, -4
	got, code := impl.AddLaurents(laurent(1000, -4), laurent(-1000, 3))
	checkLaurent(t, "AddLaurents of powers far apart", got, code, far)
}

func TestSumsBeyondTheLimits(t *testing.T) {
	pairs := [][2]impl.Laurent{
		{laurent(0, greatest), laurent(0, 1)}, {laurent(0, -greatest), laurent(0, -1)},
		{laurent(0, greatest), laurent(0, greatest)}, {laurent(0, -greatest), laurent(0, -greatest)},
		{laurent(-3, 1, greatest, 1), laurent(-2, 1)}, {laurent(-3, 1, 1, 2-greatest), laurent(-1, -3)},
		{flatLaurent(-1000, 2001, greatest), laurent(1000, 1)},
	}
	for _, pair := range pairs {
		got, code := impl.AddLaurents(pair[0], pair[1])
		checkNoLaurent(t, "AddLaurents", got, code, impl.ErrLimit)
		got, code = impl.AddLaurents(pair[1], pair[0])
		checkNoLaurent(t, "AddLaurents, exchanged", got, code, impl.ErrLimit)
	}
}

func TestMultiplyLaurents(t *testing.T) {
	cases := []struct{ p, q, want impl.Laurent }{
		{laurent(0), laurent(0), laurent(0)},
		{laurent(0), laurent(-1000, 5, 6), laurent(0)},
		{laurent(0), flatLaurent(-1000, 2001, greatest), laurent(0)},
		{laurent(0, 1), laurent(-7, 3, 4), laurent(-7, 3, 4)},
		{laurent(-1, 1, 2), laurent(-1, 1, 2), laurent(-2, 1, 4, 4)},
		{laurent(0, 1, -1), laurent(0, 1, 1), laurent(0, 1, 0, -1)},
		{laurent(3, 2), laurent(-5, -3, 0, 1), laurent(-2, -6, 0, 2)},
		{laurent(0, 1, -1), flatLaurent(2, 6, 1), laurent(2, 1, 0, 0, 0, 0, 0, -1)},
		{laurent(0, -1, -1), laurent(0, -1, 1), laurent(0, 1, 0, -1)},
		{laurent(0, million), laurent(0, million), laurent(0, greatest)},
		{laurent(0, -million), laurent(0, million), laurent(0, -greatest)},
		{laurent(0, 9999), laurent(0, 100010001), laurent(0, greatest-1)},
		{laurent(-1, 1, million, 1), laurent(2, 1, million-1, 1), laurent(1, 1, 2*million-1, greatest-million+2, 2*million-1, 1)},
		{laurent(0, greatest), laurent(9, 1), laurent(9, greatest)},
		{laurent(0, -greatest), laurent(9, -1), laurent(9, greatest)},
		{laurent(-500, 3), laurent(-500, 2, 1), laurent(-1000, 6, 3)},
		{laurent(500, 3), laurent(499, 2, 1), laurent(999, 6, 3)},
		{laurent(1000, 3), laurent(-1000, 2), laurent(0, 6)},
		{flatLaurent(-1000, 2001, 3), laurent(0, -5), flatLaurent(-1000, 2001, -15)},
		{laurent(0, 1, -1), flatLaurent(-1000, 2000, 1), plainEnds(-1000, 1000, 1, -1)},
	}
	for _, c := range cases {
		got, code := impl.MultiplyLaurents(c.p, c.q)
		checkLaurent(t, "MultiplyLaurents", got, code, c.want)
		got, code = impl.MultiplyLaurents(c.q, c.p)
		checkLaurent(t, "MultiplyLaurents, exchanged", got, code, c.want)
	}
}

// plainEnds returns the polynomial with two coefficients.
func plainEnds(low, high, first, last int64) impl.Laurent {
	p := flatLaurent(low, int(high-low+1), 0)
	p.Coefficients[0], p.Coefficients[high-low] = first, last
	return p
}

// binomials returns the polynomial of 1 + t, or 1 - t for the sign -1, to a power.
func binomials(power, sign int64) impl.Laurent {
	p := laurent(0, 1)
	for k := int64(1); k <= power; k++ {
		p.Coefficients = append(p.Coefficients, sign*p.Coefficients[k-1]*(power-k+1)/k)
	}
	return p
}

// TestProductsOfLargeNumbers has products whose coefficients are sums of numbers beyond 64 bits.
func TestProductsOfLargeNumbers(t *testing.T) {
	for power := int64(30); power <= 42; power++ {
		squares := binomials(power, -1)
		want := impl.Laurent{}
		for _, x := range squares.Coefficients {
			want.Coefficients = append(want.Coefficients, x, 0)
		}
		want.Coefficients = want.Coefficients[:2*power+1]
		got, code := impl.MultiplyLaurents(binomials(power, 1), binomials(power, -1))
		checkLaurent(t, "MultiplyLaurents of powers of 1 + t and 1 - t", got, code, want)
	}
	word := int64(1) << 32
	beyond := [][2]impl.Laurent{
		{laurent(0, million), laurent(0, million+1)}, {laurent(0, -million), laurent(0, million+1)},
		{laurent(0, 10001), laurent(0, 99990001)}, {laurent(0, -10001), laurent(0, 99990001)},
		{laurent(0, greatest), laurent(0, greatest)}, {laurent(0, greatest), laurent(0, -greatest)},
		{laurent(0, greatest), laurent(0, 2)}, {laurent(-1, 1, million, 1), laurent(2, 1, million, 1)},
		{laurent(-1, 1, million, 1), laurent(2, -1, -million, -1)},
		// Without the bits beyond 64 these would be 2, 0 or small.
		{laurent(0, 1, word, 1), laurent(0, 1, word, 1)}, {laurent(0, 1, word, 1), laurent(0, 1, -word, 1)},
		{laurent(0, 1, word, 1), laurent(0, -1, word, 1)}, {laurent(0, word), laurent(0, word)},
		{laurent(0, word), laurent(0, -word)}, {laurent(0, 8*word), laurent(0, 7*word)},
		{laurent(0, word), laurent(0, word/2)}, {laurent(0, word), laurent(0, -word/2)},
		{flatLaurent(-500, 1001, greatest), flatLaurent(-500, 1001, greatest)},
		{flatLaurent(-500, 1001, greatest), flatLaurent(-500, 1001, -greatest)},
		{flatLaurent(-500, 1001, billion), flatLaurent(-500, 1001, billion)},
		{flatLaurent(-1000, 2001, greatest), laurent(0, -2)},
	}
	for _, pair := range beyond {
		got, code := impl.MultiplyLaurents(pair[0], pair[1])
		checkNoLaurent(t, "MultiplyLaurents", got, code, impl.ErrLimit)
		got, code = impl.MultiplyLaurents(pair[1], pair[0])
		checkNoLaurent(t, "MultiplyLaurents, exchanged", got, code, impl.ErrLimit)
	}
}

func TestPowersOfProductsWithinTheLimits(t *testing.T) {
	pairs := [][2]impl.Laurent{
		{laurent(1000, 1), laurent(1, 1)}, {laurent(-1000, 1), laurent(-1, 1)}, {laurent(500, 1), laurent(500, 1, 1)},
		{laurent(-501, 1, 1), laurent(-500, 1, 1)}, {laurent(1000, 5), laurent(1000, 5)}, {laurent(-1000, 5), laurent(-1000, 5)},
		{flatLaurent(-1000, 2001, 1), laurent(0, 1, 1)}, {flatLaurent(-1000, 2001, 1), laurent(-1, 1, 1)},
		{flatLaurent(-1000, 2001, 1), flatLaurent(-1000, 2001, 1)}, {flatLaurent(0, 1001, 1), laurent(0, 1, -1)},
	}
	for _, pair := range pairs {
		got, code := impl.MultiplyLaurents(pair[0], pair[1])
		checkNoLaurent(t, "MultiplyLaurents", got, code, impl.ErrLimit)
		got, code = impl.MultiplyLaurents(pair[1], pair[0])
		checkNoLaurent(t, "MultiplyLaurents, exchanged", got, code, impl.ErrLimit)
	}
	got, code := impl.MultiplyLaurents(flatLaurent(0, 1000, 1), laurent(0, 1, -1))
	checkLaurent(t, "MultiplyLaurents up to the power 1000", got, code, plainEnds(0, 1000, 1, -1))
	got, code = impl.MultiplyLaurents(flatLaurent(-999, 1000, 1), laurent(-1, 1, -1))
	checkLaurent(t, "MultiplyLaurents down to the power -1000", got, code, plainEnds(-1000, 0, 1, -1))
}

// randomLaurent returns a polynomial with coefficients of absolute values of up to most.
func randomLaurent(source *rand.Rand, most int64) impl.Laurent {
	p := laurent(int64(source.Intn(41) - 20))
	for range source.Intn(8) {
		p.Coefficients = append(p.Coefficients, (source.Int63n(2*most+1)-most)*int64(source.Intn(3)%2))
	}
	p, _ = plainOf(p).laurent()
	return p
}

func TestSumsAndProductsOfSomePolynomials(t *testing.T) {
	source := rand.New(rand.NewSource(21))
	codes := map[int64]int{}
	for round := range 3000 {
		most := []int64{2, 1000, million, greatest}[round%4]
		p, q := randomLaurent(source, most), randomLaurent(source, most)
		for name, want := range map[string]plainPoly{
			"AddLaurents":      plainOf(p).plus(plainOf(q)),
			"MultiplyLaurents": plainOf(p).times(plainOf(q)),
		} {
			got, code := laurentPairFunctions()[name](p, q)
			codes[code]++
			if made, small := want.laurent(); small {
				checkLaurent(t, name, got, code, made)
			} else {
				checkNoLaurent(t, name, got, code, impl.ErrLimit)
			}
		}
	}
	if codes[impl.ErrNone] < 3000 || codes[impl.ErrLimit] < 300 {
		t.Errorf("codes %v", codes)
	}
}

func TestValueAtSign(t *testing.T) {
	cases := []struct {
		p          impl.Laurent
		one, other int64
	}{
		{laurent(0), 0, 0}, {laurent(0, 5), 5, 5}, {laurent(1, 5), 5, -5}, {laurent(-1, 5), 5, -5}, {laurent(-2, 5), 5, 5},
		{laurent(-1, 1, 2), 3, 1}, {laurent(-2, 1, 2), 3, -1}, {laurent(0, 1, -3, 1), -1, 5}, {laurent(3, 1, -3, 1), -1, -5},
		{laurent(0, 1, -1), 0, 2}, {laurent(0, 1, 1), 2, 0}, {laurent(999, 4, 7), 11, 3}, {laurent(-1000, -4, 7), 3, -11},
		{flatLaurent(-1000, 2001, greatest), 2001 * greatest, greatest},
		{flatLaurent(-999, 2000, -greatest), -2000 * greatest, 0},
		{flatLaurent(-999, 1999, -greatest), -1999 * greatest, greatest},
	}
	for _, c := range cases {
		got, code := impl.ValueAtSign(c.p, 1)
		checkNumber(t, "ValueAtSign 1", got, code, c.one)
		got, code = impl.ValueAtSign(c.p, -1)
		checkNumber(t, "ValueAtSign -1", got, code, c.other)
		for _, sign := range []int64{0, 2, -2, 3, math.MaxInt64, math.MinInt64} {
			got, code = impl.ValueAtSign(c.p, sign)
			checkNoNumber(t, "ValueAtSign of another number", got, code, impl.ErrRange)
		}
	}
}

func TestIsPalindrome(t *testing.T) {
	cases := []struct {
		p    impl.Laurent
		want int64
	}{
		{laurent(0), 1}, {laurent(0, 5), 1}, {laurent(-3, -5), 1}, {laurent(0, 1, 1), 1}, {laurent(0, 1, -1), -1},
		{laurent(7, -1, 1), -1}, {laurent(0, 1, 2), 0}, {laurent(0, 1, -2), 0}, {laurent(0, 1, 0, 1), 1}, {laurent(0, 1, 0, -1), -1},
		{laurent(0, 1, 2, 1), 1}, {laurent(0, 1, 2, -1), 0}, {laurent(0, 1, 2, 3), 0}, {laurent(0, 1, 2, 2, 1), 1},
		{laurent(0, 1, 2, -2, -1), -1}, {laurent(0, 1, 2, -2, 1), 0}, {laurent(0, 1, 2, 2, -1), 0}, {laurent(0, 1, 2, 3, 1), 0},
		{laurent(-2, 1, 2, 0, -2, -1), -1}, {laurent(-2, 1, 2, 0, 2, 1), 1}, {laurent(-2, 1, 2, 4, -2, -1), 0},
		{laurent(-2, 1, 2, 0, -2, 1), 0}, {laurent(0, 1, -3, 1), 1}, {flatLaurent(-1000, 2001, greatest), 1},
		{laurent(0, greatest, -greatest), -1}, {laurent(0, greatest, greatest-1), 0}, {plainEnds(-1000, 1000, 3, -3), -1},
	}
	for _, c := range cases {
		got, code := impl.IsPalindrome(c.p)
		checkNumber(t, "IsPalindrome", got, code, c.want)
	}
}

func TestExamplesOfMatrices(t *testing.T) {
	zero, one := laurent(0), laurent(0, 1)
	minus, less, back := laurent(0, 1, -1), laurent(-1, -1, 1), laurent(-1, 1)
	cases := []struct {
		b             impl.Braid
		full, reduced [][]impl.Laurent
	}{
		{braid(1), [][]impl.Laurent{{one}}, nil},
		{braid(2), [][]impl.Laurent{{one, zero}, {zero, one}}, [][]impl.Laurent{{one}}},
		{braid(2, 1), [][]impl.Laurent{{minus, laurent(1, 1)}, {one, zero}}, [][]impl.Laurent{{laurent(1, -1)}}},
		{braid(2, -1), [][]impl.Laurent{{zero, one}, {back, less}}, [][]impl.Laurent{{laurent(-1, -1)}}},
		{braid(2, 1, -1), [][]impl.Laurent{{one, zero}, {zero, one}}, [][]impl.Laurent{{one}}},
		{braid(2, 1, 1), [][]impl.Laurent{{laurent(0, 1, -1, 1), laurent(1, 1, -1)}, {minus, laurent(1, 1)}},
			[][]impl.Laurent{{laurent(2, 1)}}},
		{braid(3, 1, 2), [][]impl.Laurent{{minus, laurent(1, 1, -1), laurent(2, 1)}, {one, zero, zero}, {zero, one, zero}},
			[][]impl.Laurent{{zero, laurent(1, -1)}, {laurent(1, 1), laurent(1, -1)}}},
		{braid(3, 2, 1), [][]impl.Laurent{{minus, laurent(1, 1), zero}, {minus, zero, laurent(1, 1)}, {one, zero, zero}},
			[][]impl.Laurent{{laurent(1, -1), one}, {laurent(2, -1), zero}}},
		{braid(3, -2), [][]impl.Laurent{{one, zero, zero}, {zero, zero, one}, {zero, back, less}},
			[][]impl.Laurent{{one, zero}, {one, laurent(-1, -1)}}},
		{braid(4, 2), [][]impl.Laurent{{one, zero, zero, zero}, {zero, minus, laurent(1, 1), zero}, {zero, one, zero, zero}, {zero, zero, zero, one}},
			[][]impl.Laurent{{one, zero, zero}, {laurent(1, 1), laurent(1, -1), one}, {zero, zero, one}}},
		{braid(4, -2), [][]impl.Laurent{{one, zero, zero, zero}, {zero, zero, one, zero}, {zero, back, less, zero}, {zero, zero, zero, one}},
			[][]impl.Laurent{{one, zero, zero}, {one, laurent(-1, -1), back}, {zero, zero, one}}},
	}
	for _, c := range cases {
		got, code := impl.BurauOf(c.b)
		checkLaurents(t, "BurauOf", got, code, c.full)
		got, code = impl.ReducedBurau(c.b)
		checkLaurents(t, "ReducedBurau", got, code, c.reduced)
	}
}

func TestMatricesOfLetters(t *testing.T) {
	for n := int64(1); n <= 8; n++ {
		for _, b := range braidsOfLetters(n, 1) {
			checkMatrices(t, b)
			checkSigned(t, b)
		}
	}
}

func TestMatricesOfWords(t *testing.T) {
	list := append(braidsOfLetters(3, 3), braidsOfLetters(4, 2)...)
	for _, b := range append(list, randomBraids(40)...) {
		checkMatrices(t, b)
		checkSigned(t, b)
	}
}

// reducedRows returns the reduced matrix.
func reducedRows(t *testing.T, b impl.Braid) [][]impl.Laurent {
	t.Helper()
	return must[[][]impl.Laurent](t)(impl.ReducedBurau(b))
}

// Promise 5, the first part.
func TestRowsOfBurausMatrixAddUpToOne(t *testing.T) {
	list := append(randomBraids(60), longBraid(2, 200), longBraid(8, 200), longBraid(1, 0))
	checked := 0
	for _, b := range append(list, randomBraids(200)...) {
		rows, code := impl.BurauOf(b)
		if code == impl.ErrLimit {
			continue
		}
		if code != impl.ErrNone || int64(len(rows)) != b.Strands {
			t.Fatalf("BurauOf(%v) has %d rows, code %d", b, len(rows), code)
		}
		checked++
		for _, row := range rows {
			sum := plainPoly{}
			for _, p := range row {
				if !impl.IsLaurent(p) {
					t.Errorf("BurauOf(%v) has %v", b, p)
				}
				sum = sum.plus(plainOf(p))
			}
			if made, _ := sum.laurent(); int64(len(row)) != b.Strands || !sameLaurent(made, laurent(0, 1)) {
				t.Errorf("a row of BurauOf(%v) adds up to %v", b, made)
			}
		}
	}
	if checked < 400 {
		t.Errorf("only %d matrices are within the limits", checked)
	}
}

func TestMatricesOfProductsAreProducts(t *testing.T) {
	source := rand.New(rand.NewSource(22))
	for _, a := range randomBraids(20) {
		b := randomBraid(source, a.Strands, source.Intn(20))
		product := must[impl.Braid](t)(impl.ProductOf(a, b))
		for name, call := range burauFunctions() {
			one, other := must[[][]impl.Laurent](t)(call(a)), must[[][]impl.Laurent](t)(call(b))
			var first, second plainMatrix
			for x := range one {
				first, second = append(first, nil), append(second, nil)
				for y := range one {
					first[x], second[x] = append(first[x], plainOf(one[x][y])), append(second[x], plainOf(other[x][y]))
				}
			}
			want, _ := first.times(second).laurents()
			got, code := call(product)
			checkLaurents(t, name+" of a product", got, code, want)
		}
	}
}

func TestTheSameBraidsHaveTheSameMatrices(t *testing.T) {
	source := rand.New(rand.NewSource(23))
	for _, a := range randomBraids(30) {
		b := moved(source, a, 60)
		for name, call := range burauFunctions() {
			got, code := call(b)
			checkLaurents(t, name+" of a moved word", got, code, must[[][]impl.Laurent](t)(call(a)))
		}
	}
}

func TestTraceOf(t *testing.T) {
	cases := []struct {
		b    impl.Braid
		want impl.Laurent
	}{
		{braid(1), laurent(0)}, {braid(2), laurent(0, 1)}, {braid(8), laurent(0, 7)}, {braid(2, 1), laurent(1, -1)},
		{braid(2, -1, -1), laurent(-2, 1)}, {braid(3, 1), laurent(0, 1, -1)}, {braid(3, -1), laurent(-1, -1, 1)},
		{braid(3, 1, 2), laurent(1, -1)}, {braid(3, 1, -2), laurent(-1, -1, 1, -1)}, {braid(3, 1, 2, 1), laurent(0)},
		{braid(4, 1, 2, 3), laurent(1, -1)}, {braid(5, 1, 3), laurent(0, 2, -2)}, {longBraid(2, 200), laurent(200, 1)},
	}
	for _, c := range cases {
		got, code := impl.TraceOf(c.b)
		checkLaurent(t, "TraceOf", got, code, c.want)
	}
}

func TestConjugatesHaveTheSameTracesAndPolynomials(t *testing.T) {
	source := rand.New(rand.NewSource(24))
	for _, b := range randomBraids(20) {
		c := randomBraid(source, b.Strands, source.Intn(20))
		conjugate := conjugateWord(t, b, c)
		for name, call := range braidLaurentFunctions() {
			got, code := call(conjugate)
			checkLaurent(t, name+" of a conjugate", got, code, must[impl.Laurent](t)(call(b)))
		}
		got, code := impl.DeterminantOf(conjugate)
		checkNumber(t, "DeterminantOf a conjugate", got, code, must[int64](t)(impl.DeterminantOf(b)))
	}
}

// beginningOf returns the braid of the first count letters of a word that is repeated.
func beginningOf(strands int64, count int, word ...int64) impl.Braid {
	return braid(strands, slices.Repeat(word, count/len(word)+1)[:count]...)
}

// withInverse returns a braid and its inverse, one after the other.
func withInverse(t *testing.T, b impl.Braid) impl.Braid {
	t.Helper()
	return must[impl.Braid](t)(impl.ProductOf(b, must[impl.Braid](t)(impl.InverseOf(b))))
}

// TestMatricesWithinTheLimits has braids whose coefficients are near the limit, with the codes of
// BurauOf, ReducedBurau and TraceOf.
func TestMatricesWithinTheLimits(t *testing.T) {
	const none, limit = impl.ErrNone, impl.ErrLimit
	short, long := beginningOf(3, 63, 1, -2), beginningOf(3, 64, 1, -2)
	cases := []struct {
		name  string
		b     impl.Braid
		codes []int64
	}{
		{"nearly too large", short, []int64{none, none, none}},
		{"too large at the end", long, []int64{limit, limit, limit}},
		{"far too large", beginningOf(3, 200, 1, -2), []int64{limit, limit, limit}},
		{"nearly too large for a while", withInverse(t, short), []int64{none, none, none}},
		{"too large for a while", withInverse(t, long), []int64{limit, limit, limit}},
		{"far too large for a while", withInverse(t, beginningOf(4, 100, 3, -2, 1)), []int64{limit, limit, limit}},
		{"8 strands", beginningOf(8, 118, 1, -2, 3, -4, 5, -6, 7), []int64{none, none, none}},
		{"too large with 8 strands", beginningOf(8, 124, 1, -2, 3, -4, 5, -6, 7), []int64{limit, limit, limit}},
		{"only the reduced matrix", beginningOf(5, 116, -3, 2, -4), []int64{none, limit, limit}},
		{"only the full matrix", beginningOf(6, 187, 3, -2, -3, -2, 4, 2), []int64{limit, none, none}},
		{"only the trace", beginningOf(5, 158, -4, 3, 1, 2), []int64{none, none, limit}},
		{"only the trace of 4 strands", beginningOf(4, 192, 1, -3, -3, 2, 3), []int64{none, none, limit}},
		{"not the trace, but its first parts", beginningOf(5, 100, 1, 1, 4, -2, 3), []int64{limit, none, none}},
		{"not the trace, but its last parts", beginningOf(4, 193, 3, -1, -2, 3, 2), []int64{limit, none, none}},
	}
	for _, c := range cases {
		if got := checkMatrices(t, c.b); !slices.Equal(got, c.codes) {
			t.Errorf("%s: codes %v, want %v", c.name, got, c.codes)
		}
	}
}

func TestBurauAtMinusOne(t *testing.T) {
	cases := []struct {
		b    impl.Braid
		want [][]int64
	}{
		{braid(1), nil}, {braid(2), [][]int64{{1}}}, {braid(2, 1), [][]int64{{1}}}, {longBraid(2, 200), [][]int64{{1}}},
		{braid(3), [][]int64{{1, 0}, {0, 1}}}, {braid(3, 1), [][]int64{{1, 1}, {0, 1}}}, {braid(3, -1), [][]int64{{1, -1}, {0, 1}}},
		{braid(3, 2), [][]int64{{1, 0}, {-1, 1}}}, {braid(3, -2), [][]int64{{1, 0}, {1, 1}}}, {braid(3, 1, 2), [][]int64{{0, 1}, {-1, 1}}},
		{braid(3, 1, -2), [][]int64{{2, 1}, {1, 1}}}, {braid(3, 1, 2, 1, 2, 1, 2), [][]int64{{-1, 0}, {0, -1}}},
		{longBraid(3, 200), [][]int64{{1, 200}, {0, 1}}}, {braid(4, 2), [][]int64{{1, 0, 0}, {-1, 1, 1}, {0, 0, 1}}},
		{braid(4, -2), [][]int64{{1, 0, 0}, {1, 1, -1}, {0, 0, 1}}},
	}
	for _, c := range cases {
		got, code := impl.BurauAtMinusOne(c.b)
		if code != impl.ErrNone || !sameRows(got, c.want) {
			t.Errorf("BurauAtMinusOne(%v) = %v, code %d, want %v", c.b, got, code, c.want)
		}
	}
}

func TestBurauAtMinusOneHasTheValuesOfTheReducedMatrix(t *testing.T) {
	for _, b := range randomBraids(60) {
		want := make([][]int64, b.Strands-1)
		for x, row := range reducedRows(t, b) {
			for _, p := range row {
				want[x] = append(want[x], must[int64](t)(impl.ValueAtSign(p, -1)))
			}
		}
		got, code := impl.BurauAtMinusOne(b)
		if code != impl.ErrNone || !sameRows(got, want) {
			t.Errorf("BurauAtMinusOne(%v) = %v, code %d, want %v", b, got, code, want)
		}
	}
}

// wordWithEntry returns a word of at most 100 letters of 3 strands whose matrix for t = -1 has an
// entry of its first row that is the greatest one of all on the way to it.
func wordWithEntry(t *testing.T, entry int64) impl.Braid {
	t.Helper()
	for other := entry * 618 / 1000; other < entry; other++ {
		// The letter 1 adds the first entry of a row to the second one, and -2 the second to the first.
		var letters []int64
		first, second := other, entry
		for len(letters) < 100 && first > 0 && second > 0 {
			if second >= first {
				letters, second = append(letters, 1), second-first
			} else {
				letters, first = append(letters, -2), first-second
			}
		}
		if first == 1 && second == 0 {
			slices.Reverse(letters)
			return braid(3, letters...)
		}
	}
	t.Fatalf("no word has the entry %d", entry)
	return impl.Braid{}
}

func TestEntriesAtTheLimit(t *testing.T) {
	cases := []struct{ entry, code int64 }{
		{greatest - 1, impl.ErrNone}, {greatest, impl.ErrNone}, {greatest + 1, impl.ErrLimit}, {greatest + 2, impl.ErrLimit},
	}
	for _, c := range cases {
		b := wordWithEntry(t, c.entry)
		if rows, most := plainSigned(b); most.Int64() != c.entry || rows[0][1].Int64() != c.entry {
			t.Fatalf("%v has the entry %v, and not %d", b, most, c.entry)
		}
		mirror := must[impl.Braid](t)(impl.MirrorOf(b))
		for _, word := range []impl.Braid{b, mirror, withInverse(t, b), withInverse(t, mirror)} {
			if code := checkSigned(t, word); code != c.code {
				t.Errorf("BurauAtMinusOne with the entry %d: code %d, want %d", c.entry, code, c.code)
			}
		}
	}
}

// TestLimitsForMinusOne has braids of which only the matrix for t = -1, or only the polynomials, are
// too large.
func TestLimitsForMinusOne(t *testing.T) {
	none, limit := []int64{impl.ErrNone, impl.ErrNone}, []int64{impl.ErrLimit, impl.ErrLimit}
	for _, c := range []struct {
		b      impl.Braid
		code   int64
		others []int64
	}{
		{beginningOf(3, 58, 1, -2), impl.ErrNone, none}, {beginningOf(3, 59, 1, -2), impl.ErrLimit, none},
		{beginningOf(8, 115, 1, -2, 3, -4, 5, -6, 7), impl.ErrNone, none},
		{beginningOf(8, 116, 1, -2, 3, -4, 5, -6, 7), impl.ErrLimit, none},
		{withInverse(t, beginningOf(3, 59, 1, -2)), impl.ErrLimit, none},
		{beginningOf(3, 200, 1, -2), impl.ErrLimit, limit}, {beginningOf(8, 200, 1, 3, 5, 7, -2, -4, -6), impl.ErrLimit, limit},
		{beginningOf(5, 119, -3, 2, -4), impl.ErrNone, limit}, {beginningOf(4, 200, 1, -3, -3, 2, 3), impl.ErrNone, limit},
		{beginningOf(4, 200, 3, -1, -2, 3, 2), impl.ErrNone, limit},
	} {
		if code := checkSigned(t, c.b); code != c.code {
			t.Errorf("BurauAtMinusOne(%v): code %d, want %d", c.b, code, c.code)
		}
		_, full := impl.BurauOf(c.b)
		_, reduced := impl.ReducedBurau(c.b)
		if got := []int64{full, reduced}; !slices.Equal(got, c.others) {
			t.Errorf("matrices of %v: codes %v, want %v", c.b, got, c.others)
		}
	}
}

func TestLongWordsAtMinusOne(t *testing.T) {
	codes := map[int64]int{}
	for _, b := range randomBraids(200) {
		codes[checkSigned(t, b)]++
	}
	source := rand.New(rand.NewSource(25))
	for range 100 {
		// Letters to the right of each other have other signs, which makes entries large.
		n := 3 + source.Int63n(6)
		b := braid(n)
		for range 70 + source.Intn(60) {
			i := 1 + source.Int63n(n-1)
			b.Letters = append(b.Letters, i*(2*(i%2)-1))
		}
		codes[checkSigned(t, b)]++
	}
	if codes[impl.ErrNone] < 200 || codes[impl.ErrLimit] < 20 {
		t.Errorf("codes %v", codes)
	}
}

func TestPolynomialsOfClosures(t *testing.T) {
	cases := []struct {
		b    impl.Braid
		want impl.Laurent
	}{
		{braid(1), laurent(0, 1)}, {braid(2), laurent(0)}, {braid(8), laurent(0)}, {braid(2, 1), laurent(0, 1)},
		{braid(2, -1), laurent(0, 1)}, {braid(2, 1, -1), laurent(0)}, {braid(2, 1, 1), laurent(0, 1, -1)},
		{braid(2, -1, -1), laurent(0, 1, -1)}, {braid(2, 1, 1, 1), laurent(0, 1, -1, 1)}, {braid(2, -1, -1, -1), laurent(0, 1, -1, 1)},
		{braid(2, 1, 1, 1, 1), laurent(0, 1, -1, 1, -1)}, {braid(2, 1, 1, 1, 1, 1), laurent(0, 1, -1, 1, -1, 1)},
		{braid(3, 1, 2), laurent(0, 1)}, {braid(3, 1, -2), laurent(0, 1)}, {braid(3, 1, 1), laurent(0)}, {braid(3, 1, 1, 1), laurent(0)},
		{braid(3, 1, -2, 1, -2), laurent(0, 1, -3, 1)}, {braid(3, 1, 1, 1, 2, -1, 2), laurent(0, 2, -3, 2)},
		{braid(4, 1, 1, 2, -1, -3, 2, -3), laurent(0, 2, -5, 2)}, {braid(3, 1, 1, 1, -2, 1, -2), laurent(0, 1, -3, 3, -3, 1)},
		{braid(3, 1, 1, -2, 1, -2, -2), laurent(0, 1, -3, 5, -3, 1)}, {braid(3, 1, 1, 1, 2, 1, 1, 1, 2), laurent(0, 1, -1, 0, 1, 0, -1, 1)},
		{braid(3, 1, -2, 1, -2, 1, -2), laurent(0, 1, -4, 6, -4, 1)}, {braid(3, 1, 1, -2, 1, -2), laurent(0, 1, -3, 3, -1)},
		{braid(3, 1, -2, 1, -2, 1, -2, 1, -2), laurent(0, 1, -5, 10, -13, 10, -5, 1)}, {braid(3, 1, 1, 2, 2), laurent(0, 1, -2, 1)},
		{braid(3, 1, 1, 1, 2, 2, 2), laurent(0, 1, -2, 3, -2, 1)}, {braid(8, 1, 2, 3, 4, 5, 6, 7), laurent(0, 1)},
		{braid(8, -1, 2, -3, 4, -5, 6, -7), laurent(0, 1)}, {braid(8, 1, 1, 2, 2, 3, 3, 4, 4, 5, 5, 6, 6, 7, 7), binomials(7, -1)},
	}
	for _, c := range cases {
		got, code := impl.AlexanderOf(c.b)
		checkLaurent(t, "AlexanderOf", got, code, c.want)
		sum := int64(0)
		for at, x := range c.want.Coefficients {
			sum += x * int64(1-2*(at%2))
		}
		number, code := impl.DeterminantOf(c.b)
		checkNumber(t, "DeterminantOf", number, code, max(sum, -sum))
	}
}

// TestPolynomialsOfTorusKnots multiplies them with 1 - t^p and 1 - t^q.
func TestPolynomialsOfTorusKnots(t *testing.T) {
	checked := 0
	for p := int64(2); p <= 8; p++ {
		for q := int64(1); q <= 60/(p-1); q++ {
			b := braid(p)
			for range q {
				for i := int64(1); i < p; i++ {
					b.Letters = append(b.Letters, i)
				}
			}
			if big.NewInt(0).GCD(nil, nil, big.NewInt(p), big.NewInt(q)).Int64() != 1 {
				continue
			}
			checked++
			less := func(power int64) plainPoly { return plainMonomial(1, 0).plus(plainMonomial(-1, power)) }
			for _, word := range []impl.Braid{b, must[impl.Braid](t)(impl.InverseOf(b))} {
				got := must[impl.Laurent](t)(impl.AlexanderOf(word))
				left, _ := plainOf(got).times(less(p)).times(less(q)).laurent()
				right, _ := less(p * q).times(less(1)).laurent()
				if !sameLaurent(left, right) {
					t.Errorf("AlexanderOf(%v) = %v", word, got)
				}
			}
		}
	}
	if checked < 50 {
		t.Errorf("only %d knots", checked)
	}
}

func TestClosuresOfSomeBraids(t *testing.T) {
	list := append(braidsOfLetters(3, 4), braidsOfLetters(4, 3)...)
	list = append(list, randomBraids(60)...)
	source := rand.New(rand.NewSource(26))
	for n := int64(1); n <= 8; n++ {
		for _, count := range []int{20, 59, 60} {
			list = append(list, randomBraid(source, n, count))
		}
	}
	for _, b := range list {
		if code := checkClosure(t, b); code != impl.ErrNone {
			t.Errorf("AlexanderOf(%v): code %d", b, code)
		}
	}
}

// Promise 5, the second part.
func TestPolynomialsOfClosuresArePalindromes(t *testing.T) {
	kinds := map[int64]int{}
	for _, b := range append(randomBraids(60), braidsOfLetters(3, 5)...) {
		p := must[impl.Laurent](t)(impl.AlexanderOf(b))
		kind, code := impl.IsPalindrome(p)
		if code != impl.ErrNone || kind == 0 || p.Low != 0 || len(p.Coefficients) > 0 && p.Coefficients[0] < 0 {
			t.Errorf("AlexanderOf(%v) = %v, IsPalindrome %d, code %d", b, p, kind, code)
		}
		backwards := slices.Clone(p.Coefficients)
		slices.Reverse(backwards)
		for at := range backwards {
			backwards[at] *= kind
		}
		if !slices.Equal(p.Coefficients, backwards) {
			t.Errorf("AlexanderOf(%v) = %v is no palindrome", b, p)
		}
		kinds[kind]++
		// With one curve the value for t = 1 is 1 or -1, with more of them it is 0.
		curves := 0
		ends := must[[]int64](t)(impl.EndsOf(b))
		for x := range ends {
			next, least := ends[x], int64(x)
			for next != int64(x) {
				least, next = min(least, next), ends[next]
			}
			if least == int64(x) {
				curves++
			}
		}
		value := must[int64](t)(impl.ValueAtSign(p, 1))
		if (curves == 1) != (value == 1 || value == -1) || curves > 1 && value != 0 {
			t.Errorf("AlexanderOf(%v) has the value %d for t = 1", b, value)
		}
	}
	if kinds[1] < 100 || kinds[-1] < 100 {
		t.Errorf("kinds %v", kinds)
	}
}

func TestClosuresWithinTheLimits(t *testing.T) {
	// 3461452808002 is the number of Lucas at 60, of which that for 3 strands and 60 letters is 2 less.
	for _, c := range []struct {
		b            impl.Braid
		code, number int64
	}{
		{beginningOf(3, 60, 1, -2), impl.ErrNone, 3461452808000}, {beginningOf(4, 60, 1, -2, 3), impl.ErrNone, 2747583822720},
		{beginningOf(5, 58, 1, 3, -2, -4), impl.ErrNone, 10455306807616}, {beginningOf(5, 59, 1, 3, -2, -4), impl.ErrLimit, 24490829815936},
		{beginningOf(6, 57, 1, -2, 3, -4, 5), impl.ErrNone, 12044173678464}, {beginningOf(6, 58, 1, -2, 3, -4, 5), impl.ErrLimit, 20491423580160},
		{beginningOf(8, 55, 1, -2, 3, -4, 5, -6, 7), impl.ErrNone, 10212949884928}, {beginningOf(8, 56, 1, -2, 3, -4, 5, -6, 7), impl.ErrLimit, 16435095011328},
		{beginningOf(8, 60, 1, -2, 3, -4, 5, -6, 7), impl.ErrLimit, 143945353118592}, {beginningOf(7, 60, 1, 3, 5, -2, -4, -6), impl.ErrLimit, 113079467657689},
	} {
		if code := checkClosure(t, c.b); code != c.code {
			t.Errorf("AlexanderOf(%v): code %d, want %d", c.b, code, c.code)
		}
		number, code := impl.DeterminantOf(c.b)
		checkNumber(t, "DeterminantOf", number, code, c.number)
	}
}

func TestLettersOfClosures(t *testing.T) {
	source := rand.New(rand.NewSource(27))
	for n := int64(2); n <= 8; n++ {
		list := []impl.Braid{longBraid(n, 60), withInverse(t, randomBraid(source, n, 30)), beginningOf(n, 60, 1, -1)}
		for _, b := range list {
			if code := checkClosure(t, b); code != impl.ErrNone {
				t.Errorf("AlexanderOf of 60 letters: code %d", code)
			}
		}
		for _, b := range []impl.Braid{longBraid(n, 61), longBraid(n, 62), longBraid(n, 200), beginningOf(n, 62, 1, -1)} {
			got, code := impl.AlexanderOf(b)
			checkNoLaurent(t, "AlexanderOf of too many letters", got, code, impl.ErrLimit)
			number, code := impl.DeterminantOf(b)
			checkNoNumber(t, "DeterminantOf of too many letters", number, code, impl.ErrLimit)
		}
	}
}

// guardedLaurent returns a polynomial whose coefficients have spare capacity, and a function that
// reports whether neither of them has been written to.
func guardedLaurent(p impl.Laurent) (impl.Laurent, func() bool) {
	all := append(slices.Clone(p.Coefficients), 91, 92, 93, 94)
	before := slices.Clone(all)
	p.Coefficients = all[:len(p.Coefficients)]
	return p, func() bool { return slices.Equal(all, before) }
}

func TestPolynomialsShareNoMemoryWithArguments(t *testing.T) {
	list := []impl.Laurent{laurent(0), laurent(0, 1), laurent(-1, 1), laurent(3, 1, -2), laurent(-2, 5, 0, 0, 7), laurent(-2, -5, 0, 0, -7)}
	for _, x := range list {
		for _, y := range list {
			p, untouchedP := guardedLaurent(x)
			q, untouchedQ := guardedLaurent(y)
			for name, call := range laurentPairFunctions() {
				got := must[impl.Laurent](t)(call(p, q))
				if !untouchedP() || !untouchedQ() {
					t.Fatalf("%s changes an argument", name)
				}
				scribble(got.Coefficients)
				if !untouchedP() || !untouchedQ() {
					t.Fatalf("%s shares memory with an argument", name)
				}
			}
			impl.IsLaurent(p)
			impl.IsPalindrome(p)
			impl.ValueAtSign(q, -1)
			if !untouchedP() || !untouchedQ() {
				t.Fatalf("an argument has been changed")
			}
		}
	}
}

// checkRowsAreApart writes over each list of numbers of a result, one after the other, and looks at
// those behind it.
func checkRowsAreApart(t *testing.T, name string, lists [][]int64) {
	t.Helper()
	var before [][]int64
	for _, list := range lists {
		before = append(before, slices.Clone(list))
	}
	for at, list := range lists {
		if !slices.Equal(list, before[at]) {
			t.Fatalf("%s: parts of a result share memory", name)
		}
		scribble(list)
	}
}

func TestMatricesShareNoMemory(t *testing.T) {
	for _, word := range []impl.Braid{braid(1), braid(2), braid(2, 1), braid(4, 1, -2, 3, 1), braid(8, 7, -1), braid(8)} {
		b, untouched := guarded(word)
		for name, call := range burauFunctions() {
			rows := must[[][]impl.Laurent](t)(call(b))
			var lists [][]int64
			for x := range rows {
				// A row that goes on into the next one would write to it.
				if x+1 < len(rows) {
					next := slices.Clone(rows[x+1])
					_ = append(rows[x], laurent(99, 99))
					if !sameLaurents([][]impl.Laurent{rows[x+1]}, [][]impl.Laurent{next}) {
						t.Fatalf("%s: rows share memory", name)
					}
				}
				for _, p := range rows[x] {
					lists = append(lists, p.Coefficients)
				}
			}
			checkRowsAreApart(t, name, lists)
			// Nothing is kept, either.
			if got, want := must[[][]impl.Laurent](t)(call(b)), must[[][]impl.Laurent](t)(call(word)); !sameLaurents(got, want) {
				t.Errorf("%s(%v) = %v after its first result was written over", name, word, got)
			}
		}
		for _, call := range braidLaurentFunctions() {
			scribble(must[impl.Laurent](t)(call(b)).Coefficients)
		}
		checkRowsAreApart(t, "BurauAtMinusOne", must[[][]int64](t)(impl.BurauAtMinusOne(b)))
		impl.DeterminantOf(b)
		if !untouched() {
			t.Errorf("%v has been changed", word)
		}
		checkMatrices(t, word)
		checkSigned(t, word)
		checkClosure(t, word)
	}
}
