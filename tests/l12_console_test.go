package tests

import (
	"fmt"
	"math/rand"
	"slices"
	"strconv"
	"strings"
	"sync"
	"testing"

	"loop.example/g01205/impl"
)

// deskOf returns the desk with two braids that are told by their texts.
func deskOf(t *testing.T, first, second string) impl.Desk {
	t.Helper()
	return impl.Desk{First: must[impl.Braid](t)(impl.ParseBraid(first)), Second: must[impl.Braid](t)(impl.ParseBraid(second))}
}

func newDesk() impl.Desk { return impl.Desk{First: braid(3, 1), Second: braid(3, 2)} }

func sameDesk(a, b impl.Desk) bool { return sameWord(a.First, b.First) && sameWord(a.Second, b.Second) }

func isZeroDesk(d impl.Desk) bool { return sameDesk(d, impl.Desk{}) }

// checkLine checks the output of a line and the desk after it, that nothing has been written to d, and
// that the parts of the desk after it share no memory with d or with each other.
func checkLine(t *testing.T, d impl.Desk, line, output string, after impl.Desk) {
	t.Helper()
	first, untouchedFirst := guarded(d.First)
	second, untouchedSecond := guarded(d.Second)
	next, got := impl.RunLine(impl.Desk{First: first, Second: second}, line)
	if got != output || !sameDesk(next, after) {
		t.Errorf("RunLine(%v, %q) = %v, %q, want %v, %q", d, line, next, got, after, output)
	}
	if impl.IsDesk(d) && !impl.IsDesk(next) {
		t.Errorf("RunLine(%v, %q) leads to %v", d, line, next)
	}
	scribble(next.First.Letters)
	if !slices.Equal(next.Second.Letters, after.Second.Letters) {
		t.Errorf("RunLine(%v, %q) returns braids that share memory", d, line)
	}
	scribble(next.Second.Letters)
	if !untouchedFirst() || !untouchedSecond() {
		t.Errorf("RunLine(%v, %q) changes its argument, or shares memory with it", d, line)
	}
}

func checkWrongLine(t *testing.T, d impl.Desk, line string) {
	t.Helper()
	checkLine(t, d, line, "error", d)
}

// checkConsole checks the outputs of a text and the desk after it.
func checkConsole(t *testing.T, text, outputs string, after impl.Desk) {
	t.Helper()
	if got := impl.Console(text); got != outputs {
		t.Errorf("Console(%q) = %q, want %q", text, got, outputs)
	}
	if d, ok := impl.DeskAfter(text); !ok || !sameDesk(d, after) {
		t.Errorf("DeskAfter(%q) = %v, %v, want %v", text, d, ok, after)
	}
}

// checkRefused checks that a text is beyond the limits.
func checkRefused(t *testing.T, text string) {
	t.Helper()
	if got := impl.Console(text); got != "" {
		t.Errorf("Console of %d bytes = %q", len(text), got)
	}
	if d, ok := impl.DeskAfter(text); ok || !isZeroDesk(d) {
		t.Errorf("DeskAfter of %d bytes = %v, %v", len(text), d, ok)
	}
}

// numbersBehind has the commands of the table but for those with a text, and how many numbers they need.
func numbersBehind() map[string]int {
	return map[string]int{
		"swap": 0, "half": 1, "full": 1, "inverse": 0, "mirror": 0, "reverse": 0, "turn": 0, "product": 0, "shift": 1, "power": 1, "free": 0, "normal": 0, "handles": 0,
		"show": 0, "other": 0, "ends": 0, "sum": 0, "pure": 0, "lengths": 0, "same": 0, "summit": 0, "conjugate": 0, "periodic": 0, "alexander": 0, "determinant": 0,
		"compare": 0, "image": 1, "colours": 1, "trace": 2, "reset": 0,
	}
}

// sortedCommands returns these commands in order.
func sortedCommands() []string {
	var list []string
	for command := range numbersBehind() {
		list = append(list, command)
	}
	slices.Sort(list)
	return list
}

func lineOf(command string, numbers ...int64) string {
	for _, x := range numbers {
		command += fmt.Sprint(" ", x)
	}
	return command
}

// plainOutput writes a result as the outputs of lines are written.
func plainOutput(result any) string {
	switch x := result.(type) {
	case bool:
		return map[bool]string{true: "yes", false: "no"}[x]
	case impl.Braid:
		return strings.TrimSuffix(fmt.Sprintf("%d: %s", x.Strands, plainOutput(x.Letters)), " ")
	case []int64:
		return strings.Trim(fmt.Sprint(x), "[]")
	}
	return fmt.Sprint(result)
}

// plainResult turns the type of a result.
func plainResult[T any](result T, code int64) (any, int64) { return result, code }

// plainNormals returns the normal forms of both braids.
func plainNormals(d impl.Desk) (impl.Normal, impl.Normal) {
	first, _ := impl.NormalOf(d.First)
	second, _ := impl.NormalOf(d.Second)
	return first, second
}

// plainChange returns what a line makes of the first braid, and false if there is no such line.
func plainChange(d impl.Desk, command string, numbers []int64) (result impl.Braid, code int64, found bool) {
	switch command {
	case "half":
		result, code = impl.HalfTurnBraid(numbers[0])
	case "full":
		result, code = impl.FullTurnBraid(numbers[0])
	case "inverse":
		result, code = impl.InverseOf(d.First)
	case "mirror":
		result, code = impl.MirrorOf(d.First)
	case "reverse":
		result, code = impl.ReverseOf(d.First)
	case "turn":
		result, code = impl.TurnBraid(d.First)
	case "product":
		result, code = impl.ProductOf(d.First, d.Second)
	case "shift":
		result, code = impl.ShiftOf(d.First, numbers[0])
	case "power":
		result, code = impl.PowerOf(d.First, numbers[0])
	case "free":
		result, code = impl.FreeForm(d.First)
	case "handles":
		result, code = impl.HandleFree(d.First)
	case "normal":
		a, _ := plainNormals(d)
		result.Strands = d.First.Strands
		result.Letters, code = impl.WordOfNormal(a)
	default:
		return impl.Braid{}, impl.ErrNone, false
	}
	return result, code, true
}

// plainAnswer returns the result that a line tells of one braid, of both, or with numbers.
func plainAnswer(d impl.Desk, command string, numbers []int64) (any, int64) {
	a, b := plainNormals(d)
	switch command {
	case "show":
		return d.First, impl.ErrNone
	case "other":
		return d.Second, impl.ErrNone
	case "ends":
		return plainResult(impl.EndsOf(d.First))
	case "sum":
		return plainResult(impl.SumOf(d.First))
	case "pure":
		return plainResult(impl.IsPure(d.First))
	case "lengths":
		return plainResult(impl.LengthsOf(a))
	case "same":
		return plainResult(impl.SameBraid(d.First, d.Second))
	case "summit":
		return plainResult(impl.SummitLengths(a))
	case "conjugate":
		return plainResult(impl.AreConjugate(a, b))
	case "periodic":
		return plainResult(impl.IsPeriodic(a))
	case "alexander":
		p, code := impl.AlexanderOf(d.First)
		return p.Coefficients, code
	case "determinant":
		return plainResult(impl.DeterminantOf(d.First))
	case "compare":
		return plainResult(impl.CompareBraids(d.First, d.Second))
	case "image":
		images, code := impl.ImagesOf(d.First)
		if code == impl.ErrNone && (numbers[0] < 1 || numbers[0] > int64(len(images))) {
			return nil, impl.ErrNotFound
		} else if code == impl.ErrNone {
			return images[numbers[0]-1], code
		}
		return nil, code
	case "colours":
		return plainResult(impl.CountColourings(d.First, numbers[0]))
	case "trace":
		return plainResult(impl.KrammerTrace(d.First, numbers[0], numbers[1]))
	}
	return nil, impl.ErrNotFound
}

// checkRow checks a line of the table that has no text, and returns the code of what it asks for.
func checkRow(t *testing.T, d impl.Desk, command string, numbers ...int64) int64 {
	t.Helper()
	line := lineOf(command, numbers...)
	if command == "swap" {
		checkLine(t, d, line, plainOutput(d.Second), impl.Desk{First: d.Second, Second: d.First})
		return impl.ErrNone
	}
	if command == "reset" {
		checkLine(t, d, line, "ok", newDesk())
		return impl.ErrNone
	}
	b, code, found := plainChange(d, command, numbers)
	if found && code == impl.ErrNone {
		checkLine(t, d, line, plainOutput(b), impl.Desk{First: b, Second: d.Second})
		return code
	}
	if !found {
		var result any
		result, code = plainAnswer(d, command, numbers)
		if code == impl.ErrNone {
			checkLine(t, d, line, plainOutput(result), d)
			return code
		}
	}
	checkWrongLine(t, d, line)
	return code
}

// numbersFor returns numbers of which some are in the range of a command, and some are not.
func numbersFor(source *rand.Rand, command string) []int64 {
	small := []int64{0, 1, 2, 3, 4, 5, 6, 7, 8, 9, 100, 101, 999999999}
	list := map[string][]int64{
		"colours": {0, 1, 2, 3, 4, 5, 7, 9, 11, 31, 91, 95, 97, 98, 101, 999999999},
		"trace":   {0, 1, 2, 3, 5003, 5004, 10005, 10006, 10007, 10008, 20014, 999999999},
	}[command]
	if list == nil {
		list = small
	}
	var numbers []int64
	for range numbersBehind()[command] {
		numbers = append(numbers, list[source.Intn(len(list))])
	}
	return numbers
}

// someDesks returns desks of all numbers of strands, two thirds of them with equally many in both parts.
func someDesks(seed int64, count int, most int) []impl.Desk {
	source := rand.New(rand.NewSource(seed))
	var list []impl.Desk
	for n := int64(1); n <= 8; n++ {
		for range count {
			other := n
			if source.Intn(3) == 0 {
				other = 1 + source.Int63n(8)
			}
			list = append(list, impl.Desk{First: randomBraid(source, n, source.Intn(most+1)), Second: randomBraid(source, other, source.Intn(most+1))})
		}
		list = append(list, impl.Desk{First: braid(n), Second: braid(n)})
	}
	return list
}

func TestConstantsOfTheConsole(t *testing.T) {
	if impl.MaxConsole != 3000 || impl.MaxLines != 40 {
		t.Errorf("MaxConsole = %d, MaxLines = %d", impl.MaxConsole, impl.MaxLines)
	}
}

func TestNewDesk(t *testing.T) {
	for range 2 {
		d := impl.NewDesk()
		if !sameDesk(d, newDesk()) || !impl.IsDesk(d) {
			t.Fatalf("NewDesk() = %v", d)
		}
		scribble(d.First.Letters)
		if !sameWord(d.Second, braid(3, 2)) {
			t.Fatalf("the braids of the new desk share memory: %v", d)
		}
		scribble(d.Second.Letters)
	}
}

func TestIsDesk(t *testing.T) {
	for _, d := range append(someDesks(120, 6, 200), newDesk(), deskOf(t, "1:", "8: 7 -7"), impl.Desk{First: longBraid(2, 200), Second: longBraid(8, 200)}) {
		first, untouchedFirst := guarded(d.First)
		second, untouchedSecond := guarded(d.Second)
		if !impl.IsDesk(impl.Desk{First: first, Second: second}) {
			t.Errorf("IsDesk(%v) = false", d)
		}
		if !untouchedFirst() || !untouchedSecond() {
			t.Errorf("IsDesk changes %v", d)
		}
	}
}

// Whatever the line is, nothing is done on what is no desk.
func TestWhatIsNoDesk(t *testing.T) {
	lines := []string{"", "show", "other", "reset", "swap", "half 3", "first 3: 1", "second 3: 1", "inverse", "product", "same", "trace 2 3", "fly"}
	for name, bad := range notBraids() {
		for _, d := range []impl.Desk{{First: bad, Second: braid(3, 1)}, {First: braid(3, 1), Second: bad}, {First: bad, Second: bad}} {
			if impl.IsDesk(d) {
				t.Errorf("IsDesk is true with %s", name)
			}
			for _, line := range lines {
				checkLine(t, d, line, "", impl.Desk{})
			}
		}
	}
}

func TestLinesOnTheNewDesk(t *testing.T) {
	for _, c := range []struct{ line, output, first, second string }{
		{"first 4: 1 -3", "4: 1 -3", "4: 1 -3", "3: 2"}, {"first 1:", "1:", "1:", "3: 2"}, {"first 3: 1", "3: 1", "3: 1", "3: 2"},
		{"second 2: -1 1", "2: -1 1", "3: 1", "2: -1 1"}, {"second 8:", "8:", "3: 1", "8:"}, {"swap", "3: 2", "3: 2", "3: 1"},
		{"half 4", "4: 1 2 3 1 2 1", "4: 1 2 3 1 2 1", "3: 2"}, {"half 2", "2: 1", "2: 1", "3: 2"}, {"half 1", "1:", "1:", "3: 2"},
		{"full 3", "3: 1 2 1 1 2 1", "3: 1 2 1 1 2 1", "3: 2"}, {"full 2", "2: 1 1", "2: 1 1", "3: 2"}, {"full 1", "1:", "1:", "3: 2"},
		{"inverse", "3: -1", "3: -1", "3: 2"}, {"mirror", "3: -1", "3: -1", "3: 2"}, {"reverse", "3: 1", "3: 1", "3: 2"}, {"turn", "3: 2", "3: 2", "3: 2"},
		{"product", "3: 1 2", "3: 1 2", "3: 2"}, {"shift 2", "5: 3", "5: 3", "3: 2"}, {"shift 0", "3: 1", "3: 1", "3: 2"}, {"power 3", "3: 1 1 1", "3: 1 1 1", "3: 2"},
		{"power 0", "3:", "3:", "3: 2"}, {"free", "3: 1", "3: 1", "3: 2"}, {"normal", "3: 1", "3: 1", "3: 2"}, {"handles", "3: 1", "3: 1", "3: 2"},
		{"show", "3: 1", "3: 1", "3: 2"}, {"other", "3: 2", "3: 1", "3: 2"}, {"ends", "1 0 2", "3: 1", "3: 2"}, {"sum", "1", "3: 1", "3: 2"}, {"pure", "no", "3: 1", "3: 2"},
		{"lengths", "0 1 1", "3: 1", "3: 2"}, {"same", "no", "3: 1", "3: 2"}, {"summit", "0 1", "3: 1", "3: 2"}, {"conjugate", "yes", "3: 1", "3: 2"},
		{"periodic", "no", "3: 1", "3: 2"}, {"alexander", "", "3: 1", "3: 2"}, {"determinant", "0", "3: 1", "3: 2"}, {"compare", "1", "3: 1", "3: 2"},
		{"image 1", "1 2 -1", "3: 1", "3: 2"}, {"image 2", "1", "3: 1", "3: 2"}, {"image 3", "3", "3: 1", "3: 2"}, {"colours 3", "2", "3: 1", "3: 2"},
		{"trace 2 3", "11", "3: 1", "3: 2"}, {"reset", "ok", "3: 1", "3: 2"},
	} {
		checkLine(t, impl.NewDesk(), c.line, c.output, deskOf(t, c.first, c.second))
		checkConsole(t, c.line, c.output+"\n", deskOf(t, c.first, c.second))
	}
}

// Lines with braids for which different functions have different results.
func TestChangesOnOtherDesks(t *testing.T) {
	for _, c := range []struct{ first, second, line, output, after, afterSecond string }{
		{"2: 1", "4: 3", "first 5: 1 -4 2", "5: 1 -4 2", "5: 1 -4 2", "4: 3"}, {"2: 1", "4: 3", "second 5: 1 -4 2", "5: 1 -4 2", "2: 1", "5: 1 -4 2"},
		{"2: 1", "4: 3 -1", "swap", "4: 3 -1", "4: 3 -1", "2: 1"}, {"1:", "8: 7", "swap", "8: 7", "8: 7", "1:"},
		{"8: 7 7", "2: 1", "half 3", "3: 1 2 1", "3: 1 2 1", "2: 1"}, {"1:", "2: 1", "full 4", "4: 1 2 3 1 2 1 1 2 3 1 2 1", "4: 1 2 3 1 2 1 1 2 3 1 2 1", "2: 1"},
		{"4: 1 -2 3 3", "4: 1", "inverse", "4: -3 -3 2 -1", "4: -3 -3 2 -1", "4: 1"}, {"4: 1 -2 3 3", "4: 1", "mirror", "4: -1 2 -3 -3", "4: -1 2 -3 -3", "4: 1"},
		{"4: 1 -2 3 3", "4: 1", "reverse", "4: 3 3 -2 1", "4: 3 3 -2 1", "4: 1"}, {"5: 1 -2 3 3", "4: 1", "turn", "5: 4 -3 2 2", "5: 4 -3 2 2", "4: 1"},
		{"4: 1 -2", "4: 3 2", "product", "4: 1 -2 3 2", "4: 1 -2 3 2", "4: 3 2"}, {"1:", "1:", "product", "1:", "1:", "1:"}, {"3:", "3: -2", "product", "3: -2", "3: -2", "3: -2"},
		{"3: 1 -2", "4: 3", "shift 5", "8: 6 -7", "8: 6 -7", "4: 3"}, {"1:", "4: 3", "shift 7", "8:", "8:", "4: 3"}, {"8: 7", "4: 3", "shift 0", "8: 7", "8: 7", "4: 3"},
		{"3: 1 -2", "3:", "power 2", "3: 1 -2 1 -2", "3: 1 -2 1 -2", "3:"}, {"3: 1 -2", "3:", "power 1", "3: 1 -2", "3: 1 -2", "3:"}, {"3: 1 -2", "3:", "power 0", "3:", "3:", "3:"},
		{"3: 1 2 -2 -1 2", "3: 1", "free", "3: 2", "3: 2", "3: 1"}, {"3: 1 -1", "3: 1", "free", "3:", "3:", "3: 1"},
		{"3: 1 -2", "3: 1", "normal", "3: -1 -2 -1 2 2 1", "3: -1 -2 -1 2 2 1", "3: 1"}, {"3: 2 1 2", "3: 1", "normal", "3: 1 2 1", "3: 1 2 1", "3: 1"}, {"8: 7 -7", "3: 1", "normal", "8:", "8:", "3: 1"},
		{"3: 1 2 -1", "3: 1", "handles", "3: -2 1 2", "3: -2 1 2", "3: 1"}, {"3: 1 2 1 -2 -1 -2", "3: 1", "handles", "3:", "3:", "3: 1"},
		{"8: 7 -1", "1:", "reset", "ok", "3: 1", "3: 2"}, {"1:", "2:", "reset", "ok", "3: 1", "3: 2"},
	} {
		checkLine(t, deskOf(t, c.first, c.second), c.line, c.output, deskOf(t, c.after, c.afterSecond))
	}
}

func TestAnswersOnOtherDesks(t *testing.T) {
	for _, c := range []struct{ first, second, line, output string }{
		{"1:", "4: 3 -1", "show", "1:"}, {"8: 7 -7 -1", "4: 3 -1", "show", "8: 7 -7 -1"}, {"1:", "4: 3 -1", "other", "4: 3 -1"}, {"3: 1", "5:", "other", "5:"},
		{"3: 1 2", "1:", "ends", "2 0 1"}, {"8:", "1:", "ends", "0 1 2 3 4 5 6 7"}, {"1:", "1:", "ends", "0"},
		{"3: -1 -2 -1", "1:", "sum", "-3"}, {"3: 1 -2", "1:", "sum", "0"}, {"4: 3 3 1 -2", "1:", "sum", "2"}, {"1:", "2: 1", "sum", "0"},
		{"3: 1 -1", "3: 1", "pure", "yes"}, {"3: 1 2 2 1", "3: 1", "pure", "yes"}, {"3: 1 2 1", "3: 1 1", "pure", "no"}, {"1:", "3: 1", "pure", "yes"},
		{"3: 1 -2", "1:", "lengths", "-1 1 2"}, {"3: 1 2 1 1 2 1", "1:", "lengths", "2 2 0"}, {"1:", "2: 1", "lengths", "0 0 0"}, {"2: -1 -1", "1:", "lengths", "-2 -2 0"},
		{"3: 1 2 1", "3: 2 1 2", "same", "yes"}, {"3: 1 2", "3: 2 1", "same", "no"}, {"1:", "1:", "same", "yes"}, {"8: 7 1", "8: 1 7", "same", "yes"},
		{"3: -2 1 2", "8: 7", "summit", "0 1"}, {"3: 1 -2", "8: 7", "summit", "-1 2"}, {"1:", "8: 7", "summit", "0 0"}, {"8: 7 6 -7", "1:", "summit", "0 1"},
		{"3: 1 -2", "3: 2 -1", "conjugate", "yes"}, {"3: 1", "3: -2", "conjugate", "no"}, {"4: 1 3", "4: 1 2", "conjugate", "no"}, {"4: 1 2", "4: 3 2", "conjugate", "yes"}, {"1:", "1:", "conjugate", "yes"},
		{"3: 1 2", "3: 1", "periodic", "yes"}, {"3: 1 2 1", "3: 1", "periodic", "yes"}, {"3: 1 -2", "3: 1 2", "periodic", "no"}, {"1:", "3: 1", "periodic", "yes"}, {"8: 1 2 3 4 5 6 7", "3: 1", "periodic", "yes"},
		{"2: 1 1 1", "1:", "alexander", "1 -1 1"}, {"3: 1 -2 1 -2", "1:", "alexander", "1 -3 1"}, {"1:", "2: 1 1 1", "alexander", "1"}, {"2: 1 1", "1:", "alexander", "1 -1"},
		{"2:", "2: 1", "alexander", ""}, {"8: 7", "2: 1", "alexander", ""},
		{"2: 1 1 1", "1:", "determinant", "3"}, {"3: 1 -2 1 -2", "1:", "determinant", "5"}, {"1:", "2: 1 1 1", "determinant", "1"}, {"2:", "2: 1", "determinant", "0"},
		{"3: 2", "3: 1", "compare", "-1"}, {"3: 1", "3: 2", "compare", "1"}, {"3: 1 2 1", "3: 2 1 2", "compare", "0"}, {"3: 1 2 -1", "3: 1", "compare", "-1"}, {"1:", "1:", "compare", "0"},
		{"2: 1 1 1", "1:", "image 1", "1 2 1 2 -1 -2 -1"}, {"2: 1 1 1", "1:", "image 2", "1 2 1 -2 -1"}, {"2: -1", "1:", "image 2", "-2 1 2"}, {"1:", "2: 1", "image 1", "1"}, {"8: 7", "2: 1", "image 8", "7"},
		{"2: 1 1 1", "1:", "colours 3", "2"}, {"2: 1 1 1", "1:", "colours 5", "1"}, {"3: 1 -2 1 -2", "1:", "colours 5", "2"}, {"8:", "1:", "colours 97", "8"}, {"1:", "2:", "colours 3", "1"},
		{"3: 1 -2", "1:", "trace 2 3", "4175"}, {"2: 1", "1:", "trace 3 2", "18"}, {"2: 1", "1:", "trace 10006 10006", "10006"}, {"8:", "2: 1", "trace 1 1", "28"},
	} {
		checkLine(t, deskOf(t, c.first, c.second), c.line, c.output, deskOf(t, c.first, c.second))
	}
}

func TestRowsOnManyDesks(t *testing.T) {
	source := rand.New(rand.NewSource(121))
	codes := map[string]map[int64]int{}
	for _, command := range sortedCommands() {
		codes[command] = map[int64]int{}
	}
	for _, d := range append(someDesks(122, 20, 12), someDesks(123, 4, 60)...) {
		for _, command := range sortedCommands() {
			for range 1 + 2*numbersBehind()[command] {
				codes[command][checkRow(t, d, command, numbersFor(source, command)...)]++
			}
		}
	}
	for command, found := range codes {
		if found[impl.ErrNone] < 40 {
			t.Errorf("the codes of %s are %v", command, found)
		}
	}
}

func TestTextsOnManyDesks(t *testing.T) {
	desks := someDesks(124, 3, 20)
	for at, b := range randomBraids(200) {
		d := desks[at%len(desks)]
		text := plainOutput(b)
		checkLine(t, d, "first "+text, text, impl.Desk{First: b, Second: d.Second})
		checkLine(t, d, "second "+text, text, impl.Desk{First: d.First, Second: b})
	}
}

func TestWrongTextsOfLines(t *testing.T) {
	texts := []string{
		"", " ", "3", "3 1", "0:", "9:", "-3: 1", "+3:", "03: 1", "3 :", " 3: 1", "3: 1 ", "3:  1", "3:1", "3: ", "3: 1\n", "\n3: 1", "3:\t1", "3: 0", "3: 3", "3: -3", "3: +1", "3: 01", "3: x", "1: 1", "8: 8",
		"TEXT", "first", "3: 1: 2", "3: 1 \xff", "٣: 1", "2:" + strings.Repeat(" 1", 201), "2:" + strings.Repeat(" 1", 200) + " ", "2:" + strings.Repeat(" ", 100000), "3: 9223372036854775808", "18446744073709551619: 1",
	}
	for _, d := range []impl.Desk{newDesk(), deskOf(t, "8: 7 -7", "1:"), {First: longBraid(8, 200), Second: longBraid(2, 200)}} {
		for _, text := range texts {
			for _, command := range []string{"first", "second"} {
				checkWrongLine(t, d, command+" "+text)
			}
		}
		for _, line := range []string{"first", "second", "first3: 1", "first\t3: 1", "first:3: 1", " first 3: 1", "second\n3: 1", " second 3: 1"} {
			checkWrongLine(t, d, line)
		}
	}
}

// goodLines has a line of each command without a text that leads to no error on the new desk.
func goodLines() map[string]string {
	lines := map[string]string{"half": "half 3", "full": "full 3", "shift": "shift 1", "power": "power 2", "image": "image 2", "colours": "colours 3", "trace": "trace 2 3"}
	for command, count := range numbersBehind() {
		if count == 0 {
			lines[command] = command
		}
	}
	return lines
}

// A word that is missing, and one too many, which may be empty.
func TestWordsOfLines(t *testing.T) {
	for _, d := range []impl.Desk{newDesk(), deskOf(t, "3: 2 1", "3: 1 -2")} {
		for command, line := range goodLines() {
			if _, output := impl.RunLine(d, line); output == "error" {
				t.Fatalf("%q is an error", line)
			}
			for _, wrong := range []string{" " + line, "  " + line, line + " ", line + "  ", " " + line + " ", line + " 1", line + " 0", line + " x", line + " " + command, line + "  1", line + " 3: 1", line + "\n", line + "\r", line + "\t", "\t" + line, line + "\x00"} {
				checkWrongLine(t, d, wrong)
			}
			words := strings.Split(line, " ")
			for at := 1; at < len(words); at++ {
				checkWrongLine(t, d, strings.Join(words[:at], " "))
				checkWrongLine(t, d, strings.Join(words[:at], " ")+" ")
				checkWrongLine(t, d, strings.Join(words[:at], " ")+"  "+strings.Join(words[at:], " "))
				checkWrongLine(t, d, strings.Join(words[:at], " ")+"\t"+strings.Join(words[at:], " "))
				checkWrongLine(t, d, strings.Join(words[:at], "")+strings.Join(words[at:], " "))
			}
		}
		for line, good := range map[string]bool{
			"half": false, "half 3": true, "half 3 3": false, "half 3 3 3": false, "trace": false, "trace 2": false, "trace 2 3": true, "trace 2 3 4": false, "trace 2  3": false, "trace  2 3": false, "trace 2 3 ": false, "trace  ": false,
		} {
			if _, output := impl.RunLine(d, line); (output != "error") != good {
				t.Errorf("RunLine of %q: %q", line, output)
			}
		}
	}
}

func TestNumbersOfLines(t *testing.T) {
	wrong := []string{
		"", "x", "N", "three", "-", "+", "+%s", "-%s", "0%s", "00%s", "00000000%s", "000000000%s", "%s.0", "%s.", "%se0", "0x%s", "%sx", "x%s", "%s:", ",%s", "%s,", "_%s", "%s_", "\"%s\"", "%s\n", "\n%s", "%s\t", "\t%s", "%s\x00", "%s\xff",
		"00", "-0", "+0", "٣", "３", "\u00a0%s", "1000000000", "9999999999", "4294967299", "18446744073709551619", "9223372036854775807", "-9223372036854775808", "99999999999999999999999", "340282366920938463463374607431768211459",
	}
	d := deskOf(t, "3: 1 -2", "3: 2")
	for command, line := range goodLines() {
		words := strings.Split(line, " ")
		for at := 1; at < len(words); at++ {
			if _, output := impl.RunLine(d, line); output == "error" {
				t.Fatalf("%q is an error", line)
			}
			for _, form := range wrong {
				bad := slices.Clone(words)
				bad[at] = strings.ReplaceAll(form, "%s", words[at])
				checkWrongLine(t, d, strings.Join(bad, " "))
			}
			// No function is defined for so great a number, though it is one.
			bad := slices.Clone(words)
			bad[at] = "999999999"
			checkWrongLine(t, d, strings.Join(bad, " "))
		}
		if len(words) == 1 {
			checkWrongLine(t, d, command+" 999999999")
		}
	}
	for line, good := range map[string]bool{
		"half 0": false, "full 0": false, "shift 0": true, "power 0": true, "image 0": false, "colours 0": false, "trace 0 3": false, "trace 2 0": false, "trace 0 0": false, "power 10": true, "power 100": true,
		"power 010": false, "power 0100": false, "power 1e1": false, "shift 00": false, "colours 3": true, "colours 97": true, "colours 097": false, "trace 10006 1": true, "trace 1 10006": true, "trace 010006 1": false,
	} {
		if _, output := impl.RunLine(d, line); (output != "error") != good {
			t.Errorf("RunLine of %q: %q", line, output)
		}
	}
}

func TestUnknownCommands(t *testing.T) {
	lines := []string{
		"", " ", "  ", "\n", "\t", "\x00", "\xff", "fly", "Show", "SHOW", "sho", "shows", "show\r", "show\n", "show\nshow", "\ufeffshow", "show;", "show,other", "ok", "error", "yes", "no", "3: 1", "3:", "1", "0", "-1", "A", "B", "N", "TEXT",
		"half3", "half,3", "half\u00a03", "Half 3", "colors 3", "determinants", "compared", "one", "First 3: 1", "third 3: 1", "second3: 1", "NewDesk", "help", "quit", "exit", "nil", "trace2 3", "image1", "show show", "1 show", "3 half",
		strings.Repeat("show ", 100000), strings.Repeat("show", 100000), strings.Repeat(" ", 100000), strings.Repeat("x", 100000),
	}
	for _, d := range []impl.Desk{newDesk(), deskOf(t, "8: 7 -7", "1:"), deskOf(t, "1:", "2:")} {
		for _, line := range lines {
			checkWrongLine(t, d, line)
		}
	}
	known := goodLines()
	known["first"], known["second"] = "first 3: 1", "second 3: 1"
	for command, line := range known {
		for _, other := range []string{command[1:], command[:len(command)-1], command + "x", "x" + command, strings.ToUpper(command)} {
			if known[other] == "" {
				checkWrongLine(t, newDesk(), other+strings.TrimPrefix(line, command))
			}
		}
	}
}

// codeCase is a line on a desk, and the code of the function that it needs there.
type codeCase struct {
	first, second impl.Braid
	line          string
	code          int64
}

// checkCodes checks that lines lead to errors exactly if their functions do.
func checkCodes(t *testing.T, cases []codeCase) {
	t.Helper()
	for _, c := range cases {
		words := strings.Split(c.line, " ")
		var numbers []int64
		for _, word := range words[1:] {
			x, _ := strconv.ParseInt(word, 10, 64)
			numbers = append(numbers, x)
		}
		if code := checkRow(t, impl.Desk{First: c.first, Second: c.second}, words[0], numbers...); code != c.code {
			t.Errorf("the code for %q on a desk of %v and %v is %d, not %d", c.line, c.first, c.second, code, c.code)
		}
	}
}

func TestLimitsOfStrands(t *testing.T) {
	three, four := braid(3, 1, 2), braid(4, 1, 2)
	checkCodes(t, []codeCase{
		{three, four, "half 1", impl.ErrNone}, {three, four, "half 8", impl.ErrNone}, {three, four, "half 0", impl.ErrRange}, {three, four, "half 9", impl.ErrRange},
		{three, four, "full 1", impl.ErrNone}, {three, four, "full 8", impl.ErrNone}, {three, four, "full 0", impl.ErrRange}, {three, four, "full 9", impl.ErrRange},
		{three, four, "shift 5", impl.ErrNone}, {three, four, "shift 6", impl.ErrRange}, {braid(8), four, "shift 0", impl.ErrNone}, {braid(8), four, "shift 1", impl.ErrRange},
		{three, four, "product", impl.ErrRange}, {four, three, "product", impl.ErrRange}, {four, four, "product", impl.ErrNone},
		{three, four, "same", impl.ErrRange}, {four, three, "same", impl.ErrRange}, {four, four, "same", impl.ErrNone}, {braid(8), braid(7), "same", impl.ErrRange},
		{three, four, "compare", impl.ErrRange}, {four, three, "compare", impl.ErrRange}, {four, four, "compare", impl.ErrNone}, {braid(1), braid(2), "compare", impl.ErrRange},
		{three, four, "conjugate", impl.ErrRange}, {four, three, "conjugate", impl.ErrRange}, {four, four, "conjugate", impl.ErrNone}, {braid(5), braid(5), "conjugate", impl.ErrRange}, {braid(8, 7), braid(8, 7), "conjugate", impl.ErrRange},
		{three, four, "image 0", impl.ErrNotFound}, {three, four, "image 1", impl.ErrNone}, {three, four, "image 3", impl.ErrNone}, {three, four, "image 4", impl.ErrNotFound}, {four, three, "image 4", impl.ErrNone}, {braid(1), three, "image 2", impl.ErrNotFound},
		{braid(8, 1), three, "image 8", impl.ErrNone}, {braid(8, 1), three, "image 9", impl.ErrNotFound}, {three, four, "image 999999999", impl.ErrNotFound},
		{braid(1), three, "trace 1 1", impl.ErrRange}, {braid(2), three, "trace 1 1", impl.ErrNone},
	})
}

func TestRangesOfNumbers(t *testing.T) {
	a, b := braid(3, 1), braid(3, 2)
	checkCodes(t, []codeCase{
		{a, b, "power 100", impl.ErrNone}, {a, b, "power 101", impl.ErrRange}, {braid(1), b, "power 100", impl.ErrNone}, {braid(1), b, "power 101", impl.ErrRange}, {a, b, "power 0", impl.ErrNone},
		{a, b, "colours 2", impl.ErrRange}, {a, b, "colours 3", impl.ErrNone}, {a, b, "colours 4", impl.ErrRange}, {a, b, "colours 9", impl.ErrRange}, {a, b, "colours 97", impl.ErrNone}, {a, b, "colours 101", impl.ErrRange}, {a, b, "colours 1", impl.ErrRange}, {a, b, "colours 91", impl.ErrRange},
		{a, b, "trace 1 1", impl.ErrNone}, {a, b, "trace 10006 10006", impl.ErrNone}, {a, b, "trace 10007 1", impl.ErrRange}, {a, b, "trace 1 10007", impl.ErrRange}, {a, b, "trace 0 1", impl.ErrRange}, {a, b, "trace 1 0", impl.ErrRange}, {a, b, "trace 20015 1", impl.ErrRange},
	})
}

func TestLimitsOfLetters(t *testing.T) {
	long := func(count int) impl.Braid { return longBraid(3, count) }
	within, beyond := repeatedWord(3, []int64{-1}, 33, []int64{2}, 35), repeatedWord(3, []int64{-1}, 33, []int64{2}, 36)
	for b, want := range map[*impl.Braid]int64{&within: 200, &beyond: 201} {
		lengths := must[[]int64](t)(impl.LengthsOf(normalOf(t, *b)))
		if sum := must[int64](t)(impl.SumOf(*b)); lengths[0] != -33 || 6*33+sum != want {
			t.Fatalf("the word of the normal form of %v, with the lengths %v, has not %d letters", *b, lengths, want)
		}
	}
	checkCodes(t, []codeCase{
		{long(100), long(100), "product", impl.ErrNone}, {long(100), long(101), "product", impl.ErrLimit}, {long(101), long(100), "product", impl.ErrLimit}, {long(200), braid(3), "product", impl.ErrNone}, {long(200), braid(3, 1), "product", impl.ErrLimit},
		{long(2), long(1), "power 100", impl.ErrNone}, {long(3), long(1), "power 66", impl.ErrNone}, {long(3), long(1), "power 67", impl.ErrLimit}, {long(200), long(1), "power 1", impl.ErrNone}, {long(200), long(1), "power 2", impl.ErrLimit}, {long(101), long(1), "power 2", impl.ErrLimit},
		{within, long(1), "normal", impl.ErrNone}, {beyond, long(1), "normal", impl.ErrLimit}, {long(200), long(1), "normal", impl.ErrNone}, {braid(1), long(1), "normal", impl.ErrNone}, {inverseWord(t, longBraid(8, 8)), long(1), "normal", impl.ErrLimit},
		{long(60), long(1), "alexander", impl.ErrNone}, {long(61), long(1), "alexander", impl.ErrLimit}, {long(60), long(1), "determinant", impl.ErrNone}, {long(61), long(1), "determinant", impl.ErrLimit}, {long(1), long(61), "alexander", impl.ErrNone}, {long(1), long(61), "determinant", impl.ErrNone},
		{long(200), long(200), "same", impl.ErrNone}, {long(200), long(200), "compare", impl.ErrNone}, {long(200), long(200), "conjugate", impl.ErrNone}, {long(200), long(200), "swap", impl.ErrNone}, {long(200), long(200), "handles", impl.ErrNone},
	})
	// Coefficients of the last two are too large, while the determinants are known.
	for _, c := range []struct {
		b           impl.Braid
		determinant string
		code        int64
	}{
		{beginningOf(5, 58, 1, 3, -2, -4), "10455306807616", impl.ErrNone}, {beginningOf(5, 59, 1, 3, -2, -4), "24490829815936", impl.ErrLimit}, {beginningOf(8, 60, 1, -2, 3, -4, 5, -6, 7), "143945353118592", impl.ErrLimit},
	} {
		d := impl.Desk{First: c.b, Second: braid(1)}
		checkLine(t, d, "determinant", c.determinant, d)
		checkCodes(t, []codeCase{{c.b, d.Second, "alexander", c.code}})
	}
}

func TestLimitsOfReductions(t *testing.T) {
	for steps, code := range map[int]int64{3000: impl.ErrNone, 3001: impl.ErrLimit} {
		for _, b := range longReductions(t, steps) {
			none := braid(b.Strands)
			checkCodes(t, []codeCase{{b, none, "handles", code}, {none, b, "compare", code}, {none, b, "handles", impl.ErrNone}})
		}
	}
	checkCodes(t, []codeCase{
		{pattern(7, 125, []int64{3, 1, 3, 4, -2, 6, -1, 2}, 5), braid(1), "handles", impl.ErrNone}, {pattern(7, 126, []int64{3, 1, 3, 4, -2, 6, -1, 2}, 5), braid(1), "handles", impl.ErrLimit},
	})
	ahead, behind := must[impl.Braid](t)(impl.ParseBraid(workAhead)), must[impl.Braid](t)(impl.ParseBraid(workBehind))
	checkCodes(t, []codeCase{{inverseWord(t, ahead), behind, "compare", impl.ErrNone}, {inverseWord(t, ahead), joined(8, behind.Letters, []int64{1}), "compare", impl.ErrLimit}})
}

func TestLimitsOfSummitSets(t *testing.T) {
	for count, code := range map[int]int64{60: impl.ErrNone, 61: impl.ErrLimit} {
		large := repeatedWord(3, []int64{1}, count, []int64{2}, 2)
		checkCodes(t, []codeCase{{large, large, "conjugate", code}, {large, longBraid(3, 1), "conjugate", impl.ErrNone}, {longBraid(3, 61), large, "conjugate", impl.ErrNone}, {large, large, "summit", impl.ErrNone}, {large, large, "periodic", impl.ErrNone}})
	}
	checkCodes(t, []codeCase{
		{repeatedWord(4, []int64{2}, 21, []int64{-1, -3}, 5), repeatedWord(4, []int64{2}, 21, []int64{-3, -1}, 5), "conjugate", impl.ErrNone}, {repeatedWord(4, []int64{2}, 20, []int64{-1, -3}, 7), repeatedWord(4, []int64{2}, 20, []int64{-3, -1}, 7), "conjugate", impl.ErrLimit},
	})
}

func TestLimitsOfImages(t *testing.T) {
	for count, code := range map[int]int64{3999: impl.ErrNone, 4001: impl.ErrLimit} {
		for _, b := range longImages(t, count) {
			for number := range b.Strands {
				checkCodes(t, []codeCase{{b, braid(1), lineOf("image", number+1), code}})
			}
		}
	}
}

// A line with the output error changes nothing, whatever the desk is.
func TestErrorsChangeNothing(t *testing.T) {
	text := "first 3: 1 -2\nsecond 4: 3\nproduct\nsame\ncompare\nconjugate\nhalf 9\nshift 6\npower 101\nimage 4\ncolours 4\ntrace 0 1\nfirst 3: 3\nsecond 0:\nfly\nshow\nother"
	checkConsole(t, text, "3: 1 -2\n4: 3\n"+strings.Repeat("error\n", 13)+"3: 1 -2\n4: 3\n", deskOf(t, "3: 1 -2", "4: 3"))
}

func TestConsole(t *testing.T) {
	for _, c := range []struct{ text, outputs, first, second string }{
		{"", "", "3: 1", "3: 2"}, {"\n", "", "3: 1", "3: 2"}, {"\n\n\n", "", "3: 1", "3: 2"},
		{"product", "3: 1 2\n", "3: 1 2", "3: 2"}, {"product\n", "3: 1 2\n", "3: 1 2", "3: 2"}, {"\nproduct", "3: 1 2\n", "3: 1 2", "3: 2"}, {"product\n\n", "3: 1 2\n", "3: 1 2", "3: 2"},
		{"product\nproduct", "3: 1 2\n3: 1 2 2\n", "3: 1 2 2", "3: 2"}, {"product\nproduct\n", "3: 1 2\n3: 1 2 2\n", "3: 1 2 2", "3: 2"}, {"\n\nproduct\n\n\nproduct\n\n", "3: 1 2\n3: 1 2 2\n", "3: 1 2 2", "3: 2"},
		{" ", "error\n", "3: 1", "3: 2"}, {" \n", "error\n", "3: 1", "3: 2"}, {"\n \n", "error\n", "3: 1", "3: 2"}, {"\r\n", "error\n", "3: 1", "3: 2"}, {"\t", "error\n", "3: 1", "3: 2"}, {"\x00", "error\n", "3: 1", "3: 2"},
		{"show\r\nshow\r\n", "error\nerror\n", "3: 1", "3: 2"}, {"show\rshow", "error\n", "3: 1", "3: 2"}, {"show\u2028show", "error\n", "3: 1", "3: 2"}, {"show\vshow\fshow", "error\n", "3: 1", "3: 2"},
		{"show \nshow\n show", "error\n3: 1\nerror\n", "3: 1", "3: 2"}, {"alexander\nshow", "\n3: 1\n", "3: 1", "3: 2"}, {"alexander\n\nalexander", "\n\n", "3: 1", "3: 2"},
		{"first 2: 1 1 1\nalexander\nswap\nother\nshow", "2: 1 1 1\n1 -1 1\n3: 2\n2: 1 1 1\n3: 2\n", "3: 2", "2: 1 1 1"},
		{"swap\nswap\nswap", "3: 2\n3: 1\n3: 2\n", "3: 2", "3: 1"}, {"half 8\nreset\nproduct\nreset", plainOutput(braid(8, 1, 2, 3, 4, 5, 6, 7, 1, 2, 3, 4, 5, 6, 1, 2, 3, 4, 5, 1, 2, 3, 4, 1, 2, 3, 1, 2, 1)) + "\nok\n3: 1 2\nok\n", "3: 1", "3: 2"},
		{"first 4:\nfirst\nhalf\nproduct\nshift 4\nshift 1", "4:\nerror\nerror\nerror\n8:\nerror\n", "8:", "3: 2"},
		{"inverse\nproduct\nhandles\nlengths\nsum\nimage 1\ncompare", "3: -1\n3: -1 2\n3: -1 2\n-1 1 2\n0\n2 3 -2\n-1\n", "3: -1 2", "3: 2"},
	} {
		checkConsole(t, c.text, c.outputs, deskOf(t, c.first, c.second))
	}
}

func TestBytesWithinTheLimit(t *testing.T) {
	d := newDesk()
	for _, c := range []struct{ text, outputs string }{
		{"show\n" + strings.Repeat("x", 2995), "3: 1\nerror\n"}, {strings.Repeat("x", 2995) + "\nshow", "error\n3: 1\n"}, {strings.Repeat("x", 2994) + "\nshow\n", "error\n3: 1\n"}, {strings.Repeat(" ", 3000), "error\n"}, {strings.Repeat("é", 1500), "error\n"},
		{strings.Repeat("x", 2999) + "\n", "error\n"}, {strings.Repeat("\n", 39) + strings.Repeat("x", 2961), "error\n"},
	} {
		if len(c.text) != impl.MaxConsole {
			t.Fatalf("%d bytes", len(c.text))
		}
		checkConsole(t, c.text, c.outputs, d)
		checkRefused(t, c.text+"\n")
		checkRefused(t, c.text+"x")
		checkRefused(t, "\n"+c.text)
		checkRefused(t, c.text+c.text)
	}
	checkRefused(t, "show\n"+strings.Repeat("x", 2996))
	checkRefused(t, strings.Repeat("é", 1501))
	checkRefused(t, strings.Repeat("x", 1000000))
	// The limit is not one of outputs, or of a line on a desk.
	text := "first 2: 1\npower 100\n" + strings.Repeat("image 1\n", 30)
	if outputs := impl.Console(text); len(outputs) < 10000 || strings.Count(outputs, "\n") != 32 {
		t.Errorf("%d bytes of outputs", len(outputs))
	}
	checkWrongLine(t, d, strings.Repeat("x", 3001))
}

func TestNumberOfLinesWithinTheLimit(t *testing.T) {
	d := newDesk()
	repeat := strings.Repeat
	for _, c := range []struct{ text, outputs string }{
		{repeat("show\n", 40), repeat("3: 1\n", 40)}, {repeat("show\n", 39) + "show", repeat("3: 1\n", 40)}, {repeat("show\n", 39), repeat("3: 1\n", 39)}, {repeat("fly\n", 40), repeat("error\n", 40)},
		{repeat("\n", 40), ""}, {repeat("\n", 39) + "show", "3: 1\n"}, {repeat("\n", 39) + "show\n", "3: 1\n"}, {repeat("show\n\n", 20), repeat("3: 1\n", 20)}, {"show" + repeat("\n", 40), "3: 1\n"}, {repeat("\n", 20) + "show" + repeat("\n", 20), "3: 1\n"},
	} {
		checkConsole(t, c.text, c.outputs, d)
	}
	for _, text := range []string{
		repeat("show\n", 41), repeat("show\n", 40) + "show", repeat("show\n", 40) + "x", repeat("show\n", 40) + " ", repeat("show\n", 40) + "\n", repeat("\n", 41), repeat("\n", 40) + "show", repeat("\n", 40) + "show\n",
		repeat("show\n\n", 20) + "show", repeat("\n\nshow", 20) + "\n", "show" + repeat("\n", 41), repeat("fly\n", 41), repeat("\n", 1000), repeat("\n", 3000),
	} {
		lines := strings.Count(text, "\n")
		if !strings.HasSuffix(text, "\n") {
			lines++
		}
		if lines <= impl.MaxLines || len(text) > impl.MaxConsole {
			t.Fatalf("%q has %d lines and %d bytes", text, lines, len(text))
		}
		checkRefused(t, text)
	}
}

// someLines returns lines of all kinds, some of which are wrong.
func someLines(source *rand.Rand, count int) []string {
	wrong := []string{"", " ", "fly", "show ", "half", "first", "first 3: 3", "second x", "power 1 1", "image 0", "trace 1", "colours 4", "shift 9", "half 03"}
	commands := sortedCommands()
	var lines []string
	for range count {
		switch command := commands[source.Intn(len(commands))]; source.Intn(6) {
		case 0:
			lines = append(lines, wrong[source.Intn(len(wrong))])
		case 1:
			lines = append(lines, []string{"first ", "second "}[source.Intn(2)]+plainOutput(randomBraid(source, 1+source.Int63n(5), source.Intn(6))))
		default:
			lines = append(lines, lineOf(command, numbersFor(source, command)...))
		}
	}
	return lines
}

// Promise 12.
func TestTheConsoleJoinsTheOutputsOfLines(t *testing.T) {
	source := rand.New(rand.NewSource(125))
	wrong, changed := 0, 0
	for range 400 {
		lines := someLines(source, source.Intn(41))
		text := strings.Join(lines, "\n")
		if len(lines) > 0 && (lines[len(lines)-1] == "" || source.Intn(2) == 0) {
			text += "\n"
		}
		d, outputs := newDesk(), ""
		for _, line := range lines {
			if line == "" {
				continue
			}
			next, output := impl.RunLine(d, line)
			if !impl.IsDesk(next) || strings.Contains(output, "\n") {
				t.Fatalf("RunLine(%v, %q) = %v, %q", d, line, next, output)
			}
			if output == "error" {
				wrong++
				if !sameDesk(next, d) {
					t.Errorf("RunLine(%v, %q) = %v, an error", d, line, next)
				}
			} else if !sameDesk(next, d) {
				changed++
			}
			d = next
			outputs += output + "\n"
		}
		checkConsole(t, text, outputs, d)
	}
	if wrong < 1000 || changed < 1000 {
		t.Errorf("%d errors, %d changes", wrong, changed)
	}
}

// A braid that is in both parts is not shared, and neither is one that is put there by a line.
func TestPartsOfDesksShareNoMemory(t *testing.T) {
	all := []int64{1, -2, 2, 1, 91, 92, 93}
	b := impl.Braid{Strands: 3, Letters: all[:4]}
	d := impl.Desk{First: b, Second: b}
	for _, line := range []string{"show", "other", "swap", "fly", "product", "free", "second 3: 1", "first 3: 1", "shift 0", "power 1", "handles", "image 1"} {
		next, _ := impl.RunLine(d, line)
		again, _ := impl.RunLine(d, line)
		scribble(next.First.Letters)
		if slices.Contains(next.Second.Letters, -77) {
			t.Errorf("%q makes parts that share memory: %v", line, next)
		}
		scribble(next.Second.Letters)
		if later, _ := impl.RunLine(d, line); !sameDesk(again, later) {
			t.Errorf("RunLine of %q is %v, and then %v", line, again, later)
		}
		if !slices.Equal(all, []int64{1, -2, 2, 1, 91, 92, 93}) {
			t.Fatalf("%q changes its argument, or shares memory with it", line)
		}
	}
	for _, text := range []string{"", "swap", "product", "fly", "reset"} {
		first, _ := impl.DeskAfter(text)
		want := impl.Desk{First: braid(first.First.Strands, slices.Clone(first.First.Letters)...), Second: braid(first.Second.Strands, slices.Clone(first.Second.Letters)...)}
		scribble(first.First.Letters)
		if !sameWord(first.Second, want.Second) {
			t.Errorf("DeskAfter(%q) has parts that share memory", text)
		}
		scribble(first.Second.Letters)
		if again, ok := impl.DeskAfter(text); !ok || !sameDesk(again, want) {
			t.Errorf("DeskAfter(%q) = %v after its first result was written over", text, again)
		}
	}
}

// TestConsolesAtTheSameTime works on several desks in several goroutines.
func TestConsolesAtTheSameTime(t *testing.T) {
	source := rand.New(rand.NewSource(126))
	var group sync.WaitGroup
	for range 20 {
		text := strings.Join(someLines(source, 30), "\n")
		want := impl.Console(text)
		for range 3 {
			group.Go(func() {
				if got := impl.Console(text); got != want {
					t.Errorf("Console(%q) = %q, and %q", text, got, want)
				}
			})
		}
	}
	group.Wait()
}
