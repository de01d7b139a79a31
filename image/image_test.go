package image_test

import (
	"fmt"
	"math/big"
	"math/rand"
	"strings"
	"testing"

	"solspace/api"
	"solspace/bdd"
	"solspace/image"
)

// The heads of the functions stay as they are.
var (
	_ func(*bdd.Space, int) ([]byte, error)      = image.Save
	_ func([]byte, int) (*bdd.Space, int, error) = image.Load
)

// table is a function of up to 6 variables, as plainly as can be: bit x tells whether it is true of the values x.
type table uint64

// rows is the table of what is true of all values of so many variables.
func rows(vars int) table { return ^table(0) >> (64 - 1<<vars) }

// set is what a function of so many variables is, if one of them is false or true.
func (f table) set(vars, v int, is bool) table {
	out := table(0)
	for x := range 1 << vars {
		from := x &^ (1 << v)
		if is {
			from |= 1 << v
		}
		out |= f >> from & 1 << x
	}
	return out
}

// drawn is a function of so many variables: seldom or often true, too.
func drawn(d *rand.Rand, vars int) table {
	out := table(d.Uint64())
	for range d.Intn(4) {
		out &= table(d.Uint64())
	}
	if d.Intn(2) == 0 {
		out = ^out
	}
	return out & rows(vars)
}

func made(t testing.TB, vars, room int) *bdd.Space {
	t.Helper()
	s, err := bdd.New(vars, room)
	if err != nil {
		t.Fatalf("%d variables, room %d: %v", vars, room, err)
	}
	return s
}

// answer is a handle that there must be.
func answer(t testing.TB) func(int, error) int {
	return func(h int, err error) int {
		t.Helper()
		if err != nil {
			t.Fatal(err)
		}
		return h
	}
}

// laid is the handle of a table's function, made of Lit and Ite alone.
func laid(t testing.TB, s *bdd.Space, f table) int {
	t.Helper()
	var from func(v int, values uint) int
	from = func(v int, values uint) int {
		if v == s.Vars() {
			return int(f >> values & 1)
		}
		low, high := from(v+1, values), from(v+1, values|1<<v)
		return answer(t)(s.Ite(answer(t)(s.Lit(v, true)), high, low))
	}
	return from(0, 0)
}

// told is a diagram's table.
func told(t testing.TB, s *bdd.Space, h int) table {
	t.Helper()
	out := table(0)
	for x := range uint(1) << s.Vars() {
		is, err := s.Holds(h, x)
		if err != nil {
			t.Fatal(err)
		}
		if is {
			out |= 1 << x
		}
	}
	return out
}

// saved is the image of a handle that is there.
func saved(t testing.TB, s *bdd.Space, h int) string {
	t.Helper()
	data, err := image.Save(s, h)
	if err != nil {
		t.Fatalf("%d: %v", h, err)
	}
	return string(data)
}

// joined are lines, each with a line feed.
func joined(lines ...string) string {
	out := ""
	for _, x := range lines {
		out += x + "\n"
	}
	return out
}

// summed are lines, each with a line feed, and the line of their sum: that of a number whose digits, to the base 41, are 19 and the bytes.
func summed(lines ...string) string {
	text := joined(lines...)
	n, base := big.NewInt(19), big.NewInt(41)
	for i := range len(text) {
		n.Mul(n, base)
		n.Add(n, big.NewInt(int64(text[i])))
	}
	return text + fmt.Sprintf("sum %d\n", n.Mod(n, big.NewInt(9973)))
}

// written is a function's image by the document's words, without any diagram: a node is a function that hangs on a variable.
func written(vars int, f table) string {
	numbers := map[table]int{0: 0, rows(vars): 1}
	var nodes []string
	var walk func(f table) int
	walk = func(f table) int {
		if n, ok := numbers[f]; ok {
			return n
		}
		v := 0
		for f.set(vars, v, false) == f.set(vars, v, true) {
			v++
		}
		low := walk(f.set(vars, v, false))
		high := walk(f.set(vars, v, true))
		nodes = append(nodes, fmt.Sprint(v, low, high))
		numbers[f] = len(nodes) + 1
		return numbers[f]
	}
	top := walk(f)
	return summed(append([]string{fmt.Sprint("space ", vars, len(nodes), top)}, nodes...)...)
}

// nodesOf is how many nodes an image tells.
func nodesOf(text string) int { return strings.Count(text, "\n") - 2 }

// loaded is what comes back of an image that may be read.
func loaded(t testing.TB, text string, room int) (*bdd.Space, int) {
	t.Helper()
	s, h, err := image.Load([]byte(text), room)
	if err != nil || s == nil {
		t.Fatalf("%q, room %d: %v, %v", text, room, s, err)
	}
	return s, h
}

// refused: an image is not read, with just that error.
func refused(t testing.TB, text string, room int, want api.Errno) {
	t.Helper()
	s, h, err := image.Load([]byte(text), room)
	if s != nil || h != 0 || err != error(want) {
		t.Errorf("%.300q, room %d: %v, %d, %#v; want %d", text, room, s, h, err, want)
	}
}

// README's example.
func TestReadme(t *testing.T) {
	s := made(t, 3, 1000)
	h := answer(t)(s.Ite(answer(t)(s.Lit(0, true)), answer(t)(s.Lit(1, true)), answer(t)(s.Lit(2, true))))
	text := saved(t, s, h)
	if want := "space 3 3 4\n2 0 1\n1 0 1\n0 2 3\nsum 636\n"; text != want {
		t.Errorf("%q; want %q", text, want)
	}
	again, k := loaded(t, text, 3)
	if again.Len() != 3 || told(t, again, k) != told(t, s, h) {
		t.Errorf("%d nodes, true of %b", again.Len(), told(t, again, k))
	}
	refused(t, text, 2, api.ErrFull)
}
