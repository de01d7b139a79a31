package bdd_test

import (
	"math/rand"
	"slices"
	"testing"

	"solspace/api"
	"solspace/arena"
	"solspace/bdd"
	"solspace/count"
)

// table is a function of up to 6 variables, as plainly as can be: bit x tells whether it is true of the values x.
type table uint64

// rows is the table of what is true of all values of so many variables.
func rows(vars int) table {
	return ^table(0) >> (64 - 1<<vars)
}

// column is a variable's table.
func column(v int) table {
	out := table(0)
	for x := range 64 {
		out |= table(x>>v&1) << x
	}
	return out
}

// set is what a function of so many variables is, if one of them is false or true.
func (f table) set(vars, v int, is bool) table {
	out := table(0)
	for x := range 1 << vars {
		from := x &^ (1 << v)
		if is {
			from |= 1 << v
		}
		out |= f >> from & 1 << x
	}
	return out
}

// nodes is how many nodes its diagram has: of each variable so many as there are unlike functions that hang on it, where those ahead of it are told.
func (f table) nodes(vars int) int {
	out := 0
	for v := range vars {
		seen := map[table]int{}
		for ahead := range 1 << v {
			g := f
			for u := range v {
				g = g.set(vars, u, ahead>>u&1 == 1)
			}
			if g.set(vars, v, false) != g.set(vars, v, true) {
				seen[g]++
			}
		}
		out += len(seen)
	}
	return out
}

// drawn is a function of so many variables: seldom or often true, too.
func drawn(d *rand.Rand, vars int) table {
	out := table(d.Uint64())
	for range d.Intn(4) {
		out &= table(d.Uint64())
	}
	if d.Intn(2) == 0 {
		out = ^out
	}
	return out & rows(vars)
}

// told is a diagram's table.
func told(t *testing.T, s *bdd.Space, h int) table {
	t.Helper()
	out := table(0)
	for x := range uint(1) << s.Vars() {
		if holds(t, s, h, x) {
			out |= 1 << x
		}
	}
	return out
}

// laid is the handle of a table's function, made of Lit and Ite alone.
func laid(t *testing.T, s *bdd.Space, f table) int {
	t.Helper()
	var from func(v int, values uint) int
	from = func(v int, values uint) int {
		if v == s.Vars() {
			return int(f >> values & 1)
		}
		low, high := from(v+1, values), from(v+1, values|1<<v)
		if low == high {
			return low
		}
		return answer(t)(s.Ite(lit(t, s, v, true), high, low))
	}
	h := from(0, 0)
	if got := told(t, s, h); got != f {
		t.Fatalf("made to be true of %x, but is of %x", f, got)
	}
	return h
}

// functions are the handles of all functions of so few variables, by their tables.
func functions(t *testing.T, s *bdd.Space) []int {
	t.Helper()
	var out []int
	for f := range rows(s.Vars()) + 1 {
		out = append(out, laid(t, s, f))
	}
	return out
}

func made(t *testing.T, vars, room int) *bdd.Space {
	t.Helper()
	s, err := bdd.New(vars, room)
	if err != nil {
		t.Fatalf("New(%d, %d): %v", vars, room, err)
	}
	return s
}

// answer is for what must be answered.
func answer(t *testing.T) func(int, error) int {
	t.Helper()
	return func(h int, err error) int {
		t.Helper()
		if err != nil {
			t.Fatal(err)
		}
		return h
	}
}

func lit(t *testing.T, s *bdd.Space, v int, is bool) int {
	t.Helper()
	return answer(t)(s.Lit(v, is))
}

func holds(t *testing.T, s *bdd.Space, h int, values uint) bool {
	t.Helper()
	is, err := s.Holds(h, values)
	if err != nil {
		t.Fatalf("Holds of %d: %v", h, err)
	}
	return is
}

func counts(t *testing.T, s *bdd.Space, h, want int) {
	t.Helper()
	if n, err := s.Count(h); n.Cmp(count.Of(want)) != 0 || err != nil {
		t.Errorf("%d variables: Count of %d: %s, %v; want %d", s.Vars(), h, n.Text(), err, want)
	}
}

func sizes(t *testing.T, s *bdd.Space, h, want int) {
	t.Helper()
	if n, err := s.Size(h); n != want || err != nil {
		t.Errorf("%d variables: Size of %d: %d, %v; want %d", s.Vars(), h, n, err, want)
	}
}

func needed(t *testing.T, s *bdd.Space, h int, want []int) {
	t.Helper()
	if l, err := s.Needs(h); !slices.Equal(l, want) || err != nil {
		t.Errorf("%d variables: Needs of %d: %v, %v; want %v", s.Vars(), h, l, err, want)
	}
}

func kth(t *testing.T, s *bdd.Space, h, k int, want uint) {
	t.Helper()
	if x, err := s.Kth(h, count.Of(k)); x != want || err != nil {
		t.Errorf("%d variables: Kth of %d and %d: %b, %v; want %b", s.Vars(), h, k, x, err, want)
	}
}

func noKth(t *testing.T, s *bdd.Space, h int, k count.Nat) {
	t.Helper()
	if x, err := s.Kth(h, k); x != 0 || err != error(api.ErrNone) {
		t.Errorf("%d variables: Kth of %d and %s: %b, %v; want ErrNone", s.Vars(), h, k.Text(), x, err)
	}
}

// alone asks what is made of one function; want is a table's handle.
func alone(t *testing.T, s *bdd.Space, h int, f table, want func(table) int) {
	t.Helper()
	if got := answer(t)(s.Not(h)); got != want(^f&rows(s.Vars())) {
		t.Errorf("not %x is true of %x", f, told(t, s, got))
	}
	for v := range s.Vars() {
		low, high := f.set(s.Vars(), v, false), f.set(s.Vars(), v, true)
		if got := answer(t)(s.Set(h, v, false)); got != want(low) {
			t.Errorf("%x, %d false, is true of %x", f, v, told(t, s, got))
		}
		if got := answer(t)(s.Set(h, v, true)); got != want(high) {
			t.Errorf("%x, %d true, is true of %x", f, v, told(t, s, got))
		}
		if got := answer(t)(s.Some(h, v)); got != want(low|high) {
			t.Errorf("%x, some %d, is true of %x", f, v, told(t, s, got))
		}
		if got := answer(t)(s.Each(h, v)); got != want(low&high) {
			t.Errorf("%x, each %d, is true of %x", f, v, told(t, s, got))
		}
	}
}

// pair asks what is made of two functions; want is a table's handle.
func pair(t *testing.T, s *bdd.Space, a, b int, f, g table, want func(table) int) {
	t.Helper()
	if got := answer(t)(s.And(a, b)); got != want(f&g) {
		t.Errorf("%x and %x is true of %x", f, g, told(t, s, got))
	}
	if got := answer(t)(s.Or(a, b)); got != want(f|g) {
		t.Errorf("%x or %x is true of %x", f, g, told(t, s, got))
	}
	if got := answer(t)(s.Xor(a, b)); got != want(f^g) {
		t.Errorf("%x or %x, not both, is true of %x", f, g, told(t, s, got))
	}
	if got := answer(t)(s.All(a, b)); got != want(f&g) {
		t.Errorf("all of %x and %x is true of %x", f, g, told(t, s, got))
	}
}

// tidy looks at all nodes: none leads to one handle twice, nor to a variable that is not behind its own, nor has one that there is not.
func tidy(t *testing.T, s *bdd.Space) {
	t.Helper()
	seen := map[arena.Node]int{}
	for h := range api.MaxNodes + 2 {
		n, ok := s.Get(h)
		if !ok {
			continue
		}
		if n.Low == n.High || n.Var >= s.Vars() || s.Top(n.Low) <= n.Var || s.Top(n.High) <= n.Var || seen[n] != 0 {
			t.Errorf("handle %d: the node %v", h, n)
		}
		seen[n] = h
	}
	if len(seen) != s.Len() {
		t.Errorf("%d nodes, but Len is %d", len(seen), s.Len())
	}
}
