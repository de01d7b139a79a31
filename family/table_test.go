package family_test

import (
	"math/rand"
	"testing"

	"solspace/api"
	"solspace/arena"
	"solspace/count"
	"solspace/family"
)

// table is a family of sets of up to 6 things, as plainly as can be: bit x tells whether it has the set x.
type table uint64

// power is the table of all sets of so many things.
func power(things int) table {
	return ^table(0) >> (64 - 1<<things)
}

// list is its sets, rising.
func (f table) list() []uint {
	var out []uint
	for x := range uint(64) {
		if f>>x&1 == 1 {
			out = append(out, x)
		}
	}
	return out
}

// tableOf is the one that has those sets.
func tableOf(l ...uint) table {
	out := table(0)
	for _, x := range l {
		out |= 1 << x
	}
	return out
}

func (f table) join(g table) table {
	out := table(0)
	for _, x := range f.list() {
		for _, y := range g.list() {
			out |= 1 << (x | y)
		}
	}
	return out
}

func (f table) without(g table) table {
	out := table(0)
	for _, x := range f.list() {
		parts := 0
		for _, y := range g.list() {
			if x&y == y {
				parts++
			}
		}
		if parts == 0 {
			out |= 1 << x
		}
	}
	return out
}

func (f table) least() table {
	out := table(0)
	for _, x := range f.list() {
		parts := 0
		for _, y := range f.list() {
			if x&y == y && x != y {
				parts++
			}
		}
		if parts == 0 {
			out |= 1 << x
		}
	}
	return out
}

// hits tries all sets of so many things.
func (f table) hits(things int) table {
	out := table(0)
	for x := range uint(1) << things {
		missed := 0
		for _, y := range f.list() {
			if x&y == 0 {
				missed++
			}
		}
		if missed == 0 {
			out |= 1 << x
		}
	}
	return out.least()
}

// drawn is a family of sets of so many things, of few or many sets.
func drawn(d *rand.Rand, things int) table {
	out := table(d.Uint64())
	for range d.Intn(5) {
		out &= table(d.Uint64())
	}
	if d.Intn(4) == 0 {
		out = ^out
	}
	return out & power(things)
}

// told is a handle's table, as In tells it.
func told(t *testing.T, s *family.Store, things, h int) table {
	t.Helper()
	out := table(0)
	for x := range uint(1) << things {
		if in(t, s, h, x) {
			out |= 1 << x
		}
	}
	return out
}

// laid is the handle of a table's family: from the last thing on, so that hardly a node besides is made.
func laid(t *testing.T, s *family.Store, things int, f table) int {
	t.Helper()
	var from func(v int, set uint) int
	from = func(v int, set uint) int {
		if v == things {
			return int(f >> set & 1)
		}
		low, high := from(v+1, set), from(v+1, set|1<<v)
		return answer(t)(s.Or(low, answer(t)(s.Join(one(t, s, 1<<v), high))))
	}
	h := from(0, 0)
	if got := told(t, s, things, h); got != f {
		t.Fatalf("made to have %v, but has %v", f.list(), got.list())
	}
	return h
}

// families are the handles of all families of so few things, by their tables.
func families(t *testing.T, s *family.Store, things int) []int {
	t.Helper()
	var out []int
	for f := range power(things) + 1 {
		out = append(out, laid(t, s, things, f))
	}
	return out
}

func made(t *testing.T, things, room int) *family.Store {
	t.Helper()
	s, err := family.New(things, room)
	if err != nil {
		t.Fatalf("New(%d, %d): %v", things, room, err)
	}
	return s
}

// answer is for what must be answered.
func answer(t *testing.T) func(int, error) int {
	t.Helper()
	return func(h int, err error) int {
		t.Helper()
		if err != nil {
			t.Fatal(err)
		}
		return h
	}
}

func one(t *testing.T, s *family.Store, set uint) int {
	t.Helper()
	return answer(t)(s.One(set))
}

// all is the family of some sets.
func all(t *testing.T, s *family.Store, sets ...uint) int {
	t.Helper()
	h := arena.False
	for _, x := range sets {
		h = answer(t)(s.Or(h, one(t, s, x)))
	}
	return h
}

// subsets is the family of all sets of the things of one.
func subsets(t *testing.T, s *family.Store, set uint) int {
	t.Helper()
	h := arena.True
	for v := range api.MaxVars {
		if set>>v&1 == 1 {
			h = answer(t)(s.Join(h, all(t, s, 0, 1<<v)))
		}
	}
	return h
}

func in(t *testing.T, s *family.Store, h int, set uint) bool {
	t.Helper()
	is, err := s.In(h, set)
	if err != nil {
		t.Fatalf("In of %d and %b: %v", h, set, err)
	}
	return is
}

func counts(t *testing.T, s *family.Store, h, want int) {
	t.Helper()
	if n, err := s.Count(h); n.Cmp(count.Of(want)) != 0 || err != nil {
		t.Errorf("Count of %d: %s, %v; want %d", h, n.Text(), err, want)
	}
}

// alone asks what is made of one family; want is a table's handle.
func alone(t *testing.T, s *family.Store, things, h int, f table, want func(table) int) {
	t.Helper()
	if got := answer(t)(s.Least(h)); got != want(f.least()) {
		t.Errorf("least of %v: %v", f.list(), told(t, s, things, got).list())
	}
	got := answer(t)(s.Hits(h))
	if got != want(f.hits(things)) {
		t.Errorf("%v is hit by %v", f.list(), told(t, s, things, got).list())
	}
	if back := answer(t)(s.Hits(got)); back != want(f.least()) {
		t.Errorf("what hits all that hit %v: %v", f.list(), told(t, s, things, back).list())
	}
}

// pair asks what is made of two families; want is a table's handle.
func pair(t *testing.T, s *family.Store, things, a, b int, f, g table, want func(table) int) {
	t.Helper()
	check := func(what string, ask func(a, b int) (int, error), w table) {
		t.Helper()
		if got := answer(t)(ask(a, b)); got != want(w) {
			t.Errorf("%s of %v and %v: %v; want %v", what, f.list(), g.list(), told(t, s, things, got).list(), w.list())
		}
	}
	check("Or", s.Or, f|g)
	check("And", s.And, f&g)
	check("Less", s.Less, f&^g)
	check("Join", s.Join, f.join(g))
	check("Without", s.Without, f.without(g))
}

// tidy looks at all nodes: no High is False, none leads to a thing that is not behind its own, none has one that there is not.
func tidy(t *testing.T, s *family.Store, things int) {
	t.Helper()
	seen := map[arena.Node]int{}
	for h := range api.MaxNodes + 2 {
		n, ok := s.Get(h)
		if !ok {
			continue
		}
		if n.High == arena.False || n.Var >= things || s.Top(n.Low) <= n.Var || s.Top(n.High) <= n.Var || seen[n] != 0 {
			t.Errorf("handle %d: the node %v", h, n)
		}
		seen[n] = h
	}
	if len(seen) != s.Len() {
		t.Errorf("%d nodes, but Len is %d", len(seen), s.Len())
	}
}
