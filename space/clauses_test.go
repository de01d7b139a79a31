package space_test

import (
	"math"
	"math/rand"
	"slices"
	"testing"

	"solspace/api"
	"solspace/arena"
	"solspace/bdd"
	"solspace/clause"
	"solspace/space"
)

// diagrams is an empty space of so many variables.
func diagrams(t testing.TB, vars, room int) *bdd.Space {
	t.Helper()
	s, err := bdd.New(vars, room)
	if err != nil {
		t.Fatalf("New(%d, %d): %v", vars, room, err)
	}
	return s
}

// laid is the diagram of clauses, where there must be room.
func laid(t testing.TB, s *bdd.Space, l []api.Clause) int {
	t.Helper()
	h, err := space.Clauses(s, l)
	if err != nil || !s.Has(h) {
		t.Fatalf("%v: %d, %v", l, h, err)
	}
	return h
}

// literals are clauses that are drawn: so many, of up to so many literals each, which may stand twice, or beside their other sides.
func literals(d *rand.Rand, vars, many, most int) []api.Clause {
	var out []api.Clause
	for range many {
		c := api.Clause{}
		for range d.Intn(most + 1) {
			c = append(c, (1+d.Intn(vars))*(1-2*d.Intn(2)))
		}
		out = append(out, c)
	}
	return out
}

// not are clauses, one of each of some values, that holds of all others: all hold of just what is not among these.
func not(vars int, values ...int) []api.Clause {
	var out []api.Clause
	for _, x := range values {
		var c api.Clause
		for v := range vars {
			c = append(c, (v+1)*(1-2*(x>>v&1)))
		}
		out = append(out, c)
	}
	return out
}

// same: of all values, a diagram is true just where all clauses hold.
func same(t *testing.T, s *bdd.Space, h int, l []api.Clause) {
	t.Helper()
	for x := range uint(1) << s.Vars() {
		if is, err := s.Holds(h, x); err != nil || is != clause.AllHold(l, x) {
			t.Fatalf("%d variables, %v: %v of %b, %v", s.Vars(), l, is, x, err)
		}
	}
}

// refused: clauses are not taken, with that error without a place, and the space is as it was.
func refused(t *testing.T, s *bdd.Space, l []api.Clause, want api.Errno) {
	t.Helper()
	before := nodes(s)
	if h, err := space.Clauses(s, l); h != 0 || err != error(want) {
		t.Errorf("%v: %d, %#v; want %d without a place", l, h, err, want)
	}
	if s != nil && !slices.Equal(nodes(s), before) {
		t.Errorf("%v: the space is another one behind %d", l, want)
	}
}

// nodes is all that a space has, by handle, as far as handles may go.
func nodes(s *bdd.Space) []arena.Node {
	if s == nil {
		return nil
	}
	var out []arena.Node
	for h := range api.MaxNodes + 2 {
		n, _ := s.Get(h)
		out = append(out, n)
	}
	return out
}

// Promise 10.1: Clauses without a space, whatever the clauses are.
func TestClausesNoSpace(t *testing.T) {
	for _, l := range [][]api.Clause{nil, {}, {{}}, {{1}}, {{0}}, {{1, -1}}, {{99}, {}}} {
		refused(t, nil, l, api.ErrMissing)
	}
}

// Promise 10.1: no clause holds always, the empty one never, and one that has a literal and its other side always.
func TestClausesEdges(t *testing.T) {
	for vars := range api.MaxVars + 1 {
		s := diagrams(t, vars, api.MaxNodes)
		for _, x := range []struct {
			l    []api.Clause
			want int
		}{{nil, arena.True}, {[]api.Clause{}, arena.True}, {[]api.Clause{nil}, arena.False}, {[]api.Clause{{}}, arena.False}, {[]api.Clause{{}, {}}, arena.False}} {
			if h := laid(t, s, x.l); h != x.want {
				t.Errorf("%d variables, %v: %d", vars, x.l, h)
			}
		}
		for v := 1; v <= vars; v++ {
			w := 1 + v%vars
			for _, x := range []struct {
				l    []api.Clause
				want int
			}{
				{[]api.Clause{{v, -v}}, arena.True}, {[]api.Clause{{-v, v}, {w, -w}}, arena.True}, {[]api.Clause{{v, w, -v, w}}, arena.True},
				{[]api.Clause{{v}, {-v}}, arena.False}, {[]api.Clause{{v, w}, {-v, w}, {-w}}, arena.False}, {[]api.Clause{{v, -v}, {}}, arena.False},
			} {
				if h := laid(t, s, x.l); h != x.want {
					t.Errorf("%d variables, %v: %d", vars, x.l, h)
				}
			}
			is, _ := s.Lit(v-1, true)
			isn, _ := s.Lit(v-1, false)
			if a, b := laid(t, s, []api.Clause{{v}}), laid(t, s, []api.Clause{{-v, -v}, {-v}}); a != is || b != isn {
				t.Errorf("%d variables, variable %d: %d and %d; want %d and %d", vars, v-1, a, b, is, isn)
			}
		}
	}
	// These need no room.
	s := diagrams(t, 3, 0)
	if a, b := laid(t, s, nil), laid(t, s, []api.Clause{{}}); a != arena.True || b != arena.False {
		t.Errorf("without room: %d and %d", a, b)
	}
}

// Promise 10.1: all lists of up to three clauses of up to two literals over two variables.
func TestClausesSmall(t *testing.T) {
	some := []api.Clause{{}}
	for _, x := range []int{1, -1, 2, -2} {
		some = append(some, api.Clause{x})
		for _, y := range []int{1, -1, 2, -2} {
			some = append(some, api.Clause{x, y})
		}
	}
	s := diagrams(t, 2, 100)
	for _, a := range some {
		same(t, s, laid(t, s, []api.Clause{a}), []api.Clause{a})
		for _, b := range some {
			for _, c := range some {
				same(t, s, laid(t, s, []api.Clause{a, b, c}), []api.Clause{a, b, c})
			}
		}
	}
}

// Promise 10.1: clauses that are drawn, of all values; in another order they are the same diagram.
func TestClausesDrawn(t *testing.T) {
	d := rand.New(rand.NewSource(1))
	for i := range 1500 {
		vars := 1 + i%9
		s := diagrams(t, vars, api.MaxNodes)
		l := literals(d, vars, d.Intn(4*vars), 1+d.Intn(4))
		if i%3 == 0 { // so that all hold of something, more often
			l = slices.DeleteFunc(l, func(c api.Clause) bool { return len(c) < 2 })
		}
		h := laid(t, s, l)
		same(t, s, h, l)
		d.Shuffle(len(l), func(i, j int) { l[i], l[j] = l[j], l[i] })
		for _, c := range l {
			d.Shuffle(len(c), func(i, j int) { c[i], c[j] = c[j], c[i] })
		}
		if again := laid(t, s, l); again != h {
			t.Fatalf("%v: %d, in another order %d", l, h, again)
		}
	}
}

// Promise 10.1: clauses over as many variables as there may be.
func TestClausesMostVariables(t *testing.T) {
	d := rand.New(rand.NewSource(2))
	for range 60 {
		s := diagrams(t, api.MaxVars, api.MaxNodes)
		l := literals(d, api.MaxVars, 12, 3)
		h := laid(t, s, l)
		for range 3000 {
			x := uint(d.Uint64())
			if is, err := s.Holds(h, x); err != nil || is != clause.AllHold(l, x) {
				t.Fatalf("%v: %v of %b, %v", l, is, x, err)
			}
		}
		if a, err := clause.Solve(api.MaxVars, l); err != nil || a.Holds != (h != arena.False) {
			t.Fatalf("%v: %d, and Solve says %v, %v", l, h, a.Holds, err)
		}
	}
}

// Promise 10.1: Lit's ErrRange, of any literal, ahead of all else that may be said; nothing is made then.
func TestClausesRange(t *testing.T) {
	for _, vars := range []int{0, 1, 3, 23, api.MaxVars} {
		for _, bad := range []int{0, vars + 1, -vars - 1, api.MaxVars + 1, -api.MaxVars - 1, 65, -65, 1<<16 + 1, 1<<32 + 1, -1<<32 - 1, math.MaxInt, -math.MaxInt, math.MinInt} {
			for _, room := range []int{0, 1, api.MaxNodes} {
				s := diagrams(t, vars, room)
				for _, l := range [][]api.Clause{{{bad}}, {{}, {bad}}, {nil, nil, {bad, bad}}, {{bad, -bad}}, {{bad}, {}}} {
					refused(t, s, l, api.ErrRange)
				}
				if vars > 0 {
					for _, l := range [][]api.Clause{{{1, bad}}, {{bad, -1}}, {{1, -1, bad}}, {{1}, {-1}, {vars, bad}}, {{vars}, {-1, vars}, {bad}}} {
						refused(t, s, l, api.ErrRange)
					}
				}
			}
		}
		if vars > 0 {
			laid(t, diagrams(t, vars, api.MaxNodes), []api.Clause{{vars, -vars}, {vars}, {1}, {-vars, 1}})
		}
	}
}

// Promise 10.1: neither how many clauses there are nor how long they are makes a difference.
func TestClausesAnyNumber(t *testing.T) {
	d := rand.New(rand.NewSource(3))
	s := diagrams(t, 5, api.MaxNodes)
	long := slices.Repeat(api.Clause{3, 1}, 5000)
	same(t, s, laid(t, s, []api.Clause{long}), []api.Clause{{1, 3}})
	same(t, s, laid(t, s, []api.Clause{append(long, -3)}), nil)
	l := slices.Repeat([]api.Clause{{1, -2}, {2, 5, 4}}, 5*api.MaxClauses)
	same(t, s, laid(t, s, l), l[:2])
	l = slices.DeleteFunc(literals(d, 5, 5*api.MaxClauses, 9), func(c api.Clause) bool { return !clause.Holds(c, 0b10110) })
	h := laid(t, s, l)
	same(t, s, h, l)
	if is, _ := s.Holds(h, 0b10110); !is || len(l) <= api.MaxClauses {
		t.Errorf("%d clauses: %v", len(l), is)
	}
}

// Promise 10.1: ErrFull where there is no room for the diagram; else it, or ErrFull; the space is as it was then.
func TestClausesFull(t *testing.T) {
	d := rand.New(rand.NewSource(4))
	var full, some int
	for range 150 {
		vars := 1 + d.Intn(6)
		l := literals(d, vars, 1+d.Intn(6), 3)
		big := diagrams(t, vars, api.MaxNodes)
		size, _ := big.Size(laid(t, big, l))
		for room := range 40 {
			s := diagrams(t, vars, room)
			h, err := space.Clauses(s, l)
			if err == nil {
				some++
				same(t, s, h, l)
				if room < size {
					t.Fatalf("%v: %d nodes in room for %d", l, size, room)
				}
				continue
			}
			full++
			if h != 0 || err != error(api.ErrFull) || s.Len() != 0 {
				t.Fatalf("%v, room for %d: %d, %#v, %d nodes", l, room, h, err, s.Len())
			}
		}
		if size > 0 {
			refused(t, diagrams(t, vars, size-1), l, api.ErrFull)
		}
	}
	if full < 100 || some < 100 {
		t.Errorf("%d were full, %d not", full, some)
	}
	refused(t, diagrams(t, 1, 0), []api.Clause{{1}}, api.ErrFull)
	refused(t, diagrams(t, 3, 2), []api.Clause{{1}, {2}, {3}}, api.ErrFull)
	refused(t, diagrams(t, 3, 2), []api.Clause{{-3, 2, -1}}, api.ErrFull)
}

// Promise 10.1, P4: all that a space had it has behind Clauses, by the same handles, though nothing leads to it; and no more than the answer's nodes besides.
func TestClausesKeeps(t *testing.T) {
	d := rand.New(rand.NewSource(5))
	for range 200 {
		vars := 1 + d.Intn(7)
		s := diagrams(t, vars, api.MaxNodes)
		var l [][]api.Clause
		var h []int
		for range 6 {
			l = append(l, literals(d, vars, d.Intn(9), 3))
			before := nodes(s)
			made := laid(t, s, l[len(l)-1])
			h = append(h, made)
			for i, n := range before {
				if now, _ := s.Get(i); n != (arena.Node{}) && now != n {
					t.Fatalf("handle %d was %v, and is %v", i, n, now)
				}
			}
			for _, x := range s.Reach(made) {
				before[x], _ = s.Get(x)
			}
			if !slices.Equal(nodes(s), before) {
				t.Fatalf("%v: there are nodes to which nothing leads", l[len(l)-1])
			}
			if d.Intn(2) == 0 {
				s.Xor(h[d.Intn(len(h))], h[d.Intn(len(h))])
			}
			if d.Intn(4) == 0 {
				s.Free(h...)
			}
		}
		for i := range h {
			same(t, s, h[i], l[i])
		}
	}
}

// Promise 10.1: behind a full one, what was there is there still, and what there is room for is made.
func TestClausesBehindFull(t *testing.T) {
	s := diagrams(t, 6, 16)
	first := []api.Clause{{1, 2}, {-3, 4}}
	h := laid(t, s, first)
	refused(t, s, not(6, 3, 17, 22, 40, 61), api.ErrFull)
	same(t, s, h, first)
	if again := laid(t, s, first); again != h {
		t.Errorf("%d, and %d", h, again)
	}
	same(t, s, laid(t, s, []api.Clause{{5, 6}}), []api.Clause{{5, 6}})
}

// Promises 3.1, 10.1: what is made on the way takes no room from what comes behind it.
func TestClausesRoomEnough(t *testing.T) {
	d := rand.New(rand.NewSource(6))
	for range 3 {
		s := diagrams(t, 6, api.MaxNodes)
		for range 40 {
			l := not(6, d.Perm(64)[:20+d.Intn(30)]...)
			same(t, s, laid(t, s, l), l)
		}
		s = diagrams(t, 10, api.MaxNodes)
		l := not(10, d.Perm(1024)[:600]...)
		same(t, s, laid(t, s, l), l)
	}
}
