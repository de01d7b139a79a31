package space_test

import (
	"math/rand"
	"slices"
	"testing"

	"solspace/api"
	"solspace/arena"
)

// roomy is a list with room behind its end, full of a mark.
func roomy[T any](l []T, mark T) []T {
	out := append(slices.Clone(l), mark, mark, mark)
	return out[:len(l)]
}

// whole is a list with what stands behind its end.
func whole[T any](l []T) []T { return l[:cap(l)] }

// copied is clauses, with what stands behind the ends.
func copied(l []api.Clause) []api.Clause {
	out := slices.Clone(whole(l))
	for i, c := range out {
		out[i] = slices.Clone(whole(c))
	}
	return out
}

// alike says whether two lists of clauses are the same.
func alike(a, b []api.Clause) bool {
	return slices.EqualFunc(a, b, func(x, y api.Clause) bool { return slices.Equal(x, y) })
}

// P4: Clauses writes neither into clauses nor behind them, nor keeps them.
func TestClausesGiven(t *testing.T) {
	d := rand.New(rand.NewSource(1))
	for range 500 {
		vars := 1 + d.Intn(6)
		l := literals(d, vars, d.Intn(9), 5)
		given := roomy(l, api.Clause{7, 7})
		for i, c := range given {
			given[i] = roomy(c, 777)
		}
		was := copied(given)
		s := diagrams(t, vars, api.MaxNodes)
		h := laid(t, s, given)
		if !alike(copied(given), was) {
			t.Fatalf("%v: written into", l)
		}
		for _, c := range whole(given) {
			clear(whole(c))
		}
		clear(whole(given))
		same(t, s, h, l)
		if again := laid(t, s, l); again != h {
			t.Fatalf("%v: %d, and %d", l, h, again)
		}
	}
}

// P4: one list may stand as several clauses, or as parts of them.
func TestClausesShared(t *testing.T) {
	c := api.Clause{1, -2, 3}
	s := diagrams(t, 3, api.MaxNodes)
	l := []api.Clause{c, c[:1], c[1:], c, c[1:2]}
	same(t, s, laid(t, s, l), l)
	if !slices.Equal(c, api.Clause{1, -2, 3}) {
		t.Errorf("written into: %v", c)
	}
}

// P4: a catalog is as it was, and two spaces of it have nothing in common.
func TestOfGiven(t *testing.T) {
	d := rand.New(rand.NewSource(2))
	for range 200 {
		c := drawn(t, d, 8, 9)
		text, list := c.Text(), c.Items()
		a, b := made(t, c), made(t, c)
		if a == b || a.Space == b.Space || a.Arena == b.Arena {
			t.Fatalf("%q: two spaces are one", text)
		}
		before := nodes(b.Space)
		a.Free()
		laid(t, a.Space, literals(d, max(1, a.Vars()), 5*min(1, a.Vars()), 3))
		a.All = arena.False
		if !slices.Equal(nodes(b.Space), before) || c.Text() != text || !slices.Equal(c.Items(), list) {
			t.Fatalf("%q: written into", text)
		}
		picked(t, d, c)
	}
}

// P4: Cheap writes neither into costs nor behind them, nor keeps them.
func TestCheapGiven(t *testing.T) {
	d := rand.New(rand.NewSource(3))
	for range 300 {
		c := drawn(t, d, 7, 5)
		s, l := made(t, c), installations(c)
		var costs []int
		for range d.Intn(10) {
			costs = append(costs, d.Intn(5))
		}
		given := roomy(costs, 3)
		was := slices.Clone(whole(given))
		chosen(t, c, l, func(x uint) int { return sum(costs, x) })(s.Cheap(given))
		if !slices.Equal(whole(given), was) {
			t.Fatalf("%v: written into", costs)
		}
		for i := range whole(given) {
			whole(given)[i] = -1
		}
		chosen(t, c, l, func(x uint) int { return sum(costs, x) })(s.Cheap(costs))
		chosen(t, c, l, func(x uint) int { return 0 })(s.Cheap(nil))
	}
}

// P4: what Always and Never tell is fresh memory, each time.
func TestListsFresh(t *testing.T) {
	for _, lines := range [][]string{
		{"package a 1.0.0", "package b 1.0.0", "package c 1.0.0", "package d 1.0.0", "root a any", "root c any", "clashes a 1.0.0 b any", "clashes c 1.0.0 d any"},
		{"package a 1.0.0", "package b 1.0.0", "root z any"},
	} {
		c := parsed(t, lines...)
		s := made(t, c)
		before := nodes(s.Space)
		always, _ := s.Always()
		never, _ := s.Never()
		a, n := slices.Clone(always), slices.Clone(never)
		if len(a) != 2 || len(n) != 2 {
			t.Fatalf("%v and %v", a, n)
		}
		again, _ := s.Always()
		clear(whole(always))
		if !slices.Equal(never, n) || !slices.Equal(again, a) {
			t.Errorf("%q: lists share memory", lines)
		}
		clear(whole(never))
		clear(whole(again))
		items(t, c, a)(s.Always())
		items(t, c, n)(s.Never())
		if !slices.Equal(nodes(s.Space), before) {
			t.Errorf("%q: the space is another one", lines)
		}
	}
}

// P4: what is answered hangs on nothing that was asked before.
func TestAgain(t *testing.T) {
	d := rand.New(rand.NewSource(4))
	for range 50 {
		c := drawn(t, d, 8, 6)
		s := made(t, c)
		first, err := s.Least()
		for range 3 {
			s.Near(uint(d.Uint64()))
			s.Cheap([]int{d.Intn(9), d.Intn(9), -d.Intn(2)})
			s.Always()
			if s.Vars() > 0 {
				laid(t, s.Space, literals(d, s.Vars(), 4, 3))
			}
			if again, err2 := s.Least(); again != first || err2 != err {
				t.Fatalf("%q: %b, %v, and then %b, %v", c.Text(), first, err, again, err2)
			}
		}
		s.Free(s.All)
		picked(t, d, c)
	}
}
