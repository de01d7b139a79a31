package family_test

import (
	"math"
	"math/rand"
	"slices"
	"testing"

	"solspace/api"
	"solspace/arena"
	"solspace/count"
	"solspace/family"
)

// The heads of the chapter: another one does not build.
var (
	_ func(_, _ int) (*family.Store, error)           = family.New
	_ func(*family.Store, uint) (int, error)          = (*family.Store).One
	_ func(_ *family.Store, _, _ int) (int, error)    = (*family.Store).Or
	_ func(_ *family.Store, _, _ int) (int, error)    = (*family.Store).And
	_ func(_ *family.Store, _, _ int) (int, error)    = (*family.Store).Less
	_ func(_ *family.Store, _, _ int) (int, error)    = (*family.Store).Join
	_ func(_ *family.Store, _, _ int) (int, error)    = (*family.Store).Without
	_ func(*family.Store, int) (int, error)           = (*family.Store).Least
	_ func(*family.Store, int) (int, error)           = (*family.Store).Hits
	_ func(*family.Store, int, uint) (bool, error)    = (*family.Store).In
	_ func(*family.Store, int) (count.Nat, error)     = (*family.Store).Count
	_ func(_ *family.Store, _, _ int) ([]uint, error) = (*family.Store).List
	_ func(*family.Store, ...int) int                 = (*family.Store).Free
	_ *arena.Arena                                    = family.Store{}.Arena
)

// Promise 4.1: New.
func TestNew(t *testing.T) {
	bad := []int{-1, math.MinInt, math.MaxInt}
	refused := func(things, room int) {
		if s, err := family.New(things, room); s != nil || err != error(api.ErrRange) {
			t.Errorf("New(%d, %d): %v, %v; want ErrRange", things, room, s, err)
		}
	}
	for _, things := range append(bad, api.MaxVars+1) {
		for _, room := range append(bad, 0, 5, api.MaxNodes, api.MaxNodes+1) {
			refused(things, room)
		}
	}
	for _, things := range []int{0, 1, 6, api.MaxVars} {
		for _, room := range append(bad, api.MaxNodes+1) {
			refused(things, room)
		}
		for _, room := range []int{0, 1, 100, api.MaxNodes} {
			if s := made(t, things, room); s.Len() != 0 {
				t.Errorf("New(%d, %d): %d nodes", things, room, s.Len())
			}
		}
	}
}

// Promises 4.1, 4.2: One; the nodes that the chapter tells of.
func TestOne(t *testing.T) {
	for things := range api.MaxVars + 1 {
		s := made(t, things, api.MaxNodes)
		whole := uint(1)<<things - 1
		for _, set := range []uint{whole + 1, whole<<1 + 1, 1 << 40, 1 << 63, math.MaxUint} {
			if h, err := s.One(set); h != 0 || err != error(api.ErrRange) || s.Len() != 0 {
				t.Errorf("%d things: One(%b): %d, %v, %d nodes; want ErrRange", things, set, h, err, s.Len())
			}
		}
		if h := one(t, s, 0); h != arena.True || s.Len() != 0 {
			t.Errorf("%d things: the empty set alone is %d", things, h)
		}
		for v := range things {
			h := one(t, s, 1<<v)
			if n, _ := s.Get(h); n != (arena.Node{Var: v, Low: arena.False, High: arena.True}) || one(t, s, 1<<v) != h {
				t.Errorf("thing %d alone: %v", v, n)
			}
		}
		s.Free()
		h := one(t, s, whole)
		if s.Len() != things || len(s.Reach(h)) != things || one(t, s, whole) != h {
			t.Errorf("all %d things: %d nodes", things, s.Len())
		}
		if l, err := s.List(h, 1); !slices.Equal(l, []uint{whole}) || err != nil {
			t.Errorf("all %d things: %b, %v", things, l, err)
		}
	}
}

// The example of the document, and a few more that are seen by eye.
func TestExamples(t *testing.T) {
	s := made(t, 3, 100)
	if got := answer(t)(s.Hits(all(t, s, 5, 2))); got != all(t, s, 3, 6) {
		t.Errorf("5 and 2 are hit by %v", told(t, s, 3, got).list())
	}
	if got := answer(t)(s.Join(all(t, s, 1, 2), all(t, s, 2, 4))); got != all(t, s, 2, 3, 5, 6) {
		t.Errorf("Join: %v", told(t, s, 3, got).list())
	}
	if got := answer(t)(s.Without(all(t, s, 0, 1, 3, 6, 7), all(t, s, 3, 4))); got != all(t, s, 0, 1) {
		t.Errorf("Without: %v", told(t, s, 3, got).list())
	}
	if got := answer(t)(s.Least(all(t, s, 1, 3, 6, 7))); got != all(t, s, 1, 6) {
		t.Errorf("Least: %v", told(t, s, 3, got).list())
	}
	// The sets without a thing lie behind Low, those with it behind High.
	n, _ := s.Get(all(t, s, 1, 2, 7))
	if n.Var != 0 || n.Low != one(t, s, 2) || n.High != all(t, s, 0, 6) {
		t.Errorf("1, 2, 7: %v", n)
	}
}

// Promises 4.1, 4.2: all families of up to three things, and all pairs of them.
func TestAllFamilies(t *testing.T) {
	for things := range 4 {
		s := made(t, things, api.MaxNodes)
		l := families(t, s, things)
		want := func(w table) int { return l[w] }
		for f, a := range l {
			if again := slices.Index(l, a); again != f {
				t.Errorf("%v and %v have one handle", table(f).list(), table(again).list())
			}
			alone(t, s, things, a, table(f), want)
			for g, b := range l {
				pair(t, s, things, a, b, table(f), table(g), want)
			}
		}
		tidy(t, s, things)
	}
}

// Promises 4.1, 4.2: families that are drawn, of up to six things; False and True with each.
func TestDrawnFamilies(t *testing.T) {
	d := rand.New(rand.NewSource(3))
	for i := range 140 {
		things := i % 7
		s := made(t, things, api.MaxNodes)
		l := []table{0, 1, drawn(d, things), drawn(d, things), drawn(d, things) | 1}
		l = append(l, l[2]|l[3], l[2]&^1)
		var h []int
		for _, f := range l {
			h = append(h, laid(t, s, things, f))
		}
		if h[0] != arena.False || h[1] != arena.True {
			t.Errorf("no set, and the empty one alone: %d, %d", h[0], h[1])
		}
		want := func(w table) int { return laid(t, s, things, w) }
		for i, f := range l {
			alone(t, s, things, h[i], f, want)
			for j, g := range l {
				if (h[i] == h[j]) != (f == g) {
					t.Errorf("%v and %v: handles %d and %d", f.list(), g.list(), h[i], h[j])
				}
				pair(t, s, things, h[i], h[j], f, g, want)
				s.Free(h...)
			}
		}
		tidy(t, s, things)
	}
}

// Promise 4.2: what each function makes of False, which has no set, and of True, which has the empty one alone.
func TestEnds(t *testing.T) {
	for _, things := range []int{0, 1, 5, api.MaxVars} {
		s := made(t, things, api.MaxNodes)
		l := []int{arena.False, arena.True, one(t, s, 1<<things-1), subsets(t, s, 1<<things-1)}
		is := func(what string, want, h int, err error) {
			t.Helper()
			if h != want || err != nil {
				t.Errorf("%d things: %s: %d, %v; want %d", things, what, h, err, want)
			}
		}
		for _, h := range l {
			empty := 0
			if in(t, s, h, 0) {
				empty = 1
			}
			ask := func(what string, of func(a, b int) (int, error), a, b, want int) {
				t.Helper()
				got, err := of(a, b)
				is(what, want, got, err)
			}
			ask("Or False", s.Or, h, arena.False, h)
			ask("False Or", s.Or, arena.False, h, h)
			ask("And False", s.And, h, arena.False, arena.False)
			ask("False And", s.And, arena.False, h, arena.False)
			ask("And True", s.And, h, arena.True, empty)
			ask("True And", s.And, arena.True, h, empty)
			ask("Less False", s.Less, h, arena.False, h)
			ask("False Less", s.Less, arena.False, h, arena.False)
			ask("True Less", s.Less, arena.True, h, 1-empty)
			ask("Join False", s.Join, h, arena.False, arena.False)
			ask("False Join", s.Join, arena.False, h, arena.False)
			ask("Join True", s.Join, h, arena.True, h)
			ask("True Join", s.Join, arena.True, h, h)
			ask("Without False", s.Without, h, arena.False, h)
			ask("False Without", s.Without, arena.False, h, arena.False)
			ask("Without True", s.Without, h, arena.True, arena.False)
			ask("True Without", s.Without, arena.True, h, 1-empty)
		}
		for _, h := range l[:2] {
			least, err := s.Least(h)
			is("Least", h, least, err)
			hit, err := s.Hits(h)
			is("Hits", 1-h, hit, err)
			counts(t, s, h, h)
		}
	}
}

// Promises 4.1, 4.2: a store with no thing has two families, and room for no node is enough.
func TestNoThing(t *testing.T) {
	s := made(t, 0, 0)
	for a := range 2 {
		for b := range 2 {
			pair(t, s, 0, a, b, table(a), table(b), func(w table) int { return int(w) })
		}
		alone(t, s, 0, a, table(a), func(w table) int { return int(w) })
		if is := in(t, s, a, 0); is != (a == 1) {
			t.Errorf("%d has the empty set: %v", a, is)
		}
		if is, err := s.In(a, 1); is || err != error(api.ErrRange) {
			t.Errorf("%d has thing 0: %v, %v", a, is, err)
		}
	}
	if h := one(t, s, 0); h != arena.True || s.Free(h) != 0 || s.Len() != 0 {
		t.Errorf("the empty set alone: %d", h)
	}
}

// Promise 4.2: a chain of sets, each a part of the next, and sets of which none is a part of another.
func TestLeastOfChains(t *testing.T) {
	s := made(t, api.MaxVars, api.MaxNodes)
	var chain, apart []uint
	for v := range api.MaxVars {
		chain = append(chain, 1<<(v+1)-1)
		apart = append(apart, 1<<v)
	}
	for i := range chain {
		if got := answer(t)(s.Least(all(t, s, chain[i:]...))); got != one(t, s, chain[i]) {
			t.Errorf("the chain from %d on has more than one least", i)
		}
		s.Free()
	}
	h := all(t, s, apart...)
	if got := answer(t)(s.Least(h)); got != h {
		t.Error("of sets of one thing each, not all are least")
	}
	both := answer(t)(s.Or(h, all(t, s, chain...)))
	if got := answer(t)(s.Least(both)); got != h {
		t.Error("a set of a chain is least beside those of one thing")
	}
	if got := answer(t)(s.Least(answer(t)(s.Or(both, arena.True)))); got != arena.True {
		t.Error("where the empty set is, another one is least")
	}
	if got := answer(t)(s.Hits(h)); got != one(t, s, 1<<api.MaxVars-1) {
		t.Error("sets of one thing each are not hit by all things alone")
	}
}

// Promises 4.1, 4.2: what holds by handles, of as many things as there may be (BOOLE, DE MORGAN, BERGE).
func TestManyThings(t *testing.T) {
	d := rand.New(rand.NewSource(5))
	for range 60 {
		s := made(t, api.MaxVars, api.MaxNodes)
		var l [3]int
		for i := range l {
			var sets []uint
			for range 5 {
				sets = append(sets, uint(d.Uint64()&d.Uint64()&d.Uint64()&(1<<api.MaxVars-1)))
			}
			l[i] = all(t, s, sets...)
			s.Free(l[:]...)
		}
		of := func(ask func(a, b int) (int, error), a, b int) int { return answer(t)(ask(a, b)) }
		a, b, c := l[0], l[1], l[2]
		same := func(what string, x, y int) {
			t.Helper()
			if x != y {
				t.Errorf("%s: %d and %d", what, x, y)
			}
			s.Free(l[:]...)
		}
		same("Or, And", of(s.And, a, of(s.Or, b, c)), of(s.Or, of(s.And, a, b), of(s.And, a, c)))
		same("Less of Or", of(s.Less, a, of(s.Or, b, c)), of(s.And, of(s.Less, a, b), of(s.Less, a, c)))
		same("Less of And", of(s.Less, a, of(s.And, b, c)), of(s.Or, of(s.Less, a, b), of(s.Less, a, c)))
		same("Less of Less", of(s.Less, a, of(s.Less, a, b)), of(s.And, a, b))
		same("Join", of(s.Join, a, b), of(s.Join, b, a))
		same("Join of Or", of(s.Join, a, of(s.Or, b, c)), of(s.Or, of(s.Join, a, b), of(s.Join, a, c)))
		same("Without of Or", of(s.Without, a, of(s.Or, b, c)), of(s.Without, of(s.Without, a, b), c))
		same("Without itself", of(s.Without, a, a), arena.False)
		same("Hits of Hits", answer(t)(s.Hits(answer(t)(s.Hits(a)))), answer(t)(s.Least(a)))
		tidy(t, s, api.MaxVars)
	}
}
