package bdd_test

import (
	"math"
	"math/rand"
	"slices"
	"testing"

	"solspace/api"
	"solspace/arena"
	"solspace/bdd"
	"solspace/count"
)

// The heads of the chapter: another one does not build.
var (
	_ func(_, _ int) (*bdd.Space, error)                   = bdd.New
	_ func(*bdd.Space) int                                 = (*bdd.Space).Vars
	_ func(*bdd.Space, int, bool) (int, error)             = (*bdd.Space).Lit
	_ func(_ *bdd.Space, _, _, _ int) (int, error)         = (*bdd.Space).Ite
	_ func(*bdd.Space, int) (int, error)                   = (*bdd.Space).Not
	_ func(_ *bdd.Space, _, _ int) (int, error)            = (*bdd.Space).And
	_ func(_ *bdd.Space, _, _ int) (int, error)            = (*bdd.Space).Or
	_ func(_ *bdd.Space, _, _ int) (int, error)            = (*bdd.Space).Xor
	_ func(*bdd.Space, ...int) (int, error)                = (*bdd.Space).All
	_ func(_ *bdd.Space, _, _ int, _ bool) (int, error)    = (*bdd.Space).Set
	_ func(_ *bdd.Space, _, _ int) (int, error)            = (*bdd.Space).Some
	_ func(_ *bdd.Space, _, _ int) (int, error)            = (*bdd.Space).Each
	_ func(*bdd.Space, int, uint) (bool, error)            = (*bdd.Space).Holds
	_ func(*bdd.Space, int) ([]int, error)                 = (*bdd.Space).Needs
	_ func(*bdd.Space, int) (int, error)                   = (*bdd.Space).Size
	_ func(*bdd.Space, int) (count.Nat, error)             = (*bdd.Space).Count
	_ func(_ *bdd.Space, _ int, _ count.Nat) (uint, error) = (*bdd.Space).Kth
	_ func(*bdd.Space, ...int) int                         = (*bdd.Space).Free
	_ *arena.Arena                                         = bdd.Space{}.Arena
)

// Promise 3.1: New.
func TestNew(t *testing.T) {
	bad := []int{-1, math.MinInt, math.MaxInt}
	refused := func(vars, room int) {
		if s, err := bdd.New(vars, room); s != nil || err != error(api.ErrRange) {
			t.Errorf("New(%d, %d): %v, %v; want ErrRange", vars, room, s, err)
		}
	}
	for _, vars := range append(bad, api.MaxVars+1) {
		for _, room := range append(bad, 0, 5, api.MaxNodes, api.MaxNodes+1) {
			refused(vars, room)
		}
	}
	for _, vars := range []int{0, 1, 6, api.MaxVars} {
		for _, room := range append(bad, api.MaxNodes+1) {
			refused(vars, room)
		}
		for _, room := range []int{0, 1, 100, api.MaxNodes} {
			if s := made(t, vars, room); s.Vars() != vars || s.Len() != 0 {
				t.Errorf("New(%d, %d): %d variables, %d nodes", vars, room, s.Vars(), s.Len())
			}
		}
	}
}

// Promise 3.2: Lit, and the example of the document.
func TestLit(t *testing.T) {
	for vars := range api.MaxVars + 1 {
		s := made(t, vars, api.MaxNodes)
		for _, v := range []int{-1, math.MinInt, math.MaxInt, vars, vars + 1, api.MaxVars, api.MaxVars + 1} {
			for _, is := range []bool{false, true} {
				if h, err := s.Lit(v, is); h != 0 || err != error(api.ErrRange) || s.Len() != 0 {
					t.Errorf("%d variables: Lit(%d, %v): %d, %v, %d nodes; want ErrRange", vars, v, is, h, err, s.Len())
				}
			}
		}
		for v := range vars {
			yes, no := lit(t, s, v, true), lit(t, s, v, false)
			if yes == no || lit(t, s, v, true) != yes || lit(t, s, v, false) != no {
				t.Errorf("variable %d, and not it: %d, %d", v, yes, no)
			}
			for _, values := range []uint{0, 1 << v, math.MaxUint, ^(1 << v)} {
				is := values>>v&1 == 1
				if holds(t, s, yes, values) != is || holds(t, s, no, values) == is {
					t.Errorf("variable %d of %b", v, values)
				}
			}
		}
	}
	s := made(t, 2, 10)
	h := lit(t, s, 1, true)
	if k, err := s.Kth(h, count.Of(0)); k != 2 || err != nil || !holds(t, s, h, 2) || holds(t, s, h, 1) {
		t.Errorf("variable 1 of two: the first values are %d, %v", k, err)
	}
}

// Promises 3.1, 3.2: Ite of all functions of up to two variables.
func TestIteOfAllFunctions(t *testing.T) {
	for vars := range 3 {
		s := made(t, vars, api.MaxNodes)
		l := functions(t, s)
		for a, x := range l {
			for b, y := range l {
				for c, z := range l {
					got := answer(t)(s.Ite(x, y, z))
					if want := l[a&b|^a&c]; got != want {
						t.Fatalf("%d variables: Ite of %b, %b, %b: %d; want %d", vars, a, b, c, got, want)
					}
				}
			}
		}
	}
}

// Promises 3.1, 3.2: And, Or, Xor, All of all pairs, all others of all functions of up to three variables.
func TestAllFunctions(t *testing.T) {
	for vars := range 4 {
		s := made(t, vars, api.MaxNodes)
		l := functions(t, s)
		for a, x := range l {
			alone(t, s, x, table(a), func(w table) int { return l[w] })
			for b, y := range l {
				pair(t, s, x, y, table(a), table(b), func(w table) int { return l[w] })
			}
		}
		tidy(t, s)
	}
}

// Promises 3.1, 3.2: functions that are drawn, of up to six variables.
func TestDrawnFunctions(t *testing.T) {
	d := rand.New(rand.NewSource(3))
	for i := range 140 {
		s := made(t, i%7, api.MaxNodes)
		var l [3]table
		var h [3]int
		for i := range l {
			l[i] = drawn(d, s.Vars())
			h[i] = laid(t, s, l[i])
		}
		want := func(w table) int { return laid(t, s, w) }
		for i := range l {
			alone(t, s, h[i], l[i], want)
			pair(t, s, h[i], h[(i+1)%3], l[i], l[(i+1)%3], want)
		}
		if got := answer(t)(s.Ite(h[0], h[1], h[2])); got != want(l[0]&l[1]|^l[0]&l[2]) {
			t.Errorf("Ite of %x, %x, %x is true of %x", l[0], l[1], l[2], told(t, s, got))
		}
		if got := answer(t)(s.All(h[0], h[1], h[2], h[1])); got != want(l[0]&l[1]&l[2]) {
			t.Errorf("All of %x, %x, %x is true of %x", l[0], l[1], l[2], told(t, s, got))
		}
		tidy(t, s)
	}
}

// Promise 3.1 (BRYANT): however they were made, two functions are the same just if their handles are.
func TestOneHandleEach(t *testing.T) {
	d := rand.New(rand.NewSource(5))
	for i := range 100 {
		vars := 1 + i%6
		s := made(t, vars, api.MaxNodes)
		l := []int{arena.False, arena.True}
		for range 30 {
			a, b, c, v := l[d.Intn(len(l))], l[d.Intn(len(l))], l[d.Intn(len(l))], d.Intn(vars)
			h, err := 0, error(nil)
			switch d.Intn(9) {
			case 0:
				h, err = s.Not(a)
			case 1:
				h, err = s.And(a, b)
			case 2:
				h, err = s.Or(a, b)
			case 3:
				h, err = s.Xor(a, b)
			case 4:
				h, err = s.Ite(a, b, c)
			case 5:
				h, err = s.Set(a, v, d.Intn(2) == 0)
			case 6:
				h, err = s.Some(a, v)
			case 7:
				h, err = s.Each(a, v)
			default:
				h, err = s.Lit(v, d.Intn(2) == 0)
			}
			l = append(l, answer(t)(h, err))
			s.Free(l...)
		}
		for _, a := range l {
			for _, b := range l {
				if x, y := told(t, s, a), told(t, s, b); (a == b) != (x == y) {
					t.Fatalf("handles %d and %d are true of %x and %x", a, b, x, y)
				}
			}
		}
		tidy(t, s)
	}
}

// Promise 3.2: All of none, of one, of many; what it is given stays as it is.
func TestAll(t *testing.T) {
	for vars := range 4 {
		s := made(t, vars, api.MaxNodes)
		if h, err := s.All(); h != arena.True || err != nil || s.Len() != 0 {
			t.Errorf("All of none: %d, %v", h, err)
		}
		if h, err := s.All(nil...); h != arena.True || err != nil {
			t.Errorf("All of nil: %d, %v", h, err)
		}
		for _, h := range functions(t, s) {
			if got := answer(t)(s.All(h)); got != h {
				t.Errorf("All of %d alone: %d", h, got)
			}
		}
	}
	s := made(t, 6, api.MaxNodes)
	var l []int
	for v := range 6 {
		l = append(l, lit(t, s, v, v%2 == 0))
	}
	room := append(slices.Clone(l), 77)[:len(l)]
	for n := range len(l) + 1 {
		h := answer(t)(s.All(room[:n]...))
		for values := range uint(64) {
			if want := (values^0b010101)&(1<<n-1) == 0; holds(t, s, h, values) != want {
				t.Errorf("All of %d: %v of %b", n, !want, values)
			}
		}
	}
	if !slices.Equal(room[:len(l)+1], append(l, 77)) {
		t.Errorf("All wrote %v into what it was given", room[:len(l)+1])
	}
	if h := answer(t)(s.All(append(l, lit(t, s, 3, true))...)); h != arena.False {
		t.Errorf("All of a variable and not it: %d", h)
	}
}

// Promises 3.1, 3.2: what is told of a space of as many variables as there may be.
func TestManyVariables(t *testing.T) {
	s := made(t, api.MaxVars, api.MaxNodes)
	odd := arena.False
	var l []int
	for v := range api.MaxVars {
		l = append(l, lit(t, s, v, true))
		odd = answer(t)(s.Xor(odd, l[v]))
	}
	all := answer(t)(s.All(l...))
	d := rand.New(rand.NewSource(7))
	for range 200 {
		values, ones := uint(d.Uint64()), 0
		for v := range api.MaxVars {
			ones += int(values >> v & 1)
		}
		if holds(t, s, odd, values) != (ones%2 == 1) || holds(t, s, all, values) != (ones == api.MaxVars) {
			t.Errorf("of %b: odd %v, all %v", values, holds(t, s, odd, values), holds(t, s, all, values))
		}
	}
	counts(t, s, odd, 1<<23)
	counts(t, s, all, 1)
	sizes(t, s, odd, 47)
	sizes(t, s, all, 24)
	for v := range api.MaxVars {
		if h := answer(t)(s.Each(odd, v)); h != arena.False {
			t.Errorf("odd for both values of %d: %d", v, h)
		}
		if h := answer(t)(s.Some(odd, v)); h != arena.True {
			t.Errorf("odd for one of the values of %d: %d", v, h)
		}
		rest := answer(t)(s.Set(all, v, true))
		counts(t, s, rest, 2)
		if h := answer(t)(s.And(rest, l[v])); h != all {
			t.Errorf("all but %d, and %d: %d; want %d", v, v, h, all)
		}
	}
	kth(t, s, odd, 0, 1<<23)
	kth(t, s, odd, 1<<23-1, 1<<23-1)
	kth(t, s, all, 0, 1<<24-1)
	kth(t, s, arena.True, 1, 1<<23)
	kth(t, s, arena.True, 1<<24-2, 1<<23-1)
	kth(t, s, arena.True, 1<<24-1, 1<<24-1)
}
