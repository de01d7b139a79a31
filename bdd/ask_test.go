package bdd_test

import (
	"math"
	"math/rand"
	"slices"
	"testing"

	"solspace/api"
	"solspace/arena"
	"solspace/bdd"
	"solspace/count"
)

// Promise 3.1: bits of values that belong to no variable.
func TestStrayBits(t *testing.T) {
	d := rand.New(rand.NewSource(11))
	for i := range 70 {
		s := made(t, i%7, api.MaxNodes)
		f := drawn(d, s.Vars())
		h := laid(t, s, f)
		for x := range uint(1) << s.Vars() {
			for _, stray := range []uint{1, 2, 1 << 20, 1 << 40, math.MaxUint, uint(d.Uint64())} {
				if got := holds(t, s, h, x|stray<<s.Vars()); got != (f>>x&1 == 1) {
					t.Fatalf("%x, %d variables: %v of %b", f, s.Vars(), got, x|stray<<s.Vars())
				}
			}
		}
	}
}

// Promise 3.3: Needs, Size, Count against tables.
func TestNeedsSizeCount(t *testing.T) {
	d := rand.New(rand.NewSource(13))
	for i := range 210 {
		s := made(t, i%7, api.MaxNodes)
		f := drawn(d, s.Vars())
		for v := range s.Vars() {
			if d.Intn(3) == 0 { // so that a variable makes no difference
				f = f.set(s.Vars(), v, d.Intn(2) == 0)
			}
		}
		h := laid(t, s, f)
		var needs []int
		many := 0
		for v := range s.Vars() {
			if f.set(s.Vars(), v, false) != f.set(s.Vars(), v, true) {
				needs = append(needs, v)
			}
		}
		for x := range 1 << s.Vars() {
			many += int(f >> x & 1)
		}
		needed(t, s, h, needs)
		counts(t, s, h, many)
		sizes(t, s, h, f.nodes(s.Vars()))
		if free := s.Free(h); s.Len() != len(s.Reach(h)) {
			t.Errorf("behind Free of %d nodes: %d, and it leads to %d", free, s.Len(), len(s.Reach(h)))
		}
	}
}

// Promise 3.3: Needs, Size, Count over all variables, where few or none of them make a difference.
func TestEndsAndLiterals(t *testing.T) {
	for vars := range api.MaxVars + 1 {
		s := made(t, vars, api.MaxNodes)
		for _, h := range []int{arena.False, arena.True} {
			needed(t, s, h, nil)
			sizes(t, s, h, 0)
			counts(t, s, h, h<<vars)
		}
		for v := range vars {
			for _, is := range []bool{false, true} {
				h := lit(t, s, v, is)
				needed(t, s, h, []int{v})
				sizes(t, s, h, 1)
				counts(t, s, h, 1<<(vars-1))
			}
		}
		if vars < 3 {
			continue
		}
		h := answer(t)(s.Or(lit(t, s, 0, true), lit(t, s, vars-1, false)))
		needed(t, s, h, []int{0, vars - 1})
		sizes(t, s, h, 2)
		counts(t, s, h, 3<<(vars-2))
	}
}

// P4: Needs is the caller's.
func TestNeedsIsFresh(t *testing.T) {
	s := made(t, 6, 20)
	h := answer(t)(s.And(lit(t, s, 2, true), lit(t, s, 5, false)))
	l, _ := s.Needs(h)
	clear(l[:cap(l)])
	needed(t, s, h, []int{2, 5})
	if !holds(t, s, h, 1<<2) {
		t.Error("what was answered is kept")
	}
}

// Promise 3.3: a space with no variable.
func TestNoVariable(t *testing.T) {
	s := made(t, 0, 0)
	for h, is := range []bool{false, true} {
		for _, values := range []uint{0, 1, math.MaxUint} {
			if holds(t, s, h, values) != is {
				t.Errorf("handle %d is %v of %d", h, !is, values)
			}
		}
		counts(t, s, h, h)
		if not := answer(t)(s.Not(h)); not != 1-h {
			t.Errorf("not %d is %d", h, not)
		}
	}
	kth(t, s, arena.True, 0, 0)
	noKth(t, s, arena.True, count.Of(1))
	noKth(t, s, arena.False, count.Of(0))
	if n := s.Free(arena.True, 2, -1); n != 0 {
		t.Errorf("Free: %d", n)
	}
}

// Promise 3.3: Kth of every k below Count, in its order, and none from Count on.
func TestKth(t *testing.T) {
	d := rand.New(rand.NewSource(17))
	for i := range 140 {
		s := made(t, i%7, api.MaxNodes)
		f := drawn(d, s.Vars())
		h := laid(t, s, f)
		var l []uint
		for x := range uint(1) << s.Vars() {
			if f>>x&1 == 1 {
				l = append(l, x)
			}
		}
		slices.SortFunc(l, func(x, y uint) int {
			if least := (x ^ y) & -(x ^ y); x&least < y&least {
				return -1
			}
			return 1
		})
		for k, x := range l {
			kth(t, s, h, k, x)
		}
		for k := range 3 {
			noKth(t, s, h, count.Of(len(l)+k))
		}
		for _, k := range []count.Nat{count.Of(math.MaxInt), count.Of(1).Double(64), count.Of(1).Double(1000)} {
			noKth(t, s, h, k)
		}
	}
	s := made(t, 2, 0)
	for k, x := range []uint{0, 2, 1, 3} {
		kth(t, s, arena.True, k, x)
	}
	noKth(t, s, arena.True, count.Of(4))
	noKth(t, s, arena.False, count.Nat{})
}

// Promises 3.1, 3.2: handles that are missing, in all that are told some; variables that there are not, ahead of them.
func TestRefused(t *testing.T) {
	s := made(t, 3, 4)
	x, y := lit(t, s, 0, true), lit(t, s, 1, true)
	both := answer(t)(s.And(x, y))
	gone := lit(t, s, 2, false)
	s.Free(x, y, both)
	for _, bad := range []int{gone, -1, -2, math.MinInt, math.MaxInt, 1 << 32, 1<<32 + x, api.MaxNodes + 1, api.MaxNodes + 2} {
		missing(t, s, bad, x)
		missing(t, s, bad, arena.False)
		missing(t, s, bad, arena.True)
		missing(t, s, bad, bad)
		for _, v := range []int{-1, math.MinInt, math.MaxInt, 3, 4, api.MaxVars} {
			noVariable(t, s, bad, v)
		}
	}
	for _, v := range []int{-1, math.MinInt, math.MaxInt, 3, 4, api.MaxVars} {
		noVariable(t, s, both, v)
		noVariable(t, s, arena.True, v)
	}
	// With no room left each of these might be ErrFull, too.
	full := made(t, 3, 2)
	x, y = lit(t, full, 0, true), lit(t, full, 1, true)
	if h, err := full.And(x, y); h != 0 || err != error(api.ErrFull) {
		t.Errorf("And beyond the room: %d, %v; want ErrFull", h, err)
	}
	missing(t, full, 9, x)
	missing(t, full, -1, y)
	if h, err := full.All(x, y, 9); h != 0 || err != error(api.ErrMissing) {
		t.Errorf("All of one that is missing: %d, %v", h, err)
	}
	noVariable(t, full, x, 3)
}

// missing asks everything of a handle that is not there, by itself and beside another one.
func missing(t *testing.T, s *bdd.Space, bad, h int) {
	t.Helper()
	before := s.Len()
	l := map[string]func() (int, error){
		"Not":       func() (int, error) { return s.Not(bad) },
		"And first": func() (int, error) { return s.And(bad, h) },
		"And":       func() (int, error) { return s.And(h, bad) },
		"Or first":  func() (int, error) { return s.Or(bad, h) },
		"Or":        func() (int, error) { return s.Or(h, bad) },
		"Xor first": func() (int, error) { return s.Xor(bad, h) },
		"Xor":       func() (int, error) { return s.Xor(h, bad) },
		"Ite first": func() (int, error) { return s.Ite(bad, h, h) },
		"Ite then":  func() (int, error) { return s.Ite(h, bad, h) },
		"Ite else":  func() (int, error) { return s.Ite(h, h, bad) },
		"All alone": func() (int, error) { return s.All(bad) },
		"All first": func() (int, error) { return s.All(bad, h) },
		"All":       func() (int, error) { return s.All(h, arena.False, bad) },
		"Set":       func() (int, error) { return s.Set(bad, 0, true) },
		"Set last":  func() (int, error) { return s.Set(bad, s.Vars()-1, false) },
		"Some":      func() (int, error) { return s.Some(bad, 0) },
		"Each":      func() (int, error) { return s.Each(bad, 0) },
		"Size":      func() (int, error) { return s.Size(bad) },
	}
	for what, ask := range l {
		if got, err := ask(); got != 0 || err != error(api.ErrMissing) {
			t.Errorf("%s of %d and %d: %d, %v; want ErrMissing", what, bad, h, got, err)
		}
	}
	if is, err := s.Holds(bad, 0); is || err != error(api.ErrMissing) {
		t.Errorf("Holds of %d: %v, %v", bad, is, err)
	}
	if l, err := s.Needs(bad); len(l) != 0 || err != error(api.ErrMissing) {
		t.Errorf("Needs of %d: %v, %v", bad, l, err)
	}
	if n, err := s.Count(bad); !n.Zero() || err != error(api.ErrMissing) {
		t.Errorf("Count of %d: %v, %v", bad, n.Text(), err)
	}
	for _, k := range []count.Nat{count.Of(0), count.Of(1).Double(100)} {
		if x, err := s.Kth(bad, k); x != 0 || err != error(api.ErrMissing) {
			t.Errorf("Kth of %d: %v, %v", bad, x, err)
		}
	}
	if s.Len() != before {
		t.Errorf("what was refused made nodes: %d instead of %d", s.Len(), before)
	}
}

// noVariable asks of a variable that there is not.
func noVariable(t *testing.T, s *bdd.Space, h, v int) {
	t.Helper()
	before := s.Len()
	l := map[string]func() (int, error){
		"Set true":  func() (int, error) { return s.Set(h, v, true) },
		"Set false": func() (int, error) { return s.Set(h, v, false) },
		"Some":      func() (int, error) { return s.Some(h, v) },
		"Each":      func() (int, error) { return s.Each(h, v) },
	}
	for what, ask := range l {
		if got, err := ask(); got != 0 || err != error(api.ErrRange) {
			t.Errorf("%s of %d by %d: %d, %v; want ErrRange", what, h, v, got, err)
		}
	}
	if s.Len() != before {
		t.Errorf("what was refused made nodes: %d instead of %d", s.Len(), before)
	}
}
