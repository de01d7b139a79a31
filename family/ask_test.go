package family_test

import (
	"math"
	"math/rand"
	"slices"
	"testing"

	"solspace/api"
	"solspace/arena"
	"solspace/family"
)

// Promise 4.3: In, Count, List against tables; List just at most, and one less.
func TestInCountList(t *testing.T) {
	d := rand.New(rand.NewSource(11))
	for i := range 280 {
		things := i % 7
		s := made(t, things, api.MaxNodes)
		f := drawn(d, things)
		h := laid(t, s, things, f)
		sets := f.list()
		counts(t, s, h, len(sets))
		for _, most := range []int{len(sets), len(sets) + 1, math.MaxInt} {
			if l, err := s.List(h, most); !slices.Equal(l, sets) || err != nil {
				t.Errorf("List of %d, %d at most: %v, %v; want %v", h, most, l, err, sets)
			}
		}
		for _, most := range []int{len(sets) - 1, 0, -1, math.MinInt} {
			if most >= len(sets) {
				continue
			}
			if l, err := s.List(h, most); l != nil || err != error(api.ErrLimit) {
				t.Errorf("List of %d, %d at most, though it has %d: %v, %v; want ErrLimit", h, most, len(sets), l, err)
			}
		}
		for x := range uint(1) << things {
			if got := in(t, s, h, x); got != (f>>x&1 == 1) {
				t.Errorf("%v has %d: %v", sets, x, got)
			}
		}
		for _, x := range []uint{1 << things, 1<<things | 1, 1 << 24, 1 << 63, math.MaxUint} {
			if x>>things == 0 {
				continue
			}
			if is, err := s.In(h, x); is || err != error(api.ErrRange) {
				t.Errorf("%d things: In of %b: %v, %v; want ErrRange", things, x, is, err)
			}
		}
	}
}

// Promise 4.3: List of the ends; no set is more than most, where most is below 0.
func TestListOfEnds(t *testing.T) {
	s := made(t, 2, 0)
	if l, err := s.List(arena.False, 0); len(l) != 0 || err != nil {
		t.Errorf("List of False: %v, %v", l, err)
	}
	if l, err := s.List(arena.True, 1); !slices.Equal(l, []uint{0}) || err != nil {
		t.Errorf("List of True: %v, %v", l, err)
	}
	for h := range 2 {
		if l, err := s.List(h, h-1); l != nil || err != error(api.ErrLimit) {
			t.Errorf("List of %d, %d at most: %v, %v; want ErrLimit", h, h-1, l, err)
		}
	}
}

// Promise 4.3: a set is in a family just if its things beyond all nodes of the way are none.
func TestInBesideTheWay(t *testing.T) {
	s := made(t, api.MaxVars, api.MaxNodes)
	h := all(t, s, 1<<3|1<<10, 1<<5, 0)
	for _, x := range []uint{0, 1 << 5, 1<<3 | 1<<10} {
		if !in(t, s, h, x) {
			t.Errorf("%b is missing", x)
		}
		for v := range api.MaxVars {
			if y := x ^ 1<<v; in(t, s, h, y) != (y == 0 || y == 1<<5) {
				t.Errorf("%b: %v", y, in(t, s, h, y))
			}
		}
	}
}

// Promise 4.3: as many sets as there may be.
func TestAllSets(t *testing.T) {
	s := made(t, api.MaxVars, api.MaxNodes)
	h := subsets(t, s, 1<<api.MaxVars-1)
	counts(t, s, h, 1<<24)
	if l, err := s.List(h, 1<<24-1); l != nil || err != error(api.ErrLimit) {
		t.Errorf("List of all sets but one: %d, %v", len(l), err)
	}
	if n := len(s.Reach(h)); n != api.MaxVars {
		t.Errorf("all sets: %d nodes", n)
	}
	counts(t, s, answer(t)(s.Less(h, arena.True)), 1<<24-1)
	if got := answer(t)(s.Least(answer(t)(s.Less(h, arena.True)))); len(s.Reach(got)) != api.MaxVars {
		t.Error("least of all but the empty set: not those of one thing")
	}
	const few = uint(0xf0ff0f)
	l, err := s.List(subsets(t, s, few), 1<<16)
	if len(l) != 1<<16 || err != nil {
		t.Fatalf("List of %d sets: %v", len(l), err)
	}
	for i, want := 0, uint(0); i < len(l); i++ {
		if l[i] != want {
			t.Fatalf("set %d: %x; want %x", i, l[i], want)
		}
		want = (want - few) & few // the next greater one that has no other things
	}
}

// Promise 4.2: Hits of just 65,536 sets, and of one more.
func TestHitsOfMany(t *testing.T) {
	s := made(t, api.MaxVars, api.MaxNodes)
	h := answer(t)(s.Join(subsets(t, s, 1<<16-1), one(t, s, 1<<16)))
	counts(t, s, h, 65_536)
	if got := answer(t)(s.Hits(h)); got != one(t, s, 1<<16) {
		t.Errorf("one thing is in all sets, but %d hits them", got)
	}
	more := answer(t)(s.Or(h, one(t, s, 1<<20)))
	before := s.Len()
	if got, err := s.Hits(more); got != 0 || err != error(api.ErrLimit) || s.Len() != before {
		t.Errorf("Hits of 65,537 sets: %d, %v; want ErrLimit", got, err)
	}
	if got, err := s.Hits(subsets(t, s, 1<<16-1)); got != arena.False || err != nil {
		t.Errorf("Hits of 65,536 sets with the empty one: %d, %v", got, err)
	}
	if got, err := s.Hits(subsets(t, s, 1<<17-1)); got != 0 || err != error(api.ErrLimit) {
		t.Errorf("Hits of 131,072 sets with the empty one: %d, %v; want ErrLimit", got, err)
	}
}

// asks are all that is asked of a handle; those of two stand here with it first, and last.
func asks(s *family.Store) map[string]func(h int) (bool, error) {
	out := map[string]func(h int) (bool, error){
		"In":                                func(h int) (bool, error) { return s.In(h, 0) },
		"In with a thing that there is not": func(h int) (bool, error) { return s.In(h, math.MaxUint) },
		"Count":                             func(h int) (bool, error) { n, err := s.Count(h); return !n.Zero(), err },
		"List":                              func(h int) (bool, error) { l, err := s.List(h, 10); return l != nil, err },
		"List, with most below 0":           func(h int) (bool, error) { l, err := s.List(h, -1); return l != nil, err },
	}
	for what, ask := range map[string]func(int) (int, error){"Least": s.Least, "Hits": s.Hits} {
		out[what] = func(h int) (bool, error) { n, err := ask(h); return n != 0, err }
	}
	for what, ask := range map[string]func(a, b int) (int, error){"Or": s.Or, "And": s.And, "Less": s.Less, "Join": s.Join, "Without": s.Without} {
		for end, name := range []string{" False", " True"} {
			out[what+name] = func(h int) (bool, error) { n, err := ask(h, end); return n != 0, err }
			out[name+" "+what] = func(h int) (bool, error) { n, err := ask(end, h); return n != 0, err }
		}
		out[what+" twice"] = func(h int) (bool, error) { n, err := ask(h, h); return n != 0, err }
	}
	return out
}

// Promise 4.1: handles that are missing, ahead of all else; nothing is made then.
func TestMissing(t *testing.T) {
	for _, room := range []int{0, 6, api.MaxNodes} {
		s := made(t, 6, room)
		gone := 2
		if room > 0 {
			gone = one(t, s, 0b111111)
			s.Free()
		}
		for what, ask := range asks(s) {
			for _, h := range []int{-1, gone, gone + 1, api.MaxNodes + 2, math.MinInt, math.MaxInt} {
				if some, err := ask(h); some || err != error(api.ErrMissing) || s.Len() != 0 {
					t.Errorf("room %d: %s of %d: %v, %v; want ErrMissing", room, what, h, some, err)
				}
			}
		}
	}
	s := made(t, 3, api.MaxNodes)
	h := all(t, s, 1, 6)
	before := s.Len()
	for _, ask := range []func(a, b int) (int, error){s.Or, s.And, s.Less, s.Join, s.Without} {
		for _, l := range [][2]int{{h, 99}, {99, h}, {-1, 99}} {
			if got, err := ask(l[0], l[1]); got != 0 || err != error(api.ErrMissing) || s.Len() != before {
				t.Errorf("of %v: %d, %v; want ErrMissing", l, got, err)
			}
		}
	}
}

// P3: what is told first, where a store has room for nothing.
func TestFirstError(t *testing.T) {
	s := made(t, 3, 0)
	if h, err := s.One(0b1001); h != 0 || err != error(api.ErrRange) {
		t.Errorf("One: %d, %v; want ErrRange ahead of ErrFull", h, err)
	}
	if h, err := s.One(0b001); h != 0 || err != error(api.ErrFull) {
		t.Errorf("One: %d, %v; want ErrFull", h, err)
	}
	s = made(t, api.MaxVars, 47)
	h := arena.True
	for v := range api.MaxVars {
		h = answer(t)(s.Join(all(t, s, 0, 1<<(api.MaxVars-1-v)), h))
		s.Free(h)
	}
	if got, err := s.Hits(h); got != 0 || err != error(api.ErrLimit) {
		t.Errorf("Hits: %d, %v; want ErrLimit", got, err)
	}
}

// P4: what List answers is the caller's.
func TestListIsFresh(t *testing.T) {
	s := made(t, 6, 100)
	h := all(t, s, 9, 3, 40, 0)
	want := []uint{0, 3, 9, 40}
	l, _ := s.List(h, 4)
	m, _ := s.List(h, 4)
	for i := range l[:cap(l)] {
		l[:cap(l)][i] = 63
	}
	again, err := s.List(h, 4)
	if !slices.Equal(m, want) || !slices.Equal(again, want) || err != nil {
		t.Errorf("List: %v, then %v, %v; want %v", m, again, err, want)
	}
}
