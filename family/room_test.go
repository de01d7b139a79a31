package family_test

import (
	"math/rand"
	"slices"
	"testing"

	"solspace/api"
	"solspace/arena"
	"solspace/family"
)

// Promise 4.3: Free; what is kept is the same by the same handle, what is made again too.
func TestFree(t *testing.T) {
	d := rand.New(rand.NewSource(19))
	for i := range 80 {
		things := 1 + i%6
		s := made(t, things, api.MaxNodes)
		var l []table
		var h []int
		for range 8 {
			l = append(l, drawn(d, things))
			h = append(h, laid(t, s, things, l[len(l)-1]))
		}
		keep := append([]int{-5, arena.True, 1 << 40, h[6]}, h[:4]...)
		room := append(slices.Clone(keep), 77)[:len(keep)]
		led, before := s.Reach(keep...), s.Len()
		if n := s.Free(room...); n != before-len(led) || s.Len() != len(led) {
			t.Errorf("Free: %d, and %d of %d are left; want %d", n, s.Len(), before, len(led))
		}
		if !slices.Equal(room[:len(keep)+1], append(keep, 77)) {
			t.Errorf("Free wrote %v into what it was given", room[:len(keep)+1])
		}
		for range 40 {
			a, b := d.Intn(4), d.Intn(4)
			pair(t, s, things, h[a], h[b], l[a], l[b], func(w table) int { return laid(t, s, things, w) })
			alone(t, s, things, h[a], l[a], func(w table) int { return laid(t, s, things, w) })
			if d.Intn(3) == 0 {
				s.Free(h[:4]...)
			}
		}
		for i, w := range l {
			if got := laid(t, s, things, w); i < 4 && got != h[i] || told(t, s, things, got) != w {
				t.Errorf("%v is %d now, was %d, and has %v", w.list(), got, h[i], told(t, s, things, got).list())
			}
		}
		tidy(t, s, things)
		if n := s.Len(); s.Free() != n || s.Len() != 0 {
			t.Errorf("behind Free of nothing: %d nodes of %d", s.Len(), n)
		}
	}
}

// Promise 4.3: nothing that was worked out ahead of Free is told of handles that others have behind it.
func TestHandlesOfOthers(t *testing.T) {
	s := made(t, 4, api.MaxNodes)
	for a := range uint(16) {
		for b := range uint(16) {
			for c := range uint(16) {
				x, y := all(t, s, a, b), one(t, s, c)
				f, g := tableOf(a, b), tableOf(c)
				check := func(what string, h int, want table) {
					t.Helper()
					if got := told(t, s, 4, h); got != want {
						t.Errorf("%s of %v and %v: %v; want %v", what, f.list(), g.list(), got.list(), want.list())
					}
				}
				check("Or", answer(t)(s.Or(x, y)), f|g)
				check("Less", answer(t)(s.Less(x, y)), f&^g)
				check("Join", answer(t)(s.Join(x, y)), f.join(g))
				check("Without", answer(t)(s.Without(x, y)), f.without(g))
				check("Least", answer(t)(s.Least(x)), f.least())
				check("Hits", answer(t)(s.Hits(x)), f.hits(4))
				counts(t, s, x, len(f.list()))
				s.Free()
			}
		}
	}
}

// some asks for one more family of 6 things, drawn among all that make one; want is its table.
func some(d *rand.Rand, s *family.Store, a, b int, f, g table) (h int, want table, err error) {
	switch d.Intn(9) {
	case 0:
		h, err = s.Or(a, b)
		return h, f | g, err
	case 1:
		h, err = s.And(a, b)
		return h, f & g, err
	case 2:
		h, err = s.Less(a, b)
		return h, f &^ g, err
	case 3:
		h, err = s.Join(a, b)
		return h, f.join(g), err
	case 4:
		h, err = s.Without(a, b)
		return h, f.without(g), err
	case 5:
		h, err = s.Least(a)
		return h, f.least(), err
	case 6:
		h, err = s.Hits(a)
		return h, f.hits(6), err
	}
	set := uint(d.Intn(64))
	h, err = s.One(set)
	return h, tableOf(set), err
}

// Promise 4.1: ErrFull, which takes nothing from what is there; what there is room for is made.
func TestFull(t *testing.T) {
	d := rand.New(rand.NewSource(23))
	seen := 0
	for i := range 1600 {
		room := i % 80
		s := made(t, 6, room)
		l, f := []int{arena.False, arena.True}, []table{0, 1}
		for range 40 {
			before := s.Len()
			a, b := d.Intn(len(l)), d.Intn(len(l))
			h, want, err := some(d, s, l[a], l[b], f[a], f[b])
			if s.Len() < before || s.Len() > room {
				t.Fatalf("room %d: %d nodes, behind %d", room, s.Len(), before)
			}
			if err != nil {
				if h != 0 || err != error(api.ErrFull) || s.Len() < room {
					t.Fatalf("room %d, %d nodes: %d, %v", room, s.Len(), h, err)
				}
				seen++
				s.Free(l...)
				continue
			}
			if got := told(t, s, 6, h); got != want {
				t.Fatalf("room %d: of %v and %v: %v; want %v", room, f[a].list(), f[b].list(), got.list(), want.list())
			}
			l, f = append(l, h), append(f, want)
		}
		for i, h := range l {
			if told(t, s, 6, h) != f[i] || answer(t)(s.And(h, h)) != h || answer(t)(s.Or(arena.False, h)) != h {
				t.Errorf("room %d: %d is not itself", room, h)
			}
		}
		tidy(t, s, 6)
	}
	if seen == 0 {
		t.Error("no room was full")
	}
}

// Promise 4.1: each function tells that there is no room, and is answered where there is.
func TestEachIsFull(t *testing.T) {
	for what, ask := range map[string]func(s *family.Store, a, b int) (int, error){
		"Or":      (*family.Store).Or,
		"And":     (*family.Store).And,
		"Less":    (*family.Store).Less,
		"Join":    (*family.Store).Join,
		"Without": (*family.Store).Without,
		"Least":   func(s *family.Store, a, _ int) (int, error) { return s.Least(a) },
		"Hits":    func(s *family.Store, a, _ int) (int, error) { return s.Hits(a) },
		"One":     func(s *family.Store, _, _ int) (int, error) { return s.One(0b101101) },
	} {
		s := made(t, api.MaxVars, api.MaxNodes)
		a, b := few(t, s)
		before := s.Len()
		answer(t)(ask(s, a, b))
		need := s.Len() - before
		if need == 0 {
			t.Fatalf("%s made nothing", what)
		}
		for left := range need + 1 {
			s := made(t, api.MaxVars, 150)
			a, b := few(t, s)
			fill(t, s, 150-left)
			h, err := ask(s, a, b)
			if left == need && err != nil {
				t.Errorf("%s, which makes %d nodes, with room for so many: %v", what, need, err)
			}
			if left < need && (h != 0 || err != error(api.ErrFull) || s.Len() != 150) {
				t.Errorf("%s, which makes %d nodes, with room for %d: %d, %v; want ErrFull", what, need, left, h, err)
			}
			if l, err := s.List(a, 4); !slices.Equal(l, []uint{7, 9, 26, 47}) || err != nil {
				t.Errorf("%s, with room for %d: %v, %v behind it", what, left, l, err)
			}
		}
	}
}

// few is two families of 6 things of which each function makes a new one, and nothing besides.
func few(t *testing.T, s *family.Store) (int, int) {
	t.Helper()
	a, b := all(t, s, 7, 26, 47, 9), all(t, s, 26, 9, 33)
	s.Free(a, b)
	return a, b
}

// fill makes nodes of other things, one by one, until there are so many.
func fill(t *testing.T, s *family.Store, many int) {
	t.Helper()
	for v := api.MaxVars - 1; v >= 6; v-- {
		for w := v; w < api.MaxVars && s.Len() < many; w++ {
			one(t, s, 1<<v|1<<w)
		}
	}
	if s.Len() != many {
		t.Fatalf("%d nodes; want %d", s.Len(), many)
	}
}

// When ErrFull comes isn't promised; that these make nothing besides their answer keeps it far away.
func TestNothingBesides(t *testing.T) {
	d := rand.New(rand.NewSource(29))
	for i := range 120 {
		things := 1 + i%6
		s := made(t, things, api.MaxNodes)
		a, b := laid(t, s, things, drawn(d, things)), laid(t, s, things, drawn(d, things))
		for what, ask := range map[string]func() (int, error){
			"One":  func() (int, error) { return s.One(1<<things - 1) },
			"Or":   func() (int, error) { return s.Or(a, b) },
			"And":  func() (int, error) { return s.And(a, b) },
			"Less": func() (int, error) { return s.Less(a, b) },
		} {
			s.Free(a, b)
			h := answer(t)(ask())
			if n := s.Free(a, b, h); n != 0 {
				t.Errorf("%s made %d nodes to which its answer does not lead", what, n)
			}
		}
	}
}

// Promise 4.1: there is room for 30 families of 6 things, and for what 10 calls make of them.
func TestRoomEnough(t *testing.T) {
	d := rand.New(rand.NewSource(31))
	for round := range 60 {
		s := made(t, 6, api.MaxNodes)
		var h []int
		for len(h) < 30 {
			f := table(d.Uint64())
			for range round % 4 {
				f &= table(d.Uint64())
			}
			x := arena.False
			for _, set := range (f &^ 1).list() {
				x = answer(t)(s.Or(x, one(t, s, set)))
				s.Free(append(h, x)...)
			}
			h = append(h, x)
		}
		for _, ask := range []func(a, b int) (int, error){
			s.Join, s.Without,
			func(a, _ int) (int, error) { return s.Hits(a) },
			func(a, _ int) (int, error) { return s.Least(a) },
			func(a, b int) (int, error) { h, _, err := some(d, s, a, b, 0, 0); return h, err },
		} {
			for i := range 10 {
				answer(t)(ask(h[i], h[29-i]))
			}
			s.Free(h...)
		}
	}
}
