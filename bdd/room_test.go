package bdd_test

import (
	"math/rand"
	"slices"
	"testing"

	"solspace/api"
	"solspace/arena"
	"solspace/bdd"
)

// Promise 3.3: Free; what is kept is the same by the same handle, what is made again too.
func TestFree(t *testing.T) {
	d := rand.New(rand.NewSource(19))
	for i := range 80 {
		s := made(t, 1+i%6, api.MaxNodes)
		var l []table
		var h []int
		for range 8 {
			l = append(l, drawn(d, s.Vars()))
			h = append(h, laid(t, s, l[len(l)-1]))
		}
		keep := append([]int{-5, arena.True, 1 << 40, h[6]}, h[:4]...)
		room := append(slices.Clone(keep), 77)[:len(keep)]
		led, before := s.Reach(keep...), s.Len()
		if n := s.Free(room...); n != before-len(led) || s.Len() != len(led) {
			t.Errorf("Free: %d, and %d of %d are left; want %d", n, s.Len(), before, len(led))
		}
		if !slices.Equal(room[:len(keep)+1], append(keep, 77)) {
			t.Errorf("Free wrote %v into what it was given", room[:len(keep)+1])
		}
		for range 40 {
			a, b := d.Intn(4), d.Intn(4)
			pair(t, s, h[a], h[b], l[a], l[b], func(w table) int { return laid(t, s, w) })
			alone(t, s, h[a], l[a], func(w table) int { return laid(t, s, w) })
			if d.Intn(3) == 0 {
				s.Free(h[:4]...)
			}
		}
		for i, w := range l {
			if got := laid(t, s, w); i < 4 && got != h[i] || told(t, s, got) != w {
				t.Errorf("%x is %d now, was %d, and is true of %x", w, got, h[i], told(t, s, got))
			}
		}
		tidy(t, s)
	}
}

// Promise 3.3: nothing that was worked out ahead of Free is told of handles that others have behind it.
func TestHandlesOfOthers(t *testing.T) {
	s := made(t, 4, api.MaxNodes)
	for range 5 {
		for a := range 4 {
			for b := range 4 {
				x, y := lit(t, s, a, true), lit(t, s, b, true)
				h := answer(t)(s.And(x, y))
				if a != b && h == answer(t)(s.Or(x, y)) {
					t.Errorf("variables %d and %d: one handle", a, b)
				}
				if got, want := told(t, s, h), column(a)&column(b)&(1<<16-1); got != want {
					t.Errorf("variables %d and %d, handles %d and %d: %x; want %x", a, b, x, y, got, want)
				}
				some := answer(t)(s.Some(h, a))
				if got, want := told(t, s, some), (column(a)&column(b)).set(4, a, true)&(1<<16-1); got != want {
					t.Errorf("some %d of %d and %d: %x; want %x", a, a, b, got, want)
				}
				s.Free()
				if s.Len() != 0 {
					t.Errorf("behind Free: %d nodes", s.Len())
				}
			}
		}
	}
}

// Promise 3.1: ErrFull, which takes nothing from what is there; what there is room for is made.
func TestFull(t *testing.T) {
	d := rand.New(rand.NewSource(23))
	seen := 0
	for i := range 400 {
		room := i % 60
		s := made(t, 6, room)
		l := []int{arena.False, arena.True}
		for range 30 {
			a, b, c, v := l[d.Intn(len(l))], l[d.Intn(len(l))], l[d.Intn(len(l))], d.Intn(6)
			before := s.Len()
			h, err := 0, error(nil)
			switch d.Intn(6) {
			case 0:
				h, err = s.Xor(a, b)
			case 1:
				h, err = s.Ite(a, b, c)
			case 2:
				h, err = s.Some(a, v)
			case 3:
				h, err = s.Not(a)
			default:
				h, err = s.Lit(v, d.Intn(2) == 0)
			}
			if s.Len() < before || s.Len() > room {
				t.Fatalf("room %d: %d nodes, behind %d", room, s.Len(), before)
			}
			if err != nil {
				if h != 0 || err != error(api.ErrFull) || s.Len() < room {
					t.Fatalf("room %d, %d nodes: %d, %v", room, s.Len(), h, err)
				}
				seen++
				s.Free(l...)
				continue
			}
			l = append(l, h)
		}
		for _, h := range l {
			if answer(t)(s.And(h, h)) != h || answer(t)(s.Xor(arena.False, h)) != h || answer(t)(s.All(h, h)) != h {
				t.Errorf("room %d: %d is not itself", room, h)
			}
		}
		tidy(t, s)
	}
	if seen == 0 {
		t.Error("no room was full")
	}
}

// When ErrFull comes isn't promised; that a call (but All) makes nothing besides its answer keeps it far away.
func TestNothingBesides(t *testing.T) {
	d := rand.New(rand.NewSource(29))
	for i := range 120 {
		s := made(t, 1+i%6, api.MaxNodes)
		a, b, c := laid(t, s, drawn(d, s.Vars())), laid(t, s, drawn(d, s.Vars())), laid(t, s, drawn(d, s.Vars()))
		v := d.Intn(s.Vars())
		for what, ask := range map[string]func() (int, error){
			"Not":  func() (int, error) { return s.Not(a) },
			"And":  func() (int, error) { return s.And(a, b) },
			"Or":   func() (int, error) { return s.Or(a, b) },
			"Xor":  func() (int, error) { return s.Xor(a, b) },
			"Ite":  func() (int, error) { return s.Ite(a, b, c) },
			"Set":  func() (int, error) { return s.Set(a, v, true) },
			"Some": func() (int, error) { return s.Some(a, v) },
			"Each": func() (int, error) { return s.Each(a, v) },
		} {
			s.Free(a, b, c)
			h := answer(t)(ask())
			if n := s.Free(a, b, c, h); n != 0 {
				t.Errorf("%s made %d nodes to which its answer does not lead", what, n)
			}
		}
	}
}

// Promise 3.1: there is room for 30 functions of 6 variables, and for what 10 calls make of them.
func TestRoomEnough(t *testing.T) {
	d := rand.New(rand.NewSource(31))
	for range 12 {
		s := made(t, 6, api.MaxNodes)
		var h []int
		var l []table
		for len(h) < 30 {
			l = append(l, table(d.Uint64()|d.Uint64()|d.Uint64()|d.Uint64()|d.Uint64()))
			h = append(h, laid(t, s, l[len(l)-1]))
			s.Free(h...)
		}
		for range 10 {
			d.Shuffle(30, func(i, j int) { h[i], h[j], l[i], l[j] = h[j], h[i], l[j], l[i] })
			want := ^table(0)
			for _, w := range l {
				want &= w
			}
			if got := answer(t)(s.All(h...)); told(t, s, got) != want {
				t.Errorf("All of 30: %x; want %x", told(t, s, got), want)
			}
		}
		s.Free(h...)
		for i := range 10 {
			tenth(t, s, h, i)
		}
	}
}

// tenth makes one more call; answer fails if there is no room.
func tenth(t *testing.T, s *bdd.Space, h []int, i int) {
	t.Helper()
	switch i % 5 {
	case 0:
		answer(t)(s.Xor(h[i], h[i+10]))
	case 1:
		answer(t)(s.Ite(h[i], h[i+10], h[i+20]))
	case 2:
		answer(t)(s.Some(h[i], i%6))
	case 3:
		answer(t)(s.Each(h[i], i%6))
	default:
		answer(t)(s.Set(h[i], i%6, true))
	}
}
