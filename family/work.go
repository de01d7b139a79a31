package family

import (
	"solspace/api"
	"solspace/arena"
	"solspace/count"
)

// work is one call that makes families. What it worked out is not kept behind
// it, so that no handle outlives its node.
type work struct {
	*Store
	// The first one that was told; what is answered behind it is of no use, and nothing more is made.
	err error
}

// op makes one family of two; one that looks at a single family is told False as the other.
type op func(a, b int) int

// parts is a family at a thing: the sets that don't have it, and those that have it, but without it.
type parts struct{ low, high int }

// walk is an op: known tells what is seen at once, at what lies at the least thing of both families.
func (w *work) walk(known func(a, b int) (int, bool), at func(a, b parts) parts) op {
	done := map[[2]int]int{}
	return func(a, b int) int {
		if w.err != nil {
			return arena.False
		}
		if h, ok := known(a, b); ok {
			return h
		}
		k := [2]int{a, b}
		if h, ok := done[k]; ok {
			return h
		}
		v := min(w.Top(a), w.Top(b))
		h := w.node(v, at(w.parts(a, v), w.parts(b, v)))
		done[k] = h
		return h
	}
}

// parts is a family at a thing that is not behind its least one.
func (w *work) parts(h, v int) parts {
	if n, ok := w.Get(h); ok && n.Var == v {
		return parts{n.Low, n.High}
	}
	return parts{h, arena.False}
}

// node keeps a family to one handle: where no set has the thing, none is needed.
func (w *work) node(v int, p parts) int {
	if w.err != nil || p.high == arena.False {
		return p.low
	}
	h, err := w.Make(arena.Node{Var: v, Low: p.low, High: p.high})
	w.err = err
	return h
}

// one is the family of a set alone.
func (w *work) one(set uint) int {
	h := arena.True
	for v := w.things - 1; v >= 0; v-- {
		if set>>v&1 == 1 {
			h = w.node(v, parts{arena.False, h})
		}
	}
	return h
}

func or(w *work) op {
	var or op
	or = w.walk(func(a, b int) (int, bool) {
		switch {
		case a == b || b == arena.False:
			return a, true
		case a == arena.False:
			return b, true
		}
		return 0, false
	}, func(a, b parts) parts {
		return parts{or(a.low, b.low), or(a.high, b.high)}
	})
	return or
}

func and(w *work) op {
	var and op
	and = w.walk(func(a, b int) (int, bool) {
		switch {
		case a == b:
			return a, true
		case a == arena.False || b == arena.False:
			return arena.False, true
		}
		return 0, false
	}, func(a, b parts) parts {
		return parts{and(a.low, b.low), and(a.high, b.high)}
	})
	return and
}

func less(w *work) op {
	var less op
	less = w.walk(func(a, b int) (int, bool) {
		switch {
		case a == b || a == arena.False:
			return arena.False, true
		case b == arena.False:
			return a, true
		}
		return 0, false
	}, func(a, b parts) parts {
		return parts{less(a.low, b.low), less(a.high, b.high)}
	})
	return less
}

func join(w *work) op {
	var join op
	or := or(w)
	join = w.walk(func(a, b int) (int, bool) {
		switch {
		case a == arena.False || b == arena.True:
			return a, true
		case b == arena.False || a == arena.True:
			return b, true
		}
		return 0, false
	}, func(a, b parts) parts {
		// The thing is there, if one of both sets has it.
		high := or(join(a.high, or(b.low, b.high)), join(a.low, b.high))
		return parts{join(a.low, b.low), high}
	})
	return join
}

func without(w *work) op {
	var without op
	or := or(w)
	without = w.walk(func(a, b int) (int, bool) {
		switch {
		case a == b || a == arena.False || b == arena.True:
			return arena.False, true
		case b == arena.False:
			return a, true
		}
		return 0, false
	}, func(a, b parts) parts {
		// A set that has the thing may have parts with it and without it.
		return parts{without(a.low, b.low), without(a.high, or(b.low, b.high))}
	})
	return without
}

func least(w *work) op {
	var least op
	without := without(w)
	least = w.walk(func(a, _ int) (int, bool) {
		return a, a == arena.False || a == arena.True
	}, func(a, _ parts) parts {
		low := least(a.low, arena.False)
		return parts{low, without(least(a.high, arena.False), low)}
	})
	return least
}

func hits(w *work) op {
	var hits op
	or, without := or(w), without(w)
	hits = w.walk(func(a, _ int) (int, bool) {
		switch a {
		case arena.False:
			return arena.True, true
		case arena.True:
			return arena.False, true
		}
		return 0, false
	}, func(a, _ parts) parts {
		// What has the thing needs to hit those sets alone that don't have it;
		// but it is not least, if it would do without the thing.
		low := hits(or(a.low, a.high), arena.False)
		return parts{low, without(hits(a.low, arena.False), low)}
	})
	return hits
}

// asked is what is made of two families; ErrMissing: one is not there; ErrFull.
func (s *Store) asked(what func(*work) op, a, b int) (int, error) {
	if err := s.present(a, b); err != nil {
		return 0, err
	}
	w := &work{Store: s}
	return w.answer(what(w)(a, b))
}

// answer is a family, unless the call went wrong.
func (w *work) answer(h int) (int, error) {
	if w.err != nil {
		return 0, w.err
	}
	return h, nil
}

// listed is what List says of a family. ErrMissing; ErrLimit: it has more sets than most.
func (s *Store) listed(h, most int) error {
	n, err := s.Count(h)
	if err != nil {
		return err
	}
	if many, ok := n.Fits(); !ok || many > most {
		return api.ErrLimit
	}
	return nil
}

// ways is how many sets there are; done has what was worked out.
func (s *Store) ways(h int, done map[int]count.Nat) count.Nat {
	n, ok := s.Get(h)
	if !ok {
		return count.Of(h) // False and True are 0 and 1
	}
	if out, ok := done[h]; ok {
		return out
	}
	out := s.ways(n.Low, done).Add(s.ways(n.High, done))
	done[h] = out
	return out
}

// sets adds the sets of a family, each with those things that the way to it has already.
func (s *Store) sets(h int, with uint, out []uint) []uint {
	n, ok := s.Get(h)
	switch {
	case ok:
		out = s.sets(n.Low, with, out)
		return s.sets(n.High, with|1<<n.Var, out)
	case h == arena.True:
		return append(out, with)
	}
	return out
}

// present says ErrMissing, unless all handles are there.
func (s *Store) present(l ...int) error {
	for _, h := range l {
		if !s.Has(h) {
			return api.ErrMissing
		}
	}
	return nil
}

// among says ErrRange, if a set has a thing that there is not.
func (s *Store) among(set uint) error {
	if set>>s.things != 0 {
		return api.ErrRange
	}
	return nil
}
