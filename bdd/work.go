package bdd

import (
	"solspace/api"
	"solspace/arena"
	"solspace/count"
)

// ask is up to three handles, of which a function is asked; those that it does not look at are False.
type ask [3]int

// rule is what a function makes of handles, where that is seen at once: of three ends at least, always.
type rule func(ask) (int, bool)

// work is a function, and what one call worked out of it. It is not kept behind
// the call, so that no handle in it outlives its node.
type work struct {
	*Space
	known rule
	done  map[ask]int
}

func begin(s *Space, known rule) *work {
	return &work{Space: s, known: known, done: map[ask]int{}}
}

// ite is the second one, where the first one is true, else the third one.
func ite(k ask) (int, bool) {
	switch {
	case k[0] == arena.True || k[1] == k[2]:
		return k[1], true
	case k[0] == arena.False:
		return k[2], true
	case k[1] == arena.True && k[2] == arena.False:
		return k[0], true
	}
	return 0, false
}

// xor has a rule of its own: by ite, the nodes of a function that nobody asked for would be made.
func xor(k ask) (int, bool) {
	switch {
	case k[0] == k[1]:
		return arena.False, true
	case k[0] == arena.False:
		return k[1], true
	case k[1] == arena.False:
		return k[0], true
	}
	return 0, false
}

// both is what ite is asked for: are a and b true?
func both(a, b int) ask { return ask{a, b, arena.False} }

// either is what ite is asked for: is a or b true?
func either(a, b int) ask { return ask{a, arena.True, b} }

func (w *work) and(a, b int) (int, error) { return w.makes(both(a, b)) }

func (w *work) or(a, b int) (int, error) { return w.makes(either(a, b)) }

// makes is what the function makes of handles that are there (SHANNON: by the least variable, where it is false and where it is true).
func (w *work) makes(k ask) (int, error) {
	if h, ok := w.known(k); ok {
		return h, nil
	}
	if h, ok := w.done[k]; ok {
		return h, nil
	}
	v := min(w.Top(k[0]), w.Top(k[1]), w.Top(k[2]))
	var lows, highs ask
	for i, h := range k {
		lows[i], highs[i] = w.sides(h, v)
	}
	low, err := w.makes(lows)
	if err != nil {
		return 0, err
	}
	high, err := w.makes(highs)
	if err != nil {
		return 0, err
	}
	h, err := w.node(v, low, high)
	if err != nil {
		return 0, err
	}
	w.done[k] = h
	return h, nil
}

// asked is what a function makes of handles; ErrMissing: one is not there.
func (s *Space) asked(known rule, k ask) (int, error) {
	if err := s.present(k[:]...); err != nil {
		return 0, err
	}
	return begin(s, known).makes(k)
}

// without is a diagram in which no node of v is left: join tells what stands instead of it, by where it led.
func (s *Space) without(h, v int, join func(low, high int) (int, error)) (int, error) {
	if err := s.variable(v); err != nil {
		return 0, err
	}
	if err := s.present(h); err != nil {
		return 0, err
	}
	return s.joined(h, v, join, map[int]int{})
}

// joined is without, for what is there; done has what was worked out of nodes ahead of v.
func (s *Space) joined(h, v int, join func(low, high int) (int, error), done map[int]int) (int, error) {
	n, ok := s.Get(h)
	if !ok || n.Var > v {
		return h, nil
	}
	if n.Var == v {
		return join(n.Low, n.High)
	}
	if out, ok := done[h]; ok {
		return out, nil
	}
	low, err := s.joined(n.Low, v, join, done)
	if err != nil {
		return 0, err
	}
	high, err := s.joined(n.High, v, join, done)
	if err != nil {
		return 0, err
	}
	out, err := s.node(n.Var, low, high)
	if err != nil {
		return 0, err
	}
	done[h] = out
	return out, nil
}

// ways is of how many values of the variables from one on a diagram is true; none of its nodes may lie ahead of that one.
func (s *Space) ways(h, from int, done map[int]count.Nat) count.Nat {
	top := min(s.Top(h), s.vars)
	return s.below(h, done).Double(top - from)
}

// below is ways from its own variable on; done has what was worked out.
func (s *Space) below(h int, done map[int]count.Nat) count.Nat {
	n, ok := s.Get(h)
	if !ok {
		return count.Of(h) // False and True are 0 and 1
	}
	if out, ok := done[h]; ok {
		return out
	}
	out := s.ways(n.Low, n.Var+1, done).Add(s.ways(n.High, n.Var+1, done))
	done[h] = out
	return out
}

// sides is what a diagram is where v is false, and where v is true; none of its nodes may lie ahead of v.
func (s *Space) sides(h, v int) (low, high int) {
	if n, ok := s.Get(h); ok && n.Var == v {
		return n.Low, n.High
	}
	return h, h
}

// node keeps a function to one handle: where both ways lead to the same, none is needed.
func (s *Space) node(v, low, high int) (int, error) {
	if low == high {
		return low, nil
	}
	return s.Make(arena.Node{Var: v, Low: low, High: high})
}

// present says ErrMissing, unless all handles are there.
func (s *Space) present(l ...int) error {
	for _, h := range l {
		if !s.Has(h) {
			return api.ErrMissing
		}
	}
	return nil
}

// variable says ErrRange, unless there is that one.
func (s *Space) variable(v int) error {
	if v < 0 || v >= s.vars {
		return api.ErrRange
	}
	return nil
}
