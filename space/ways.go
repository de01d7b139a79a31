package space

import (
	"solspace/api"
	"solspace/arena"
)

// way is the items from one on that cost the least, of those by which a diagram is true, and what they cost; there may be none.
type way struct {
	items uint
	cost  int
	can   bool
}

// walk goes over a space's diagram, where each item costs something by being there or by not being there; ways has, by handles, what was worked out.
type walk struct {
	*Space
	cost func(item int, there bool) int
	ways map[int]way
}

// best is the installation that costs the least; of like ones the first, where an item that is there comes ahead of one that isn't. ErrNone: there is none.
func (s *Space) best(cost func(item int, there bool) int) (uint, error) {
	if err := s.whole(); err != nil {
		return 0, err
	}
	w := s.cheapest(cost)
	if !w.can {
		return 0, api.ErrNone
	}
	return w.items, nil
}

// cheapest is best, with what it costs; the space must be whole.
func (s *Space) cheapest(cost func(item int, there bool) int) way {
	w := walk{Space: s, cost: cost, ways: map[int]way{}}
	return w.from(0, s.All)
}

// from is a diagram's way of the items from one on; none of its nodes may lie ahead of that one.
func (w walk) from(item, h int) way {
	out := w.below(h)
	for i := min(w.Top(h), w.Vars()) - 1; i >= item; i-- {
		out = w.better(i, out, out)
	}
	return out
}

// below is from its own variable on.
func (w walk) below(h int) way {
	n, ok := w.Get(h)
	if !ok {
		return way{can: h == arena.True}
	}
	if out, ok := w.ways[h]; ok {
		return out
	}
	out := w.better(n.Var, w.from(n.Var+1, n.Low), w.from(n.Var+1, n.High))
	w.ways[h] = out
	return out
}

// better puts an item ahead of what comes behind it, where it is not there and where it is: what costs less of both; of like ones that with the item.
func (w walk) better(item int, without, with way) way {
	without.cost += w.cost(item, false)
	with.cost += w.cost(item, true)
	with.items |= 1 << item
	if with.can && (!without.can || with.cost <= without.cost) {
		return with
	}
	return without
}
