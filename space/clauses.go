package space

import (
	"slices"

	"solspace/api"
	"solspace/arena"
	"solspace/bdd"
	"solspace/proof"
)

// Clauses is the diagram of clauses. ErrMissing: there is no space; ErrRange: it has no variable of a literal; ErrFull.
func Clauses(s *bdd.Space, l []api.Clause) (int, error) {
	if absent(s) {
		return 0, api.ErrMissing
	}
	// All of them ahead of making anything, lest ErrFull is answered instead.
	if slices.ContainsFunc(l, func(c api.Clause) bool { return !within(c, s.Vars()) }) {
		return 0, api.ErrRange
	}
	before, out := laid(s), arena.True
	for _, c := range l {
		next, err := narrowed(s, out, c)
		if err != nil {
			s.Free(before...)
			return 0, err
		}
		out = next
		// What is made on the way would fill the room; what was there already may be someone's.
		s.Free(append(before, out)...)
	}
	return out, nil
}

// absent says whether there is no space, or none that New made.
func absent(s *bdd.Space) bool { return s == nil || s.Arena == nil }

// within says whether there is a variable of each literal.
func within(c api.Clause, vars int) bool {
	return !slices.ContainsFunc(c, func(x int) bool {
		v := variable(x)
		return v < 0 || v >= vars
	})
}

// variable is a literal's; of numbers that are none, one that is not there.
func variable(x int) int { return max(x, -x) - 1 }

// laid are the handles of all nodes that are there.
func laid(s *bdd.Space) []int {
	var out []int
	// New nodes get the least handle that is free: none is beyond the room.
	for h := arena.True + 1; len(out) < s.Len(); h++ {
		if s.Has(h) {
			out = append(out, h)
		}
	}
	return out
}

// narrowed is where a diagram is true, and a clause holds.
func narrowed(s *bdd.Space, h int, c api.Clause) (int, error) {
	some, err := either(s, c)
	if err != nil {
		return 0, err
	}
	return s.And(h, some)
}

// either is where a clause holds: from its last variable on, so that no literal makes more than one node besides its own.
func either(s *bdd.Space, c api.Clause) (int, error) {
	literals, always := proof.Form(c)
	if always {
		return arena.True, nil
	}
	out := arena.False
	for _, x := range slices.Backward(literals) {
		h, err := s.Lit(variable(x), x > 0)
		if err != nil {
			return 0, err
		}
		if out, err = s.Or(h, out); err != nil {
			return 0, err
		}
	}
	return out, nil
}
