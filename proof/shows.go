package proof

import (
	"slices"

	"solspace/api"
	"solspace/clause"
)

// The most clauses of a proof.
const mostProof = 5000

// Shows says whether clauses, one behind the other, each follow from those told and those ahead (all literals of it false, some clause can't hold), and the last one is empty: else the number of the first one that doesn't follow (how many there are: the last one isn't empty). ErrLimit: more than 5000.
func Shows(vars int, l, proof []api.Clause) (bool, int, error) {
	if err := clause.Check(vars, l); err != nil {
		return false, 0, err
	}
	if len(proof) > mostProof {
		return false, 0, api.ErrLimit
	}
	wrong := func(x int) bool { return x == 0 || x < -vars || x > vars }
	known := forms(l)
	for i, c := range proof {
		if slices.ContainsFunc(c, wrong) {
			return false, i, nil
		}
		form, always := Form(c)
		if always {
			continue // it follows, and nothing follows by it
		}
		if !follows(form, known) {
			return false, i, nil
		}
		known = append(known, form)
	}
	n := len(proof)
	return n > 0 && len(proof[n-1]) == 0, n, nil
}

// forms is clauses in Form, without those that hold always: these tell nothing, and can always hold.
func forms(l []api.Clause) []api.Clause {
	var out []api.Clause
	for _, c := range l {
		if form, always := Form(c); !always {
			out = append(out, form)
		}
	}
	return out
}

// values are what is told, by literals: 1: it is told; -1: its other side is; not there: neither.
type values map[int]int8

// tell tells a literal.
func (v values) tell(x int) { v[x], v[-x] = 1, -1 }

// follows says whether, all literals of a clause being false, one of those that are known can't hold.
func follows(c api.Clause, known []api.Clause) bool {
	told := values{}
	for _, x := range c {
		told.tell(-x)
	}
	// only is the literal by which alone a clause in Form can hold (0: by none); false: it holds, or can by several.
	only := func(c api.Clause) (one int, ok bool) {
		for _, x := range c {
			side := told[x]
			if side > 0 || side == 0 && one != 0 {
				return 0, false
			}
			if side == 0 {
				one = x
			}
		}
		return one, true
	}
	// It goes on behind a clause that tells something, not from the first one on again: what is told only grows, and what one order tells each other one tells too, so each comes to a clause that can't hold, or none does.
	for before := -1; before < len(told); {
		before = len(told)
		for _, d := range known {
			x, ok := only(d)
			if ok && x == 0 {
				return true
			}
			if ok {
				told.tell(x)
			}
		}
	}
	return false
}
