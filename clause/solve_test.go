package clause_test

import (
	"math/rand"
	"slices"
	"testing"

	"solspace/api"
	"solspace/clause"
)

// ahead says whether values come ahead of others: true at the least variable in which they differ.
func ahead(a, b uint) bool {
	differ := a ^ b
	return a&(differ&-differ) != 0
}

// first is the first values of which all clauses hold, by trying all.
func first(vars int, l []api.Clause) (best uint, ok bool) {
	for values := range uint(1) << vars {
		all := true
		for _, c := range l {
			all = all && truth(c, bools(vars, values))
		}
		if all && (!ok || ahead(values, best)) {
			best, ok = values, true
		}
	}
	return best, ok
}

// search goes by the words of 7.3, with nothing kept but the decisions: what is told is worked out anew each time. At most so many clauses: beyond them it has no answer.
func search(vars int, l []api.Clause, most int) (a clause.Answer, ok bool) {
	var decisions []int
	for {
		told, bad := spread(slices.Concat(l, a.Proof), decisions)
		if bad < 0 {
			v := 1
			for v <= vars && (slices.Contains(told, v) || slices.Contains(told, -v)) {
				v++
			}
			if v <= vars {
				decisions = append(decisions, v)
				continue
			}
			a = clause.Answer{Holds: true}
			for _, x := range told {
				if x > 0 {
					a.Values |= 1 << (x - 1)
				}
			}
			return a, true
		}
		c := api.Clause{}
		for _, x := range decisions {
			c = append(c, -x)
		}
		a.Proof = append(a.Proof, c)
		if len(decisions) == 0 {
			return a, true
		}
		if len(a.Proof) == most {
			return clause.Answer{}, false
		}
		decisions = decisions[:len(decisions)-1]
	}
}

// alike says whether two lists have the same clauses.
func alike(a, b []api.Clause) bool {
	return slices.EqualFunc(a, b, func(c, d api.Clause) bool { return slices.Equal(c, d) })
}

// solved: Solve answers that.
func solved(t *testing.T, vars int, l []api.Clause, want clause.Answer) {
	t.Helper()
	a, err := clause.Solve(vars, l)
	if err != nil || a.Holds != want.Holds || a.Values != want.Values || !alike(a.Proof, want.Proof) {
		t.Errorf("Solve of %d, %v: %v, %v; want %v", vars, l, a, err, want)
	}
}

// holds and shown are answers.
func holds(values uint) clause.Answer         { return clause.Answer{Holds: true, Values: values} }
func shown(proof ...api.Clause) clause.Answer { return clause.Answer{Proof: proof} }

// square is four clauses of two variables that can't all hold, but by one of the literals that stand in each.
func square(a, b int, more ...int) []api.Clause {
	var l []api.Clause
	for _, c := range []api.Clause{{a, b}, {-a, b}, {a, -b}, {-a, -b}} {
		l = append(l, append(slices.Clone(more), c...))
	}
	return l
}

// Promise 7.3: ordinary clauses, and no clause, no variable, no literal.
func TestSolve(t *testing.T) {
	solved(t, 2, clauses(api.Clause{-1, 2}, api.Clause{1}), holds(0b11))
	solved(t, 1, clauses(api.Clause{1}, api.Clause{-1}), shown(nil))
	solved(t, 0, nil, holds(0))
	solved(t, 0, clauses(), holds(0))
	solved(t, 0, clauses(nil), shown(nil))
	solved(t, 0, clauses(nil, nil), shown(nil))
	solved(t, 3, nil, holds(0b111))
	solved(t, 3, clauses(nil), shown(nil))
	solved(t, 3, clauses(api.Clause{1, 2}, nil), shown(nil))
	solved(t, 3, clauses(api.Clause{-2}), holds(0b101))
	solved(t, 3, clauses(api.Clause{-2, -2}), holds(0b101))
	solved(t, 3, clauses(api.Clause{-2, 2}), holds(0b111))
	solved(t, 3, clauses(api.Clause{-1, -2}, api.Clause{-1, -3}), holds(0b001))
	solved(t, api.MaxVars, nil, holds(1<<api.MaxVars-1))
	solved(t, api.MaxVars, clauses(api.Clause{-api.MaxVars}), holds(1<<(api.MaxVars-1)-1))
}

// Promise 7.3: the clauses of a proof are the other sides of all decisions, in order; what was told by spreading is none.
func TestSolveProof(t *testing.T) {
	solved(t, 2, square(1, 2), shown(api.Clause{-1}, nil))
	solved(t, 3, square(2, 3), shown(api.Clause{-1, -2}, api.Clause{-1}, api.Clause{-2}, nil))
	solved(t, 4, square(3, 4), shown(
		api.Clause{-1, -2, -3}, api.Clause{-1, -2}, api.Clause{-1, -3}, api.Clause{-1},
		api.Clause{-2, -3}, api.Clause{-2}, api.Clause{-3}, nil))
	// 2 is told behind 1, and is no decision.
	solved(t, 4, append(square(3, 4), api.Clause{-1, 2}), shown(
		api.Clause{-1, -3}, api.Clause{-1},
		api.Clause{-2, -3}, api.Clause{-2}, api.Clause{-3}, nil))
	// Nothing is shown where all can hold, though decisions were taken back.
	solved(t, 3, clauses(api.Clause{-1, 3}, api.Clause{-1, -3}), holds(0b110))
	solved(t, 3, clauses(api.Clause{-1, -2, 3}, api.Clause{-1, -2, -3}), holds(0b101))
	solved(t, 4, square(3, 4, -1), holds(0b1110))
	solved(t, 4, square(3, 4, -1, -2), holds(0b1101))
}

// shows: each clause of a proof follows by spreading from those ahead; the last one alone is empty.
func shows(t *testing.T, l, proof []api.Clause) {
	t.Helper()
	for i, c := range proof {
		var sides []int
		for _, x := range c {
			sides = append(sides, -x)
		}
		if _, bad := spread(slices.Concat(l, proof[:i]), sides); bad < 0 {
			t.Fatalf("%v: clause %d of %v doesn't follow", l, i, proof)
		}
		if (len(c) == 0) != (i == len(proof)-1) {
			t.Fatalf("%v: the length of clause %d of %v", l, i, proof)
		}
	}
}

// tried: Solve answers what trying all values does, and what its words do.
func tried(t *testing.T, vars int, l []api.Clause) clause.Answer {
	t.Helper()
	a, err := clause.Solve(vars, l)
	if err != nil {
		t.Fatalf("%d, %v: %v", vars, l, err)
	}
	best, ok := first(vars, l)
	if a.Holds != ok || a.Values != best {
		t.Fatalf("%d, %v: %v; want %v, %b", vars, l, a, ok, best)
	}
	if ok && !clause.AllHold(l, a.Values) {
		t.Fatalf("%d, %v: not all hold of %b", vars, l, a.Values)
	}
	if ok == (len(a.Proof) > 0) {
		t.Fatalf("%d, %v: %v and a proof %v", vars, l, ok, a.Proof)
	}
	shows(t, l, a.Proof)
	if want, _ := search(vars, l, 2000); !alike(a.Proof, want.Proof) {
		t.Fatalf("%d, %v: a proof %v; want %v", vars, l, a.Proof, want.Proof)
	}
	return a
}

// Promise 7.3: all lists of at most three clauses, of at most two literals, of two variables.
func TestSolveAllSmall(t *testing.T) {
	var shapes []api.Clause
	small([]int{1, -1, 2, -2}, 2, func(c []int) { shapes = append(shapes, c) })
	small(shapes, 3, func(l []api.Clause) { tried(t, 2, l) })
}

// Promise 7.3: drawn clauses, against trying all values.
func TestSolveDrawn(t *testing.T) {
	r := rand.New(rand.NewSource(73))
	can, cant, long := 0, 0, 0
	for range 2000 {
		vars := 1 + r.Intn(7)
		l := drawn(r, vars, r.Intn(6*vars), 1+r.Intn(4))
		if r.Intn(2) == 0 { // short clauses leave little to decide
			vars += 4
			l = drawn(r, vars, 8*vars+r.Intn(8*vars), 4)
			l = slices.DeleteFunc(l, func(c api.Clause) bool { return len(c) < 3 })
		}
		a := tried(t, vars, l)
		switch {
		case a.Holds:
			can++
		case len(a.Proof) > 3:
			long++
		default:
			cant++
		}
	}
	if can < 300 || cant < 300 || long < 50 {
		t.Errorf("%d can, %d can't, %d by a long proof: too few of some", can, cant, long)
	}
}

// Promise 7.3: clauses of all variables, as many as there may be.
func TestSolveFull(t *testing.T) {
	r := rand.New(rand.NewSource(74))
	for range 200 {
		l := drawn(r, api.MaxVars, 40+r.Intn(api.MaxClauses-39), 5)
		l = slices.DeleteFunc(l, func(c api.Clause) bool { return len(c) < 3 })
		want, ok := search(api.MaxVars, l, 2000)
		if !ok {
			t.Fatalf("%v: too hard", l)
		}
		solved(t, api.MaxVars, l, want)
	}
}

// tree is how many variables there are, and clauses whose search comes to one that can't hold so many times (two at least).
// Levels are variables: one of no clause is tried both ways, and doubles what comes behind it; the other kind can't be true, which is seen at once, and adds one.
func tree(n int) (int, []api.Clause) {
	var levels []bool
	for ; n > 2; n /= 2 {
		if n%2 == 1 {
			levels = append(levels, true)
			n--
		}
		if n > 2 {
			levels = append(levels, false)
		}
	}
	vars := len(levels) + 2
	var l []api.Clause
	var more []int
	for i, at := range levels {
		if at {
			l = append(l, append(slices.Clone(more), -(i+1), vars), append(slices.Clone(more), -(i+1), -vars))
			more = append(more, i+1)
		}
	}
	return vars, append(l, square(vars-1, vars, more...)...)
}

// Promise 7.3: ErrLimit, if 2000 stand in the proof, and there was a decision: not if the 2000th is the last one.
func TestSolveLimit(t *testing.T) {
	for n := 2; n < 300; n++ {
		limited(t, n)
	}
	for _, n := range []int{1024, 1998, 1999, 2000, 2001, 2002, 2048, 4096, 5000} {
		limited(t, n)
	}
}

// limited: a search that comes to so many.
func limited(t *testing.T, n int) {
	t.Helper()
	vars, l := tree(n)
	a, err := clause.Solve(vars, l)
	if n > 2000 {
		nothing(t, a, err)
		wrong(t, n, err, api.ErrLimit, -1)
		return
	}
	if err != nil || a.Holds || a.Values != 0 || len(a.Proof) != n || len(a.Proof[n-1]) != 0 {
		t.Errorf("%d: %v, %d, %v", n, a.Holds, len(a.Proof), err)
		return
	}
	if n < 100 {
		shows(t, l, a.Proof)
	}
}

// guarded is a search that comes to so many, if variable 0 is true; if it is false, all hold.
func guarded(n int) (int, []api.Clause) {
	vars, l := tree(n)
	for i, c := range l {
		for k, x := range c {
			if x > 0 {
				c[k]++
			} else {
				c[k]--
			}
		}
		l[i] = append(c, -1)
	}
	return vars + 1, l
}

// Promise 7.3: 2000 in the proof are ErrLimit, though all would hold behind the last one; 1999 are not.
func TestSolveLimitHolds(t *testing.T) {
	for _, n := range []int{2, 3, 50, 1998, 1999} {
		vars, l := guarded(n)
		solved(t, vars, l, holds(1<<vars-2))
	}
	for _, n := range []int{2000, 2001, 3000} {
		vars, l := guarded(n)
		a, err := clause.Solve(vars, l)
		nothing(t, a, err)
		wrong(t, n, err, api.ErrLimit, -1)
	}
}

// Promise 7.3: ErrLimit with as many variables, clauses and literals as there may be.
func TestSolveLimitFull(t *testing.T) {
	l := square(api.MaxVars-1, api.MaxVars)
	for len(l) < api.MaxClauses {
		l = append(l, append(fill(2*api.MaxVars-2, api.MaxVars-2), api.MaxVars, -api.MaxVars))
	}
	a, err := clause.Solve(api.MaxVars, l)
	nothing(t, a, err)
	wrong(t, "full", err, api.ErrLimit, -1)
}
