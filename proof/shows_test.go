package proof_test

import (
	"math"
	"math/rand"
	"slices"
	"testing"

	"solspace/api"
	"solspace/clause"
	"solspace/proof"
)

// shows: Shows says that.
func shows(t *testing.T, vars int, l, p []api.Clause, want bool, number int) {
	t.Helper()
	if ok, n, err := proof.Shows(vars, l, p); ok != want || n != number || err != nil {
		t.Errorf("Shows of %d, %v, %v (of %d): %v, %d, %v; want %v, %d", vars, l, p[:min(len(p), 10)], len(p), ok, n, err, want, number)
	}
}

// unshown: Shows has that error, at that place, and nothing beside it.
func unshown(t *testing.T, vars int, l, p []api.Clause, want api.Errno, place int) {
	t.Helper()
	ok, n, err := proof.Shows(vars, l, p)
	if ok || n != 0 {
		t.Errorf("Shows of %d, %v: %v and %d beside %v", vars, l, ok, n, err)
	}
	wrong(t, "Shows", err, want, place)
}

// follows goes by the words of 8.3: the other sides of a clause are told, and spread by Follows of 7.2.
func follows(vars int, c api.Clause, known []api.Clause) bool {
	var told []int
	for _, x := range c {
		if slices.Contains(c, -x) {
			return true
		}
		told = append(told, -x)
	}
	_, n, err := clause.Follows(vars, known, told)
	return err == nil && n >= 0
}

// shown goes by the words of 8.3, of good literals.
func shown(vars int, l, p []api.Clause) (bool, int) {
	for i, c := range p {
		if !follows(vars, c, slices.Concat(l, p[:i])) {
			return false, i
		}
	}
	return len(p) > 0 && len(p[len(p)-1]) == 0, len(p)
}

// canHold says by trying all values whether all clauses can hold.
func canHold(vars int, l []api.Clause) bool {
	for values := range uint(1) << vars {
		if clause.AllHold(l, values) {
			return true
		}
	}
	return false
}

// square is four clauses that can't all hold, of which none can't by spreading alone.
func square(a, b int) []api.Clause {
	return clauses(api.Clause{a, b}, api.Clause{-a, b}, api.Clause{a, -b}, api.Clause{-a, -b})
}

// Promise 8.3: what Check says of l, ahead of all else.
func TestShowsCheck(t *testing.T) {
	for _, x := range refusals() {
		unshown(t, x.vars, x.l, nil, x.want, x.place)
		unshown(t, x.vars, x.l, clauses(nil), x.want, x.place)
		unshown(t, x.vars, x.l, clauses(api.Clause{0}), x.want, x.place)
		unshown(t, x.vars, x.l, fill(5001, api.Clause{1}), x.want, x.place)
	}
}

// Promise 8.3: 5000 clauses in the proof, and one more.
func TestShowsLimit(t *testing.T) {
	l := clauses(api.Clause{1}, api.Clause{-1, 2})
	for _, n := range []int{1, 4999, 5000} {
		shows(t, 2, l, fill(n, api.Clause{2}), false, n)
		shows(t, 2, clauses(nil), fill(n, api.Clause(nil)), true, n)
		shows(t, 2, nil, fill(n, api.Clause{1, -1}), false, n)
		shows(t, 2, l, append(fill(n-1, api.Clause{2}), api.Clause{-2}), false, n-1)
		shows(t, 2, l, append(fill(n-1, api.Clause{2}), api.Clause{3}), false, n-1)
		shows(t, 2, append(l, api.Clause{-2}), append(fill(n-1, api.Clause{2}), nil), true, n)
	}
	for _, n := range []int{5001, 5002, 20000} {
		unshown(t, 2, l, fill(n, api.Clause{2}), api.ErrLimit, -1)
		unshown(t, 2, clauses(nil), fill(n, api.Clause(nil)), api.ErrLimit, -1)
		unshown(t, 2, l, fill(n, api.Clause{0}), api.ErrLimit, -1) // ahead of what is wrong with the first one
	}
}

// Promise 8.3: literals that are 0, or beyond vars, wherever they stand, whatever stands beside them.
func TestShowsLiterals(t *testing.T) {
	for vars := range api.MaxVars + 1 {
		for _, x := range []int{0, vars + 1, -vars - 1, vars + 2, 64, -64, 65, -65, math.MaxInt, math.MinInt, math.MinInt + 1} {
			for _, at := range []int{0, 1, 3} {
				good := fill[api.Clause](at, nil)
				for _, c := range []api.Clause{{x}, {x, x}, {x, -x}} {
					shows(t, vars, clauses(nil), append(good, c), false, at)
					shows(t, vars, clauses(nil), append(good, c, nil), false, at)
				}
				if vars > 0 { // it would follow, but for that one
					shows(t, vars, clauses(nil), append(good, api.Clause{1, x, -1}, nil), false, at)
					shows(t, vars, clauses(nil), append(good, api.Clause{1, -1, x}, nil), false, at)
					shows(t, vars, clauses(api.Clause{1}), append(fill(at, api.Clause{1}), api.Clause{1, x}), false, at)
				}
			}
		}
		for x := 1; x <= vars; x++ {
			shows(t, vars, clauses(nil), clauses(api.Clause{x}, api.Clause{-x}, nil), true, 3)
			shows(t, vars, clauses(api.Clause{x}, api.Clause{-x}), clauses(nil), true, 1)
		}
	}
}

// Promise 8.3: a clause with a literal and its other side follows, from nothing too; nothing follows by it.
func TestShowsBothSides(t *testing.T) {
	shows(t, 2, nil, clauses(api.Clause{1, -1}), false, 1)
	shows(t, 2, nil, clauses(api.Clause{-2, 1, 2}, api.Clause{2, -1, -2, 1}), false, 2)
	shows(t, 2, nil, clauses(api.Clause{1, -1}, nil), false, 1)
	shows(t, 2, nil, clauses(api.Clause{1, -1}, api.Clause{1}), false, 1)
	shows(t, 2, clauses(api.Clause{1, -1}, api.Clause{2, 1, -2}), clauses(nil), false, 0)
	shows(t, 2, clauses(api.Clause{1, -1}, api.Clause{2}), clauses(api.Clause{1}), false, 0)
	shows(t, api.MaxVars, nil, clauses(api.Clause{api.MaxVars, -api.MaxVars}, nil), false, 1)
}

// Promise 8.3: which clauses follow; the number of the first one that doesn't.
func TestShowsFollow(t *testing.T) {
	l := clauses(api.Clause{-1, 2}, api.Clause{-2, 3})
	shows(t, 3, l, clauses(api.Clause{-1, 3}), false, 1)
	shows(t, 3, l, clauses(api.Clause{3, -1, 3, -1}), false, 1)
	shows(t, 3, l, clauses(fill(500, -1), nil), false, 0)
	shows(t, 3, l, clauses(append(fill(500, -1), 3), nil), false, 1) // more literals than l may have
	shows(t, 3, l, clauses(api.Clause{-1, 2}, api.Clause{-1}), false, 1)
	shows(t, 3, l, clauses(api.Clause{1, -3}), false, 0)
	shows(t, 3, l, clauses(api.Clause{-1, 3}, api.Clause{-1, 2, 3}, api.Clause{3}, api.Clause{0}), false, 2)
	shows(t, 3, l, clauses(nil), false, 0)
	shows(t, 3, nil, clauses(nil), false, 0)
	shows(t, 3, nil, clauses(api.Clause{1}), false, 0)
	// A literal of l may stand twice, and be the one that is left.
	shows(t, 2, clauses(api.Clause{2, 1, 2}, api.Clause{-2, -2, 1}), clauses(api.Clause{1}), false, 1)
}

// Promise 8.3: a clause that follows by one that stands ahead of it in the proof alone, and not by one behind it.
func TestShowsAhead(t *testing.T) {
	l := square(1, 2)
	shows(t, 2, l, clauses(api.Clause{1}, nil), true, 2)
	shows(t, 2, l, clauses(nil), false, 0)
	shows(t, 2, l, clauses(nil, api.Clause{1}), false, 0)
	shows(t, 2, l, clauses(api.Clause{1}, api.Clause{-1}, nil), true, 3)
	cube := append(square(1, 2), square(1, 2)...)
	for i := range cube {
		cube[i] = append(cube[i], []int{3, -3}[i/4])
	}
	shows(t, 3, cube, clauses(api.Clause{1, 2}, api.Clause{1, -2}, api.Clause{1}, api.Clause{-1, 2}, nil), true, 5)
	shows(t, 3, cube, clauses(api.Clause{1, 2}, api.Clause{1, -2}, nil), false, 2)
	shows(t, 3, cube, clauses(api.Clause{1, 2}, api.Clause{1}, nil), false, 2)
	shows(t, 3, cube, clauses(api.Clause{1}, api.Clause{1, 2}, nil), false, 0)
}

// Promise 8.3: clauses that stand beyond MaxClauses in the proof are leant on too; each follows by the one ahead.
func TestShowsFarAhead(t *testing.T) {
	p := fill(4000, api.Clause{1, 2})
	p = append(p, api.Clause{1})
	p = append(p, fill(998, api.Clause{1, -2})...)
	shows(t, 2, square(1, 2), append(slices.Clone(p), nil), true, 5000)
	p[4000] = api.Clause{2, 1}
	shows(t, 2, square(1, 2), append(p, nil), false, 4999)
}

// Promise 8.3: a chain through all variables, whichever way its clauses stand.
func TestShowsChain(t *testing.T) {
	var l []api.Clause
	for v := 1; v < api.MaxVars; v++ {
		l = append(l, api.Clause{-v, v + 1})
	}
	for range 2 {
		shows(t, api.MaxVars, l, clauses(api.Clause{api.MaxVars, -1}), false, 1)
		shows(t, api.MaxVars, l, clauses(api.Clause{api.MaxVars, -2}, api.Clause{api.MaxVars - 1, -1}, api.Clause{-1}), false, 2)
		shows(t, api.MaxVars, append(l, api.Clause{1}, api.Clause{-api.MaxVars}), clauses(nil), true, 1)
		slices.Reverse(l)
	}
}

// Promise 8.3: where the last one has literals, and where there is none.
func TestShowsEnd(t *testing.T) {
	for _, none := range [][]api.Clause{nil, {}} {
		shows(t, 0, nil, none, false, 0)
		shows(t, 0, clauses(nil), none, false, 0)
		shows(t, 1, clauses(api.Clause{1}, api.Clause{-1}), none, false, 0)
	}
	shows(t, 0, clauses(nil), clauses(nil), true, 1)
	shows(t, 0, clauses(nil), clauses(api.Clause{}, nil), true, 2)
	shows(t, 0, nil, clauses(nil), false, 0)
	l := clauses(api.Clause{1}, api.Clause{-1})
	shows(t, 1, l, clauses(nil), true, 1)
	shows(t, 1, l, clauses(api.Clause{1}), false, 1)
	shows(t, 1, l, clauses(nil, api.Clause{1}), false, 2)
	shows(t, 1, l, clauses(nil, api.Clause{1, -1}), false, 2)
	shows(t, 1, l, clauses(nil, api.Clause{1}, nil), true, 3)
}

// isSo: what Shows says is what its words do; and so it is: what follows holds of all values of which those ahead do, and what is shown can't be.
func isSo(t *testing.T, vars int, l, p []api.Clause) {
	t.Helper()
	want, number := shown(vars, l, p)
	shows(t, vars, l, p, want, number)
	for values := range uint(1) << vars {
		if clause.AllHold(l, values) && (want || !clause.AllHold(p[:number], values)) {
			t.Fatalf("%v, %v: %v, %d, but all hold of %b", l, p, want, number, values)
		}
	}
}

// Promise 8.3: all lists and proofs of at most two clauses, of at most two literals, of two variables.
func TestShowsAllSmall(t *testing.T) {
	lists := small(smallClauses(2), 2)
	for _, l := range lists {
		for _, p := range lists {
			isSo(t, 2, l, p)
		}
	}
}

// Promise 8.3: drawn lists and proofs.
func TestShowsDrawn(t *testing.T) {
	r := rand.New(rand.NewSource(83))
	var yes, no, far int
	for range 10000 {
		vars := 1 + r.Intn(6)
		l := drawn(r, vars, r.Intn(6*vars), 1+r.Intn(4))
		p := drawn(r, vars, r.Intn(8), 4)
		if r.Intn(2) == 0 {
			p = slices.DeleteFunc(p, func(c api.Clause) bool { return !follows(vars, c, l) })
		}
		if r.Intn(2) == 0 {
			p = append(p, nil)
		}
		isSo(t, vars, l, p)
		switch ok, n := shown(vars, l, p); {
		case ok:
			yes++
		case n > 1:
			far++
		default:
			no++
		}
	}
	if yes < 500 || no < 500 || far < 500 {
		t.Errorf("%d, %d, %d: too few of some", yes, no, far)
	}
}

// Promise 8.3 and DOC 5: what can't be is shown, by what Solve tells; without some clause of it, or with the last one alone, by its words.
func TestShowsSolve(t *testing.T) {
	r := rand.New(rand.NewSource(831))
	long := 0
	for range 1000 {
		vars := 3 + r.Intn(5)
		l := drawn(r, vars, 12*vars+r.Intn(12*vars), 4)
		l = slices.DeleteFunc(l, func(c api.Clause) bool { return len(c) < 3 })
		a, err := clause.Solve(vars, l)
		if err != nil || a.Holds != canHold(vars, l) {
			t.Fatal(l, a, err)
		}
		if a.Holds {
			shows(t, vars, l, nil, false, 0)
			continue
		}
		n := len(a.Proof)
		shows(t, vars, l, a.Proof, true, n)
		if n > 1 {
			shows(t, vars, l, a.Proof[:n-1], false, n-1)
			long++
		}
		isSo(t, vars, l, a.Proof[n-1:])
		k := r.Intn(n)
		isSo(t, vars, l, slices.Delete(slices.Clone(a.Proof), k, k+1))
	}
	if long < 300 {
		t.Errorf("%d long ones: too few", long)
	}
}

// Promise 8.3: a long proof that Solve tells, and with one clause of it changed.
func TestShowsLong(t *testing.T) {
	const vars = 11
	l := square(vars-1, vars) // the nine others are tried both ways
	a, err := clause.Solve(vars, l)
	if err != nil || len(a.Proof) < 1000 {
		t.Fatal(len(a.Proof), err)
	}
	shows(t, vars, l, a.Proof, true, len(a.Proof))
	a.Proof[700] = api.Clause{vars}
	shows(t, vars, l[2:], a.Proof, false, 0)
	shows(t, vars, l, a.Proof, true, len(a.Proof)) // that follows too
	a.Proof[700] = nil
	shows(t, vars, l, a.Proof, false, 700)
}

// Promises 8.2, 8.3: what steps tell follows, each by those ahead.
func TestShowsSteps(t *testing.T) {
	r := rand.New(rand.NewSource(832))
	empty := 0
	for range 2000 {
		const vars = 3
		l := drawn(r, vars, 4+r.Intn(10), 3)
		var steps []proof.Step
		var p []api.Clause
		for range 100 {
			n := len(l) + len(steps)
			more := append(steps, proof.Step{A: r.Intn(n), B: r.Intn(n), Var: r.Intn(vars)})
			if q, err := proof.Follow(vars, l, more); err == nil {
				steps, p = more, q
			}
		}
		last := len(p) > 0 && len(p[len(p)-1]) == 0
		shows(t, vars, l, p, last, len(p))
		if last {
			empty++
		}
	}
	if empty < 20 {
		t.Errorf("%d that come to nothing: too few", empty)
	}
}
