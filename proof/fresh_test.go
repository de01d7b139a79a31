package proof_test

import (
	"math/rand"
	"slices"
	"testing"

	"solspace/api"
	"solspace/clause"
	"solspace/proof"
)

// roomy is a list with room behind its end, full of a mark.
func roomy[T any](l []T, mark T) []T {
	out := append(slices.Clone(l), mark, mark, mark)
	return out[:len(l)]
}

// whole is a list with what stands behind its end.
func whole[T any](l []T) []T { return l[:cap(l)] }

// give is clauses with room behind each list's end.
func give(l []api.Clause) []api.Clause {
	out := roomy(l, api.Clause{7, 7})
	for i, c := range out {
		out[i] = roomy(c, 777)
	}
	return out
}

// copied is clauses, with what stands behind the ends.
func copied(l []api.Clause) []api.Clause {
	out := slices.Clone(whole(l))
	for i, c := range out {
		out[i] = slices.Clone(whole(c))
	}
	return out
}

// spoil writes over clauses, and what stands behind the ends.
func spoil(l []api.Clause) {
	for _, c := range whole(l) {
		clear(whole(c))
	}
	clear(whole(l))
}

// P4: nothing that is handed in is written into, nor what stands behind it; nor is it kept: answers stay as they were.
func TestGiven(t *testing.T) {
	r := rand.New(rand.NewSource(4))
	for range 2000 {
		vars := 1 + r.Intn(4)
		l := drawn(r, vars, 1+r.Intn(4*vars), 3)
		a, _ := clause.Solve(vars, l)
		p := append(a.Proof, drawn(r, vars, r.Intn(3), 3)...)
		var steps []proof.Step
		for range r.Intn(4) {
			steps = append(steps, proof.Step{A: r.Intn(len(l)), B: r.Intn(len(l)), Var: r.Intn(vars)})
		}

		list, shown, way := give(l), give(p), roomy(steps, proof.Step{A: 7, B: 7, Var: 7})
		c, d := roomy(l[0], 777), roomy(l[len(l)-1], 777)
		was, wasShown, wasWay := copied(list), copied(shown), slices.Clone(whole(way))
		wasPair := copied(clauses(c, d))
		formed, _ := proof.Form(c)
		left, _ := proof.Resolve(c, d, 0)
		told, _ := proof.Follow(vars, list, way)
		proof.Shows(vars, list, shown)
		sizes, _, _ := proof.Eliminate(vars, list)
		if !alike(copied(list), was) || !alike(copied(shown), wasShown) || !slices.Equal(whole(way), wasWay) || !alike(copied(clauses(c, d)), wasPair) {
			t.Fatalf("%v, %v, %v: written into", l, p, steps)
		}

		spoil(list)
		spoil(shown)
		spoil(clauses(c, d))
		clear(whole(way))
		wantFormed, _ := proof.Form(l[0])
		wantLeft, _ := proof.Resolve(l[0], l[len(l)-1], 0)
		wantTold, _ := proof.Follow(vars, l, steps)
		wantSizes, _, _ := proof.Eliminate(vars, l)
		if !slices.Equal(formed, wantFormed) || !slices.Equal(left, wantLeft) || !alike(told, wantTold) || !slices.Equal(sizes, wantSizes) {
			t.Fatalf("%v, %v: answers are others behind a change", l, steps)
		}
	}
}

// P4: what Form and Resolve tell is fresh memory, though it is just what was handed in, or a piece of it.
func TestFreshClause(t *testing.T) {
	a, b := roomy(api.Clause{1, 2, 3}, 777), roomy(api.Clause{-4}, 777)
	c := roomy(api.Clause{1, 2, 3, 4}, 777)
	was := copied(clauses(a, b, c))
	formed, _ := proof.Form(a)
	left, err := proof.Resolve(c, b, 3)
	if err != nil || !slices.Equal(formed, left) {
		t.Fatal(formed, left, err)
	}
	clear(whole(formed))
	if !slices.Equal(left, a) {
		t.Errorf("two answers share memory")
	}
	clear(whole(left))
	if !alike(copied(clauses(a, b, c)), was) {
		t.Errorf("an answer shares memory with what was handed in")
	}
}

// P4: no two lists of what Follow tells share memory, nor with what was handed in, though steps lean on steps.
func TestFreshFollow(t *testing.T) {
	l := give(clauses(api.Clause{1, 2}, api.Clause{-1}, api.Clause{-2, 3}))
	steps := []proof.Step{{0, 1, 0}, {0, 1, 0}, {3, 2, 1}, {4, 2, 1}, {0, 1, 0}}
	want := clauses(api.Clause{2}, api.Clause{2}, api.Clause{3}, api.Clause{3}, api.Clause{2})
	was := copied(l)
	got, err := proof.Follow(3, l, steps)
	again, _ := proof.Follow(3, l, steps)
	if err != nil || !alike(got, want) {
		t.Fatal(got, err)
	}
	for i := range got {
		clear(whole(got[i]))
		if !alike(got[i+1:], want[i+1:]) {
			t.Fatalf("clause %d shares memory with another one", i)
		}
	}
	for _, c := range whole(got)[len(got):] {
		clear(whole(c))
	}
	clear(whole(got))
	if !alike(again, want) || !alike(copied(l), was) {
		t.Error("what Follow tells shares memory")
	}
}

// P4: sizes are fresh memory.
func TestFreshSizes(t *testing.T) {
	l := square(1, 2)
	sizes, _, _ := proof.Eliminate(2, l)
	clear(whole(sizes))
	eliminates(t, 2, l, []int{2, 1}, false)
}

// P4: a clause that stands in a list twice is no harm, nor one list as clauses and as proof.
func TestShared(t *testing.T) {
	c := api.Clause{1, 2}
	l := clauses(c, c[:1], c[1:], c)
	shows(t, 2, l, l, false, 4)
	eliminates(t, 2, l, []int{1, 0}, true)
	no := clauses(nil, c)
	shows(t, 2, no, no[:1], true, 1)
	resolves(t, api.Clause{1, -1, 2}[:2], api.Clause{1, -1, 2}[1:], 0, api.Clause{-1, 2}, api.OK)
}
