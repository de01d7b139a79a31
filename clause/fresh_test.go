package clause_test

import (
	"math/rand"
	"slices"
	"testing"

	"solspace/api"
	"solspace/clause"
)

// given are lists with room behind their ends, in which something stands.
type given struct {
	clauses []api.Clause
	assume  []int
}

// roomy is a list with room behind its end, full of a mark.
func roomy[T any](l []T, mark T) []T {
	out := append(slices.Clone(l), mark, mark, mark)
	return out[:len(l)]
}

// whole is a list with what stands behind its end.
func whole[T any](l []T) []T { return l[:cap(l)] }

func give(l []api.Clause, assume []int) given {
	g := given{roomy(l, api.Clause{7, 7}), roomy(assume, 77)}
	for i, c := range g.clauses {
		g.clauses[i] = roomy(c, 777)
	}
	return g
}

// copied is all that is given, with what stands behind the ends.
func (g given) copied() given {
	out := given{slices.Clone(whole(g.clauses)), slices.Clone(whole(g.assume))}
	for i, c := range out.clauses {
		out.clauses[i] = slices.Clone(whole(c))
	}
	return out
}

func (g given) same(o given) bool {
	a := g.copied()
	return alike(a.clauses, o.clauses) && slices.Equal(a.assume, o.assume)
}

// spoil writes over all that is given.
func (g given) spoil() {
	for _, c := range whole(g.clauses) {
		clear(whole(c))
	}
	clear(whole(g.clauses))
	clear(whole(g.assume))
}

// P4: nothing that is handed in is written into, nor what stands behind it; nor is it kept: answers stay as they were.
func TestGiven(t *testing.T) {
	r := rand.New(rand.NewSource(4))
	for range 2000 {
		vars := 1 + r.Intn(5)
		l := drawn(r, vars, r.Intn(5*vars), 3)
		assume, _ := assumed(vars, []int{side(r, vars), side(r, vars)})
		g := give(l, assume)
		was := g.copied()

		clause.Check(vars, g.clauses)
		clause.AllHold(g.clauses, uint(r.Intn(32)))
		told, n, err := clause.Follows(vars, g.clauses, g.assume)
		a, err2 := clause.Solve(vars, g.clauses)
		if err != nil || err2 != nil {
			t.Fatal(err, err2)
		}
		if !g.same(was) {
			t.Fatalf("%v, %v: written into", l, assume)
		}
		g.spoil()
		want, number := spread(l, assume)
		if !slices.Equal(told, want) || n != number {
			t.Fatalf("%v, %v: %v and %d behind a change", l, assume, told, n)
		}
		if want, _ := search(vars, l, 2000); a.Holds != want.Holds || a.Values != want.Values || !alike(a.Proof, want.Proof) {
			t.Fatalf("%v: %v behind a change; want %v", l, a, want)
		}
	}
}

// P4: what Follows tells is fresh memory, though it is just what was assumed.
func TestFreshTold(t *testing.T) {
	for _, assume := range [][]int{{1}, {1, 2, 3}, {1, 1, 2}} {
		g := give(clauses(api.Clause{1, 2}), assume)
		was := g.copied()
		told, _, err := clause.Follows(4, g.clauses, g.assume)
		again, _, _ := clause.Follows(4, g.clauses, g.assume)
		if err != nil {
			t.Fatal(err)
		}
		want := slices.Clone(again)
		clear(whole(told))
		if !g.same(was) || !slices.Equal(again, want) {
			t.Errorf("%v: what is told shares memory", assume)
		}
	}
}

// P4: no two lists of an answer share memory, nor those of two answers, nor with what was handed in.
func TestFreshProof(t *testing.T) {
	vars, l := tree(41)
	g := give(l, nil)
	was := g.copied()
	a, err := clause.Solve(vars, g.clauses)
	b, _ := clause.Solve(vars, g.clauses)
	if err != nil || len(a.Proof) != 41 || !alike(a.Proof, b.Proof) {
		t.Fatal(a, b, err)
	}
	for i := range a.Proof {
		clear(whole(a.Proof[i]))
		if !alike(a.Proof[i+1:], b.Proof[i+1:]) {
			t.Fatalf("clause %d shares memory with another one", i)
		}
	}
	clear(whole(a.Proof))
	c, _ := clause.Solve(vars, l)
	if !alike(b.Proof, c.Proof) || !g.same(was) {
		t.Error("a proof shares memory")
	}
}

// P4: a clause that stands in a list twice is no harm, nor one list as clauses and as what is assumed.
func TestShared(t *testing.T) {
	c := api.Clause{1, 2}
	solved(t, 2, clauses(c, c, c), holds(0b11))
	follows(t, 2, clauses(c, c), c, c, -1)
	follows(t, 2, clauses(c[:1], c[1:]), c[1:], []int{2, 1}, -1)
}
