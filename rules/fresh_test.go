package rules_test

import (
	"math/rand"
	"slices"
	"testing"

	"solspace/api"
	"solspace/catalog"
	"solspace/rules"
)

// roomy is a list with room behind its end, full of a mark.
func roomy[T any](l []T, mark T) []T {
	out := append(slices.Clone(l), mark, mark, mark)
	return out[:len(l)]
}

// whole is a list with what stands behind its end.
func whole[T any](l []T) []T { return l[:cap(l)] }

// copied is clauses, with what stands behind the ends.
func copied(l []api.Clause) []api.Clause {
	out := slices.Clone(whole(l))
	for i, c := range out {
		out[i] = slices.Clone(whole(c))
	}
	return out
}

// spoil writes over clauses, and what stands behind the ends.
func spoil(l []api.Clause) {
	for _, c := range whole(l) {
		mark(whole(c))
	}
	clear(whole(l))
}

// mark writes over numbers.
func mark(l []int) {
	for i := range l {
		l[i] = 777
	}
}

// give is rules with room behind each list's end.
func give(r rules.Rules) rules.Rules {
	r.Clauses = roomy(r.Clauses, api.Clause{7, 7})
	for i, c := range r.Clauses {
		r.Clauses[i] = roomy(c, 777)
	}
	r.From = roomy(r.From, -1)
	return r
}

// P4: a catalog is as it was behind Of, though what came out is written over.
func TestCatalogStays(t *testing.T) {
	d := rand.New(rand.NewSource(4))
	for range 500 {
		c := drawn(t, d, 8, 12)
		text, items := c.Text(), c.Items()
		first, second := made(t, c), made(t, c)
		want := told(first)
		spoil(first.Clauses)
		mark(whole(first.From))
		if !slices.Equal(told(second), want) {
			t.Fatalf("%q: two answers share memory", text)
		}
		if c.Text() != text || !slices.Equal(c.Items(), items) || !slices.Equal(told(made(t, c)), want) {
			t.Fatalf("%q: written into", text)
		}
	}
}

// P4: no two lists of what Of tells share memory, nor of what Only tells.
func TestFresh(t *testing.T) {
	d := rand.New(rand.NewSource(5))
	for range 500 {
		c := drawn(t, d, 8, 12)
		r, want := made(t, c), made(t, c)
		part := r.Only(slices.Repeat([]bool{true}, len(c.Lines())))
		apart(t, c, r.Clauses, want.Clauses)
		if !slices.Equal(r.From, want.From) {
			t.Fatalf("%q: From shares memory with a clause", c.Text())
		}
		if !alike(part, want.Clauses) {
			t.Fatalf("%q: what Only tells shares memory with the rules", c.Text())
		}
		apart(t, c, part, want.Clauses)
	}
}

// apart: of clauses that are written over one by one, the others stay as they were.
func apart(t *testing.T, c *catalog.Catalog, got, want []api.Clause) {
	t.Helper()
	for i := range got {
		mark(whole(got[i]))
		if !alike(got[i+1:], want[i+1:]) {
			t.Fatalf("%q: clause %d shares memory with another one", c.Text(), i)
		}
	}
}

// P4: Only writes neither into the lines that it is told nor into the rules, nor behind them; nor keeps them.
func TestOnlyGiven(t *testing.T) {
	d := rand.New(rand.NewSource(6))
	for range 1000 {
		c := drawn(t, d, 8, 12)
		plain := made(t, c)
		r := give(plain)
		flags := make([]bool, d.Intn(len(c.Lines())+3))
		for i := range flags {
			flags[i] = d.Intn(2) == 0
		}
		lines := roomy(flags, true)
		wasLines, wasClauses, wasFrom := slices.Clone(whole(lines)), copied(r.Clauses), slices.Clone(whole(r.From))
		got := r.Only(lines)
		if !slices.Equal(whole(lines), wasLines) || !alike(copied(r.Clauses), wasClauses) || !slices.Equal(whole(r.From), wasFrom) {
			t.Fatalf("%q, %v: written into", c.Text(), flags)
		}
		clear(whole(lines))
		spoil(r.Clauses)
		mark(whole(r.From))
		if !alike(got, plain.Only(flags)) {
			t.Fatalf("%q, %v: the answer is another one behind a change", c.Text(), flags)
		}
	}
}

// P4: what Only tells is fresh memory: the rules stay as they were, though it is written over.
func TestOnlyFresh(t *testing.T) {
	r, want := mixed(t), mixed(t)
	all := slices.Repeat([]bool{true}, 8)
	for _, lines := range [][]bool{nil, all, all[:5]} {
		first, second := r.Only(lines), r.Only(lines)
		spoil(first)
		if !alike(second, want.Only(lines)) || !slices.Equal(told(r), told(want)) {
			t.Errorf("only %v: what is told shares memory", lines)
		}
	}
}

// P4: a clause that stands twice in rules is told as two lists.
func TestOnlyShared(t *testing.T) {
	c := api.Clause{1, 2}
	r := rules.Rules{Vars: 2, Clauses: []api.Clause{c, c, c[:1]}, From: []int{-1, -1, -1}}
	got := r.Only(nil)
	mark(whole(got[0]))
	if !slices.Equal(got[1], api.Clause{1, 2}) || !slices.Equal(got[2], api.Clause{1}) || !slices.Equal(c, api.Clause{1, 2}) {
		t.Errorf("%v, %v", got, c)
	}
}
