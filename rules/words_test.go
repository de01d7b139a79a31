package rules_test

import (
	"cmp"
	"fmt"
	"math/rand"
	"slices"
	"strings"
	"testing"

	"solspace/api"
	"solspace/catalog"
	"solspace/clause"
	"solspace/proof"
	"solspace/rules"
	"solspace/semver"
)

// drawn is a catalog of at most so many items, and so many lines that say something, in any order.
func drawn(t testing.TB, d *rand.Rand, items, lines int) *catalog.Catalog {
	t.Helper()
	names := []string{"a", "b", "ba", "c-1"}[:1+d.Intn(4)]
	ranges := []string{"any", "none", "1.0.0", "!1.0.0", "<2.0.0", ">=1.1.0", "^1.0.0", "~0.1.0", "<0.1.0 || >=2.1.0"}
	var there, l []string
	for _, i := range d.Perm(24 * len(names))[:1+d.Intn(items)] {
		there = append(there, fmt.Sprintf("%s %d.%d.%d", names[i/24], i%4, i/4%2, i/8%3))
		l = append(l, "package "+there[len(there)-1])
	}
	for range d.Intn(lines + 1) {
		own, other, r := there[d.Intn(len(there))], names[d.Intn(len(names))], ranges[d.Intn(len(ranges))]
		if d.Intn(8) == 0 {
			other = "z"
		}
		l = append(l, []string{
			"needs " + own + " " + other + " " + r, "clashes " + own + " " + other + " " + r, "root " + other + " " + r,
		}[d.Intn(3)])
	}
	d.Shuffle(len(l), func(i, j int) { l[i], l[j] = l[j], l[i] })
	return parsed(t, l...)
}

// kept says by the document's words whether a set of items keeps to what lines say (those that are told), and has no two of one name.
func kept(c *catalog.Catalog, lines []bool, set uint) bool {
	var in []catalog.Item
	names := map[string]int{}
	for i, item := range c.Items() {
		if set>>i&1 == 1 {
			in = append(in, item)
			names[item.Name]++
		}
	}
	for _, n := range names {
		if n > 1 {
			return false
		}
	}
	has := func(name string, r semver.Range) bool {
		return slices.ContainsFunc(in, func(x catalog.Item) bool { return x.Name == name && r.Has(x.Version) })
	}
	for n, x := range c.Lines() {
		if !lines[n] {
			continue
		}
		own := slices.Contains(in, catalog.Item{Name: x.Name, Version: x.Version})
		if x.Kind == catalog.Root && !has(x.Name, x.Range) ||
			x.Kind == catalog.Needs && own && !has(x.Other, x.Range) ||
			x.Kind == catalog.Clashes && own && has(x.Other, x.Range) {
			return false
		}
	}
	return true
}

// tried: of each set of items, all clauses hold just where it keeps to what the lines say, and those of some lines where it keeps to these.
func tried(t *testing.T, c *catalog.Catalog, some []bool) {
	t.Helper()
	r := made(t, c)
	all := slices.Repeat([]bool{true}, len(c.Lines()))
	part := r.Only(some)
	can := false
	for set := range uint(1) << r.Vars {
		if got, want := clause.AllHold(r.Clauses, set), kept(c, all, set); got != want {
			t.Fatalf("%q, %b: %v", c.Text(), set, got)
		}
		if got, want := clause.AllHold(part, set), kept(c, some, set); got != want {
			t.Fatalf("%q, %b, only %v: %v", c.Text(), set, some, got)
		}
		can = can || kept(c, all, set)
	}
	if a, err := clause.Solve(r.Vars, r.Clauses); err != nil || a.Holds != can {
		t.Fatalf("%q: Solve: %v, %v", c.Text(), a, err)
	}
	if _, got, err := proof.Eliminate(r.Vars, r.Clauses); err != nil || got != can {
		t.Fatalf("%q: Eliminate: %v, %v", c.Text(), got, err)
	}
}

// Promise 9.1: all small catalogs of up to two lines that say something: what the clauses allow is what the document's words do.
func TestSmall(t *testing.T) {
	all := []string{"a 1.0.0", "a 2.0.0", "b 1.0.0"}
	for set := range 8 {
		var there, say []string
		for i, x := range all {
			if set>>i&1 == 1 {
				there = append(there, x)
			}
		}
		for _, other := range []string{"a", "b"} {
			for _, r := range []string{"any", "none", "1.0.0", "!1.0.0"} {
				say = append(say, "root "+other+" "+r)
				for _, x := range there {
					say = append(say, "needs "+x+" "+other+" "+r, "clashes "+x+" "+other+" "+r)
				}
			}
		}
		var packages []string
		for _, x := range there {
			packages = append(packages, "package "+x)
		}
		for _, x := range say {
			for _, y := range say {
				lines := append([]string{x, y}, packages...)
				tried(t, parsed(t, lines...), slices.Concat([]bool{false, true}, make([]bool, len(packages))))
			}
		}
	}
}

// Promise 9.1: catalogs that are drawn: what the clauses allow is what the document's words do, of all lines and of some.
func TestDrawn(t *testing.T) {
	d := rand.New(rand.NewSource(2))
	for range 1500 {
		c := drawn(t, d, 7, 8)
		some := make([]bool, len(c.Lines()))
		for i := range some {
			some[i] = d.Intn(2) == 0
		}
		tried(t, c, some)
	}
}

// spelt is what the document asks of a catalog's clauses, as texts, by going through all items each time.
func spelt(c *catalog.Catalog) []string {
	items := c.Items()
	var pairs [][2]int
	for i, x := range items {
		for k, y := range items {
			if i < k && x.Name == y.Name {
				pairs = append(pairs, [2]int{i, k})
			}
		}
	}
	slices.SortFunc(pairs, func(p, q [2]int) int { return cmp.Or(cmp.Compare(p[1], q[1]), cmp.Compare(p[0], q[0])) })
	var out []string
	for _, p := range pairs {
		out = append(out, fmt.Sprintf("-1 [-%d -%d]", p[0]+1, p[1]+1))
	}
	for n, x := range c.Lines() {
		name := x.Other
		if x.Kind == catalog.Root {
			name = x.Name
		}
		own := slices.Index(items, catalog.Item{Name: x.Name, Version: x.Version}) + 1
		var among []string
		for k, y := range items {
			if y.Name == name && x.Range.Has(y.Version) {
				among = append(among, fmt.Sprint(k+1))
			}
		}
		switch x.Kind {
		case catalog.Root:
			out = append(out, fmt.Sprintf("%d [%s]", n, strings.Join(among, " ")))
		case catalog.Needs:
			out = append(out, fmt.Sprintf("%d [%s]", n, strings.Join(append([]string{fmt.Sprint(-own)}, among...), " ")))
		case catalog.Clashes:
			for _, k := range among {
				out = append(out, fmt.Sprintf("%d [-%d -%s]", n, own, k))
			}
		}
	}
	return out
}

// Promise 9.1: catalogs that are drawn, clause by clause, up to the most items and many lines; too many clauses are refused.
func TestSpelt(t *testing.T) {
	d := rand.New(rand.NewSource(3))
	var taken, over int
	for range 3000 {
		c := drawn(t, d, 24, 70)
		want := spelt(c)
		r, err := rules.Of(c)
		if len(want) > api.MaxClauses {
			over++
			if err != error(api.ErrLimit) || r.Vars != 0 || len(r.Clauses) > 0 || len(r.From) > 0 {
				t.Fatalf("%q: %v, %v", c.Text(), r, err)
			}
			continue
		}
		taken++
		if err != nil || r.Vars != len(c.Items()) || !slices.Equal(told(r), want) {
			t.Fatalf("%q: %v, %v, want %q", c.Text(), r, err, want)
		}
		if err := clause.Check(r.Vars, r.Clauses); err != nil {
			t.Fatalf("%q: Check: %v", c.Text(), err)
		}
	}
	if taken < 500 || over < 100 {
		t.Errorf("%d catalogs were taken, %d refused", taken, over)
	}
}

// Promise 9.1: the document's examples of chapters 10 and 11, and README's.
func TestExamples(t *testing.T) {
	says(t, 2, []string{"package a 1.0.0", "needs a 1.0.0 b any", "package b 1.0.0"}, "1 [-1 2]")
	says(t, 1, []string{"package a 1.0.0", "root a any", "clashes a 1.0.0 a any"}, "1 [1]", "2 [-1 -1]")
	says(t, 2, []string{"package a 1.0.0", "package a 2.0.0", "needs a 2.0.0 b ^1.0.0", "root a any"}, "-1 [-1 -2]", "2 [-1]", "3 [1 2]")
}
