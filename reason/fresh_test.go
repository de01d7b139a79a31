package reason_test

import (
	"math/rand"
	"slices"
	"testing"

	"solspace/catalog"
	"solspace/reason"
)

// roomy is a list with room behind its end, full of a mark.
func roomy(l []uint) []uint {
	return append(slices.Clone(l), 7, 7, 7)[:len(l)]
}

// whole is a list with what stands behind its end.
func whole[T any](l []T) []T { return l[:cap(l)] }

// P4: a catalog is as it was, whatever is asked of it, and what is answered hangs on nothing that was asked before.
func TestCatalogGiven(t *testing.T) {
	d := rand.New(rand.NewSource(1))
	for range 150 {
		c := drawn(t, d, 7, 8)
		text, items := c.Text(), c.Items()
		first, err := reason.Core(c)
		cores, fixes, _ := reason.Cores(c)
		for _, x := range items {
			reason.WhyNot(c, x.Name, x.Version)
			if c.Text() != text || !slices.Equal(c.Items(), items) {
				t.Fatalf("%q: written into: %q", text, c.Text())
			}
		}
		again, err2 := reason.Core(c)
		if err != err2 || !slices.Equal(again, first) {
			t.Fatalf("%q: %v, %v, and then %v, %v", text, first, err, again, err2)
		}
		are(t, cores, fixes)(reason.Cores(c))
	}
}

// P4: two lists of one answer share no memory, nor do those of two answers.
func TestCoresFresh(t *testing.T) {
	for _, c := range []*catalog.Catalog{
		parsed(t, append(versions("a", 3), "root a 0.0.0", "root a 1.0.0", "root a 2.0.0")...),
		parsed(t, "package a 1.0.0", "root a any", "needs a 1.0.0 z any", "needs a 1.0.0 y any", "clashes a 1.0.0 a any"),
		parsed(t, "root z any", "root y any", "root x any"),
	} {
		cores, fixes, err := reason.Cores(c)
		wantCores, wantFixes := slices.Clone(cores), slices.Clone(fixes)
		againCores, againFixes, _ := reason.Cores(c)
		clear(whole(cores))
		are(t, wantCores, wantFixes)(wantCores, fixes, err)
		clear(whole(fixes))
		are(t, wantCores, wantFixes)(againCores, againFixes, err)
		are(t, wantCores, wantFixes)(reason.Cores(c))
	}
}

// P4: what Core and WhyNot tell is fresh memory, each time.
func TestCoreFresh(t *testing.T) {
	c := parsed(t, "package a 1.0.0", "root a any", "clashes a 1.0.0 a any", "root a 1.0.0")
	v := c.Items()[0].Version
	for _, ask := range []func() ([]int, error){
		func() ([]int, error) { return reason.Core(c) },
		func() ([]int, error) { return reason.WhyNot(c, "a", v) },
	} {
		first, err := ask()
		again, _ := ask()
		is(t, 1, 2)(first, err)
		clear(whole(first))
		is(t, 1, 2)(again, nil)
		is(t, 1, 2)(ask())
	}
	is(t, 1, 2)(reason.Core(parsed(t, c.Text())))
}

// P4: Reiter and Smallest write neither into sets nor behind them, nor keep them; what is told is fresh memory.
func TestSetsGiven(t *testing.T) {
	d := rand.New(rand.NewSource(2))
	for range 500 {
		things := 1 + d.Intn(7)
		sets := some(d, things, d.Intn(12))
		given := roomy(sets)
		was := slices.Clone(whole(given))
		got, err := reason.Reiter(things, given)
		small := reason.Smallest(given)
		if err != nil || !slices.Equal(whole(given), was) {
			t.Fatalf("%b: written into: %b, %v", sets, whole(given), err)
		}
		want := slices.Clone(got)
		for i := range whole(given) {
			whole(given)[i] = 1
		}
		if !slices.Equal(got, want) || reason.Smallest(sets) != small {
			t.Fatalf("%b: what is told shares memory", sets)
		}
		for i := range whole(got) {
			whole(got)[i] = 1
		}
		is(t, want...)(reason.Reiter(things, sets))
	}
}
