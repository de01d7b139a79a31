package reason_test

import (
	"math/rand"
	"slices"
	"testing"

	"solspace/api"
	"solspace/catalog"
	"solspace/reason"
)

// tried holds Cores of a catalog against trying all sets of lines, and its cores and fixes against each other.
func tried(t *testing.T, c *catalog.Catalog) {
	t.Helper()
	m := modelOf(c)
	var cores, fixes []uint
	for set := range m.all() + 1 {
		if bare(set, func(x uint) bool { return !m.can(x) }) {
			cores = append(cores, set)
		}
		if bare(set, func(x uint) bool { return m.can(m.all() &^ x) }) {
			fixes = append(fixes, set)
		}
	}
	gotCores, gotFixes, err := reason.Cores(c)
	if err != nil || !slices.Equal(gotCores, cores) || !slices.Equal(gotFixes, fixes) {
		t.Fatalf("%q: %b, %b, %v; want %b, %b", c.Text(), gotCores, gotFixes, err, cores, fixes)
	}
	// What would have to go is what has something of each core, and the other way round.
	if l, err := reason.Reiter(len(m.lines), cores); err != nil || !slices.Equal(l, fixes) {
		t.Fatalf("%q: the cores %b are hit by %b, %v", c.Text(), cores, l, err)
	}
	if l, err := reason.Reiter(len(m.lines), fixes); err != nil || !slices.Equal(l, cores) {
		t.Fatalf("%q: the fixes %b are hit by %b, %v", c.Text(), fixes, l, err)
	}
}

// Promise 11.2: Cores of all small catalogs, against trying all sets of lines.
func TestCoresSmall(t *testing.T) {
	smalls(t, func(c *catalog.Catalog) { tried(t, c) })
}

// Promise 11.2: Cores of catalogs that are drawn, against trying all sets of lines.
func TestCoresDrawn(t *testing.T) {
	d := rand.New(rand.NewSource(1))
	several := 0
	for range 800 {
		c := drawn(t, d, 7, 8)
		tried(t, c)
		if cores, fixes, _ := reason.Cores(c); len(cores) > 2 && len(fixes) > 2 {
			several++
		}
	}
	if several < 20 {
		t.Errorf("%d times several cores and fixes", several)
	}
	for range 40 {
		tried(t, drawn(t, d, 6, 10))
	}
}

// Promise 11.2: where all can be together there is no core, and the fix is nothing.
func TestCoresOfNone(t *testing.T) {
	for _, c := range []*catalog.Catalog{
		nil,
		new(catalog.Catalog),
		parsed(t),
		parsed(t, "package a 1.0.0"),
		parsed(t, versions("a", 20)...),
		parsed(t, "package a 1.0.0", "root a any"),
		parsed(t, "package a 1.0.0", "package b 1.0.0", "root a any", "needs a 1.0.0 b any", "clashes b 1.0.0 z any"),
		parsed(t, append([]string{"package a 1.0.0"}, slices.Repeat([]string{"root a any"}, 10)...)...),
	} {
		are(t, nil, []uint{0})(reason.Cores(c))
	}
}

// Promise 11.2: bit k is the k-th line that says something, with lines of packages between them.
func TestCoresBits(t *testing.T) {
	c := parsed(t, "root z any")
	are(t, []uint{1}, []uint{1})(reason.Cores(c))
	c = parsed(t, "package a 1.0.0", "package b 1.0.0", "root z any")
	are(t, []uint{1}, []uint{1})(reason.Cores(c))
	c = parsed(t, "package a 1.0.0", "root a any", "package b 1.0.0", "package c 1.0.0", "root z any", "package d 1.0.0")
	are(t, []uint{0b10}, []uint{0b10})(reason.Cores(c))
	c = parsed(t, "root a any", "package a 1.0.0", "package b 1.0.0", "root b any", "package c 1.0.0", "clashes a 1.0.0 b any")
	are(t, []uint{0b111}, []uint{1, 2, 4})(reason.Cores(c))
	// A line that says what no items forbid has a bit too.
	c = parsed(t, "package a 1.0.0", "clashes a 1.0.0 z any", "root a any", "clashes a 1.0.0 a none", "clashes a 1.0.0 a any")
	are(t, []uint{0b1010}, []uint{0b0010, 0b1000})(reason.Cores(c))
}

// Promise 11.2: several cores and fixes, by hand, rising.
func TestCoresOfSeveral(t *testing.T) {
	c := parsed(t, "root z any", "root y any", "root x any")
	are(t, []uint{1, 2, 4}, []uint{7})(reason.Cores(c))
	// One line is against each of three.
	c = parsed(t, "package a 1.0.0", "root a any", "needs a 1.0.0 z any", "needs a 1.0.0 y any", "clashes a 1.0.0 a any")
	are(t, []uint{0b0011, 0b0101, 0b1001}, []uint{0b0001, 0b1110})(reason.Cores(c))
	// Any two of three versions.
	c = parsed(t, append(versions("a", 3), "root a 0.0.0", "root a 1.0.0", "root a 2.0.0")...)
	are(t, []uint{0b011, 0b101, 0b110}, []uint{0b011, 0b101, 0b110})(reason.Cores(c))
	// All three together, though any two can be.
	c = parsed(t, append(versions("a", 3), "root a !0.0.0", "root a !1.0.0", "root a !2.0.0")...)
	are(t, []uint{0b111}, []uint{0b001, 0b010, 0b100})(reason.Cores(c))
	// Rising as numbers, not by how many things they have.
	c = parsed(t, "package a 1.0.0", "root a any", "clashes a 1.0.0 a any", "root z any")
	are(t, []uint{0b011, 0b100}, []uint{0b101, 0b110})(reason.Cores(c))
}

// Promise 11.2: just 10 lines that say something, and more; lines of packages are not among them, however many there are.
func TestCoresLimit(t *testing.T) {
	for _, x := range []string{"root z any", "root a any", "needs a 1.0.0 a any", "clashes a 1.0.0 z any", "clashes a 1.0.0 a none"} {
		lines := append(versions("a", 12), versions("b", 12)...)
		for range 10 {
			lines = append(lines, x)
		}
		cores, fixes, err := reason.Cores(parsed(t, lines...))
		if err != nil || len(fixes) != 1 || x == "root z any" != (len(cores) == 10) {
			t.Errorf("10 times %q: %b, %b, %v", x, cores, fixes, err)
		}
		limited(t, parsed(t, append(lines, x)...))
		limited(t, parsed(t, append([]string{x}, lines...)...))
		limited(t, parsed(t, append(lines, slices.Repeat([]string{x}, 60)...)...))
	}
}

// Promise 11.2: ten roots of ten versions: each two are a core, and each nine a fix.
func TestCoresMost(t *testing.T) {
	lines := versions("a", 10)
	for i := range 10 {
		lines = append(lines, "root a "+string(rune('0'+i))+".0.0")
	}
	cores, fixes, err := reason.Cores(parsed(t, lines...))
	if err != nil || len(cores) != 45 || len(fixes) != 10 || !slices.IsSorted(cores) || !slices.IsSorted(fixes) {
		t.Fatalf("%b, %b, %v", cores, fixes, err)
	}
	for i := range 10 {
		if !slices.Contains(fixes, 1<<10-1-1<<i) {
			t.Errorf("%b", fixes)
		}
		for k := range i {
			if !slices.Contains(cores, 1<<i|1<<k) {
				t.Errorf("%b", cores)
			}
		}
	}
}

// Promise 11.2: Cores says what Of says: just MaxClauses, and one more.
func TestCoresOf(t *testing.T) {
	lines := append(versions("a", 20), "root z any")
	lines = append(lines, slices.Repeat([]string{"clashes a 1.0.0 a <3.0.0"}, 3)...)
	are(t, []uint{1}, []uint{1})(reason.Cores(parsed(t, lines...)))
	limited(t, parsed(t, append(lines, "root z any")...))
	limited(t, parsed(t, versions("a", 21)...))
	if api.MaxClauses != 190+1+9 {
		t.Error("the lines above are as many clauses as there may be")
	}
}
