package reason_test

import (
	"fmt"
	"math"
	"math/rand"
	"slices"
	"testing"

	"solspace/api"
	"solspace/catalog"
	"solspace/reason"
	"solspace/semver"
)

// spelt is the lines of Core, by leaving them out one by one by hand: from the last one that says something to the first.
func spelt(m model) (uint, bool) {
	left := m.all()
	if m.can(left) {
		return 0, false
	}
	for k := len(m.lines) - 1; k >= 0; k-- {
		if !m.can(left &^ (1 << k)) {
			left &^= 1 << k
		}
	}
	return left, true
}

// cored holds Core of a catalog against its model.
func cored(t *testing.T, c *catalog.Catalog) {
	t.Helper()
	m := modelOf(c)
	got, err := reason.Core(c)
	left, ok := spelt(m)
	if !ok {
		if err != error(api.ErrNone) || got != nil {
			t.Fatalf("%q: %v, %v; all can be together", c.Text(), got, err)
		}
		return
	}
	if want := m.numbers(left); err != nil || !slices.Equal(got, want) {
		t.Fatalf("%q: %v, %v; want %v", c.Text(), got, err, want)
	}
	set, lines := uint(0), c.Lines()
	for i, n := range got {
		if i > 0 && got[i-1] >= n || lines[n].Kind == catalog.Package {
			t.Fatalf("%q: %v", c.Text(), got)
		}
		set |= 1 << slices.Index(m.lines, n)
	}
	if !bare(set, func(set uint) bool { return !m.can(set) }) {
		t.Fatalf("%q: %v is no core", c.Text(), got)
	}
	// The last lines go first, so of all cores the one is told that is the least as a number.
	if len(m.lines) <= 10 {
		if cores, _, err := reason.Cores(c); err != nil || cores[0] != set {
			t.Fatalf("%q: %b of %b, %v", c.Text(), set, cores, err)
		}
	}
}

// Promise 11.1: Core of all small catalogs, against leaving lines out by hand.
func TestCoreSmall(t *testing.T) {
	smalls(t, func(c *catalog.Catalog) { cored(t, c) })
}

// Promise 11.1: Core of catalogs that are drawn, against leaving lines out by hand.
func TestCoreDrawn(t *testing.T) {
	d := rand.New(rand.NewSource(1))
	var long, none int
	// So few that there are never too many clauses.
	for _, x := range []struct{ times, items, lines int }{{600, 7, 9}, {600, 4, 20}, {300, 9, 18}, {150, 5, 38}} {
		for range x.times {
			c := drawn(t, d, x.items, x.lines)
			cored(t, c)
			l, err := reason.Core(c)
			if len(l) > 3 {
				long++
			}
			if err != nil {
				none++
			}
		}
	}
	if long < 30 || none < 300 {
		t.Errorf("%d long cores, %d times none", long, none)
	}
}

// Promise 11.1: all can be together: also without a line that says something, without a line, and without a catalog.
func TestCoreNone(t *testing.T) {
	for _, lines := range [][]string{
		{},
		{"package a 1.0.0"},
		{"package a 1.0.0", "package a 2.0.0", "package b 1.0.0"},
		{"package a 1.0.0", "root a any"},
		{"package a 1.0.0", "needs a 1.0.0 a none"},
		{"package a 1.0.0", "clashes a 1.0.0 a any"},
		{"package a 1.0.0", "clashes a 1.0.0 z any", "root a 1.0.0"},
		{"package a 1.0.0", "package a 2.0.0", "clashes a 2.0.0 a any", "root a any"},
		append(versions("a", 20), "root a any", "root a >3.0.0"),
	} {
		fails[int](t, api.ErrNone)(reason.Core(parsed(t, lines...)))
	}
	fails[int](t, api.ErrNone)(reason.Core(nil))
	fails[int](t, api.ErrNone)(reason.Core(new(catalog.Catalog)))
}

// Promise 11.1: a root alone that can't be, wherever it stands.
func TestCoreRoot(t *testing.T) {
	is(t, 0)(reason.Core(parsed(t, "root a any")))
	is(t, 0)(reason.Core(parsed(t, "root a none")))
	is(t, 1)(reason.Core(parsed(t, "package a 1.0.0", "root a 2.0.0")))
	is(t, 0)(reason.Core(parsed(t, "root a none", "package a 1.0.0")))
	is(t, 3)(reason.Core(parsed(t, "root a any", "package a 1.0.0", "needs a 1.0.0 a any", "root z any", "root a 1.0.0")))
	// What no line says, that not both are there, is in no core.
	is(t, 1, 3)(reason.Core(parsed(t, "package a 1.0.0", "root a 1.0.0", "package a 2.0.0", "root a 2.0.0")))
}

// Promise 11.1: of several cores that one is told of which the last lines are left out.
func TestCoreOfSeveral(t *testing.T) {
	is(t, 0)(reason.Core(parsed(t, "root z any", "root y any", "root x any")))
	is(t, 0)(reason.Core(parsed(t, "root z any", "root z any")))
	// The lines 1 and 2, or line 3 alone: the last one goes, though it is the shorter core.
	is(t, 1, 2)(reason.Core(parsed(t, "package a 1.0.0", "root a any", "clashes a 1.0.0 a any", "root z any")))
	is(t, 0)(reason.Core(parsed(t, "root z any", "package a 1.0.0", "root a any", "clashes a 1.0.0 a any")))
	is(t, 2)(reason.Core(parsed(t, "package a 1.0.0", "root a any", "root z any", "clashes a 1.0.0 a any")))
	// Line 2 with 1 or with 3; of lines that say the same the first one is left.
	is(t, 1, 2)(reason.Core(parsed(t, "package a 1.0.0", "root a any", "needs a 1.0.0 z any", "root a 1.0.0")))
	is(t, 1, 2)(reason.Core(parsed(t, "package a 1.0.0", "root a any", "needs a 1.0.0 z any", "root a any", "needs a 1.0.0 z any")))
	// The lines 4 and 5 with 2, with 3 or with 6.
	is(t, 2, 4, 5)(reason.Core(parsed(t, "package a 1.0.0", "package b 1.0.0", "needs a 1.0.0 b any", "needs a 1.0.0 b 1.0.0", "clashes b 1.0.0 a any", "root a any", "root b any")))
	is(t, 2, 3, 4)(reason.Core(parsed(t, "package a 1.0.0", "package b 1.0.0", "root b any", "clashes a 1.0.0 b any", "needs b 1.0.0 a any", "root b any")))
}

// Promise 11.1: as many lines in a core as there are: one needs the next one, up to one that there is not.
func TestCoreLong(t *testing.T) {
	for many := 1; many <= api.MaxPackages; many++ {
		lines, want := []string{"root a any"}, []int{0}
		for i := range many {
			lines = append(lines, fmt.Sprintf("package %c 1.0.0", 'a'+i), fmt.Sprintf("needs %c 1.0.0 %c any", 'a'+i, 'a'+i+1))
			want = append(want, len(lines)-1)
		}
		is(t, want...)(reason.Core(parsed(t, lines...)))
		slices.Reverse(lines)
		for i := range want {
			want[i] = len(lines) - 1 - want[i]
		}
		slices.Sort(want)
		is(t, want...)(reason.Core(parsed(t, lines...)))
	}
	// As many lines as a catalog may have; each that isn't needed goes.
	lines := []string{"package a 1.0.0", "root a any", "clashes a 1.0.0 a any"}
	for len(lines) < api.MaxLines {
		lines = append(lines, "needs a 1.0.0 z any")
	}
	is(t, 1, 2)(reason.Core(parsed(t, lines...)))
	slices.Reverse(lines)
	is(t, 0, api.MaxLines-2)(reason.Core(parsed(t, lines...)))
}

// Promise 11.1: Core says what Of says: just MaxClauses, and one more.
func TestCoreOf(t *testing.T) {
	// 190 clauses that no line says, and 10 of lines.
	lines := append(versions("a", 20), slices.Repeat([]string{"root z any"}, 10)...)
	is(t, 20)(reason.Core(parsed(t, lines...)))
	fails[int](t, api.ErrLimit)(reason.Core(parsed(t, append(lines, "root z any")...)))
	fails[int](t, api.ErrLimit)(reason.Core(parsed(t, versions("a", 21)...)))
}

// Promise 11.1: WhyNot: there is no such item, which is told ahead of all else.
func TestWhyNotMissing(t *testing.T) {
	most := versions("a", 2)
	for len(most) < api.MaxLines {
		most = append(most, "root z any")
	}
	for _, c := range []*catalog.Catalog{
		nil,
		new(catalog.Catalog),
		parsed(t, "root b any"),
		parsed(t, versions("a", 2)...),
		parsed(t, "package a 1.0.0", "root z any"),
		parsed(t, "package a 1.0.0", "package ab 2.0.0"),
		parsed(t, most...),
	} {
		for _, name := range []string{"b", "", "any", "none", "A", "a ", "aa", "root a any", "a\n", "\xff"} {
			fails[int](t, api.ErrMissing)(reason.WhyNot(c, name, semver.Version{1, 0, 0}))
		}
		for _, v := range []semver.Version{{2, 0, 0}, {0, 1, 0}, {1, 0, 1}, {-1, 0, 0}, {1000, 0, 0}, {0, 1000, 0}, {math.MinInt, math.MaxInt, 0}} {
			fails[int](t, api.ErrMissing)(reason.WhyNot(c, "a", v))
		}
	}
	fails[int](t, api.ErrMissing)(reason.WhyNot(parsed(t, versions("a", 21)...), "a", semver.Version{21, 0, 0}))
}

// Promise 11.1: WhyNot says what New says of one line more, and what Of says of it.
func TestWhyNotLimit(t *testing.T) {
	v := semver.Version{1, 0, 0}
	lines := versions("a", 2)
	for len(lines) < api.MaxLines-1 {
		lines = append(lines, "needs a 1.0.0 a any")
	}
	fails[int](t, api.ErrNone)(reason.WhyNot(parsed(t, lines...), "a", v))
	full := parsed(t, append(lines, "needs a 1.0.0 a any")...)
	fails[int](t, api.ErrLimit)(reason.WhyNot(full, "a", v))
	fails[int](t, api.ErrNone)(reason.Core(full))
	// Though all can't be together ahead of it.
	full = parsed(t, append(lines, "root z any")...)
	fails[int](t, api.ErrLimit)(reason.WhyNot(full, "a", v))
	is(t, api.MaxLines-1)(reason.Core(full))
	// The clause of the line that is wanted is one too many.
	lines = append(versions("a", 20), slices.Repeat([]string{"root a any"}, 9)...)
	fails[int](t, api.ErrNone)(reason.WhyNot(parsed(t, lines...), "a", v))
	most := parsed(t, append(lines, "root a any")...)
	fails[int](t, api.ErrLimit)(reason.WhyNot(most, "a", v))
	fails[int](t, api.ErrNone)(reason.Core(most))
	fails[int](t, api.ErrLimit)(reason.WhyNot(parsed(t, versions("a", 21)...), "a", v))
}

// Promise 11.1: WhyNot, by hand: the line that is wanted has the number of all lines.
func TestWhyNot(t *testing.T) {
	c := parsed(t, "package a 1.0.0", "package a 2.0.0", "package b 1.0.0", "needs b 1.0.0 a <2.0.0", "root a >=2.0.0", "clashes a 1.0.0 a any")
	is(t, 4, 6)(reason.WhyNot(c, "a", semver.Version{1, 0, 0}))
	fails[int](t, api.ErrNone)(reason.WhyNot(c, "a", semver.Version{2, 0, 0}))
	is(t, 3, 4, 6)(reason.WhyNot(c, "b", semver.Version{1, 0, 0}))
	// Without a root an item can't be by itself, or by what it needs.
	c = parsed(t, "package a 1.0.0", "clashes a 1.0.0 a any", "package b 1.0.0", "needs b 1.0.0 a any", "package c 1.0.0")
	is(t, 1, 5)(reason.WhyNot(c, "a", semver.Version{1, 0, 0}))
	is(t, 1, 3, 5)(reason.WhyNot(c, "b", semver.Version{1, 0, 0}))
	fails[int](t, api.ErrNone)(reason.WhyNot(c, "c", semver.Version{1, 0, 0}))
	// Where all can't be together already, what is wanted besides is left out first.
	c = parsed(t, "package a 1.0.0", "root z any")
	is(t, 1)(reason.WhyNot(c, "a", semver.Version{1, 0, 0}))
	// Just that version, at both ends of all versions too.
	c = parsed(t, "package a 0.0.0", "package a 0.0.1", "package a 999.999.998", "package a 999.999.999",
		"clashes a 0.0.0 a any", "clashes a 999.999.999 a any")
	is(t, 4, 6)(reason.WhyNot(c, "a", semver.Version{0, 0, 0}))
	is(t, 5, 6)(reason.WhyNot(c, "a", semver.Version{999, 999, 999}))
	fails[int](t, api.ErrNone)(reason.WhyNot(c, "a", semver.Version{0, 0, 1}))
	fails[int](t, api.ErrNone)(reason.WhyNot(c, "a", semver.Version{999, 999, 998}))
}

// Promise 11.1: WhyNot of all items of catalogs that are drawn, against Core of the catalog with that line written behind it.
func TestWhyNotDrawn(t *testing.T) {
	d := rand.New(rand.NewSource(2))
	wanted := 0
	for range 300 {
		c := drawn(t, d, 6, 8)
		text := c.Text()
		for _, item := range c.Items() {
			got, err := reason.WhyNot(c, item.Name, item.Version)
			more, err2 := catalog.Parse(text + "root " + item.Name + " " + item.Version.Text())
			if err2 != nil {
				t.Fatal(err2)
			}
			m := modelOf(more)
			left, ok := spelt(m)
			if ok && (err != nil || !slices.Equal(got, m.numbers(left))) || !ok && (err != error(api.ErrNone) || got != nil) {
				t.Fatalf("%q, %v: %v, %v", text, item, got, err)
			}
			if slices.Contains(got, len(c.Lines())) {
				wanted++
			}
		}
		if c.Text() != text {
			t.Fatalf("%q: now it is %q", text, c.Text())
		}
	}
	if wanted < 100 {
		t.Errorf("%d times what is wanted is in the core", wanted)
	}
}
