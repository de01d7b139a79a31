package plan_test

import (
	"fmt"
	"math"
	"math/rand"
	"slices"
	"testing"

	"solspace/api"
	"solspace/catalog"
	"solspace/clause"
	"solspace/plan"
	"solspace/rules"
	"solspace/space"
)

// Promise 12.1: the empty set keeps to a catalog without a line, to none at all, and to packages and lines that want nothing.
func TestFitsEmpty(t *testing.T) {
	for _, c := range []*catalog.Catalog{
		nil,
		new(catalog.Catalog),
		parsed(t),
		parsed(t, "package a 1.0.0"),
		parsed(t, "package a 1.0.0", "needs a 1.0.0 z any", "clashes a 1.0.0 a any", "needs a 1.0.0 a none"),
		parsed(t, versions("a", api.MaxVersions)...),
	} {
		fits(t, c, 0)
	}
	breaks(t, parsed(t, "root a any"), 0, 0)
	breaks(t, parsed(t, "package a 1.0.0", "root a any"), 0, 1)
}

// Promise 12.1: an item that there is not: the next one, or any bit beyond all items, with others or alone, ahead of any line.
func TestFitsMissing(t *testing.T) {
	for _, c := range []*catalog.Catalog{
		nil,
		new(catalog.Catalog),
		parsed(t),
		parsed(t, "root z any"),
		parsed(t, ones(1)...),
		parsed(t, append([]string{"root z any", "root b any"}, ones(3)...)...),
		parsed(t, append(ones(3), "needs a 1.0.0 z any", "clashes a 1.0.0 a any")...),
		parsed(t, versions("a", api.MaxVersions)...),
	} {
		for bit := len(c.Items()); bit < 64; bit++ {
			breaks(t, c, 1<<bit, -2)
			if len(c.Items()) > 0 {
				breaks(t, c, 1<<bit|1, -2)
			}
		}
		breaks(t, c, math.MaxUint, -2)
	}
	// The last item there is, is there.
	fits(t, parsed(t, ones(8)...), 1<<8-1)
	fits(t, parsed(t, versions("a", api.MaxVersions)...), 1<<(api.MaxVersions-1))
}

// Promise 12.1: two items of one name, wherever they stand, ahead of any line.
func TestFitsTwoOfOneName(t *testing.T) {
	// The numbers: 0 to 2 of a, 3 of ab, 4 and 5 of b.
	lines := []string{"root z any", "package b 1.0.0", "package a 1.0.0", "package ab 1.0.0", "package a 2.0.0", "package b 2.0.0", "package a 3.0.0",
		"clashes a 1.0.0 a any", "needs b 1.0.0 z any"}
	for _, set := range []uint{0b000011, 0b000101, 0b000110, 0b000111, 0b110000, 0b111001, 0b110111, 0b111111, 0b001011} {
		breaks(t, parsed(t, lines...), set, -2)
		breaks(t, parsed(t, lines[1:7]...), set, -2)
	}
	for _, set := range []uint{0b000001, 0b010001, 0b101010, 0b101100, 0b001000, 0b011000} {
		fits(t, parsed(t, lines[1:7]...), set)
		breaks(t, parsed(t, lines...), set, 0)
	}
	// A line that wants two of one name is not kept to by these.
	c := parsed(t, "package a 1.0.0", "package a 2.0.0", "root a 1.0.0", "root a 2.0.0")
	breaks(t, c, 0b11, -2)
	breaks(t, c, 0b01, 2)
	breaks(t, c, 0b10, 3)
	breaks(t, c, 0b00, 2)
}

// Promise 12.1: a Root none of whose items is in it, also one that has no item at all.
func TestFitsRoot(t *testing.T) {
	there := []string{"package b 1.0.0", "package a 3.0.0", "package a 1.0.0", "package c 1.0.0"}
	for _, x := range []struct {
		line string
		// The items of which one must be there.
		one uint
	}{
		{"root a any", 0b0011},
		{"root a <3.0.0", 0b0010},
		{"root a >=2.0.0", 0b0001},
		{"root a 1.0.0 || 3.0.0", 0b0011},
		{"root a 2.0.0", 0},
		{"root a none", 0},
		{"root b any", 0b0100},
		{"root b >1.0.0", 0},
		{"root c 1.0.0", 0b1000},
		{"root d any", 0},
		{"root d none", 0},
	} {
		c := parsed(t, append(slices.Clone(there), x.line)...)
		for set := range sets(c) {
			switch {
			case set&0b0011 == 0b0011:
				breaks(t, c, set, -2)
			case set&x.one == 0:
				breaks(t, c, set, 4)
			default:
				fits(t, c, set)
			}
		}
	}
	// A root has no item of its own: that a 0.0.0 is there says nothing of it.
	c := parsed(t, "package a 0.0.0", "package a 1.0.0", "root a >0.0.0")
	breaks(t, c, 0b10, 2)
	fits(t, c, 0b01)
}

// Promise 12.1: a Needs whose item is in it, and none of those that it needs; it may be one of these itself.
func TestFitsNeeds(t *testing.T) {
	there := []string{"package b 1.0.0", "package a 3.0.0", "package a 1.0.0", "package c 1.0.0"}
	for _, x := range []struct {
		line     string
		own, one uint
	}{
		{"needs a 3.0.0 b any", 0b0001, 0b0100},
		{"needs a 1.0.0 b any", 0b0010, 0b0100},
		{"needs a 1.0.0 c 1.0.0", 0b0010, 0b1000},
		{"needs c 1.0.0 a any", 0b1000, 0b0011},
		{"needs b 1.0.0 a >=3.0.0", 0b0100, 0b0001},
		{"needs b 1.0.0 a <3.0.0", 0b0100, 0b0010},
		{"needs b 1.0.0 a ~2.0.0", 0b0100, 0},
		{"needs b 1.0.0 a none", 0b0100, 0},
		{"needs a 3.0.0 d any", 0b0001, 0},
		{"needs c 1.0.0 c any", 0b1000, 0b1000},
		{"needs c 1.0.0 c none", 0b1000, 0},
		{"needs a 3.0.0 a any", 0b0001, 0b0001},
		{"needs a 1.0.0 a >1.0.0", 0b0010, 0},
	} {
		c := parsed(t, append(slices.Clone(there), x.line)...)
		for set := range sets(c) {
			switch {
			case set&0b0011 == 0b0011:
				breaks(t, c, set, -2)
			case set&x.own != 0 && set&x.one == 0:
				breaks(t, c, set, 4)
			default:
				fits(t, c, set)
			}
		}
	}
}

// Promise 12.1: a Clashes whose item is in it, and one of those with which it clashes; itself too, where its own range has it.
func TestFitsClashes(t *testing.T) {
	there := []string{"package b 1.0.0", "package a 3.0.0", "package a 1.0.0", "package c 1.0.0"}
	for _, x := range []struct {
		line     string
		own, not uint
	}{
		{"clashes a 3.0.0 b any", 0b0001, 0b0100},
		{"clashes b 1.0.0 a any", 0b0100, 0b0011},
		{"clashes c 1.0.0 a <2.0.0", 0b1000, 0b0010},
		{"clashes c 1.0.0 a 2.0.0", 0b1000, 0},
		{"clashes c 1.0.0 a none", 0b1000, 0},
		{"clashes c 1.0.0 d any", 0b1000, 0},
		{"clashes c 1.0.0 c any", 0b1000, 0b1000},
		{"clashes c 1.0.0 c >1.0.0", 0b1000, 0},
		{"clashes a 3.0.0 a any", 0b0001, 0b0001},
		{"clashes a 1.0.0 a any", 0b0010, 0b0010},
		{"clashes a 1.0.0 a !1.0.0", 0b0010, 0},
	} {
		c := parsed(t, append(slices.Clone(there), x.line)...)
		for set := range sets(c) {
			switch {
			case set&0b0011 == 0b0011:
				breaks(t, c, set, -2)
			case set&x.own != 0 && set&x.not != 0:
				breaks(t, c, set, 4)
			default:
				fits(t, c, set)
			}
		}
	}
}

// Promise 12.1: of several lines the first one is told, of whatever kind; a line's number counts those of packages too.
func TestFitsFirst(t *testing.T) {
	say := []string{"root z any", "needs a 1.0.0 y any", "clashes a 1.0.0 b any", "root x none", "clashes b 1.0.0 b any", "needs b 1.0.0 a none"}
	d := rand.New(rand.NewSource(1))
	for range 200 {
		d.Shuffle(len(say), func(i, j int) { say[i], say[j] = say[j], say[i] })
		at := d.Intn(len(say) + 1)
		c := parsed(t, slices.Concat(say[:at], ones(2), say[at:])...)
		first := 0
		if at == 0 {
			first = 2
		}
		breaks(t, c, 0b11, first)
		// What is not in the set says nothing by its own lines.
		roots := slices.IndexFunc(c.Lines(), func(x catalog.Line) bool { return x.Kind == catalog.Root })
		breaks(t, c, 0b00, roots)
	}
	c := parsed(t, "package a 1.0.0", "root a any", "needs a 1.0.0 a any", "package b 1.0.0", "clashes a 1.0.0 b any", "needs a 1.0.0 b any")
	breaks(t, c, 0b00, 1)
	breaks(t, c, 0b10, 1)
	breaks(t, c, 0b01, 5)
	breaks(t, c, 0b11, 4)
	// A line that stands twice is told by its first number.
	breaks(t, parsed(t, "package a 1.0.0", "root z any", "root z any"), 0b1, 1)
	// The last one of as many lines as there may be.
	lines := []string{"package a 1.0.0"}
	for len(lines) < api.MaxLines-1 {
		lines = append(lines, "root a any")
	}
	c = parsed(t, append(lines, "clashes a 1.0.0 a any")...)
	breaks(t, c, 0b1, api.MaxLines-1)
	breaks(t, c, 0b0, 1)
}

// compared: of all sets of items Fits tells what the document's words say, and what the rules of chapter 9 do: -2, if one that no line says doesn't hold, else the first line of which one doesn't.
func compared(t *testing.T, c *catalog.Catalog) (fit int) {
	t.Helper()
	r, err := rules.Of(c)
	if err != nil {
		t.Fatalf("%q: %v", c.Text(), err)
	}
	// A bit beyond all items too.
	for set := range sets(c) * 2 {
		ok, n := plan.Fits(c, set)
		if wantOK, want := spelt(c, set); ok != wantOK || n != want {
			t.Fatalf("%q, %b: %v %d, want %v %d", c.Text(), set, ok, n, wantOK, want)
		}
		if set >= sets(c) {
			continue
		}
		i := slices.IndexFunc(r.Clauses, func(x api.Clause) bool { return !clause.Holds(x, set) })
		switch {
		case i < 0 && (!ok || n != -1), i >= 0 && ok, i >= 0 && r.From[i] == -1 && n != -2, i >= 0 && r.From[i] >= 0 && n != r.From[i]:
			t.Fatalf("%q, %b: %v %d, and clause %d doesn't hold", c.Text(), set, ok, n, i)
		}
		if ok {
			fit++
		}
	}
	return fit
}

// Promise 12.1: all sets of all small catalogs.
func TestFitsSmall(t *testing.T) {
	smalls(t, func(c *catalog.Catalog) { compared(t, c) })
}

// Promise 12.1: all sets of catalogs that are drawn; as many fit as there are installations in the space of chapter 10, and just these.
func TestFitsDrawn(t *testing.T) {
	d := rand.New(rand.NewSource(2))
	several := 0
	for range 600 {
		c := drawn(t, d, 5, 8, 9, 2)
		fit := compared(t, c)
		if fit > 1 {
			several++
		}
		s, err := space.Of(c, api.MaxNodes)
		if err != nil {
			t.Fatalf("%q: %v", c.Text(), err)
		}
		if n, err := s.Count(s.All); err != nil || n.Text() != fmt.Sprint(fit) {
			t.Fatalf("%q: %s installations, %v, and %d fit", c.Text(), n.Text(), err, fit)
		}
		for set := range sets(c) {
			holds, err := s.Holds(s.All, set)
			if ok, _ := plan.Fits(c, set); err != nil || ok != holds {
				t.Fatalf("%q, %b: %v, %v", c.Text(), set, holds, err)
			}
		}
	}
	if several < 200 {
		t.Errorf("%d times more than one set fit", several)
	}
}

// Promise 12.1: Fits asks no clauses, so there may be more of them than rules.Of takes.
func TestFitsManyClauses(t *testing.T) {
	c := parsed(t, append(versions("a", api.MaxVersions), "root a any", "clashes a 0.0.0 a any")...)
	if _, err := rules.Of(c); err != error(api.ErrLimit) {
		t.Fatal(err)
	}
	for i := range api.MaxVersions - 1 {
		fits(t, c, 1<<i)
		is(t, i)(plan.Order(c, 1<<i))
		breaks(t, c, 1<<i|1<<(i+1), -2)
	}
	breaks(t, c, 1<<(api.MaxVersions-1), api.MaxVersions+1)
	breaks(t, c, 0, api.MaxVersions)
}
