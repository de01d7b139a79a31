package space_test

import (
	"fmt"
	"math"
	"math/rand"
	"slices"
	"strings"
	"testing"

	"solspace/api"
	"solspace/arena"
	"solspace/bdd"
	"solspace/catalog"
	"solspace/clause"
	"solspace/count"
	"solspace/rules"
	"solspace/semver"
	"solspace/space"
)

// The heads of the functions, and the fields of the type, stay as they are.
var (
	_ func(*bdd.Space, []api.Clause) (int, error)       = space.Clauses
	_ func(*catalog.Catalog, int) (*space.Space, error) = space.Of
	_ func(*space.Space) (uint, error)                  = (*space.Space).Least
	_ func(*space.Space, uint) (uint, error)            = (*space.Space).Near
	_ func(*space.Space, []int) (uint, error)           = (*space.Space).Cheap
	_ func(*space.Space) ([]int, error)                 = (*space.Space).Always
	_ func(*space.Space) ([]int, error)                 = (*space.Space).Never
	_                                                   = space.Space{Space: (*bdd.Space)(nil), All: 0}
	_ func(*space.Space, int) (count.Nat, error)        = (*space.Space).Count
	_ func(*space.Space) int                            = (*space.Space).Len
)

// parsed is a catalog of lines that may be one.
func parsed(t testing.TB, lines ...string) *catalog.Catalog {
	t.Helper()
	c, err := catalog.Parse(strings.Join(lines, "\n"))
	if err != nil {
		t.Fatalf("%q: %v", lines, err)
	}
	return c
}

// made is a catalog's space, with as much room as there may be.
func made(t testing.TB, c *catalog.Catalog) *space.Space {
	t.Helper()
	s, err := space.Of(c, api.MaxNodes)
	if err != nil {
		t.Fatalf("%q: %v", c.Text(), err)
	}
	return s
}

// versions are the lines of so many versions of a package.
func versions(name string, many int) []string {
	var out []string
	for i := range many {
		out = append(out, fmt.Sprintf("package %s %d.0.0", name, i))
	}
	return out
}

// drawn is a catalog of at most so many items, and so many lines that say something, in any order.
func drawn(t testing.TB, d *rand.Rand, items, lines int) *catalog.Catalog {
	t.Helper()
	names := []string{"a", "b", "ba", "c-1", "d", "e", "f", "g"}[:1+d.Intn(8)]
	ranges := []string{"any", "none", "1.0.0", "!1.0.0", "<2.0.0", ">=1.1.0", "^1.0.0", "~0.1.0", "<0.1.0 || >=2.1.0"}
	var there, l []string
	for _, i := range d.Perm(24 * len(names))[:1+d.Intn(items)] {
		there = append(there, fmt.Sprintf("%s %d.%d.%d", names[i/24], i%4, i/4%2, i/8%3))
		l = append(l, "package "+there[len(there)-1])
	}
	for range d.Intn(lines + 1) {
		own, other, r := there[d.Intn(len(there))], names[d.Intn(len(names))], ranges[d.Intn(len(ranges))]
		if d.Intn(12) == 0 {
			other = "z"
		}
		l = append(l, []string{
			"needs " + own + " " + other + " " + r, "clashes " + own + " " + other + " " + r, "needs " + own + " " + other + " any", "root " + other + " " + r,
		}[d.Intn(4)])
	}
	d.Shuffle(len(l), func(i, j int) { l[i], l[j] = l[j], l[i] })
	return parsed(t, l...)
}

// kept says by the document's words whether a set of items keeps to what a catalog's lines say, and has no two of one name.
func kept(c *catalog.Catalog, set uint) bool {
	var in []catalog.Item
	for i, item := range c.Items() {
		if set>>i&1 == 1 {
			if slices.ContainsFunc(in, func(x catalog.Item) bool { return x.Name == item.Name }) {
				return false
			}
			in = append(in, item)
		}
	}
	has := func(name string, r semver.Range) bool {
		return slices.ContainsFunc(in, func(x catalog.Item) bool { return x.Name == name && r.Has(x.Version) })
	}
	for _, x := range c.Lines() {
		own := slices.Contains(in, catalog.Item{Name: x.Name, Version: x.Version})
		if x.Kind == catalog.Root && !has(x.Name, x.Range) ||
			x.Kind == catalog.Needs && own && !has(x.Other, x.Range) ||
			x.Kind == catalog.Clashes && own && has(x.Other, x.Range) {
			return false
		}
	}
	return true
}

// installations are all sets of items that may be installed, by trying all.
func installations(c *catalog.Catalog) []uint {
	var out []uint
	for set := range uint(1) << len(c.Items()) {
		if kept(c, set) {
			out = append(out, set)
		}
	}
	return out
}

// smalls calls for all catalogs of up to three items and up to two lines that say something.
func smalls(t *testing.T, look func(*catalog.Catalog)) {
	all := []string{"a 1.0.0", "a 2.0.0", "b 1.0.0"}
	for set := range 8 {
		var there, packages, say []string
		for i, x := range all {
			if set>>i&1 == 1 {
				there, packages = append(there, x), append(packages, "package "+x)
			}
		}
		for _, other := range []string{"a", "b"} {
			for _, r := range []string{"any", "none", "1.0.0", "!1.0.0"} {
				say = append(say, "root "+other+" "+r)
				for _, x := range there {
					say = append(say, "needs "+x+" "+other+" "+r, "clashes "+x+" "+other+" "+r)
				}
			}
		}
		look(parsed(t, packages...))
		for _, x := range say {
			for _, y := range say {
				look(parsed(t, append([]string{x, y}, packages...)...))
			}
		}
	}
}

// allowed: All is true of just the installations.
func allowed(t *testing.T, c *catalog.Catalog) {
	t.Helper()
	s := made(t, c)
	if s.Vars() != len(c.Items()) {
		t.Fatalf("%q: %d variables", c.Text(), s.Vars())
	}
	l := installations(c)
	for set := range uint(1) << s.Vars() {
		if is, err := s.Holds(s.All, set); err != nil || is != slices.Contains(l, set) {
			t.Fatalf("%q: %v of %b, %v", c.Text(), is, set, err)
		}
	}
	if n, err := s.Count(s.All); err != nil || n.Cmp(count.Of(len(l))) != 0 {
		t.Fatalf("%q: %s installations, %v; want %d", c.Text(), n.Text(), err, len(l))
	}
	r, _ := rules.Of(c)
	if h := laid(t, s.Space, r.Clauses); h != s.All {
		t.Fatalf("%q: All is %d, and the clauses are %d", c.Text(), s.All, h)
	}
}

// Promise 10.1: All of all small catalogs, against trying all sets of items.
func TestAllSmall(t *testing.T) {
	smalls(t, func(c *catalog.Catalog) { allowed(t, c) })
}

// Promise 10.1: All of catalogs that are drawn, against trying all sets of items.
func TestAllDrawn(t *testing.T) {
	d := rand.New(rand.NewSource(1))
	for range 1000 {
		allowed(t, drawn(t, d, 8, 10))
	}
	for range 10 {
		allowed(t, drawn(t, d, 13, 20))
	}
}

// Promise 10.1: All of catalogs of as many items as there may be: of values that are drawn, and by what Solve says.
func TestAllMost(t *testing.T) {
	d := rand.New(rand.NewSource(2))
	for range 100 {
		lines := slices.Concat(versions("a", 5), versions("b", 5), versions("c", 4), versions("d", 4), versions("e", 3), versions("f", 3))
		for range d.Intn(40) {
			own := strings.TrimPrefix(lines[d.Intn(24)], "package ")
			other := fmt.Sprintf("%s %s%d.0.0", "abcdef"[d.Intn(6):][:1], []string{"<", ">=", "!"}[d.Intn(3)], d.Intn(5))
			lines = append(lines, []string{"needs " + own + " " + other, "clashes " + own + " " + other, "root " + other}[d.Intn(21)/10])
		}
		c := parsed(t, lines...)
		r, err := rules.Of(c)
		if err != nil {
			continue
		}
		s := made(t, c)
		a, err := clause.Solve(r.Vars, r.Clauses)
		if err != nil || a.Holds != (s.All != arena.False) {
			t.Fatalf("%q: All is %d, Solve says %v, %v", c.Text(), s.All, a.Holds, err)
		}
		n, _ := s.Count(s.All)
		many, _ := n.Fits()
		for range 100 {
			x := uint(d.Intn(1 << 24))
			if d.Intn(2) == 0 && many > 0 {
				x, _ = s.Kth(s.All, count.Of(d.Intn(many)))
			}
			if is, err := s.Holds(s.All, x); err != nil || is != kept(c, x) {
				t.Fatalf("%q: %v of %b, %v", c.Text(), is, x, err)
			}
		}
	}
}

// Promise 10.1: a catalog without a line has one installation: nothing; and so has none at all.
func TestNoLine(t *testing.T) {
	for _, c := range []*catalog.Catalog{nil, new(catalog.Catalog), parsed(t)} {
		for _, room := range []int{0, 1, api.MaxNodes} {
			s, err := space.Of(c, room)
			if err != nil || s.Vars() != 0 || s.All != arena.True || s.Len() != 0 {
				t.Fatalf("room %d: %v, %v", room, s, err)
			}
			n, _ := s.Count(s.All)
			if n.Text() != "1" {
				t.Errorf("%s installations", n.Text())
			}
			least, err1 := s.Least()
			near, err2 := s.Near(math.MaxUint)
			cheap, err3 := s.Cheap([]int{3, 4})
			always, err4 := s.Always()
			never, err5 := s.Never()
			if least|near|cheap != 0 || len(always)+len(never) > 0 || err1 != nil || err2 != nil || err3 != nil || err4 != nil || err5 != nil {
				t.Errorf("%d %d %d %v %v, %v %v %v %v %v", least, near, cheap, always, never, err1, err2, err3, err4, err5)
			}
		}
	}
}

// Promises 10.1, 10.2: catalogs that have no installation.
func TestNoInstallation(t *testing.T) {
	for _, x := range []struct {
		items int
		lines []string
	}{
		{0, []string{"root a any"}},
		{1, []string{"package a 1.0.0", "root a none"}},
		{1, []string{"package a 1.0.0", "root a any", "clashes a 1.0.0 a any"}},
		{1, []string{"package a 1.0.0", "root a any", "needs a 1.0.0 b any"}},
		{2, []string{"package a 1.0.0", "package a 2.0.0", "root a >1.0.0", "root a <2.0.0"}},
		{3, []string{"package a 1.0.0", "package b 1.0.0", "package c 1.0.0", "root a any", "needs a 1.0.0 b any", "needs b 1.0.0 c any", "clashes c 1.0.0 a any"}},
	} {
		c := parsed(t, x.lines...)
		s := made(t, c)
		if s.All != arena.False || s.Len() != 0 {
			t.Errorf("%q: %d, %d nodes", x.lines, s.All, s.Len())
		}
		none := func(got uint, err error) {
			t.Helper()
			if got != 0 || err != error(api.ErrNone) {
				t.Errorf("%q: %b, %#v; want ErrNone", x.lines, got, err)
			}
		}
		none(s.Least())
		none(s.Near(0))
		none(s.Near(math.MaxUint))
		none(s.Cheap(nil))
		none(s.Cheap([]int{0, 1_000_000, 7, 7}))
		all := []int{0, 1, 2}[:x.items]
		items(t, c, all)(s.Always())
		items(t, c, all)(s.Never())
	}
}

// Promise 10.1: what Of (9.1) says comes first; then what New (3.1) says of the room.
func TestOfRefused(t *testing.T) {
	much, few := parsed(t, versions("a", 21)...), parsed(t, "package a 1.0.0", "root a any")
	if s, err := space.Of(few, 1); s == nil || err != nil {
		t.Errorf("%v, %v", s, err)
	}
	for _, room := range []int{0, 1, 100, api.MaxNodes, api.MaxNodes + 1, -1, math.MinInt, math.MaxInt} {
		if s, err := space.Of(much, room); s != nil || err != error(api.ErrLimit) {
			t.Errorf("room %d: %v, %#v; want ErrLimit", room, s, err)
		}
	}
	for _, c := range []*catalog.Catalog{nil, parsed(t), few, parsed(t, versions("a", 20)...)} {
		for _, room := range []int{-1, math.MinInt, api.MaxNodes + 1, math.MaxInt} {
			if s, err := space.Of(c, room); s != nil || err != error(api.ErrRange) {
				t.Errorf("%q, room %d: %v, %#v; want ErrRange", c.Text(), room, s, err)
			}
		}
	}
	// As many clauses as there may be.
	made(t, parsed(t, append(versions("a", 20), slices.Repeat([]string{"root a any"}, 10)...)...))
}

// Promise 10.1: ErrFull, if there is no room for All; where there is some, All, or ErrFull.
func TestOfFull(t *testing.T) {
	d := rand.New(rand.NewSource(3))
	var full, some int
	for range 100 {
		c := drawn(t, d, 8, 6)
		big := made(t, c)
		size, _ := big.Size(big.All)
		for room := range 60 {
			s, err := space.Of(c, room)
			if err != nil {
				full++
				if s != nil || err != error(api.ErrFull) {
					t.Fatalf("%q, room %d: %v, %#v", c.Text(), room, s, err)
				}
				continue
			}
			some++
			if room < size || s.Len() > room {
				t.Fatalf("%q, room %d: %d nodes, All has %d", c.Text(), room, s.Len(), size)
			}
			for x := range uint(1) << s.Vars() {
				a, _ := s.Holds(s.All, x)
				if b, _ := big.Holds(big.All, x); a != b {
					t.Fatalf("%q, room %d: %v of %b", c.Text(), room, a, x)
				}
			}
		}
	}
	if full < 100 || some < 100 {
		t.Errorf("%d were full, %d not", full, some)
	}
	if s, err := space.Of(parsed(t, "package a 1.0.0", "root a any"), 0); s != nil || err != error(api.ErrFull) {
		t.Errorf("%v, %#v; want ErrFull", s, err)
	}
}

// Promise 10.1: never ErrFull with at most 10 items and room for MaxNodes, however much the lines say.
func TestOfNeverFull(t *testing.T) {
	d := rand.New(rand.NewSource(4))
	for range 400 {
		made(t, drawn(t, d, 10, 90))
	}
	names := "abcdefgh"
	for range 400 {
		var lines []string
		for i := range 10 {
			lines = append(lines, fmt.Sprintf("package %c %d.0.0", names[i%8], i/8))
		}
		for range 20 + d.Intn(70) {
			own, other := d.Intn(10), d.Intn(8)
			what := []string{"needs", "needs", "needs", "clashes"}[d.Intn(4)]
			lines = append(lines, fmt.Sprintf("%s %c %d.0.0 %c %s", what, names[own%8], own/8, names[other], []string{"any", "0.0.0", ">0.0.0"}[d.Intn(3)]))
		}
		s := made(t, parsed(t, lines...))
		if size, _ := s.Size(s.All); s.Len() != size {
			t.Fatalf("%q: %d nodes, and All has %d", lines, s.Len(), size)
		}
	}
}

// The document's example of chapter 10.
func TestExample(t *testing.T) {
	s := made(t, parsed(t, "package a 1.0.0", "needs a 1.0.0 b any", "package b 1.0.0"))
	if n, err := s.Count(s.All); err != nil || n.Text() != "3" {
		t.Errorf("%s installations, %v", n.Text(), err)
	}
	for set, want := range []bool{true, false, true, true} {
		if is, err := s.Holds(s.All, uint(set)); err != nil || is != want {
			t.Errorf("%b: %v, %v", set, is, err)
		}
	}
	if least, err := s.Least(); err != nil || least != 0 {
		t.Errorf("least: %b, %v", least, err)
	}
}

// README's example.
func TestReadme(t *testing.T) {
	c := parsed(t, "package a 1.0.0", "needs a 1.0.0 b any", "package b 1.0.0", "package b 2.0.0")
	s := made(t, c)
	if n, err := s.Count(s.All); err != nil || n.Text() != "5" {
		t.Errorf("%s installations, %v", n.Text(), err)
	}
	is(t, 0b000)(s.Least())
	is(t, 0b011)(s.Near(0b001))
	is(t, 0b000)(s.Cheap([]int{0, 5, 3}))
	is(t, 0b011)(s.Cheap(nil))
	items(t, c, nil)(s.Always())
	items(t, c, nil)(s.Never())
	same(t, s.Space, laid(t, s.Space, []api.Clause{{1}, {-2}}), []api.Clause{{1}, {-2}})
}
