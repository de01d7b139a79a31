package plan_test

import (
	"fmt"
	"math/rand"
	"slices"
	"strings"
	"testing"

	"solspace/api"
	"solspace/catalog"
	"solspace/plan"
	"solspace/semver"
)

// The heads of the functions, and the fields of the type, stay as they are.
var (
	_ func(*catalog.Catalog, uint) (bool, int)                = plan.Fits
	_ func(*catalog.Catalog, uint) ([]int, error)             = plan.Order
	_ func(*catalog.Catalog, uint, uint) ([]plan.Step, error) = plan.Change
	_                                                         = plan.Step{Item: int(0), Comes: false}
)

// parsed is a catalog of lines that may be one.
func parsed(t testing.TB, lines ...string) *catalog.Catalog {
	t.Helper()
	c, err := catalog.Parse(strings.Join(lines, "\n"))
	if err != nil {
		t.Fatalf("%q: %v", lines, err)
	}
	return c
}

// ones are the lines of version 1.0.0 of as many packages: a, b, c ..; their numbers are 0, 1, 2 ...
func ones(many int) []string {
	var out []string
	for i := range many {
		out = append(out, fmt.Sprintf("package %c 1.0.0", 'a'+i))
	}
	return out
}

// needing are as many packages of one version, and lines by which one needs another one, each two letters.
func needing(t testing.TB, many int, pairs ...string) *catalog.Catalog {
	t.Helper()
	lines := ones(many)
	for _, p := range pairs {
		lines = append(lines, "needs "+p[:1]+" 1.0.0 "+p[1:]+" any")
	}
	return parsed(t, lines...)
}

// versions are the lines of so many versions of a package.
func versions(name string, many int) []string {
	var out []string
	for i := range many {
		out = append(out, fmt.Sprintf("package %s %d.0.0", name, i))
	}
	return out
}

// drawn is a catalog of at most so many items of up to so many names, and so many lines that say something, in any order: of each so many parts of them that need.
func drawn(t testing.TB, d *rand.Rand, names, items, lines, needs int) *catalog.Catalog {
	t.Helper()
	called := []string{"a", "b", "ba", "c-1", "d", "e", "f", "g"}[:1+d.Intn(names)]
	ranges := []string{"none", "1.0.0", "!1.0.0", "<2.0.0", ">=1.1.0", "^1.0.0", "~0.1.0", "<0.1.0 || >=2.1.0"}
	var there, l []string
	for _, i := range d.Perm(24 * len(called))[:1+d.Intn(items)] {
		there = append(there, fmt.Sprintf("%s %d.%d.%d", called[i/24], i%4, i/4%2, i/8%3))
		l = append(l, "package "+there[len(there)-1])
	}
	for range d.Intn(lines + 1) {
		// What is named is there mostly: else few sets kept to all lines.
		own, other, r := there[d.Intn(len(there))], called[d.Intn(len(called))], "any"
		if d.Intn(6) > 0 {
			other, _, _ = strings.Cut(there[d.Intn(len(there))], " ")
		}
		if d.Intn(3) == 0 {
			r = ranges[d.Intn(len(ranges))]
		}
		switch d.Intn(2 + needs) {
		case 0:
			l = append(l, "root "+other+" "+r)
		case 1:
			l = append(l, "clashes "+own+" "+other+" "+r)
		default:
			l = append(l, "needs "+own+" "+other+" "+r)
		}
	}
	d.Shuffle(len(l), func(i, j int) { l[i], l[j] = l[j], l[i] })
	return parsed(t, l...)
}

// smalls calls for all catalogs of up to three items and up to two lines that say something, the packages' lines between them.
func smalls(t *testing.T, look func(*catalog.Catalog)) {
	all := []string{"a 1.0.0", "a 2.0.0", "b 1.0.0"}
	for set := range 8 {
		var there, packages, say []string
		for i, x := range all {
			if set>>i&1 == 1 {
				there, packages = append(there, x), append(packages, "package "+x)
			}
		}
		for _, other := range []string{"a", "b"} {
			for _, r := range []string{"any", "none", "1.0.0", "!1.0.0"} {
				say = append(say, "root "+other+" "+r)
				for _, x := range there {
					say = append(say, "needs "+x+" "+other+" "+r, "clashes "+x+" "+other+" "+r)
				}
			}
		}
		look(parsed(t, packages...))
		for _, x := range say {
			look(parsed(t, append(slices.Clone(packages), x)...))
			for _, y := range say {
				look(parsed(t, slices.Concat([]string{x}, packages, []string{y})...))
			}
		}
	}
}

// sets are those of a catalog's items, all of them.
func sets(c *catalog.Catalog) uint { return 1 << len(c.Items()) }

// numbers are a set's, rising.
func numbers(set uint) []int {
	var out []int
	for i := range 64 {
		if set>>i&1 == 1 {
			out = append(out, i)
		}
	}
	return out
}

// spelt is what the document's words say of Fits, by going through names and versions alone.
func spelt(c *catalog.Catalog, set uint) (bool, int) {
	var in []catalog.Item
	all := c.Items()
	for _, i := range numbers(set) {
		if i >= len(all) || slices.ContainsFunc(in, func(x catalog.Item) bool { return x.Name == all[i].Name }) {
			return false, -2
		}
		in = append(in, all[i])
	}
	has := func(name string, r semver.Range) bool {
		return slices.ContainsFunc(in, func(x catalog.Item) bool { return x.Name == name && r.Has(x.Version) })
	}
	for n, x := range c.Lines() {
		own := slices.Contains(in, catalog.Item{Name: x.Name, Version: x.Version})
		if x.Kind == catalog.Root && !has(x.Name, x.Range) ||
			x.Kind == catalog.Needs && own && !has(x.Other, x.Range) ||
			x.Kind == catalog.Clashes && own && has(x.Other, x.Range) {
			return false, n
		}
	}
	return true, -1
}

// ahead says whether, by the document's words, an item must stand behind another one: a line of its own names it.
func ahead(c *catalog.Catalog, item, first int) bool {
	all := c.Items()
	return item != first && slices.ContainsFunc(c.Lines(), func(x catalog.Line) bool {
		return x.Kind == catalog.Needs && x.Name == all[item].Name && x.Version == all[item].Version &&
			x.Other == all[first].Name && x.Range.Has(all[first].Version)
	})
}

// ordered says whether a list is an order: each behind those of the list that its lines name.
func ordered(c *catalog.Catalog, l []int) bool {
	for i, item := range l {
		for _, later := range l[i+1:] {
			if ahead(c, item, later) {
				return false
			}
		}
	}
	return true
}

// firstOrder is the first of all orders of items, by trying: what it has already, then each of those that are left, the least one first; nil and false, if there is none.
func firstOrder(c *catalog.Catalog, so, left []int) ([]int, bool) {
	if len(left) == 0 {
		return so, ordered(c, so)
	}
	for i, item := range left {
		others := slices.Delete(slices.Clone(left), i, i+1)
		if l, ok := firstOrder(c, append(slices.Clone(so), item), others); ok {
			return l, true
		}
	}
	return nil, false
}

// fits: a set keeps to all lines.
func fits(t *testing.T, c *catalog.Catalog, set uint) {
	t.Helper()
	told(t, c, set, true, -1)
}

// breaks: a set doesn't, and this is the number that is told.
func breaks(t *testing.T, c *catalog.Catalog, set uint, line int) {
	t.Helper()
	told(t, c, set, false, line)
	fails(t, api.ErrFalse)(plan.Order(c, set))
	fails(t, api.ErrFalse)(plan.Change(c, set, set))
}

func told(t *testing.T, c *catalog.Catalog, set uint, ok bool, line int) {
	t.Helper()
	if gotOK, got := plan.Fits(c, set); gotOK != ok || got != line {
		t.Errorf("%q, %b: %v %d, want %v %d", c.Text(), set, gotOK, got, ok, line)
	}
}

// is: an answer is this list.
func is[T comparable](t *testing.T, want ...T) func([]T, error) {
	return func(got []T, err error) {
		t.Helper()
		if err != nil || !slices.Equal(got, want) {
			t.Errorf("%v, %v; want %v", got, err, want)
		}
	}
}

// fails: an answer is this error, without a place, and nothing besides.
func fails(t *testing.T, want api.Errno) func(any, error) {
	return func(got any, err error) {
		t.Helper()
		if err != error(want) {
			t.Errorf("%v, %#v; want %v without a place", got, err, want)
		}
		if fmt.Sprint(got) != "[]" {
			t.Errorf("%v beside %v", got, err)
		}
	}
}

// goes and comes are steps.
func goes(item int) plan.Step  { return plan.Step{Item: item, Comes: false} }
func comes(item int) plan.Step { return plan.Step{Item: item, Comes: true} }

// Promises 12.1 and 12.2: the document's example of chapter 12, and README's.
func TestExamples(t *testing.T) {
	c := parsed(t, "package a 1.0.0", "package b 1.0.0", "needs a 1.0.0 b any")
	is(t, 1, 0)(plan.Order(c, 0b11))
	is(t, comes(1), comes(0))(plan.Change(c, 0, 0b11))
	is(t, goes(0), goes(1))(plan.Change(c, 0b11, 0))
	is(t, goes(0))(plan.Change(c, 0b11, 0b10))
	breaks(t, c, 0b01, 2)
	c = parsed(t, "package app 1.0.0", "needs app 1.0.0 lib any", "package lib 1.0.0", "package lib 2.0.0",
		"needs lib 2.0.0 os any", "package os 1.0.0", "clashes os 1.0.0 lib <2.0.0")
	fits(t, c, 0b1011)
	breaks(t, c, 0b0011, 4)
	breaks(t, c, 0b1101, 6)
	breaks(t, c, 0b0111, -2)
	breaks(t, c, 0b10000, -2)
	is(t, 3, 1, 0)(plan.Order(c, 0b1011))
	fails(t, api.ErrFalse)(plan.Order(c, 0b0001))
	is(t, goes(2), comes(3), comes(1))(plan.Change(c, 0b0101, 0b1011))
	is(t, goes(0), goes(1), goes(3))(plan.Change(c, 0b1011, 0))
}
