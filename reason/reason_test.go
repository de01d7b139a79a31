package reason_test

import (
	"fmt"
	"math/rand"
	"slices"
	"strings"
	"testing"

	"solspace/api"
	"solspace/catalog"
	"solspace/reason"
	"solspace/semver"
)

// The heads of the functions stay as they are.
var (
	_ func(*catalog.Catalog) ([]int, error)                         = reason.Core
	_ func(*catalog.Catalog, string, semver.Version) ([]int, error) = reason.WhyNot
	_ func(*catalog.Catalog) (cores, fixes []uint, err error)       = reason.Cores
	_ func(int, []uint) ([]uint, error)                             = reason.Reiter
	_ func([]uint) uint                                             = reason.Smallest
)

// parsed is a catalog of lines that may be one.
func parsed(t testing.TB, lines ...string) *catalog.Catalog {
	t.Helper()
	c, err := catalog.Parse(strings.Join(lines, "\n"))
	if err != nil {
		t.Fatalf("%q: %v", lines, err)
	}
	return c
}

// versions are the lines of so many versions of a package.
func versions(name string, many int) []string {
	var out []string
	for i := range many {
		out = append(out, fmt.Sprintf("package %s %d.0.0", name, i))
	}
	return out
}

// drawn is a catalog of at most so many items, and so many lines that say something, in any order; many of them can't be together.
func drawn(t testing.TB, d *rand.Rand, items, lines int) *catalog.Catalog {
	t.Helper()
	names := []string{"a", "b", "ba", "c-1", "d"}[:1+d.Intn(5)]
	ranges := []string{"any", "none", "1.0.0", "!1.0.0", "<2.0.0", ">=1.1.0", "^1.0.0", "~0.1.0", "<0.1.0 || >=2.1.0"}
	var there, l []string
	for _, i := range d.Perm(24 * len(names))[:1+d.Intn(items)] {
		there = append(there, fmt.Sprintf("%s %d.%d.%d", names[i/24], i%4, i/4%2, i/8%3))
		l = append(l, "package "+there[len(there)-1])
	}
	for range d.Intn(lines + 1) {
		// What is named is there mostly: else most cores were one root alone.
		own, other, r := there[d.Intn(len(there))], names[d.Intn(len(names))], "any"
		if d.Intn(6) > 0 {
			other, _, _ = strings.Cut(there[d.Intn(len(there))], " ")
		}
		if d.Intn(3) == 0 {
			r = ranges[d.Intn(len(ranges))]
		}
		l = append(l, []string{
			"needs " + own + " " + other + " " + r, "clashes " + own + " " + other + " " + r, "root " + other + " " + r,
		}[d.Intn(3)])
	}
	d.Shuffle(len(l), func(i, j int) { l[i], l[j] = l[j], l[i] })
	return parsed(t, l...)
}

// smalls calls for all catalogs of up to three items and up to two lines that say something, the packages' lines between them.
func smalls(t *testing.T, look func(*catalog.Catalog)) {
	all := []string{"a 1.0.0", "a 2.0.0", "b 1.0.0"}
	for set := range 8 {
		var there, packages, say []string
		for i, x := range all {
			if set>>i&1 == 1 {
				there, packages = append(there, x), append(packages, "package "+x)
			}
		}
		for _, other := range []string{"a", "b"} {
			for _, r := range []string{"any", "none", "1.0.0", "!1.0.0"} {
				say = append(say, "root "+other+" "+r)
				for _, x := range there {
					say = append(say, "needs "+x+" "+other+" "+r, "clashes "+x+" "+other+" "+r)
				}
			}
		}
		look(parsed(t, packages...))
		for _, x := range say {
			look(parsed(t, append(slices.Clone(packages), x)...))
			for _, y := range say {
				look(parsed(t, slices.Concat([]string{x}, packages, []string{y})...))
			}
		}
	}
}

// model is what is known of a catalog by trying all sets of items, without clauses.
type model struct {
	// The numbers of the lines that say something.
	lines []int
	// Of each set of items that has no two of one name the lines that it keeps to (bit k: the k-th that says something).
	keeps []uint
}

func modelOf(c *catalog.Catalog) model {
	var m model
	for n, x := range c.Lines() {
		if x.Kind != catalog.Package {
			m.lines = append(m.lines, n)
		}
	}
	for set := range uint(1) << len(c.Items()) {
		if keeps, ok := kept(c, set); ok {
			m.keeps = append(m.keeps, keeps)
		}
	}
	return m
}

// kept is, by the document's words, to which lines that say something a set of items keeps; false, if it has two of one name.
func kept(c *catalog.Catalog, set uint) (uint, bool) {
	var in []catalog.Item
	for i, item := range c.Items() {
		if set>>i&1 == 1 {
			if slices.ContainsFunc(in, func(x catalog.Item) bool { return x.Name == item.Name }) {
				return 0, false
			}
			in = append(in, item)
		}
	}
	has := func(name string, r semver.Range) bool {
		return slices.ContainsFunc(in, func(x catalog.Item) bool { return x.Name == name && r.Has(x.Version) })
	}
	k, out := 0, uint(0)
	for _, x := range c.Lines() {
		own := slices.Contains(in, catalog.Item{Name: x.Name, Version: x.Version})
		is := false
		switch x.Kind {
		case catalog.Package:
			continue
		case catalog.Root:
			is = has(x.Name, x.Range)
		case catalog.Needs:
			is = !own || has(x.Other, x.Range)
		case catalog.Clashes:
			is = !own || !has(x.Other, x.Range)
		}
		if is {
			out |= 1 << k
		}
		k++
	}
	return out, true
}

// can says whether lines can be together: some items keep to all of them.
func (m model) can(lines uint) bool {
	return slices.ContainsFunc(m.keeps, func(keeps uint) bool { return lines&^keeps == 0 })
}

// all is the set of all lines that say something.
func (m model) all() uint { return 1<<len(m.lines) - 1 }

// numbers are the lines of a set, rising.
func (m model) numbers(set uint) []int {
	var out []int
	for k, n := range m.lines {
		if set>>k&1 == 1 {
			out = append(out, n)
		}
	}
	return out
}

// bare says whether a set is so, though without any one of its things it isn't.
func bare(set uint, so func(uint) bool) bool {
	if !so(set) {
		return false
	}
	for thing := range 64 {
		if set>>thing&1 == 1 && so(set&^(1<<thing)) {
			return false
		}
	}
	return true
}

// is: an answer is this list.
func is[T int | uint](t *testing.T, want ...T) func([]T, error) {
	return func(got []T, err error) {
		t.Helper()
		if err != nil || !slices.Equal(got, want) {
			t.Errorf("%v, %v; want %v", got, err, want)
		}
	}
}

// fails: an answer is this error, without a place, and nothing besides.
func fails[T int | uint](t *testing.T, want api.Errno) func([]T, error) {
	return func(got []T, err error) {
		t.Helper()
		if err != error(want) || got != nil {
			t.Errorf("%v, %v; want %v", got, err, want)
		}
	}
}

// are: an answer is these cores and fixes.
func are(t *testing.T, cores, fixes []uint) func([]uint, []uint, error) {
	return func(gotCores, gotFixes []uint, err error) {
		t.Helper()
		if err != nil || !slices.Equal(gotCores, cores) || !slices.Equal(gotFixes, fixes) {
			t.Errorf("%b, %b, %v; want %b, %b", gotCores, gotFixes, err, cores, fixes)
		}
	}
}

// limited: Cores says ErrLimit, and nothing besides.
func limited(t *testing.T, c *catalog.Catalog) {
	t.Helper()
	if cores, fixes, err := reason.Cores(c); err != error(api.ErrLimit) || cores != nil || fixes != nil {
		t.Errorf("%q: %b, %b, %v", c.Text(), cores, fixes, err)
	}
}

// Promises 11.1 and 11.2: the document's example of chapter 11, README's, and that of chapter 4.
func TestExamples(t *testing.T) {
	c := parsed(t, "package a 1.0.0", "root a any", "clashes a 1.0.0 a any")
	is(t, 1, 2)(reason.Core(c))
	are(t, []uint{0b11}, []uint{0b01, 0b10})(reason.Cores(c))
	c = parsed(t, "package a 1.0.0", "package b 1.0.0", "needs a 1.0.0 b any", "root a any", "clashes b 1.0.0 a any", "root b 2.0.0")
	is(t, 2, 3, 4)(reason.Core(c))
	are(t, []uint{0b0111, 0b1000}, []uint{0b1001, 0b1010, 0b1100})(reason.Cores(c))
	is[uint](t, 0b1001, 0b1010, 0b1100)(reason.Reiter(4, []uint{0b0111, 0b1000}))
	if got := reason.Smallest([]uint{0b1001, 0b1010, 0b1100}); got != 0b1001 {
		t.Errorf("%b", got)
	}
	c = parsed(t, "package a 1.0.0", "package b 1.0.0", "clashes b 1.0.0 a any", "root a any")
	fails[int](t, api.ErrNone)(reason.Core(c))
	is(t, 2, 3, 4)(reason.WhyNot(c, "b", semver.Version{1, 0, 0}))
	fails[int](t, api.ErrNone)(reason.WhyNot(c, "a", semver.Version{1, 0, 0}))
	fails[int](t, api.ErrMissing)(reason.WhyNot(c, "a", semver.Version{2, 0, 0}))
	is[uint](t, 3, 6)(reason.Reiter(3, []uint{5, 2}))
}
