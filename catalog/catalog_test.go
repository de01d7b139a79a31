package catalog_test

import (
	"errors"
	"math/rand"
	"regexp"
	"slices"
	"strconv"
	"strings"
	"testing"

	"solspace/api"
	"solspace/catalog"
	"solspace/semver"
)

// The heads of the functions, and the fields of the types, stay as they are.
var (
	_ func(string) bool                                  = catalog.Name
	_ func([]catalog.Line) (*catalog.Catalog, error)     = catalog.New
	_ func(*catalog.Catalog) []catalog.Line              = (*catalog.Catalog).Lines
	_ func(*catalog.Catalog) []catalog.Item              = (*catalog.Catalog).Items
	_ func(*catalog.Catalog, string, semver.Version) int = (*catalog.Catalog).Number
	_ func(*catalog.Catalog, string, semver.Range) []int = (*catalog.Catalog).Among
	_ func(*catalog.Catalog) string                      = (*catalog.Catalog).Text
	_ func(string) (catalog.Line, error)                 = catalog.ParseLine
	_ func(string) (*catalog.Catalog, error)             = catalog.Parse
	_                                                    = catalog.Line{Kind: 1, Name: "", Version: semver.Version{}, Other: "", Range: semver.Range{}}
	_                                                    = catalog.Item{Name: "", Version: semver.Version{}}
)

// shape is what a name is by its bytes, told by other means than the program's.
var shape = regexp.MustCompile(`\A[a-z][a-z0-9-]{0,11}\z`)

func name(s string) bool { return shape.MatchString(s) && s != "any" && s != "none" }

// ranged reads a range that is one.
func ranged(t testing.TB, text string) semver.Range {
	t.Helper()
	r, err := semver.ParseRange(text)
	if err != nil {
		t.Fatalf("%q: %v", text, err)
	}
	return r
}

// pkg, needs, clashes and root are lines.
func pkg(name string, v semver.Version) catalog.Line {
	return catalog.Line{Kind: catalog.Package, Name: name, Version: v}
}

func needs(name string, v semver.Version, other string, r semver.Range) catalog.Line {
	return catalog.Line{Kind: catalog.Needs, Name: name, Version: v, Other: other, Range: r}
}

func clashes(name string, v semver.Version, other string, r semver.Range) catalog.Line {
	return catalog.Line{Kind: catalog.Clashes, Name: name, Version: v, Other: other, Range: r}
}

func root(name string, r semver.Range) catalog.Line {
	return catalog.Line{Kind: catalog.Root, Name: name, Range: r}
}

// same says whether two lines tell the same.
func same(a, b catalog.Line) bool {
	return a.Kind == b.Kind && a.Name == b.Name && a.Version == b.Version && a.Other == b.Other && a.Range.Same(b.Range)
}

// made: New takes the lines, and has them.
func made(t *testing.T, l ...catalog.Line) *catalog.Catalog {
	t.Helper()
	c, err := catalog.New(l)
	if err != nil || c == nil {
		t.Fatalf("New of %v: %v, %v", l, c, err)
	}
	if got := c.Lines(); !slices.EqualFunc(got, l, same) {
		t.Fatalf("New of %v has the lines %v", l, got)
	}
	return c
}

// wrong: an error is this one, at that place (-1: a plain Errno without one).
func wrong(t *testing.T, what any, err error, want api.Errno, place int) {
	t.Helper()
	if place < 0 {
		if err != error(want) {
			t.Errorf("%v: %#v, want %d without a place", what, err, want)
		}
		return
	}
	if at, ok := err.(*api.At); !ok || at.Err != want || at.Place != place {
		t.Errorf("%v: %#v, want %d at %d", what, err, want, place)
	}
}

// refused: New refuses the lines, with the error at that place.
func refused(t *testing.T, want api.Errno, place int, l ...catalog.Line) {
	t.Helper()
	c, err := catalog.New(l)
	if c != nil {
		t.Errorf("%v: a catalog beside %v", l, err)
	}
	wrong(t, l, err, want, place)
}

var (
	v0 = semver.Version{}
	v1 = semver.Version{1, 0, 0}
	v2 = semver.Version{2, 0, 0}
)

// Promise 6.1: the kinds are numbers from 1 on.
func TestKinds(t *testing.T) {
	if got := []int{catalog.Package, catalog.Needs, catalog.Clashes, catalog.Root}; !slices.Equal(got, []int{1, 2, 3, 4}) {
		t.Errorf("kinds %v", got)
	}
}

// Promise 6.1: what may be a name.
func TestName(t *testing.T) {
	for _, s := range []string{
		"a", "z", "m", "a0", "a9", "z-", "a-b", "a--", "abc", "ab-1", "abcdefghijkl", "a01234567890", "a-----------",
		"an", "anyy", "any-", "any1", "aany", "non", "nones", "none0", "n-one", "package", "root",
	} {
		if !catalog.Name(s) {
			t.Errorf("%q may be a name", s)
		}
	}
	for _, s := range []string{
		"", "any", "none", "abcdefghijklm", "a012345678901", "a------------", strings.Repeat("a", 10_000),
		"0", "9", "-", "0a", "9a", "-a", "A", "aB", "Any", "NONE", "a b", " a", "a ", "a\n", "\na", "a\x00", "\x00", "a_", "a.b",
		"a/", "a:", "a`", "a{", "`a", "{a", "a,", "ä", "aä", "a\xff", "\xff", "a\u2010b", "any ", " none",
	} {
		if catalog.Name(s) {
			t.Errorf("%q may not be a name", s)
		}
	}
}

// Promise 6.1: each byte, as the first one, behind it, and as the last one of the most.
func TestNameBytes(t *testing.T) {
	for b := range 256 {
		one := string([]byte{byte(b)})
		for _, s := range []string{one, "b" + one, one + "b", "b" + one + "b", "abcdefghijk" + one, "abcdefghijkl" + one} {
			if got := catalog.Name(s); got != name(s) {
				t.Errorf("%q: %v", s, got)
			}
		}
	}
}

// Promise 6.1: a line of each kind, and what its kind leaves open.
func TestNew(t *testing.T) {
	any := semver.Any()
	none := semver.Range{}
	last := semver.Version{api.MaxPart, api.MaxPart, api.MaxPart}
	made(t)
	made(t, pkg("a", v1))
	made(t, pkg("a", v0))
	made(t, pkg("a", last))
	made(t, pkg("a", v1), pkg("a", v2), pkg("b", v1))
	made(t, pkg("a", v1), catalog.Line{Kind: catalog.Package, Name: "b", Version: v1, Range: any.Not()})
	made(t, pkg("a", v1), needs("a", v1, "b", any))
	made(t, pkg("a", last), needs("a", last, "b", none), clashes("a", last, "b", none))
	made(t, pkg("a", v0), needs("a", v0, "abcdefghijkl", none))
	made(t, pkg("a", v1), clashes("a", v1, "b", any))
	made(t, pkg("a", v1), needs("a", v1, "a", any), clashes("a", v1, "a", any))
	made(t, pkg("a", v1), needs("a", v1, "b", any), needs("a", v1, "b", any), clashes("a", v1, "b", any), clashes("a", v1, "b", any))
	made(t, root("a", any))
	made(t, root("a", none), root("a", none), root("abcdefghijkl", any))
	// What Needs and Clashes speak of may stand behind them.
	made(t, needs("a", v1, "b", any), clashes("b", v2, "a", any), root("b", any), pkg("b", v2), pkg("a", v1))
}

// Promise 6.1: what is wrong with one line is told, at its number.
func TestRefused(t *testing.T) {
	any := semver.Any()
	long := "abcdefghijklm"
	for _, c := range []struct {
		want api.Errno
		line catalog.Line
	}{
		{api.ErrArg, catalog.Line{}},
		{api.ErrArg, catalog.Line{Kind: 0, Name: "b"}},
		{api.ErrArg, catalog.Line{Kind: 5, Name: "b"}},
		{api.ErrArg, catalog.Line{Kind: -1, Name: "b"}},
		{api.ErrArg, catalog.Line{Kind: 1 << 62, Name: "b"}},
		{api.ErrArg, catalog.Line{Kind: -1 << 63, Name: "b"}},
		{api.ErrName, pkg("", v1)},
		{api.ErrName, pkg(long, v1)},
		{api.ErrName, pkg("any", v1)},
		{api.ErrName, pkg("none", v1)},
		{api.ErrName, needs("", v1, "b", any)},
		{api.ErrName, needs("A", v1, "b", any)},
		{api.ErrName, needs("a", v1, "", any)},
		{api.ErrName, needs("a", v1, "none", any)},
		{api.ErrName, needs("a", v1, long, any)},
		{api.ErrName, clashes("1", v1, "b", any)},
		{api.ErrName, clashes("a", v1, "", any)},
		{api.ErrName, clashes("a", v1, "-", any)},
		{api.ErrName, root("", any)},
		{api.ErrName, root("any", any)},
		{api.ErrArg, catalog.Line{Kind: catalog.Package, Name: "b", Version: v1, Other: "c"}},
		{api.ErrArg, catalog.Line{Kind: catalog.Package, Name: "b", Version: v1, Other: "any"}},
		{api.ErrArg, catalog.Line{Kind: catalog.Package, Name: "b", Version: v1, Range: any}},
		{api.ErrArg, catalog.Line{Kind: catalog.Package, Name: "b", Version: v1, Range: ranged(t, "1.0.0")}},
		{api.ErrArg, catalog.Line{Kind: catalog.Root, Name: "b", Other: "c", Range: any}},
		{api.ErrArg, catalog.Line{Kind: catalog.Root, Name: "b", Version: semver.Version{1, 0, 0}, Range: any}},
		{api.ErrArg, catalog.Line{Kind: catalog.Root, Name: "b", Version: semver.Version{0, 0, 1}, Range: any}},
		{api.ErrArg, catalog.Line{Kind: catalog.Root, Name: "b", Version: semver.Version{0, -1, 0}, Range: any}},
		{api.ErrTwice, pkg("a", v1)},
		{api.ErrMissing, needs("a", v2, "b", any)},
		{api.ErrMissing, needs("b", v1, "a", any)},
		{api.ErrMissing, clashes("a", v0, "b", any)},
		{api.ErrMissing, clashes("b", v1, "a", any)},
	} {
		refused(t, c.want, 1, pkg("a", v1), c.line)
		refused(t, c.want, 3, pkg("a", v1), root("b", any), needs("a", v1, "b", any), c.line, pkg("c", v1))
	}
}

// Promise 6.1: each part of a version has its bounds, in each kind that has one.
func TestParts(t *testing.T) {
	any := semver.Any()
	for part := range 3 {
		for _, n := range []int{0, 1, api.MaxPart - 1, api.MaxPart, -1, api.MaxPart + 1, 1 << 62, -1 << 63, 1<<63 - 1} {
			v := semver.Version{5, 5, 5}
			v[part] = n
			if n >= 0 && n <= api.MaxPart {
				made(t, pkg("a", v), needs("a", v, "b", any), clashes("a", v, "b", any))
				continue
			}
			refused(t, api.ErrRange, 0, pkg("a", v))
			refused(t, api.ErrRange, 0, needs("a", v, "b", any))
			refused(t, api.ErrRange, 0, clashes("a", v, "b", any))
		}
	}
}

// Promise 6.1: of what is wrong with one line the first is told.
func TestFirstOfLine(t *testing.T) {
	any := semver.Any()
	bad := semver.Version{0, 0, -1}
	refused(t, api.ErrArg, 0, catalog.Line{Kind: 9, Name: "A", Version: bad, Other: "B", Range: any})
	refused(t, api.ErrName, 0, catalog.Line{Kind: catalog.Package, Name: "A", Version: bad, Other: "B", Range: any})
	refused(t, api.ErrName, 0, catalog.Line{Kind: catalog.Root, Name: "A", Version: bad, Other: "B", Range: any})
	refused(t, api.ErrArg, 0, catalog.Line{Kind: catalog.Package, Name: "a", Version: bad, Other: "B"})
	refused(t, api.ErrArg, 0, catalog.Line{Kind: catalog.Package, Name: "a", Version: bad, Range: any})
	refused(t, api.ErrArg, 0, catalog.Line{Kind: catalog.Root, Name: "a", Version: bad})
	refused(t, api.ErrName, 0, needs("a", bad, "B", any))
	refused(t, api.ErrName, 0, clashes("a", bad, "", any))
	refused(t, api.ErrRange, 0, needs("a", bad, "b", any)) // and it is missing
	// Of a Package that stands ahead too.
	refused(t, api.ErrArg, 1, pkg("a", v1), catalog.Line{Kind: catalog.Package, Name: "a", Version: v1, Other: "b"})
	refused(t, api.ErrArg, 1, pkg("a", v1), catalog.Line{Kind: catalog.Package, Name: "a", Version: v1, Range: any})
}

// Promise 6.1: of several lines the first one's error is told, but ErrMissing behind all others.
func TestFirstOfLines(t *testing.T) {
	any := semver.Any()
	bad := semver.Version{0, 0, -1}
	missing := needs("b", v1, "a", any)
	refused(t, api.ErrRange, 0, pkg("a", bad), pkg("A", v1), catalog.Line{})
	refused(t, api.ErrName, 0, pkg("A", v1), pkg("a", bad), catalog.Line{})
	refused(t, api.ErrTwice, 1, pkg("a", v1), pkg("a", v1), pkg("A", v1), catalog.Line{})
	refused(t, api.ErrTwice, 2, pkg("a", v1), pkg("b", v1), pkg("a", v1), pkg("b", v1))
	refused(t, api.ErrArg, 1, missing, catalog.Line{})
	refused(t, api.ErrName, 1, missing, pkg("A", v1))
	refused(t, api.ErrRange, 1, missing, pkg("a", bad))
	refused(t, api.ErrTwice, 2, missing, pkg("a", v1), pkg("a", v1))
	refused(t, api.ErrMissing, 1, pkg("a", v1), missing, clashes("c", v1, "a", any))
	refused(t, api.ErrMissing, 0, clashes("c", v1, "a", any), pkg("a", v1), missing)
}

// letters are names of one letter each.
func letter(i int) string { return string(rune('a' + i)) }

// Promise 6.1: as many lines, names and versions as may be, and one more.
func TestLimits(t *testing.T) {
	any := semver.Any()
	var l []catalog.Line
	for range api.MaxLines {
		l = append(l, root("a", any))
	}
	made(t, l...)
	refused(t, api.ErrLimit, -1, append(l, root("a", any))...)
	// More lines than may be come ahead of what is wrong with one.
	l[0] = catalog.Line{}
	refused(t, api.ErrArg, 0, l...)
	refused(t, api.ErrLimit, -1, append(l, catalog.Line{})...)
	refused(t, api.ErrLimit, -1, make([]catalog.Line, 10*api.MaxLines)...)

	l = nil
	for i := range api.MaxPackages {
		l = append(l, pkg(letter(i), v1))
	}
	made(t, l...)
	made(t, append(l, pkg("a", v2), root("z", any), needs("a", v1, "y", any))...)
	refused(t, api.ErrLimit, len(l), append(l, pkg("z", v1))...)
	refused(t, api.ErrLimit, len(l)+1, append(l, root("a", any), pkg("z", v1), pkg("a", v1))...)
	refused(t, api.ErrTwice, len(l), append(l, pkg("a", v1), pkg("z", v1))...)
	refused(t, api.ErrRange, len(l), append(l, pkg("z", semver.Version{-1}))...)
	refused(t, api.ErrLimit, len(l)+1, append(l, needs("z", v1, "a", any), pkg("z", v1))...)

	l = nil
	for i := range api.MaxVersions {
		l = append(l, pkg(letter(i%3), semver.Version{i, 0, 0}))
	}
	made(t, l...)
	refused(t, api.ErrLimit, len(l), append(l, pkg("a", semver.Version{0, 0, 1}))...)
	refused(t, api.ErrLimit, len(l), append(l, pkg("d", v1))...)
	refused(t, api.ErrTwice, len(l), append(l, l[5])...)
	refused(t, api.ErrTwice, len(l), append(l, l[5], pkg("d", v1))...)
	refused(t, api.ErrLimit, len(l), append(l, pkg("d", v1), l[5])...)
}

// Promise 6.1: all versions may be of one package, too.
func TestOnePackage(t *testing.T) {
	var l []catalog.Line
	for i := range api.MaxVersions {
		l = append(l, pkg("a", semver.Version{0, 0, i}))
	}
	c := made(t, l...)
	if got := len(c.Items()); got != api.MaxVersions {
		t.Errorf("%d items", got)
	}
	refused(t, api.ErrLimit, len(l), append(l, pkg("a", v1))...)
}

// complaints are all that may be said of a line by itself, in the document's order.
func complaints(x catalog.Line) []api.Errno {
	var out []api.Errno
	say := func(e api.Errno, wrong bool) {
		if wrong {
			out = append(out, e)
		}
	}
	two := x.Kind == catalog.Needs || x.Kind == catalog.Clashes
	single := x.Kind == catalog.Package || x.Kind == catalog.Root
	say(api.ErrArg, !two && !single)
	say(api.ErrName, !name(x.Name))
	say(api.ErrName, two && !name(x.Other))
	say(api.ErrArg, single && len(x.Other) > 0)
	say(api.ErrArg, x.Kind == catalog.Package && x.Range.Text() != "none")
	say(api.ErrArg, x.Kind == catalog.Root && x.Version.Text() != "0.0.0")
	for _, part := range x.Version {
		say(api.ErrRange, x.Kind != catalog.Root && (part < 0 || part > 999))
	}
	return out
}

// first is what New should say of lines: the error and its place (OK: nothing; place -1: none).
func first(l []catalog.Line) (api.Errno, int) {
	if len(l) > 100 {
		return api.ErrLimit, -1
	}
	versions := map[string]bool{}
	names := map[string]bool{}
	for i, x := range l {
		if c := complaints(x); len(c) > 0 {
			return c[0], i
		}
		if x.Kind != catalog.Package {
			continue
		}
		key := x.Name + "@" + x.Version.Text()
		if versions[key] {
			return api.ErrTwice, i
		}
		versions[key], names[x.Name] = true, true
		if len(names) > 8 || len(versions) > 24 {
			return api.ErrLimit, i
		}
	}
	for i, x := range l {
		if (x.Kind == catalog.Needs || x.Kind == catalog.Clashes) && !versions[x.Name+"@"+x.Version.Text()] {
			return api.ErrMissing, i
		}
	}
	return api.OK, -1
}

// drawn is a line, now and then a wrong one.
func drawn(d *rand.Rand, ranges []semver.Range, odd int) catalog.Line {
	names := []string{"a", "b", "c", "d-1", "abcdefghijkl", "e", "f", "g", "h", "i"}
	wrongs := []string{"", "any", "none", "A", "1a", "abcdefghijklm"}
	rare := func() bool { return d.Intn(odd) == 0 }
	x := catalog.Line{Kind: 1 + d.Intn(4), Name: names[d.Intn(len(names))]}
	if x.Kind != catalog.Root || rare() {
		x.Version = semver.Version{d.Intn(2), d.Intn(2), d.Intn(2) * 999}
	}
	if x.Kind == catalog.Needs || x.Kind == catalog.Clashes || rare() {
		x.Other = names[d.Intn(len(names))]
	}
	if x.Kind != catalog.Package || rare() {
		x.Range = ranges[d.Intn(len(ranges))]
	}
	if rare() {
		x.Kind = d.Intn(7) - 1
	}
	if rare() {
		x.Name = wrongs[d.Intn(len(wrongs))]
	}
	if rare() {
		x.Other = wrongs[d.Intn(len(wrongs))]
	}
	if rare() {
		x.Version[d.Intn(3)] = []int{-1, 1000, 999, 0}[d.Intn(4)]
	}
	return x
}

// Promise 6.1: of lines that are drawn New says what a list of all complaints says.
func TestNewDrawn(t *testing.T) {
	d := rand.New(rand.NewSource(6))
	ranges := []semver.Range{{}, semver.Any(), ranged(t, "<1.0.0"), ranged(t, "1.0.0 || 0.0.0")}
	seen := map[api.Errno]int{}
	for round := range 60_000 {
		var l []catalog.Line
		for range d.Intn(1 + []int{3, 12, 60, 110}[round%4]) {
			l = append(l, drawn(d, ranges, 8+d.Intn(2000)))
		}
		if round%3 == 0 { // so that what is asked for is there more often
			l = slices.DeleteFunc(l, func(x catalog.Line) bool { return x.Kind == catalog.Needs || x.Kind == catalog.Clashes })
		}
		if round%3 == 1 {
			seen := map[catalog.Item]bool{}
			l = slices.DeleteFunc(l, func(x catalog.Line) bool {
				item := catalog.Item{Name: x.Name, Version: x.Version}
				twice := x.Kind == catalog.Package && seen[item]
				seen[item] = true
				return twice
			})
		}
		want, place := first(l)
		seen[want]++
		if want == api.OK {
			made(t, l...)
		} else {
			refused(t, want, place, l...)
		}
		if t.Failed() {
			return
		}
	}
	for _, e := range []api.Errno{api.OK, api.ErrArg, api.ErrName, api.ErrRange, api.ErrTwice, api.ErrLimit, api.ErrMissing} {
		if seen[e] < 100 {
			t.Errorf("only %d drawn with error %d", seen[e], e)
		}
	}
}

// P3: errors.As finds the Errno in each error.
func TestTold(t *testing.T) {
	_, err := catalog.New([]catalog.Line{{}})
	var e api.Errno
	if !errors.As(err, &e) || e != api.ErrArg || err.Error() != "solspace: error 01" {
		t.Error(err)
	}
}

// P1: lines with anything in them end, and don't panic.
func TestAnything(t *testing.T) {
	d := rand.New(rand.NewSource(1))
	for range 20_000 {
		text := make([]byte, d.Intn(20))
		d.Read(text)
		x := catalog.Line{Kind: d.Intn(9) - 2, Name: string(text), Version: semver.Version{d.Int(), -d.Int(), d.Intn(9)}, Other: strconv.Itoa(d.Int())}
		if c, err := catalog.New([]catalog.Line{x}); c != nil || err == nil {
			t.Fatalf("%v is taken", x)
		}
	}
}
