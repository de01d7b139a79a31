package many_test

import (
	"fmt"
	"math/bits"
	"math/rand"
	"slices"
	"strconv"
	"strings"
	"testing"

	"solspace/api"
	"solspace/catalog"
	"solspace/many"
	"solspace/plain"
	"solspace/plan"
	"solspace/semver"
	"solspace/space"
)

// The heads of the functions, and the fields of the type, stay as they are.
var (
	_ func(string) many.Answer                   = many.One
	_ func([]string, int) ([]many.Answer, error) = many.All
	_                                            = many.Answer{Many: "", Least: uint(0), Always: []int(nil), Never: []int(nil), Err: error(nil)}
)

// text is lines with line feeds behind.
func text(lines ...string) string {
	out := ""
	for _, x := range lines {
		out += x + "\n"
	}
	return out
}

// versions are the lines of so many versions of a package.
func versions(name string, many int) []string {
	var out []string
	for i := range many {
		out = append(out, fmt.Sprintf("package %s %d.0.0", name, i))
	}
	return out
}

// alike: two answers tell the same.
func alike(a, b many.Answer) bool {
	e, place := plain.Place(a.Err)
	f, other := plain.Place(b.Err)
	return a.Many == b.Many && a.Least == b.Least && slices.Equal(a.Always, b.Always) && slices.Equal(a.Never, b.Never) && e == f && place == other
}

// only: the answer is that error, at that place (-1: at none), and nothing else.
func only(t testing.TB, text string, want api.Errno, place int) {
	t.Helper()
	a := many.One(text)
	e, at := plain.Place(a.Err)
	plainly := place < 0 && a.Err != error(want)
	if plainly || e != want || at != place || a.Many != "" || a.Least != 0 || a.Always != nil || a.Never != nil {
		t.Errorf("%.100q: %+v; want error %d at %d alone", text, a, want, place)
	}
}

// told: the answer is this one.
func told(t testing.TB, text string, want many.Answer) {
	t.Helper()
	if a := many.One(text); a.Err != nil || !alike(a, want) {
		t.Errorf("%.300q: %+v; want %+v", text, a, want)
	}
}

// Promise 15.1: what Parse says, with its place, and nothing else.
func TestOneParse(t *testing.T) {
	for _, x := range []struct {
		text  string
		want  api.Errno
		place int
	}{
		{"x", api.ErrForm, 0},
		{" ", api.ErrForm, 0},
		{"package a 1.0.0\n\n\nroot a x\n", api.ErrForm, 18},
		{"package a 1.0.0\r\n", api.ErrForm, 0},
		{"package a 1.0.0\npackage b 1.1000.0", api.ErrRange, 16},
		{"\npackage any 1.0.0", api.ErrName, 1},
		{"root a any\npackage a 1.0.0\npackage a 1.0.0\n", api.ErrTwice, 27},
		{"root a any\nneeds a 1.0.0 b any\n", api.ErrMissing, 11},
		{text(versions("a", 25)...), api.ErrLimit, len(text(versions("a", 24)...))},
		{text("package a 1.0.0", "package b 1.0.0", "package c 1.0.0", "package d 1.0.0", "package e 1.0.0", "package f 1.0.0", "package g 1.0.0", "package h 1.0.0", "package i 1.0.0"), api.ErrLimit, 8 * 16},
		{strings.Repeat("root a none\n", 101), api.ErrLimit, -1},
		{strings.Repeat("\n", api.MaxText+1), api.ErrLimit, -1},
		{strings.Repeat("x", api.MaxText+1), api.ErrLimit, -1},
		// Ahead of what Of would say, and what Least would.
		{text(append(versions("a", 21), "root b any", "x")...), api.ErrForm, len(text(append(versions("a", 21), "root b any")...))},
		{text("root b any", "needs c 1.0.0 b any"), api.ErrMissing, 11},
	} {
		only(t, x.text, x.want, x.place)
		if _, err := catalog.Parse(x.text); api.Tell(err) != x.want {
			t.Errorf("%.100q: Parse says %v", x.text, err)
		}
	}
}

// Promise 15.1: texts of as many bytes, and as many lines, as Parse takes.
func TestOneMost(t *testing.T) {
	lines := text("package a 1.0.0", "root a any")
	told(t, lines+strings.Repeat("\n", api.MaxText-len(lines)), many.Answer{Many: "1", Least: 1, Always: []int{0}})
	only(t, lines+strings.Repeat("\n", api.MaxText-len(lines)+1), api.ErrLimit, -1)
	told(t, text(append([]string{"package a 1.0.0"}, slices.Repeat([]string{"root a any"}, 99)...)...), many.Answer{Many: "1", Least: 1, Always: []int{0}})
	told(t, text(slices.Concat(versions("a", 3), versions("b", 3), versions("c", 3), versions("d", 3), versions("e", 3), versions("f", 3), versions("g", 3), versions("h", 3))...), many.Answer{Many: "65536"})
}

// three are the lines of three versions of each of eight packages.
func three() []string {
	var out []string
	for _, name := range strings.Split("abcdefgh", "") {
		out = append(out, versions(name, 3)...)
	}
	return out
}

// knotted are lines for whose diagram there is no room among MaxNodes.
func knotted() []string {
	return append(three(),
		"clashes c 1.0.0 f 1.0.0", "clashes d 0.0.0 g 1.0.0", "clashes f 2.0.0 c 0.0.0", "clashes h 0.0.0 a !1.0.0", "clashes h 1.0.0 b >0.0.0", "clashes h 2.0.0 e !1.0.0",
		"needs a 0.0.0 g any", "needs a 1.0.0 g 0.0.0", "needs b 0.0.0 f any", "needs b 1.0.0 f <2.0.0", "needs d 0.0.0 h any", "needs d 1.0.0 h any",
		"needs f 0.0.0 c any", "needs g 0.0.0 e >0.0.0", "needs g 1.0.0 d any", "needs g 2.0.0 c 2.0.0")
}

// wide are lines whose diagram has nearly MaxNodes nodes.
func wide() []string {
	return append(three(),
		"clashes a 0.0.0 g 0.0.0", "clashes a 1.0.0 h !1.0.0", "clashes e 1.0.0 h 0.0.0", "clashes f 1.0.0 e 2.0.0", "clashes f 2.0.0 d 2.0.0", "clashes h 2.0.0 f <2.0.0",
		"needs b 0.0.0 h any", "needs b 2.0.0 h any", "needs c 0.0.0 g any", "needs c 2.0.0 g any", "needs e 0.0.0 f <2.0.0", "needs f 0.0.0 d <2.0.0",
		"needs g 0.0.0 a any", "needs g 1.0.0 d 0.0.0", "needs g 2.0.0 b <2.0.0", "needs h 1.0.0 c >0.0.0", "needs h 2.0.0 a any")
}

// Promise 15.1: what Of says, and nothing else: too many clauses; no room among MaxNodes.
func TestOneOf(t *testing.T) {
	told(t, text(versions("a", 20)...), many.Answer{Many: "21"})
	only(t, text(versions("a", 21)...), api.ErrLimit, -1)
	// Ahead of what Least would say.
	only(t, text(append(versions("a", 21), "root a none")...), api.ErrLimit, -1)
	only(t, text(append(versions("a", 20), slices.Repeat([]string{"root a none"}, 11)...)...), api.ErrLimit, -1)
	only(t, text(append(versions("a", 20), slices.Repeat([]string{"root a none"}, 10)...)...), api.ErrNone, -1)
	only(t, text(knotted()...), api.ErrFull, -1)
}

// Promise 15.1: room is MaxNodes, no less: what needs nearly as much is answered.
func TestOneRoom(t *testing.T) {
	x := text(wide()...)
	c, err := catalog.Parse(x)
	if err != nil {
		t.Fatal(err)
	}
	if s, err := space.Of(c, 3700); s != nil || err != error(api.ErrFull) {
		t.Fatalf("%v, %v; want ErrFull", s, err)
	}
	// How many there are is what trying all sets that have at most one version of each package tells.
	fitting := 0
	for n := range 1 << 16 {
		set := uint(0)
		for i := range 8 {
			if v := n >> (2 * i) & 3; v < 3 {
				set |= 1 << (3*i + v)
			}
		}
		if ok, _ := plan.Fits(c, set); ok {
			fitting++
		}
	}
	a := byChapters(x)
	if a.Err != nil || a.Many != strconv.Itoa(fitting) {
		t.Fatalf("%+v; want %d", a, fitting)
	}
	told(t, x, a)
}

// Promise 15.1: what Least says, and nothing else.
func TestOneNone(t *testing.T) {
	for _, lines := range [][]string{
		{"root a any"},
		{"root a none"},
		{"package a 1.0.0", "root a none"},
		{"package a 1.0.0", "root a any", "clashes a 1.0.0 a any"},
		{"package a 1.0.0", "package a 2.0.0", "root a 1.0.0", "root a 2.0.0"},
		{"package a 1.0.0", "package b 1.0.0", "root a any", "needs a 1.0.0 b >1.0.0"},
	} {
		only(t, text(lines...), api.ErrNone, -1)
	}
}

// Promise 15.1: how many, the least one, what is always there, and what never.
func TestOne(t *testing.T) {
	for _, x := range []struct {
		lines []string
		want  many.Answer
	}{
		{nil, many.Answer{Many: "1"}},
		{[]string{""}, many.Answer{Many: "1"}},
		{[]string{"", "", ""}, many.Answer{Many: "1"}},
		{[]string{"package a 1.0.0"}, many.Answer{Many: "2"}},
		{[]string{"package a 1.0.0", "root a any"}, many.Answer{Many: "1", Least: 1, Always: []int{0}}},
		{[]string{"package a 1.0.0", "clashes a 1.0.0 a any"}, many.Answer{Many: "1", Never: []int{0}}},
		{[]string{"package a 1.0.0", "needs a 1.0.0 b any", "package b 1.0.0"}, many.Answer{Many: "3"}},
		// Of like ones the one that has the first item in which they differ: the newest.
		{[]string{"package a 1.0.0", "package a 2.0.0", "package b 1.0.0", "needs a 2.0.0 b ^1.0.0", "root a any"}, many.Answer{Many: "3", Least: 0b010}},
		{[]string{"package a 1.0.0", "package a 2.0.0", "package b 1.0.0", "root a any"}, many.Answer{Many: "4", Least: 0b001}},
		{[]string{"package c 1.0.0", "package b 1.0.0", "package a 1.0.0", "root b any", "needs b 1.0.0 c any", "clashes c 1.0.0 a any"}, many.Answer{Many: "1", Least: 0b110, Always: []int{1, 2}, Never: []int{0}}},
		{[]string{"package c 1.0.0", "package b 1.0.0", "package a 1.0.0", "package a 2.0.0", "package b 3.0.0", "root b >1.0.0", "clashes b 3.0.0 a 1.0.0 || 2.0.0"}, many.Answer{Many: "2", Least: 0b00100, Always: []int{2}, Never: []int{0, 1, 3}}},
	} {
		told(t, text(x.lines...), x.want)
	}
	told(t, "", many.Answer{Many: "1"})
	told(t, "package a 1.0.0\nroot a any", many.Answer{Many: "1", Least: 1, Always: []int{0}})
	told(t, "\n\npackage a 1.0.0\n\n\nroot a any\n\n", many.Answer{Many: "1", Least: 1, Always: []int{0}})
}

// drawn is a catalog's text of at most so many items; now and then it is refused.
func drawn(d *rand.Rand, items int) string {
	names := []string{"a", "b", "ba", "c-1", "d"}[:1+d.Intn(5)]
	ranges := []string{"any", "none", "1.0.0", "!1.0.0", "<2.0.0", ">=1.1.0", "^1.0.0", "~0.1.0", "<0.1.0 || >=2.0.0"}
	var there, l []string
	for _, i := range d.Perm(6 * len(names))[:1+d.Intn(min(items, 6*len(names)))] {
		there = append(there, fmt.Sprintf("%s %d.%d.0", names[i/6], i%3, i/3%2))
		l = append(l, "package "+there[len(there)-1])
	}
	for range d.Intn(8) {
		own, other, r := there[d.Intn(len(there))], names[d.Intn(len(names))], ranges[d.Intn(len(ranges))]
		l = append(l, []string{"needs " + own + " " + other + " " + r, "needs " + own + " " + other + " any", "clashes " + own + " " + other + " " + r, "root " + other + " " + r}[d.Intn(4)])
	}
	switch d.Intn(20) {
	case 0:
		l = append(l, "package "+there[0])
	case 1:
		l = append(l, "needs z 1.0.0 a any")
	case 2:
		l = append(l, "root a x")
	}
	d.Shuffle(len(l), func(i, j int) { l[i], l[j] = l[j], l[i] })
	return text(l...)
}

// kept says by the document's words whether a set of items keeps to what a catalog's lines say, and has no two of one name.
func kept(c *catalog.Catalog, set uint) bool {
	var in []catalog.Item
	for i, item := range c.Items() {
		if set>>i&1 == 1 {
			if slices.ContainsFunc(in, func(x catalog.Item) bool { return x.Name == item.Name }) {
				return false
			}
			in = append(in, item)
		}
	}
	has := func(name string, r semver.Range) bool {
		return slices.ContainsFunc(in, func(x catalog.Item) bool { return x.Name == name && r.Has(x.Version) })
	}
	for _, x := range c.Lines() {
		own := slices.Contains(in, catalog.Item{Name: x.Name, Version: x.Version})
		if x.Kind == catalog.Root && !has(x.Name, x.Range) ||
			x.Kind == catalog.Needs && own && !has(x.Other, x.Range) ||
			x.Kind == catalog.Clashes && own && has(x.Other, x.Range) {
			return false
		}
	}
	return true
}

// byTrying is what the document asks of a catalog, by trying all sets of its items.
func byTrying(text string) many.Answer {
	c, err := catalog.Parse(text)
	if err != nil {
		return many.Answer{Err: err}
	}
	items := len(c.Items())
	var l []uint
	for set := range uint(1) << items {
		if kept(c, set) {
			l = append(l, set)
		}
	}
	if len(l) == 0 {
		return many.Answer{Err: api.ErrNone}
	}
	out := many.Answer{Many: strconv.Itoa(len(l)), Least: slices.MinFunc(l, fewer)}
	all, some := ^uint(0), uint(0)
	for _, set := range l {
		all, some = all&set, some|set
	}
	for i := range items {
		if all>>i&1 == 1 {
			out.Always = append(out.Always, i)
		}
		if some>>i&1 == 0 {
			out.Never = append(out.Never, i)
		}
	}
	return out
}

// fewer: a set of fewer items comes ahead; of like ones the one that has the first item in which they differ.
func fewer(a, b uint) int {
	if n := bits.OnesCount(a) - bits.OnesCount(b); n != 0 || a == b {
		return n
	}
	if differ := a ^ b; a&(differ&-differ) != 0 {
		return -1
	}
	return 1
}

// byChapters is what the document asks of a catalog, by the faces of chapters 3, 6 and 10.
func byChapters(text string) many.Answer {
	c, err := catalog.Parse(text)
	if err != nil {
		return many.Answer{Err: err}
	}
	s, err := space.Of(c, 4000)
	if err != nil {
		return many.Answer{Err: err}
	}
	least, err := s.Least()
	if err != nil {
		return many.Answer{Err: err}
	}
	n, err := s.Count(s.All)
	always, err1 := s.Always()
	never, err2 := s.Never()
	if err != nil || err1 != nil || err2 != nil {
		panic("a space that has a least installation tells all")
	}
	return many.Answer{Many: n.Text(), Least: least, Always: always, Never: never}
}

// Promise 15.1: One of catalogs that are drawn, against trying all sets of items, and against chapters 3 and 10.
func TestOneDrawn(t *testing.T) {
	d := rand.New(rand.NewSource(1))
	seen := map[string]int{}
	for range 3000 {
		x := drawn(d, 8)
		a := many.One(x)
		if want := byTrying(x); !alike(a, want) {
			t.Fatalf("%q: %+v; want %+v", x, a, want)
		}
		if want := byChapters(x); !alike(a, want) {
			t.Fatalf("%q: %+v; want %+v", x, a, want)
		}
		seen["error "+strconv.Itoa(int(api.Tell(a.Err)))]++
		if a.Least != 0 {
			seen["least"]++
		}
		if len(a.Always) > 0 {
			seen["always"]++
		}
		if len(a.Never) > 1 {
			seen["never"]++
		}
	}
	for _, what := range []string{"error 0", "error 3", "error 7", "error 8", "error 9", "least", "always", "never"} {
		if seen[what] < 50 {
			t.Errorf("%s: only %d of %v", what, seen[what], seen)
		}
	}
}

// Promise 15.1: One of catalogs of as many items as there may be, against chapters 3 and 10.
func TestOneDrawnMost(t *testing.T) {
	d := rand.New(rand.NewSource(2))
	for range 100 {
		if x := drawn(d, 24); !alike(many.One(x), byChapters(x)) {
			t.Fatalf("%q: %+v; want %+v", x, many.One(x), byChapters(x))
		}
	}
}

// P4: an answer is the caller's: what is written over it is in no other.
func TestOneFresh(t *testing.T) {
	for _, x := range []string{
		text("package a 1.0.0", "package b 1.0.0", "package c 1.0.0", "package d 1.0.0", "root a any", "root b any", "clashes a 1.0.0 c any", "clashes a 1.0.0 d any"),
		"root a x",
		"root a any",
	} {
		first, second, want := many.One(x), many.One(x), byChapters(x)
		spoil(&first)
		if !alike(second, want) || !alike(many.One(x), want) {
			t.Errorf("%q: %+v and %+v; want %+v", x, second, many.One(x), want)
		}
		// Always and Never share nothing either, nor what stands behind their ends.
		clear(second.Always[:cap(second.Always)])
		if !slices.Equal(second.Never, want.Never) {
			t.Errorf("%q: %v; want %v", x, second.Never, want.Never)
		}
	}
}

// spoil writes over all that an answer has.
func spoil(a *many.Answer) {
	for _, l := range [][]int{a.Always[:cap(a.Always)], a.Never[:cap(a.Never)]} {
		for i := range l {
			l[i] = -7
		}
	}
	if at, ok := a.Err.(*api.At); ok {
		at.Err, at.Place = api.ErrCycle, -7
	}
	a.Many, a.Least, a.Err = "spoilt", 7, api.ErrCycle
}

// README's example.
func TestReadme(t *testing.T) {
	told(t, "package a 1.0.0\npackage a 2.0.0\npackage b 1.0.0\nneeds a 2.0.0 b ^1.0.0\nroot a any\n", many.Answer{Many: "3", Least: 0b010})
	l, err := many.All([]string{"package a 1.0.0\n", "root a any\n", "x"}, 2)
	if err != nil || len(l) != 3 || l[0].Many != "2" || l[1].Err != error(api.ErrNone) || api.Tell(l[2].Err) != api.ErrForm {
		t.Errorf("%v, %v", l, err)
	}
}
