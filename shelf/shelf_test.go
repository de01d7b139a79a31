package shelf_test

import (
	"fmt"
	"math"
	"math/rand"
	"slices"
	"strings"
	"testing"

	"solspace/api"
	"solspace/arena"
	"solspace/catalog"
	"solspace/count"
	"solspace/plain"
	"solspace/semver"
	"solspace/shelf"
	"solspace/space"
)

// The heads of the functions stay as they are.
var (
	_ func(*shelf.Shelf, catalog.Line) error   = (*shelf.Shelf).Publish
	_ func(*shelf.Shelf, int) error            = (*shelf.Shelf).Yank
	_ func(*shelf.Shelf) error                 = (*shelf.Shelf).Undo
	_ func(*shelf.Shelf) *catalog.Catalog      = (*shelf.Shelf).Catalog
	_ func(*shelf.Shelf) (*space.Space, error) = (*shelf.Shelf).Space
	_ func(*shelf.Shelf) (count.Nat, error)    = (*shelf.Shelf).Count
	_                                          = shelf.Shelf{}
)

// read is a line of a text that may be one.
func read(t testing.TB, text string) catalog.Line {
	t.Helper()
	x, err := catalog.ParseLine(text)
	if err != nil {
		t.Fatalf("%q: %v", text, err)
	}
	return x
}

// stocked is a shelf on which lines were put.
func stocked(t testing.TB, lines ...string) *shelf.Shelf {
	t.Helper()
	s := new(shelf.Shelf)
	publish(t, s, lines...)
	return s
}

// publish puts lines that may be there.
func publish(t testing.TB, s *shelf.Shelf, lines ...string) {
	t.Helper()
	for _, x := range lines {
		done(t, s.Publish(read(t, x)))
	}
}

func done(t testing.TB, err error) {
	t.Helper()
	if err != nil {
		t.Fatal(err)
	}
}

// fails: it is that error, at that place (-1: at none).
func fails(t testing.TB, err error, want api.Errno, place int) {
	t.Helper()
	plainly := place < 0 && err != error(want)
	if e, at := plain.Place(err); plainly || e != want || at != place {
		t.Errorf("%#v; want %d at %d", err, want, place)
	}
}

// has: the shelf has just these lines, and what may be installed of them.
func has(t testing.TB, s *shelf.Shelf, lines ...string) {
	t.Helper()
	want := ""
	for _, x := range lines {
		want += x + "\n"
	}
	c := s.Catalog()
	if c.Text() != want {
		t.Fatalf("%q; want %q", c.Text(), want)
	}
	parsed, err := catalog.Parse(want)
	done(t, err)
	if !slices.Equal(c.Items(), parsed.Items()) || len(c.Lines()) != len(lines) {
		t.Fatalf("%q: %v, %d lines", want, c.Items(), len(c.Lines()))
	}
	counts(t, s)
}

// versions are the lines of so many versions of a package.
func versions(name string, many int) []string {
	var out []string
	for i := range many {
		out = append(out, fmt.Sprintf("package %s %d.0.0", name, i))
	}
	return out
}

// Promise 14.1: the zero value has a catalog without lines: nothing is its one installation.
func TestZero(t *testing.T) {
	var s shelf.Shelf
	c := s.Catalog()
	if len(c.Lines()) != 0 || len(c.Items()) != 0 || c.Text() != "" {
		t.Errorf("%q", c.Text())
	}
	all, err := s.Space()
	if err != nil || all == nil || all.Vars() != 0 || all.All != arena.True || all.Len() != 0 {
		t.Errorf("%v, %v", all, err)
	}
	if n, err := s.Count(); err != nil || n.Text() != "1" {
		t.Errorf("%s, %v", n.Text(), err)
	}
	fails(t, s.Undo(), api.ErrNone, -1)
	fails(t, s.Yank(0), api.ErrRange, -1)
	publish(t, &s, "package a 1.0.0")
	has(t, &s, "package a 1.0.0")
	done(t, s.Undo())
	has(t, &s)
	fails(t, s.Undo(), api.ErrNone, -1)
}

// P1, P2: of a shelf that isn't there nothing is said: all that is answered is its zero value, and no call panics.
func TestNil(t *testing.T) {
	var s *shelf.Shelf
	for range 2 {
		for _, err := range []error{s.Publish(read(t, "package a 1.0.0")), s.Publish(catalog.Line{}), s.Yank(0), s.Yank(-1), s.Undo()} {
			if err != nil {
				t.Errorf("%v", err)
			}
		}
		if c := s.Catalog(); c != nil {
			t.Errorf("%q", c.Text())
		}
		if all, err := s.Space(); all != nil || err != nil {
			t.Errorf("%v, %v", all, err)
		}
		if n, err := s.Count(); !n.Zero() || err != nil {
			t.Errorf("%s, %v", n.Text(), err)
		}
	}
}

// Promise 14.1: a line is put behind all.
func TestPublish(t *testing.T) {
	lines := []string{"package b 1.0.0", "package a 1.0.0", "root a any", "needs a 1.0.0 b >=1.0.0", "package a 2.0.0", "clashes a 2.0.0 b any", "root z none", "needs b 1.0.0 b any"}
	var s shelf.Shelf
	for i, x := range lines {
		publish(t, &s, x)
		has(t, &s, lines[:i+1]...)
	}
	// The same line but a package's may stand there twice.
	publish(t, &s, lines[2])
	has(t, &s, append(slices.Clone(lines), lines[2])...)
}

// Promise 14.1: what New says of a line, at its place behind all others; nothing is changed then, and nothing can be taken back for it.
func TestPublishRefused(t *testing.T) {
	v, all := semver.Version{1, 0, 0}, semver.Any()
	lines := []string{"package a 1.0.0", "root a any", "package b 1.0.0"}
	s := stocked(t, lines...)
	before, _ := s.Space()
	for _, x := range []struct {
		line catalog.Line
		want api.Errno
	}{
		{catalog.Line{}, api.ErrArg},
		{catalog.Line{Kind: 5, Name: "c"}, api.ErrArg},
		{catalog.Line{Kind: -1, Name: "c"}, api.ErrArg},
		{catalog.Line{Kind: catalog.Package, Version: v}, api.ErrName},
		{catalog.Line{Kind: catalog.Package, Name: "any", Version: v}, api.ErrName},
		{catalog.Line{Kind: catalog.Needs, Name: "a", Version: v, Other: "1", Range: all}, api.ErrName},
		{catalog.Line{Kind: catalog.Package, Name: "c", Version: v, Other: "a"}, api.ErrArg},
		{catalog.Line{Kind: catalog.Package, Name: "c", Version: v, Range: all}, api.ErrArg},
		{catalog.Line{Kind: catalog.Root, Name: "a", Version: v, Range: all}, api.ErrArg},
		{catalog.Line{Kind: catalog.Package, Name: "c", Version: semver.Version{0, 0, 1000}}, api.ErrRange},
		{catalog.Line{Kind: catalog.Package, Name: "c", Version: semver.Version{-1, 0, 0}}, api.ErrRange},
		{catalog.Line{Kind: catalog.Package, Name: "a", Version: v}, api.ErrTwice},
		{catalog.Line{Kind: catalog.Needs, Name: "a", Version: semver.Version{2, 0, 0}, Other: "b", Range: all}, api.ErrMissing},
		{catalog.Line{Kind: catalog.Clashes, Name: "c", Version: v, Other: "b", Range: all}, api.ErrMissing},
		// Where several things are wrong, the one that New tells first.
		{catalog.Line{Kind: 7, Version: semver.Version{-1}}, api.ErrArg},
		{catalog.Line{Kind: catalog.Package, Name: "", Version: semver.Version{-1}, Other: "x"}, api.ErrName},
		{catalog.Line{Kind: catalog.Package, Name: "a", Version: semver.Version{-1}, Other: "x"}, api.ErrArg},
		{catalog.Line{Kind: catalog.Needs, Name: "z", Version: semver.Version{-1}, Other: "x"}, api.ErrRange},
	} {
		fails(t, s.Publish(x.line), x.want, 3)
		has(t, s, lines...)
		if now, _ := s.Space(); now != before {
			t.Errorf("%v: another space", x.line)
		}
	}
	done(t, s.Undo())
	has(t, s, lines[:2]...)
	fails(t, s.Publish(read(t, "needs b 1.0.0 a any")), api.ErrMissing, 2)
	done(t, s.Undo())
	done(t, s.Undo())
	fails(t, s.Publish(read(t, "clashes b 1.0.0 a any")), api.ErrMissing, 0)
	fails(t, s.Undo(), api.ErrNone, -1)
}

// Promise 14.1: as many lines, names and versions as New allows, and no more.
func TestPublishLimits(t *testing.T) {
	s := stocked(t, "package a 1.0.0")
	for i := 1; i < api.MaxLines; i++ {
		publish(t, s, "root a any")
	}
	fails(t, s.Publish(read(t, "root a any")), api.ErrLimit, -1)
	// How many lines there are is told ahead of what is wrong with one.
	fails(t, s.Publish(catalog.Line{}), api.ErrLimit, -1)
	if n := len(s.Catalog().Lines()); n != api.MaxLines {
		t.Errorf("%d lines", n)
	}
	done(t, s.Yank(50))
	fails(t, s.Publish(catalog.Line{}), api.ErrArg, api.MaxLines-1)
	publish(t, s, "root a none")
	fails(t, s.Publish(read(t, "root a any")), api.ErrLimit, -1)

	s = new(shelf.Shelf)
	for i := range api.MaxPackages {
		publish(t, s, fmt.Sprintf("package p%d 1.0.0", i))
	}
	fails(t, s.Publish(read(t, "package q 1.0.0")), api.ErrLimit, api.MaxPackages)
	publish(t, s, "package p0 2.0.0")

	s = stocked(t, versions("a", api.MaxVersions)...)
	fails(t, s.Publish(read(t, "package a 77.0.0")), api.ErrLimit, api.MaxVersions)
	fails(t, s.Publish(read(t, "package a 1.0.0")), api.ErrTwice, api.MaxVersions)
	done(t, s.Yank(3))
	publish(t, s, "package a 77.0.0")
}

// Promise 14.1: ErrRange, unless there is that line.
func TestYankRange(t *testing.T) {
	for many := range 4 {
		lines := []string{"package a 1.0.0", "root a any", "root b none"}[:many]
		s := stocked(t, lines...)
		before, _ := s.Space()
		for _, n := range []int{-1, many, many + 1, 100, -100, math.MinInt, math.MaxInt} {
			fails(t, s.Yank(n), api.ErrRange, -1)
			has(t, s, lines...)
		}
		if now, _ := s.Space(); now != before {
			t.Errorf("%d lines: another space", many)
		}
		for range many {
			done(t, s.Undo())
		}
		fails(t, s.Undo(), api.ErrNone, -1)
	}
}

// Promise 14.1: each line that no other leans on can be taken out, wherever it stands; the others stay in their order.
func TestYank(t *testing.T) {
	lines := []string{"package a 1.0.0", "root b any", "package b 1.0.0", "root a any", "package b 2.0.0"}
	for n := range lines {
		s := stocked(t, lines...)
		done(t, s.Yank(n))
		has(t, s, slices.Delete(slices.Clone(lines), n, n+1)...)
	}
	s := stocked(t, lines...)
	for range lines {
		done(t, s.Yank(0))
	}
	has(t, s)
	// Of like ones, the one that is told.
	s = stocked(t, "root a any", "root b any", "root a any")
	done(t, s.Yank(2))
	has(t, s, "root a any", "root b any")
}

// Promise 14.1: a line that others lean on: what New says of the others, by their numbers among themselves; nothing is changed then.
func TestYankLeaned(t *testing.T) {
	lines := []string{"package a 1.0.0", "package b 1.0.0", "root a any", "needs a 1.0.0 b any", "package c 1.0.0", "clashes b 1.0.0 a any", "needs a 1.0.0 c any"}
	s := stocked(t, lines...)
	before, _ := s.Space()
	for range 2 {
		fails(t, s.Yank(0), api.ErrMissing, 2)
		fails(t, s.Yank(1), api.ErrMissing, 4)
		has(t, s, lines...)
	}
	if now, _ := s.Space(); now != before {
		t.Errorf("another space")
	}
	// What is needed, but by no line's own name, may go.
	done(t, s.Yank(4))
	done(t, s.Undo())
	// When those that lean on it are gone, it may go, too.
	for _, n := range []int{6, 3, 0} {
		done(t, s.Yank(n))
	}
	has(t, s, "package b 1.0.0", "root a any", "package c 1.0.0", "clashes b 1.0.0 a any")
	for range 3 {
		done(t, s.Undo())
	}
	has(t, s, lines...)
	done(t, s.Undo())
	has(t, s, lines[:6]...)
}

// line is one that is drawn: often it may be there.
func line(d *rand.Rand) catalog.Line {
	names := []string{"a", "b", "c-1", "d", "e", "f", "g", "h", "i", "any", ""}
	name := func() string { return names[min(d.Intn(5)*d.Intn(5), len(names)-1)] }
	ranges := []semver.Range{{}, semver.Any()}
	for _, text := range []string{"1.0.0", "<2.0.0", "!1.0.0"} {
		r, _ := semver.ParseRange(text)
		ranges = append(ranges, r)
	}
	x := catalog.Line{Kind: 1 + d.Intn(4), Name: name(), Version: semver.Version{d.Intn(3), 0, d.Intn(2)}}
	if x.Kind != catalog.Package {
		x.Range = ranges[d.Intn(5)]
	}
	if x.Kind == catalog.Needs || x.Kind == catalog.Clashes {
		x.Other = name()
	}
	if x.Kind == catalog.Root {
		x.Version = semver.Version{}
	}
	switch d.Intn(40) {
	case 0:
		x.Kind = d.Intn(7)
	case 1:
		x.Other = name()
	case 2:
		x.Version[d.Intn(3)] = 999 + d.Intn(2)
	}
	return x
}

// model is a shelf as plainly as can be: the lines of now, and all lists of lines that there were.
type model struct {
	now []catalog.Line
	was [][]catalog.Line
}

func (m *model) change(lines []catalog.Line) error {
	_, err := catalog.New(lines)
	if err == nil {
		m.was = append(m.was, m.now)
		m.was = m.was[max(0, len(m.was)-50):]
		m.now = lines
	}
	return err
}

func (m *model) publish(x catalog.Line) error {
	return m.change(slices.Concat(m.now, []catalog.Line{x}))
}

func (m *model) yank(n int) error {
	if n < 0 || n >= len(m.now) {
		return api.ErrRange
	}
	return m.change(slices.Concat(m.now[:n], m.now[n+1:]))
}

func (m *model) undo() error {
	if len(m.was) == 0 {
		return api.ErrNone
	}
	m.now, m.was = m.was[len(m.was)-1], m.was[:len(m.was)-1]
	return nil
}

// drawn does the same to a shelf and to a model, more often or more seldom a Yank; what both say.
func drawn(d *rand.Rand, s *shelf.Shelf, m *model, yanks int) (error, error) {
	switch x, n, what := line(d), d.Intn(len(m.now)+3)-1, d.Intn(10); {
	case what < yanks:
		return s.Yank(n), m.yank(n)
	case what == yanks:
		return s.Undo(), m.undo()
	default:
		return s.Publish(x), m.publish(x)
	}
}

// Promise 14.1: Publish, Yank and Undo that are drawn, against all lists of lines that there were, and what New says.
func TestDrawn(t *testing.T) {
	d := rand.New(rand.NewSource(1))
	seen := map[api.Errno]int{}
	for i := range 100 {
		s, m := new(shelf.Shelf), new(model)
		for range 300 {
			got, want := drawn(d, s, m, i%5)
			e, place := plain.Place(want)
			if a, b := plain.Place(got); a != e || b != place {
				t.Fatalf("%q: %v at %d; want %v at %d", s.Catalog().Text(), a, b, e, place)
			}
			seen[e]++
			c, _ := catalog.New(m.now)
			if told := s.Catalog(); told.Text() != c.Text() || !slices.Equal(told.Items(), c.Items()) {
				t.Fatalf("%q; want %q", told.Text(), c.Text())
			}
			if d.Intn(10) == 0 {
				counts(t, s)
			}
		}
		for m.undo() == nil {
			done(t, s.Undo())
		}
		fails(t, s.Undo(), api.ErrNone, -1)
	}
	for _, e := range []api.Errno{api.OK, api.ErrArg, api.ErrRange, api.ErrName, api.ErrTwice, api.ErrMissing, api.ErrLimit, api.ErrNone} {
		if seen[e] < 20 {
			t.Errorf("error %d: only %d of %v", e, seen[e], seen)
		}
	}
}

// README's example.
func TestReadme(t *testing.T) {
	var s shelf.Shelf
	publish(t, &s, "package a 1.0.0", "package b 1.0.0", "needs a 1.0.0 b any")
	if n, err := s.Count(); err != nil || n.Text() != "3" {
		t.Errorf("%s, %v", n.Text(), err)
	}
	fails(t, s.Yank(0), api.ErrMissing, 1)
	done(t, s.Yank(2))
	if n, err := s.Count(); err != nil || n.Text() != "4" {
		t.Errorf("%s, %v", n.Text(), err)
	}
	done(t, s.Undo())
	if text := s.Catalog().Text(); !strings.HasSuffix(text, "\nneeds a 1.0.0 b any\n") {
		t.Errorf("%q", text)
	}
	all, err := s.Space()
	done(t, err)
	if n, _ := all.Count(all.All); n.Text() != "3" {
		t.Errorf("%s", n.Text())
	}
}
