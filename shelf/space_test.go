package shelf_test

import (
	"fmt"
	"math/rand"
	"testing"

	"solspace/api"
	"solspace/catalog"
	"solspace/image"
	"solspace/plan"
	"solspace/shelf"
	"solspace/space"
)

// counts: Space is Of of the catalog, node by node, and Count is its All's; both say what Of says.
func counts(t testing.TB, s *shelf.Shelf) {
	t.Helper()
	c := s.Catalog()
	want, wrong := space.Of(c, api.MaxNodes)
	all, err := s.Space()
	n, err2 := s.Count()
	if err != wrong || err2 != wrong {
		t.Fatalf("%q: %v and %v; want %v", c.Text(), err, err2, wrong)
	}
	if wrong != nil {
		if all != nil || !n.Zero() {
			t.Fatalf("%q: %v, %s", c.Text(), all, n.Text())
		}
		return
	}
	a, err := image.Save(all.Space, all.All)
	b, err2 := image.Save(want.Space, want.All)
	if err != nil || err2 != nil || string(a) != string(b) {
		t.Fatalf("%q: %q; want %q", c.Text(), a, b)
	}
	if many, _ := want.Count(want.All); many.Cmp(n) != 0 {
		t.Fatalf("%q: %s; want %s", c.Text(), n.Text(), many.Text())
	}
}

// sets is how many sets of a catalog's items fit it.
func sets(c *catalog.Catalog) int {
	out := 0
	for set := range uint(1) << len(c.Items()) {
		if ok, _ := plan.Fits(c, set); ok {
			out++
		}
	}
	return out
}

// Promise 14.1: Count, against trying all sets of items, change by change.
func TestCount(t *testing.T) {
	d := rand.New(rand.NewSource(2))
	for range 30 {
		s := new(shelf.Shelf)
		for range 60 {
			switch d.Intn(6) {
			case 0:
				s.Undo()
			case 1:
				s.Yank(d.Intn(10))
			default:
				s.Publish(line(d))
			}
			c := s.Catalog()
			if len(c.Items()) > 9 {
				break
			}
			if n, err := s.Count(); err != nil || n.Text() != fmt.Sprint(sets(c)) {
				t.Fatalf("%q: %s, %v; want %d", c.Text(), n.Text(), err, sets(c))
			}
		}
	}
}

// Promise 14.1: nothing may be installed.
func TestCountNone(t *testing.T) {
	s := stocked(t, "package a 1.0.0", "root b any")
	if n, err := s.Count(); err != nil || !n.Zero() {
		t.Errorf("%s, %v", n.Text(), err)
	}
	counts(t, s)
	done(t, s.Yank(1))
	if n, err := s.Count(); err != nil || n.Text() != "2" {
		t.Errorf("%s, %v", n.Text(), err)
	}
}

// Promise 14.1: Space is the same one as long as nothing changes, and another one behind each change: behind one that is taken back, too.
func TestSpaceSame(t *testing.T) {
	s := stocked(t, "package a 1.0.0")
	var seen []*space.Space
	another := func() {
		t.Helper()
		now, err := s.Space()
		done(t, err)
		for _, x := range seen {
			if x == now || x.Space == now.Space || x.Arena == now.Arena {
				t.Fatalf("%q: the space is one of before", s.Catalog().Text())
			}
		}
		seen = append(seen, now)
		same(t, s, now)
	}
	another()
	publish(t, s, "root a any")
	another()
	done(t, s.Yank(1))
	another()
	done(t, s.Undo())
	another()
	done(t, s.Undo())
	another()
	publish(t, s, "root a any")
	another()
	for i, x := range seen { // each stays what it was
		n, err := x.Count(x.All)
		if want := []string{"2", "1", "2", "1", "2", "1"}[i]; err != nil || n.Text() != want {
			t.Errorf("%d: %s, %v; want %s", i, n.Text(), err, want)
		}
	}
}

// same: whatever is asked, and whatever is refused, the space is the same one.
func same(t *testing.T, s *shelf.Shelf, now *space.Space) {
	t.Helper()
	lines := len(s.Catalog().Lines())
	for i, ask := range []func(){
		func() {},
		func() { s.Catalog() },
		func() { s.Count() },
		func() { fails(t, s.Publish(catalog.Line{}), api.ErrArg, lines) },
		func() { fails(t, s.Publish(read(t, "package a 1.0.0")), api.ErrTwice, lines) },
		func() { fails(t, s.Yank(-1), api.ErrRange, -1) },
		func() { fails(t, s.Yank(lines), api.ErrRange, -1) },
	} {
		ask()
		if again, err := s.Space(); again != now || err != nil {
			t.Fatalf("%d: another space, %v", i, err)
		}
	}
}

// Promise 14.1: when nothing can be taken back, the space is the same one, too.
func TestSpaceSameNone(t *testing.T) {
	var s shelf.Shelf
	first, _ := s.Space()
	fails(t, s.Undo(), api.ErrNone, -1)
	if again, err := s.Space(); again != first || err != nil {
		t.Errorf("another space, %v", err)
	}
	// Count asked first makes no difference.
	publish(t, &s, "package a 1.0.0")
	s.Count()
	first, _ = s.Space()
	s.Count()
	if again, err := s.Space(); again != first || err != nil {
		t.Errorf("another space, %v", err)
	}
}

// Promise 14.1: Space and Count say what Of says; the lines are there all the same, and can be taken back.
func TestSpaceError(t *testing.T) {
	s := stocked(t, versions("a", 20)...)
	counts(t, s)
	publish(t, s, "package a 20.0.0")
	for range 2 {
		all, err := s.Space()
		if all != nil || err != error(api.ErrLimit) {
			t.Errorf("%v, %#v; want ErrLimit", all, err)
		}
		n, err := s.Count()
		if !n.Zero() || err != error(api.ErrLimit) {
			t.Errorf("%s, %#v; want ErrLimit", n.Text(), err)
		}
	}
	has(t, s, versions("a", 21)...)
	publish(t, s, "root a any")
	has(t, s, append(versions("a", 21), "root a any")...)
	done(t, s.Undo())
	done(t, s.Yank(7))
	if n, err := s.Count(); err != nil || n.Text() != "21" {
		t.Errorf("%s, %v", n.Text(), err)
	}
	done(t, s.Undo())
	if _, err := s.Count(); err != error(api.ErrLimit) {
		t.Errorf("%#v; want ErrLimit", err)
	}
	done(t, s.Undo())
	has(t, s, versions("a", 20)...)
}

// Promise 14.1: there is room for MaxNodes.
func TestSpaceRoom(t *testing.T) {
	s := stocked(t, append(versions("a", 8), versions("b", 8)...)...)
	all, err := s.Space()
	done(t, err)
	d := rand.New(rand.NewSource(3))
	h := all.All
	for {
		x, err := all.Lit(d.Intn(16), d.Intn(2) == 0)
		y, err2 := all.Lit(d.Intn(16), d.Intn(2) == 0)
		both, err3 := all.And(x, y)
		next, err4 := all.Xor(h, both)
		if err != nil || err2 != nil || err3 != nil || err4 != nil {
			break
		}
		h = next
	}
	if all.Len() != api.MaxNodes {
		t.Errorf("%d nodes", all.Len())
	}
	if n, err := s.Count(); err != nil || n.Text() != "81" {
		t.Errorf("%s, %v", n.Text(), err)
	}
}
