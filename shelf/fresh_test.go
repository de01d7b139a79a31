package shelf_test

import (
	"slices"
	"testing"

	"solspace/api"
	"solspace/arena"
	"solspace/catalog"
	"solspace/shelf"
	"solspace/space"
)

// P4: a catalog that was told earlier stays as it was, whatever is changed and taken back behind it.
func TestCatalogStays(t *testing.T) {
	var s shelf.Shelf
	var told []*catalog.Catalog
	var texts []string
	look := func() {
		told = append(told, s.Catalog())
		texts = append(texts, s.Catalog().Text())
	}
	look()
	for _, x := range []string{"package a 1.0.0", "package b 1.0.0", "root a any", "needs a 1.0.0 b any"} {
		publish(t, &s, x)
		look()
	}
	done(t, s.Yank(2))
	look()
	for range 3 {
		done(t, s.Undo())
		look()
	}
	publish(t, &s, "root b none", "package c 1.0.0")
	look()
	for i, c := range told {
		if c.Text() != texts[i] {
			t.Errorf("%q is %q now", texts[i], c.Text())
		}
	}
	if !slices.Equal(told[4].Items(), []catalog.Item{{Name: "a", Version: [3]int{1}}, {Name: "b", Version: [3]int{1}}}) {
		t.Errorf("%v", told[4].Items())
	}
}

// P4: a catalog that is told is the caller's: what is written over it is not on the shelf, nor in what was told besides.
func TestCatalogFresh(t *testing.T) {
	lines := []string{"package a 1.0.0", "package b 1.0.0", "root a any"}
	s := stocked(t, lines...)
	first, second := s.Catalog(), s.Catalog()
	if first == second {
		t.Errorf("two catalogs are one")
	}
	*first = catalog.Catalog{}
	if second.Text() != s.Catalog().Text() || len(second.Lines()) != 3 {
		t.Errorf("%q", second.Text())
	}
	list, items := second.Lines(), second.Items()
	clear(list)
	clear(items)
	has(t, s, lines...)
	*second = *stocked(t, "root z any").Catalog()
	has(t, s, lines...)
	done(t, s.Undo())
	has(t, s, lines[:2]...)
	var zero shelf.Shelf
	*zero.Catalog() = *s.Catalog()
	has(t, &zero)
}

// P4: a line that is handed in is not kept: the list in which it stands can be written over, and is not written into.
func TestPublishFresh(t *testing.T) {
	var s shelf.Shelf
	list := []catalog.Line{read(t, "package a 1.0.0"), read(t, "needs a 1.0.0 b <2.0.0"), read(t, "root a any")}
	was := slices.Clone(list)
	for i := range list {
		done(t, s.Publish(list[i]))
		if list[i].Kind != was[i].Kind || list[i].Name != was[i].Name || !list[i].Range.Same(was[i].Range) {
			t.Errorf("%v: written into", list[i])
		}
		list[i].Name, list[i].Version[0], list[i].Range = "z", 7, list[i].Range.Not()
	}
	has(t, &s, "package a 1.0.0", "needs a 1.0.0 b <2.0.0", "root a any")
}

// P4: what is made in a space, or freed, or written over it, changes neither the catalog, nor Count, nor the space behind a change.
func TestSpaceSpoiled(t *testing.T) {
	lines := []string{"package a 1.0.0", "package b 1.0.0", "needs a 1.0.0 b any"}
	for i, spoil := range []func(*space.Space){
		func(x *space.Space) { x.Not(x.All) },
		func(x *space.Space) { x.Free() },
		func(x *space.Space) { x.All = arena.False },
		func(x *space.Space) { x.All = -1 },
		func(x *space.Space) { x.Space = nil },
		func(x *space.Space) { *x = space.Space{} },
	} {
		s := stocked(t, lines...)
		all, err := s.Space()
		done(t, err)
		spoil(all)
		for range 2 {
			if n, err := s.Count(); err != nil || n.Text() != "3" {
				t.Errorf("%d: %s, %v", i, n.Text(), err)
			}
			if again, err := s.Space(); again != all || err != nil {
				t.Errorf("%d: another space, %v", i, err)
			}
		}
		publish(t, s, "root a any")
		has(t, s, append(slices.Clone(lines), "root a any")...)
		done(t, s.Undo())
		has(t, s, lines...)
	}
}

// P4: two shelves, and a shelf and its copy, have nothing in common: what is done to the one is not done to the other.
func TestCopies(t *testing.T) {
	a := stocked(t, roots(0, 10)...)
	b := *a
	publish(t, a, "root b any")
	publish(t, &b, "root c any")
	has(t, a, append(roots(0, 10), "root b any")...)
	has(t, &b, append(roots(0, 10), "root c any")...)
	for range 5 {
		done(t, a.Undo())
	}
	c := *a
	publish(t, a, roots(50, 60)...)
	done(t, c.Yank(0))
	for i := range 10 {
		has(t, a, append(roots(0, 6), roots(50, 60-i)...)...)
		done(t, a.Undo())
	}
	has(t, &c, roots(1, 6)...)
	done(t, c.Undo())
	for i := range 11 {
		has(t, &b, append(roots(0, 10), "root c any")[:11-i]...)
		done(t, b.Undo())
	}
	for i := range 6 {
		has(t, a, roots(0, 6-i)...)
		has(t, &c, roots(0, 6-i)...)
		done(t, a.Undo())
		done(t, c.Undo())
	}
	for _, s := range []*shelf.Shelf{a, &b, &c} {
		has(t, s)
		fails(t, s.Undo(), api.ErrNone, -1)
	}
}

// P4: what Count tells stays as it was.
func TestCountStays(t *testing.T) {
	s := stocked(t, "package a 1.0.0", "package b 1.0.0")
	first, err := s.Count()
	done(t, err)
	publish(t, s, "root a any")
	second, err := s.Count()
	done(t, err)
	done(t, s.Yank(1))
	if first.Text() != "4" || second.Text() != "2" {
		t.Errorf("%s and %s", first.Text(), second.Text())
	}
}
