package catalog_test

import (
	"math/rand"
	"slices"
	"testing"

	"solspace/api"
	"solspace/catalog"
	"solspace/semver"
)

// Promise 6.2: names in order of bytes, of one name the newest first, whatever order the lines have.
func TestItems(t *testing.T) {
	want := []catalog.Item{
		{Name: "a", Version: semver.Version{10, 0, 0}},
		{Name: "a", Version: semver.Version{9, 0, 0}},
		{Name: "a", Version: semver.Version{1, 2, 10}},
		{Name: "a", Version: semver.Version{1, 2, 9}},
		{Name: "a", Version: semver.Version{1, 1, 999}},
		{Name: "a", Version: semver.Version{0, 0, 0}},
		{Name: "a-b", Version: semver.Version{1, 0, 0}},
		{Name: "a0", Version: semver.Version{2, 0, 0}},
		{Name: "a0", Version: semver.Version{1, 0, 0}},
		{Name: "aa", Version: semver.Version{1, 0, 0}},
		{Name: "ab", Version: semver.Version{0, 1, 0}},
		{Name: "b", Version: semver.Version{5, 0, 0}},
	}
	d := rand.New(rand.NewSource(2))
	for range 200 {
		var l []catalog.Line
		for _, i := range d.Perm(len(want)) {
			l = append(l, pkg(want[i].Name, want[i].Version), root("z", semver.Any()))
		}
		c := made(t, l...)
		if got := c.Items(); !slices.Equal(got, want) {
			t.Fatalf("%v", got)
		}
		for i, item := range want {
			if got := c.Number(item.Name, item.Version); got != i {
				t.Errorf("%v has the number %d", item, got)
			}
		}
	}
}

// Promise 6.2: what is no item has the number -1, though lines speak of it.
func TestNumberOfNone(t *testing.T) {
	any := semver.Any()
	c := made(t, pkg("a", v1), pkg("b", v2), needs("a", v1, "c", any), clashes("b", v2, "d", any), root("e", any), root("a", any))
	for _, item := range []catalog.Item{
		{Name: "a", Version: v2}, {Name: "b", Version: v1}, {Name: "a", Version: v0}, {Name: "c", Version: v1}, {Name: "d", Version: v2},
		{Name: "e", Version: v0}, {Name: "", Version: v0}, {Name: "A", Version: v1}, {Name: "a ", Version: v1}, {Name: "any", Version: v1},
		{Name: "a", Version: semver.Version{1, 0, -1}}, {Name: "a", Version: semver.Version{0, 1000, 0}}, {Name: "a", Version: semver.Version{-1 << 63, 0, 0}},
	} {
		if got := c.Number(item.Name, item.Version); got != -1 {
			t.Errorf("%v has the number %d", item, got)
		}
	}
	if a, b := c.Number("a", v1), c.Number("b", v2); a != 0 || b != 1 {
		t.Errorf("numbers %d and %d", a, b)
	}
}

// Promise 6.2: Among by hand: the edges of ranges, and names that are none.
func TestAmong(t *testing.T) {
	c := made(t,
		pkg("b", v1), pkg("a", v1), pkg("b", v2), pkg("a", semver.Version{1, 5, 0}), pkg("c", v1), pkg("b", v0), pkg("a", v2),
		root("d", semver.Any()), needs("a", v1, "e", semver.Any()))
	for _, x := range []struct {
		name, text string
		want       []int
	}{
		{"a", "any", []int{0, 1, 2}},
		{"b", "any", []int{3, 4, 5}},
		{"c", "any", []int{6}},
		{"a", "none", nil},
		{"a", ">=1.5.0", []int{0, 1}},
		{"a", ">1.5.0", []int{0}},
		{"a", "<1.5.0", []int{2}},
		{"a", "!1.5.0", []int{0, 2}},
		{"a", "^1.0.0", []int{1, 2}},
		{"b", "0.0.0", []int{5}},
		{"b", "2.0.0 || 0.0.0", []int{3, 5}},
		{"b", "1.0.1", nil},
		{"c", "1.0.0", []int{6}},
		{"c", ">1.0.0", nil},
		{"d", "any", nil},
		{"e", "any", nil},
		{"", "any", nil},
		{"any", "any", nil},
		{"A", "any", nil},
		{"a\x00", "any", nil},
	} {
		if got := c.Among(x.name, ranged(t, x.text)); !slices.Equal(got, x.want) {
			t.Errorf("%s %s: %v, want %v", x.name, x.text, got, x.want)
		}
	}
}

// Promise 6.2: Among of catalogs that are drawn, against tables: of each range the versions that it has, told one by one.
func TestAmongTable(t *testing.T) {
	d := rand.New(rand.NewSource(3))
	var all []semver.Version
	for i := range 27 {
		all = append(all, semver.Version{i / 9 % 3, i / 3 % 3, i % 3})
	}
	for range 400 {
		var l []catalog.Line
		for _, i := range d.Perm(4 * len(all))[:d.Intn(api.MaxVersions+1)] {
			l = append(l, pkg(letter(i%4), all[i/4]))
		}
		c := made(t, l...)
		items := c.Items()
		for range 6 {
			table := map[semver.Version]bool{}
			var r semver.Range
			for _, v := range all {
				if d.Intn(2) == 0 {
					table[v] = true
					r = r.Or(ranged(t, v.Text()))
				}
			}
			for n := range 5 {
				var want []int
				for i, item := range items {
					if item.Name == letter(n) && table[item.Version] {
						want = append(want, i)
					}
				}
				if got := c.Among(letter(n), r); !slices.Equal(got, want) {
					t.Fatalf("%v: %s %s: %v, want %v", items, letter(n), r.Text(), got, want)
				}
			}
		}
	}
}

// Promise 6.2: items of catalogs that are drawn are those of Package lines, each rightly ahead of the next one.
func TestItemsDrawn(t *testing.T) {
	d := rand.New(rand.NewSource(4))
	for range 500 {
		var l []catalog.Line
		names := []string{"a", "a-", "a0", "aa", "b", "ba", "b9", "z"}
		for _, i := range d.Perm(len(names) * 27)[:d.Intn(api.MaxVersions+1)] {
			j := i / len(names)
			l = append(l, pkg(names[i%len(names)], semver.Version{j / 9, j / 3 % 3 * 9, j % 3 * 499}))
		}
		c := made(t, l...)
		items := c.Items()
		if len(items) != len(l) {
			t.Fatalf("%d items of %d lines", len(items), len(l))
		}
		for _, x := range l {
			if n := c.Number(x.Name, x.Version); n < 0 || items[n] != (catalog.Item{Name: x.Name, Version: x.Version}) {
				t.Fatalf("%v has the number %d", x, n)
			}
		}
		for i := 1; i < len(items); i++ {
			a, b := items[i-1], items[i]
			if a.Name > b.Name || a.Name == b.Name && a.Version.Cmp(b.Version) <= 0 {
				t.Fatalf("%v stands ahead of %v", a, b)
			}
		}
	}
}

// Promise 6.2: a nil catalog has no lines, and nothing else.
func TestNil(t *testing.T) {
	empty, err := catalog.Parse("")
	if err != nil {
		t.Fatal(err)
	}
	for what, c := range map[string]*catalog.Catalog{"nil": nil, "of no lines": made(t), "of no text": empty} {
		if len(c.Lines()) != 0 || len(c.Items()) != 0 || c.Text() != "" {
			t.Errorf("%s: %v, %v, %q", what, c.Lines(), c.Items(), c.Text())
		}
		if n, l := c.Number("a", v1), c.Among("a", semver.Any()); n != -1 || len(l) != 0 {
			t.Errorf("%s: %d, %v", what, n, l)
		}
	}
}

// P4, promise 6.2: what New was given, and what a catalog hands out, are others' than the catalog's.
func TestCopies(t *testing.T) {
	any := semver.Any()
	room := []catalog.Line{pkg("b", v1), pkg("a", v2), needs("a", v2, "b", any), pkg("a", v1), root("a", any), root("behind", any)}
	l := room[:5]
	before := slices.Clone(room)
	c := made(t, l...)
	if d, err := catalog.New(l[:0]); err != nil || len(append(d.Lines(), root("x", any))) != 1 {
		t.Error(err)
	}
	if !slices.EqualFunc(room, before, same) {
		t.Fatalf("New wrote into its lines: %v", room)
	}
	text, items := c.Text(), c.Items()
	untouched := func(what string) {
		t.Helper()
		if c.Text() != text || !slices.Equal(c.Items(), items) || c.Number("b", v1) != 2 || !slices.Equal(c.Among("a", any), []int{0, 1}) {
			t.Errorf("%s: the catalog is another one: %q, %v", what, c.Text(), c.Items())
		}
	}
	c, err := catalog.New(l)
	if err != nil {
		t.Fatal(err)
	}
	clear(l)
	untouched("what New was given is cleared")
	lines := c.Lines()
	clear(lines[:cap(lines)])
	untouched("Lines are cleared")
	handed := c.Items()
	clear(handed[:cap(handed)])
	untouched("Items are cleared")
	among := c.Among("a", any)
	clear(among[:cap(among)])
	untouched("Among is cleared")
	one, other := c.Lines(), c.Lines()
	clear(one[:cap(one)])
	if !slices.EqualFunc(other, before[:5], same) {
		t.Error("two answers of Lines share memory")
	}
}

// P4: a call answers the same again, and catalogs know nothing of one another.
func TestAgain(t *testing.T) {
	any := semver.Any()
	a := made(t, pkg("a", v1), pkg("b", v1))
	b := made(t, pkg("b", v1), pkg("b", v2))
	refused(t, api.ErrTwice, 1, pkg("a", v1), pkg("a", v1))
	for range 3 {
		if a.Number("b", v1) != 1 || b.Number("b", v1) != 1 || b.Number("a", v1) != -1 || len(a.Among("b", any)) != 1 || len(b.Among("b", any)) != 2 {
			t.Fatal("catalogs mix")
		}
	}
}
