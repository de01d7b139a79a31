package plan_test

import (
	"fmt"
	"math"
	"math/rand"
	"slices"
	"testing"

	"solspace/api"
	"solspace/catalog"
	"solspace/plan"
)

// Promise 12.2: of the empty set there is nothing in order.
func TestOrderEmpty(t *testing.T) {
	for _, c := range []*catalog.Catalog{nil, new(catalog.Catalog), parsed(t), parsed(t, ones(3)...), needing(t, 2, "ab", "ba")} {
		is[int](t)(plan.Order(c, 0))
	}
}

// Promise 12.2: Order says ErrFalse, without a place, unless the set Fits; ahead of ErrCycle.
func TestOrderFalse(t *testing.T) {
	c := needing(t, 3, "ab", "ba", "cz")
	fails(t, api.ErrCycle)(plan.Order(c, 0b011))
	for _, set := range []uint{0b001, 0b010, 0b100, 0b110, 0b111, 0b1011, 1<<63 | 0b011, math.MaxUint} {
		fails(t, api.ErrFalse)(plan.Order(c, set))
	}
	c = parsed(t, append(ones(2), "needs a 1.0.0 b any", "needs b 1.0.0 a any", "root z any")...)
	fails(t, api.ErrFalse)(plan.Order(c, 0b11))
	c = parsed(t, append(ones(2), "needs a 1.0.0 b any", "needs b 1.0.0 a any", "clashes b 1.0.0 b any")...)
	fails(t, api.ErrFalse)(plan.Order(c, 0b11))
	// Two of one name that need each other.
	c = parsed(t, "package a 1.0.0", "package a 2.0.0", "needs a 1.0.0 a 2.0.0", "needs a 2.0.0 a 1.0.0")
	for set := uint(1); set < 8; set++ {
		fails(t, api.ErrFalse)(plan.Order(c, set))
	}
	fails(t, api.ErrFalse)(plan.Order(nil, 1))
	fails(t, api.ErrFalse)(plan.Order(new(catalog.Catalog), 1))
	fails(t, api.ErrFalse)(plan.Order(parsed(t, "root a any"), 0))
}

// Promise 12.2: where none needs another one, the least one stands first; roots and clashes order nothing.
func TestOrderRising(t *testing.T) {
	c := parsed(t, ones(api.MaxPackages)...)
	for set := range sets(c) {
		is(t, numbers(set)...)(plan.Order(c, set))
	}
	c = parsed(t, append([]string{"root c any", "root b any", "clashes a 1.0.0 c <1.0.0", "clashes a 1.0.0 z any"}, ones(3)...)...)
	is(t, 0, 1, 2)(plan.Order(c, 0b111))
}

// Promise 12.2: each behind those that its lines name, by hand; at each place the least one that may stand there.
func TestOrder(t *testing.T) {
	for _, x := range []struct {
		pairs []string
		want  []int
	}{
		{[]string{"ab"}, []int{1, 0, 2, 3}},
		{[]string{"ba"}, []int{0, 1, 2, 3}},
		{[]string{"ad"}, []int{1, 2, 3, 0}},
		{[]string{"ab", "bc", "cd"}, []int{3, 2, 1, 0}},
		{[]string{"cd", "ab", "bc"}, []int{3, 2, 1, 0}},
		{[]string{"ab", "ac", "ad"}, []int{1, 2, 3, 0}},
		{[]string{"ad", "bd", "cd"}, []int{3, 0, 1, 2}},
		{[]string{"bd"}, []int{0, 2, 3, 1}},
		{[]string{"ac", "bd"}, []int{2, 0, 3, 1}},
		{[]string{"ad", "bc"}, []int{2, 1, 3, 0}},
		{[]string{"ab", "cd"}, []int{1, 0, 3, 2}},
		// The least one may stand there as soon as all that it needs do, not only behind all that are ready ahead of it.
		{[]string{"ab", "db"}, []int{1, 0, 2, 3}},
		{[]string{"ac", "ad", "bd"}, []int{2, 3, 0, 1}},
		{[]string{"ab", "bd", "cd"}, []int{3, 1, 0, 2}},
	} {
		is(t, x.want...)(plan.Order(needing(t, 4, x.pairs...), 0b1111))
	}
}

// Promise 12.2: as long an order as there is, either way.
func TestOrderLong(t *testing.T) {
	var up, down []string
	for i := range api.MaxPackages - 1 {
		up = append(up, fmt.Sprintf("%c%c", 'a'+i, 'a'+i+1))
		down = append(down, fmt.Sprintf("%c%c", 'a'+i+1, 'a'+i))
	}
	all := uint(1)<<api.MaxPackages - 1
	is(t, 7, 6, 5, 4, 3, 2, 1, 0)(plan.Order(needing(t, api.MaxPackages, up...), all))
	is(t, 0, 1, 2, 3, 4, 5, 6, 7)(plan.Order(needing(t, api.MaxPackages, down...), all))
	fails(t, api.ErrCycle)(plan.Order(needing(t, api.MaxPackages, append(up, "ha")...), all))
	// All that there may be of items: the last one of each name.
	var lines []string
	for i := range api.MaxPackages {
		lines = append(lines, versions(string(rune('a'+i)), 3)...)
	}
	for _, p := range up {
		lines = append(lines, fmt.Sprintf("needs %c 0.0.0 %c any", p[0], p[1]))
	}
	var set uint
	for i := range api.MaxPackages {
		set |= 1 << (3*i + 2)
	}
	is(t, 23, 20, 17, 14, 11, 8, 5, 2)(plan.Order(parsed(t, lines...), set))
	is(t, 1, 4, 7, 10, 13, 16, 19, 22)(plan.Order(parsed(t, lines...), set>>1))
}

// Promise 12.2: an item that needs itself may stand anywhere.
func TestOrderItself(t *testing.T) {
	is(t, 0)(plan.Order(needing(t, 1, "aa"), 0b1))
	is(t, 0, 1, 2)(plan.Order(needing(t, 3, "aa", "bb", "cc"), 0b111))
	is(t, 1, 0)(plan.Order(needing(t, 2, "aa", "ab", "aa"), 0b11))
	fails(t, api.ErrCycle)(plan.Order(needing(t, 2, "aa", "ab", "bb", "ba"), 0b11))
	// By a range that has others of its name too, or an item of another number.
	c := parsed(t, "package a 1.0.0", "package a 2.0.0", "package b 1.0.0", "needs a 1.0.0 a any", "needs a 2.0.0 a >1.0.0", "needs a 1.0.0 b any")
	is(t, 0)(plan.Order(c, 0b001))
	is(t, 2, 1)(plan.Order(c, 0b110))
}

// Promise 12.2: ErrCycle, of two and of more that need each other, also beside others that may stand there.
func TestOrderCycle(t *testing.T) {
	for _, pairs := range [][]string{
		{"ab", "ba"},
		{"ad", "da"},
		{"cd", "dc", "ab"},
		{"ab", "bc", "ca"},
		{"ac", "cb", "ba"},
		{"ab", "bc", "cd", "da"},
		{"ab", "ac", "bd", "cd", "da"},
		{"ab", "bc", "cb"},
		{"ab", "ac", "bc", "cb"},
	} {
		c := needing(t, 4, pairs...)
		fails(t, api.ErrCycle)(plan.Order(c, 0b1111))
		// Within what is in the set there may be an order still.
		for set := range sets(c) {
			agrees(t, c, set)
		}
	}
	// What they need of others' names is no cycle.
	is(t, 1, 3, 2, 0)(plan.Order(needing(t, 4, "ab", "ac", "ad", "cb", "cd"), 0b1111))
	// Only of these versions: a 2.0.0 needs b, and b 1.0.0 alone needs a.
	c := parsed(t, "package a 2.0.0", "package b 1.0.0", "package b 2.0.0", "needs a 2.0.0 b any", "needs b 1.0.0 a any")
	is(t, 1, 0)(plan.Order(c, 0b011))
	fails(t, api.ErrCycle)(plan.Order(c, 0b101))
}

// Promise 12.2: items that several lines name, or one line twice; a line whose items are not all in the set, and lines of items that are not in it.
func TestOrderLines(t *testing.T) {
	is(t, 2, 1, 0)(plan.Order(needing(t, 3, "ab", "ac", "bc", "ac", "ab"), 0b111))
	// One line of several versions: the one that is in the set.
	c := parsed(t, "package a 1.0.0", "package b 1.0.0", "package b 2.0.0", "package b 3.0.0", "package c 1.0.0",
		"needs a 1.0.0 b >=2.0.0", "needs a 1.0.0 b <3.0.0", "needs b 1.0.0 c any", "needs c 1.0.0 b 3.0.0 || 2.0.0")
	is(t, 2, 0)(plan.Order(c, 0b00101))
	is(t, 2, 0, 4)(plan.Order(c, 0b10101))
	fails(t, api.ErrFalse)(plan.Order(c, 0b00011))
	// Lines of items that are not in the set order nothing, nor do those of b 1.0.0, where b 3.0.0 is in it.
	is(t, 2)(plan.Order(c, 0b00100))
	is(t, 1, 4)(plan.Order(c, 0b10010))
	// What a line clashes with orders nothing, though its name is told.
	c = parsed(t, "package a 1.0.0", "package b 1.0.0", "package c 1.0.0", "needs a 1.0.0 b any", "clashes a 1.0.0 c <1.0.0", "needs b 1.0.0 b any")
	is(t, 1, 0, 2)(plan.Order(c, 0b111))
	is(t, 1, 2)(plan.Order(c, 0b110))
	// Only a Needs line of its own: what another version of its name needs is nothing to it.
	c = parsed(t, "package a 1.0.0", "package a 2.0.0", "package b 1.0.0", "needs a 2.0.0 b any")
	is(t, 1, 2)(plan.Order(c, 0b110))
	is(t, 2, 0)(plan.Order(c, 0b101))
}

// agrees: Order of a set is the first one of all orders, by trying all.
func agrees(t *testing.T, c *catalog.Catalog, set uint) ([]int, error) {
	t.Helper()
	got, err := plan.Order(c, set)
	if ok, _ := spelt(c, set); !ok {
		fails(t, api.ErrFalse)(got, err)
		return got, err
	}
	want, ok := firstOrder(c, nil, numbers(set))
	switch {
	case !ok:
		fails(t, api.ErrCycle)(got, err)
	case err != nil || !slices.Equal(got, want):
		t.Fatalf("%q, %b: %v, %v; want %v", c.Text(), set, got, err, want)
	}
	// Put together place by place, too, as the words have it.
	if byPlaces, ok2 := placed(c, numbers(set)); ok2 != ok || !slices.Equal(byPlaces, want) {
		t.Fatalf("%q, %b: %v, but by places %v", c.Text(), set, want, byPlaces)
	}
	return got, err
}

// placed is an order by the document's words: at each place the least one of which all that it must stand behind stand there.
func placed(c *catalog.Catalog, left []int) ([]int, bool) {
	var out []int
	for range left {
		for _, item := range left {
			waits := slices.ContainsFunc(left, func(other int) bool { return !slices.Contains(out, other) && ahead(c, item, other) })
			if !slices.Contains(out, item) && !waits {
				out = append(out, item)
				break
			}
		}
	}
	if len(out) < len(left) {
		return nil, false
	}
	return out, true
}

// Promise 12.2: all sets of all small catalogs.
func TestOrderSmall(t *testing.T) {
	smalls(t, func(c *catalog.Catalog) {
		for set := range sets(c) {
			agrees(t, c, set)
		}
	})
}

// Promise 12.2: all ways in which three packages may need each other, and all sets of them.
func TestOrderThree(t *testing.T) {
	all := []string{"aa", "ab", "ac", "ba", "bb", "bc", "ca", "cb", "cc"}
	for some := range uint(1) << len(all) {
		var pairs []string
		for _, i := range numbers(some) {
			pairs = append(pairs, all[i])
		}
		c := needing(t, 3, pairs...)
		for set := range sets(c) {
			agrees(t, c, set)
		}
	}
}

// Promise 12.2: sets of catalogs that are drawn.
func TestOrderDrawn(t *testing.T) {
	d := rand.New(rand.NewSource(3))
	var turned, cycles int
	for range 1500 {
		c := drawn(t, d, 6, 9, 12, 8)
		for set := range sets(c) {
			l, err := agrees(t, c, set)
			if err == error(api.ErrCycle) {
				cycles++
			}
			if !slices.IsSorted(l) {
				turned++
			}
		}
	}
	if turned < 1000 || cycles < 200 {
		t.Errorf("%d orders are not rising, %d cycles", turned, cycles)
	}
}
