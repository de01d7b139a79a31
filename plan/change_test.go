package plan_test

import (
	"math"
	"math/rand"
	"slices"
	"testing"

	"solspace/api"
	"solspace/catalog"
	"solspace/plan"
)

// Promise 12.2: nothing changes from a set to itself; but it must have an order.
func TestChangeSame(t *testing.T) {
	c := needing(t, 4, "ab", "cd", "dc")
	for _, set := range []uint{0, 0b0010, 0b0011} {
		is[plan.Step](t)(plan.Change(c, set, set))
	}
	fails(t, api.ErrFalse)(plan.Change(c, 0b0001, 0b0001))
	fails(t, api.ErrCycle)(plan.Change(c, 0b1100, 0b1100))
	for _, c := range []*catalog.Catalog{nil, new(catalog.Catalog), parsed(t)} {
		is[plan.Step](t)(plan.Change(c, 0, 0))
	}
}

// Promise 12.2: what Order says of from comes ahead of what it says of to.
func TestChangeErrors(t *testing.T) {
	// a and b need each other, c wants what there is not.
	c := needing(t, 4, "ab", "ba", "cz")
	ok, cycle := uint(0b1000), uint(0b0011)
	for _, wrong := range []uint{0b0001, 0b0100, 0b0111, 0b10000, 1 << 63, math.MaxUint} {
		fails(t, api.ErrFalse)(plan.Change(c, wrong, ok))
		fails(t, api.ErrFalse)(plan.Change(c, ok, wrong))
		fails(t, api.ErrFalse)(plan.Change(c, wrong, cycle))
		fails(t, api.ErrCycle)(plan.Change(c, cycle, wrong))
		fails(t, api.ErrFalse)(plan.Change(c, wrong, wrong))
	}
	fails(t, api.ErrCycle)(plan.Change(c, cycle, ok))
	fails(t, api.ErrCycle)(plan.Change(c, ok, cycle))
	is(t, goes(3))(plan.Change(c, ok, 0))
	is(t, comes(3))(plan.Change(c, 0, ok))
	// To nothing, where something is wanted.
	c = parsed(t, "package a 1.0.0", "root a any")
	fails(t, api.ErrFalse)(plan.Change(c, 0, 1))
	fails(t, api.ErrFalse)(plan.Change(c, 1, 0))
	fails(t, api.ErrFalse)(plan.Change(nil, 1, 0))
	fails(t, api.ErrFalse)(plan.Change(nil, 0, 1))
}

// Promise 12.2: what goes, from the last one on, then what comes; what is in both is in no step.
func TestChange(t *testing.T) {
	// Order of all: 1 0 3 2.
	c := needing(t, 4, "ab", "cd")
	is(t, comes(1), comes(0), comes(3), comes(2))(plan.Change(c, 0, 0b1111))
	is(t, goes(2), goes(3), goes(0), goes(1))(plan.Change(c, 0b1111, 0))
	is(t, goes(0), goes(1), comes(3), comes(2))(plan.Change(c, 0b0011, 0b1100))
	is(t, goes(2), goes(3), comes(1), comes(0))(plan.Change(c, 0b1100, 0b0011))
	is(t, goes(0), comes(3))(plan.Change(c, 0b0011, 0b1010))
	is(t, goes(3), comes(0))(plan.Change(c, 0b1010, 0b0011))
	is(t, goes(2), goes(0))(plan.Change(c, 0b1111, 0b1010))
	is(t, comes(0), comes(2))(plan.Change(c, 0b1010, 0b1111))
	// Where none needs another one, the greatest one goes first, and the least one comes first.
	c = parsed(t, ones(6)...)
	is(t, goes(4), goes(2), goes(0), comes(1), comes(3), comes(5))(plan.Change(c, 0b010101, 0b101010))
	is(t, goes(5), goes(0), comes(1), comes(2))(plan.Change(c, 0b111001, 0b011110))
}

// Promise 12.2: another version of one package goes and comes, between those that stay; the order of each side is its own.
func TestChangeVersions(t *testing.T) {
	// The numbers: a 0, b 2.0.0 1, b 1.0.0 2, c 3.
	c := parsed(t, "package a 1.0.0", "needs a 1.0.0 b any", "package b 1.0.0", "package b 2.0.0", "needs b 2.0.0 c any", "package c 1.0.0", "needs c 1.0.0 b !2.0.0 || 2.0.0")
	fails(t, api.ErrCycle)(plan.Change(c, 0b0101, 0b1011))
	c = parsed(t, "package a 1.0.0", "needs a 1.0.0 b any", "package b 1.0.0", "package b 2.0.0", "needs b 2.0.0 c any", "package c 1.0.0", "needs c 1.0.0 c any")
	is(t, goes(2), comes(3), comes(1))(plan.Change(c, 0b0101, 0b1011))
	is(t, goes(1), goes(3), comes(2))(plan.Change(c, 0b1011, 0b0101))
	is(t, goes(1), comes(2))(plan.Change(c, 0b1011, 0b1101))
	is(t, goes(2), comes(1))(plan.Change(c, 0b1101, 0b1011))
	// On one side a needs b, on the other one b needs a.
	c = parsed(t, "package a 1.0.0", "package a 2.0.0", "package b 1.0.0", "package b 2.0.0", "needs a 1.0.0 b 1.0.0", "needs b 2.0.0 a 2.0.0")
	is(t, 3, 1)(plan.Order(c, 0b1010))
	is(t, 0, 2)(plan.Order(c, 0b0101))
	is(t, goes(1), goes(3), comes(0), comes(2))(plan.Change(c, 0b1010, 0b0101))
	is(t, goes(2), goes(0), comes(3), comes(1))(plan.Change(c, 0b0101, 0b1010))
}

// changed: Change is what the document's words make of both orders; it leads from one set to the other, and nothing goes that one needs which is there still, nor comes ahead of what it needs.
func changed(t *testing.T, c *catalog.Catalog, from, to uint) int {
	t.Helper()
	got, err := plan.Change(c, from, to)
	was, err1 := plan.Order(c, from)
	will, err2 := plan.Order(c, to)
	if err1 != nil {
		err2 = err1
	}
	if err2 != nil {
		if err != err2 || got != nil {
			t.Fatalf("%q, %b to %b: %v, %v; want %v", c.Text(), from, to, got, err, err2)
		}
		return 0
	}
	var want []plan.Step
	slices.Reverse(was)
	for _, item := range was {
		if !slices.Contains(will, item) {
			want = append(want, goes(item))
		}
	}
	for _, item := range will {
		if !slices.Contains(was, item) {
			want = append(want, comes(item))
		}
	}
	if err != nil || !slices.Equal(got, want) {
		t.Fatalf("%q, %b to %b: %v, %v; want %v", c.Text(), from, to, got, err, want)
	}
	now := from
	for _, s := range got {
		if (now>>s.Item&1 == 1) == s.Comes {
			t.Fatalf("%q, %b to %b: %v", c.Text(), from, to, got)
		}
		now ^= 1 << s.Item
		for i, other := range got {
			// Those that go stand ahead of what they need, those that come behind it.
			if s.Comes == other.Comes && ahead(c, s.Item, other.Item) && s.Comes == (slices.Index(got, s) < i) {
				t.Fatalf("%q, %b to %b: %v", c.Text(), from, to, got)
			}
		}
	}
	if now != to {
		t.Fatalf("%q, %b to %b: %v leads to %b", c.Text(), from, to, got, now)
	}
	return len(got)
}

// Promise 12.2: from all sets to all sets of all small catalogs.
func TestChangeSmall(t *testing.T) {
	smalls(t, func(c *catalog.Catalog) {
		for from := range sets(c) {
			for to := range sets(c) {
				changed(t, c, from, to)
			}
		}
	})
}

// Promise 12.2: from sets to sets of catalogs that are drawn.
func TestChangeDrawn(t *testing.T) {
	d := rand.New(rand.NewSource(4))
	var long int
	for range 150 {
		c := drawn(t, d, 6, 7, 9, 8)
		for from := range sets(c) {
			for to := range sets(c) {
				if changed(t, c, from, to) > 4 {
					long++
				}
			}
		}
	}
	if long < 100 {
		t.Errorf("%d long changes", long)
	}
}
