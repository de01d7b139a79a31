package space_test

import (
	"math"
	"math/bits"
	"math/rand"
	"slices"
	"testing"

	"solspace/api"
	"solspace/arena"
	"solspace/catalog"
	"solspace/clause"
	"solspace/rules"
	"solspace/space"
)

// pick is, of installations, the one that costs the least; of like ones the one that has the first item in which they differ.
func pick(l []uint, cost func(uint) int) (uint, bool) {
	if len(l) == 0 {
		return 0, false
	}
	out := l[0]
	for _, x := range l[1:] {
		first := (x ^ out) & -(x ^ out)
		if cost(x) < cost(out) || cost(x) == cost(out) && x&first != 0 {
			out = x
		}
	}
	return out, true
}

// sum is what a set of items costs.
func sum(costs []int, set uint) int {
	out := 0
	for i, x := range costs {
		if i < 64 && set>>i&1 == 1 {
			out += x
		}
	}
	return out
}

// chosen: what is answered is what pick says, or ErrNone where there is nothing to pick.
func chosen(t *testing.T, c *catalog.Catalog, l []uint, cost func(uint) int) func(uint, error) {
	return func(got uint, err error) {
		t.Helper()
		want, ok := pick(l, cost)
		if got != want || ok && err != nil || !ok && err != error(api.ErrNone) {
			t.Fatalf("%q: %b, %v; want %b", c.Text(), got, err, want)
		}
	}
}

// items: what is answered is these items.
func items(t *testing.T, c *catalog.Catalog, want []int) func([]int, error) {
	return func(got []int, err error) {
		t.Helper()
		if err != nil || !slices.Equal(got, want) {
			t.Fatalf("%q: %v, %v; want %v", c.Text(), got, err, want)
		}
	}
}

// picked asks for everything of a catalog's space, against all its installations.
func picked(t *testing.T, d *rand.Rand, c *catalog.Catalog) {
	t.Helper()
	s, l := made(t, c), installations(c)
	before := nodes(s.Space)
	chosen(t, c, l, bits.OnesCount)(s.Least())
	for range 6 {
		now := uint(d.Uint64()) & (1<<s.Vars() - 1)
		stray := uint(d.Uint64()) << s.Vars()
		chosen(t, c, l, func(x uint) int { return bits.OnesCount(x ^ now) })(s.Near(now))
		chosen(t, c, l, func(x uint) int { return bits.OnesCount(x ^ now) })(s.Near(now | stray))
	}
	for _, most := range []int{1, 2, 3, 100, 1_000_001} {
		for range 3 {
			var costs []int
			for range d.Intn(s.Vars() + 4) {
				costs = append(costs, d.Intn(most))
			}
			chosen(t, c, l, func(x uint) int { return sum(costs, x) })(s.Cheap(costs))
		}
	}
	all, some := uint(1)<<s.Vars()-1, uint(0)
	for _, x := range l {
		all, some = all&x, some|x
	}
	items(t, c, numbers(all, s.Vars()))(s.Always())
	items(t, c, numbers(^some, s.Vars()))(s.Never())
	if !slices.Equal(nodes(s.Space), before) {
		t.Fatalf("%q: asking made nodes", c.Text())
	}
}

// numbers are the items of a set, rising, of so many.
func numbers(set uint, many int) []int {
	var out []int
	for i := range many {
		if set>>i&1 == 1 {
			out = append(out, i)
		}
	}
	return out
}

// Promise 10.2: all that is asked of all small catalogs, against trying all installations.
func TestPickedSmall(t *testing.T) {
	d := rand.New(rand.NewSource(1))
	smalls(t, func(c *catalog.Catalog) { picked(t, d, c) })
}

// Promise 10.2: all that is asked of catalogs that are drawn, against trying all installations.
func TestPickedDrawn(t *testing.T) {
	d := rand.New(rand.NewSource(2))
	for range 600 {
		picked(t, d, drawn(t, d, 8, 9))
	}
	for range 10 {
		picked(t, d, drawn(t, d, 13, 12))
	}
}

// three is a space of a (0), b (1) and c (2), of each one version, and of what some lines say.
func three(t *testing.T, lines ...string) *space.Space {
	t.Helper()
	return made(t, parsed(t, append([]string{"package a 1.0.0", "package b 1.0.0", "package c 1.0.0"}, lines...)...))
}

// is: an answer is this set.
func is(t *testing.T, want uint) func(uint, error) {
	return func(got uint, err error) {
		t.Helper()
		if err != nil || got != want {
			t.Errorf("%b, %v; want %b", got, err, want)
		}
	}
}

// Promise 10.2: Least, by hand: the fewest items; of like ones the one that has the first item in which they differ.
func TestLeast(t *testing.T) {
	is(t, 0)(three(t).Least())
	is(t, 0b100)(three(t, "root c any").Least())
	is(t, 0b110)(three(t, "root c any", "needs c 1.0.0 b any").Least())
	is(t, 0b111)(three(t, "root c any", "needs c 1.0.0 b any", "needs b 1.0.0 a any").Least())
	// Of two versions that both will do, the newest one has the least number.
	s := made(t, parsed(t, "package a 1.0.0", "package a 2.0.0", "package a 3.0.0", "root a <3.0.0"))
	is(t, 0b010)(s.Least())
	// Fewer items come ahead of the first item.
	s = made(t, parsed(t, "package a 1.0.0", "package a 2.0.0", "package b 1.0.0", "root a any", "needs a 2.0.0 b any"))
	is(t, 0b010)(s.Least())
	// Both a with b and c with d have two items; a is the first one in which they differ.
	s = made(t, parsed(t, "package a 1.0.0", "package b 1.0.0", "package c 1.0.0", "package c 2.0.0", "package d 1.0.0", "root c any",
		"needs c 2.0.0 d any", "needs c 1.0.0 a any"))
	is(t, 0b01001)(s.Least())
}

// Promise 10.2: Near, by hand.
func TestNear(t *testing.T) {
	is(t, 0b101)(three(t).Near(0b101))
	is(t, 0b111)(three(t, "root b any").Near(0b101))
	// c, or b besides: both are one change; b is the first item in which they differ.
	is(t, 0b110)(three(t, "needs c 1.0.0 b any").Near(0b100))
	is(t, 0b010)(three(t, "needs c 1.0.0 b any").Near(0b010))
	// a or b must go: a is the first item in which they differ.
	is(t, 0b001)(three(t, "clashes a 1.0.0 b any").Near(0b011))
	// From one version to the other: two changes.
	s := made(t, parsed(t, "package a 1.0.0", "package a 2.0.0", "root a 2.0.0"))
	is(t, 0b01)(s.Near(0b10))
	is(t, 0b01)(s.Near(0b11))
	is(t, 0b01)(s.Near(0b00))
}

// Promise 10.2: Near of an installation is it, whatever bits there are beyond the items.
func TestNearOfInstallation(t *testing.T) {
	d := rand.New(rand.NewSource(3))
	for range 150 {
		c := drawn(t, d, 8, 6)
		s := made(t, c)
		for _, x := range installations(c) {
			for _, stray := range []uint{0, 1, 2, 1 << 10, 1 << (63 - s.Vars()), math.MaxUint, uint(d.Uint64())} {
				if got, err := s.Near(x | stray<<s.Vars()); err != nil || got != x {
					t.Fatalf("%q: near %b with %b beyond it is %b, %v", c.Text(), x, stray, got, err)
				}
			}
		}
	}
}

// Promise 10.2: Cheap, by hand: costs of fewer and of more items than there are, and of none.
func TestCheap(t *testing.T) {
	// What costs nothing is there, for it is the first item in which others differ.
	for _, costs := range [][]int{nil, {}, {0}, {0, 0, 0}, {0, 0, 0, 5, 1_000_000}} {
		is(t, 0b111)(three(t).Cheap(costs))
	}
	is(t, 0b110)(three(t).Cheap([]int{1}))
	is(t, 0b101)(three(t).Cheap([]int{0, 1_000_000}))
	is(t, 0b000)(three(t).Cheap([]int{1, 1, 1}))
	is(t, 0b000)(three(t).Cheap([]int{1, 1, 1, 0, 0, 9}))
	is(t, 0b110)(three(t, "root c any", "needs c 1.0.0 b any").Cheap([]int{1, 1, 1}))
	s := made(t, parsed(t, "package a 1.0.0", "package a 2.0.0", "root a any"))
	is(t, 0b01)(s.Cheap([]int{4, 4}))
	is(t, 0b10)(s.Cheap([]int{5, 4}))
	is(t, 0b01)(s.Cheap([]int{4, 5}))
	is(t, 0b10)(s.Cheap([]int{1}))
	is(t, 0b01)(s.Cheap([]int{999_999, 1_000_000}))
	is(t, 0b10)(s.Cheap([]int{1_000_000, 999_999}))
	is(t, 0b01)(s.Cheap(append([]int{0, 7}, slices.Repeat([]int{1_000_000}, 100)...)))
}

// Promise 10.2: a cost below 0 or above 1,000,000 is ErrRange, ahead of ErrNone, also of no item; just these bounds are none.
func TestCheapRange(t *testing.T) {
	some := made(t, parsed(t, "package a 1.0.0", "package a 2.0.0", "root a any"))
	none := made(t, parsed(t, "package a 1.0.0", "package a 2.0.0", "root a none"))
	for _, s := range []*space.Space{some, none} {
		for _, bad := range []int{-1, math.MinInt, 1_000_001, math.MaxInt} {
			for at := range 5 {
				costs := make([]int, 5)
				costs[at] = bad
				for _, l := range [][]int{costs, costs[:at+1]} {
					if got, err := s.Cheap(l); got != 0 || err != error(api.ErrRange) {
						t.Errorf("%v: %b, %#v; want ErrRange without a place", l, got, err)
					}
				}
			}
		}
	}
	is(t, 0b10)(some.Cheap([]int{1_000_000, 0, 1_000_000, 0}))
	is(t, 0b01)(some.Cheap([]int{0, 1_000_000}))
	is(t, 0b01)(some.Cheap([]int{1_000_000, 1_000_000}))
	// As much as can be told together: all items, each at the most.
	var lines []string
	for _, x := range []string{"a", "b", "c", "d", "e", "f", "g", "h"} {
		lines = append(lines, append(versions(x, 3), "root "+x+" any")...)
	}
	s := made(t, parsed(t, lines...))
	costs := slices.Repeat([]int{1_000_000}, 24)
	is(t, 0o11111111)(s.Cheap(costs))
	costs[2], costs[22] = 999_999, 999_999
	is(t, 0o21111114)(s.Cheap(costs))
}

// Promises 7.3, 10.2: where nothing costs anything, Cheap is what Solve finds first.
func TestCheapIsSolve(t *testing.T) {
	d := rand.New(rand.NewSource(4))
	for range 300 {
		c := drawn(t, d, 24, 30)
		r, err := rules.Of(c)
		if err != nil {
			continue
		}
		a, err := clause.Solve(r.Vars, r.Clauses)
		if err != nil {
			t.Fatal(err)
		}
		got, err := made(t, c).Cheap(nil)
		if got != a.Values || a.Holds && err != nil || !a.Holds && err != error(api.ErrNone) {
			t.Fatalf("%q: %b, %v; Solve says %v", c.Text(), got, err, a)
		}
	}
}

// Promise 10.2: Always and Never, by hand.
func TestAlwaysNever(t *testing.T) {
	for _, x := range []struct {
		lines         []string
		always, never []int
	}{
		{nil, nil, nil},
		{[]string{"root b any"}, []int{1}, nil},
		{[]string{"root c any", "needs c 1.0.0 a any"}, []int{0, 2}, nil},
		{[]string{"root c any", "clashes c 1.0.0 a any"}, []int{2}, []int{0}},
		{[]string{"clashes b 1.0.0 b any", "needs a 1.0.0 b any"}, nil, []int{0, 1}},
		{[]string{"root a any", "root b any", "root c any"}, []int{0, 1, 2}, nil},
		{[]string{"needs a 1.0.0 z any", "needs b 1.0.0 z any", "needs c 1.0.0 z any"}, nil, []int{0, 1, 2}},
		{[]string{"root z any"}, []int{0, 1, 2}, []int{0, 1, 2}},
	} {
		c := parsed(t, append([]string{"package a 1.0.0", "package b 1.0.0", "package c 1.0.0"}, x.lines...)...)
		s := made(t, c)
		items(t, c, x.always)(s.Always())
		items(t, c, x.never)(s.Never())
	}
}

// Promise 10.2: what is asked without a space, and of one that has no diagram (any more): ErrMissing, ahead of all else.
func TestMissing(t *testing.T) {
	gone := three(t, "root c any", "needs c 1.0.0 b any")
	gone.Free()
	far := three(t)
	far.All = 4711
	below := three(t)
	below.All = -1
	for i, s := range []*space.Space{nil, {}, {All: arena.True}, {All: 5}, gone, far, below} {
		set := func(got uint, err error) {
			t.Helper()
			if got != 0 || err != error(api.ErrMissing) {
				t.Errorf("%d: %b, %#v; want ErrMissing", i, got, err)
			}
		}
		list := func(got []int, err error) {
			t.Helper()
			if len(got) > 0 || err != error(api.ErrMissing) {
				t.Errorf("%d: %v, %#v; want ErrMissing", i, got, err)
			}
		}
		set(s.Least())
		set(s.Near(5))
		set(s.Cheap(nil))
		set(s.Cheap([]int{1, 2}))
		set(s.Cheap([]int{-1}))
		list(s.Always())
		list(s.Never())
	}
}

// Promise 10.1: a space that is put together of diagrams is asked like another one.
func TestPutTogether(t *testing.T) {
	b := diagrams(t, 4, api.MaxNodes)
	h := laid(t, b, []api.Clause{{1, 2}, {-1, 3}, {-4}})
	s := &space.Space{Space: b, All: h}
	is(t, 0b0010)(s.Least())
	is(t, 0b0101)(s.Near(0b0001))
	is(t, 0b0111)(s.Cheap(nil))
	items(t, nil, nil)(s.Always())
	items(t, nil, []int{3})(s.Never())
	if both, err := s.And(h, laid(t, b, []api.Clause{{1}})); err != nil {
		t.Error(err)
	} else if s.All = both; s.All != h {
		is(t, 0b0101)(s.Least())
		items(t, nil, []int{0, 2})(s.Always())
	}
}
