package plan_test

import (
	"math/rand"
	"slices"
	"testing"

	"solspace/catalog"
	"solspace/plan"
)

// spoil writes over a list, and what stands behind its end.
func spoil[T any](l []T, mark T) {
	l = l[:cap(l)]
	for i := range l {
		l[i] = mark
	}
}

// P4: a catalog is as it was behind each call, though what came out is written over; two answers share no memory, and the same call tells the same.
func TestFresh(t *testing.T) {
	d := rand.New(rand.NewSource(5))
	var told int
	for range 300 {
		c := drawn(t, d, 6, 6, 8, 6)
		text, items := c.Text(), c.Items()
		for from := range sets(c) {
			ok, n := plan.Fits(c, from)
			first, err := plan.Order(c, from)
			second, _ := plan.Order(c, from)
			want := slices.Clone(second)
			spoil(first, 777)
			if !slices.Equal(second, want) {
				t.Fatalf("%q, %b: two orders share memory", text, from)
			}
			spoil(second, 777)
			third, err3 := plan.Order(c, from)
			ok3, n3 := plan.Fits(c, from)
			if !slices.Equal(third, want) || err3 != err || ok3 != ok || n3 != n {
				t.Fatalf("%q, %b: the same call tells something else", text, from)
			}
			to := uint(d.Intn(int(sets(c))))
			if sameChange(t, c, from, to) > 1 {
				told++
			}
		}
		if c.Text() != text || !slices.Equal(c.Items(), items) {
			t.Fatalf("%q: written into", text)
		}
	}
	if told < 100 {
		t.Errorf("%d changes", told)
	}
}

// sameChange: two changes share no memory, and are the same.
func sameChange(t *testing.T, c *catalog.Catalog, from, to uint) int {
	t.Helper()
	first, err := plan.Change(c, from, to)
	second, err2 := plan.Change(c, from, to)
	want := slices.Clone(second)
	if !slices.Equal(first, want) || err != err2 {
		t.Fatalf("%q, %b to %b: the same call tells something else", c.Text(), from, to)
	}
	spoil(first, plan.Step{Item: 777})
	third, _ := plan.Change(c, from, to)
	if !slices.Equal(second, want) || !slices.Equal(third, want) {
		t.Fatalf("%q, %b to %b: two changes share memory", c.Text(), from, to)
	}
	return len(want)
}

// P4: an answer stays as it was, whatever is asked behind it, of the same catalog and of others.
func TestStays(t *testing.T) {
	c := needing(t, 4, "ab", "cd")
	order, err := plan.Order(c, 0b1111)
	is(t, 1, 0, 3, 2)(order, err)
	steps, err := plan.Change(c, 0b0011, 0b1100)
	is(t, goes(0), goes(1), comes(3), comes(2))(steps, err)
	for set := range sets(c) {
		plan.Order(c, set)
		plan.Change(c, set, 0b1111)
		plan.Change(needing(t, 4, "dc", "ba"), 0b1111, set)
	}
	is(t, 1, 0, 3, 2)(order, nil)
	is(t, goes(0), goes(1), comes(3), comes(2))(steps, nil)
}
