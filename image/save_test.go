package image_test

import (
	"fmt"
	"math"
	"math/rand"
	"slices"
	"strings"
	"testing"

	"solspace/api"
	"solspace/arena"
	"solspace/bdd"
	"solspace/image"
)

// Promise 13.1: ErrMissing of no space, and of a handle that it hasn't.
func TestSaveMissing(t *testing.T) {
	missing := func(s *bdd.Space, h int) {
		t.Helper()
		if data, err := image.Save(s, h); data != nil || err != error(api.ErrMissing) {
			t.Errorf("%d: %q, %#v; want ErrMissing", h, data, err)
		}
	}
	for _, h := range []int{arena.False, arena.True, 2, -1} {
		missing(nil, h)
		missing(new(bdd.Space), h)
	}
	s := made(t, 3, 100)
	x, y := answer(t)(s.Lit(0, true)), answer(t)(s.Lit(1, true))
	for _, h := range []int{-1, y + 1, api.MaxNodes + 1, math.MaxInt, math.MinInt} {
		missing(s, h)
	}
	if got := saved(t, s, x); got != summed("space 3 1 2", "0 0 1") {
		t.Errorf("%q", got)
	}
	s.Free(y)
	missing(s, x)
	if got := saved(t, s, y); got != summed("space 3 1 2", "1 0 1") {
		t.Errorf("%q", got)
	}
}

// Promise 13.1: False and True have no node, and TOP 0 and 1, whatever else is there.
func TestSaveEnds(t *testing.T) {
	for h, want := range []string{"space 0 0 0\nsum 6704\n", "space 0 0 1\nsum 6745\n"} {
		if got := saved(t, made(t, 0, 0), h); got != want {
			t.Errorf("%q; want %q", got, want)
		}
	}
	for vars := range api.MaxVars + 1 {
		s := made(t, vars, 100)
		for v := range vars {
			answer(t)(s.Lit(v, v%2 == 0))
		}
		for _, h := range []int{arena.False, arena.True} {
			if got, want := saved(t, s, h), summed(fmt.Sprint("space ", vars, 0, h)); got != want {
				t.Errorf("%q; want %q", got, want)
			}
		}
	}
	if got := saved(t, made(t, 24, 0), arena.True); got != "space 24 0 1\nsum 7057\n" {
		t.Errorf("%q", got)
	}
}

// Promise 13.1: each variable, and not it.
func TestSaveLiterals(t *testing.T) {
	s := made(t, api.MaxVars, 100)
	for v := range api.MaxVars {
		for high := range 2 {
			h := answer(t)(s.Lit(v, high == 1))
			if got, want := saved(t, s, h), summed("space 24 1 2", fmt.Sprint(v, 1-high, high)); got != want {
				t.Errorf("%q; want %q", got, want)
			}
		}
	}
}

// Promise 13.1: first all of a node's Low, then all of its High, then it, none twice; the numbers from 2 on, as they stand.
func TestSaveOrder(t *testing.T) {
	s := made(t, 4, 1000)
	lit := func(v int) int { return answer(t)(s.Lit(v, true)) }
	ite := func(a, b, c int) int { return answer(t)(s.Ite(a, b, c)) }
	xor := func(a, b int) int { return answer(t)(s.Xor(a, b)) }
	for _, x := range []struct {
		h    int
		want []string
	}{
		// High's node was made first.
		{ite(lit(0), lit(1), lit(2)), []string{"space 4 3 4", "2 0 1", "1 0 1", "0 2 3"}},
		{ite(lit(0), lit(2), lit(1)), []string{"space 4 3 4", "1 0 1", "2 0 1", "0 2 3"}},
		// Nodes to which two lead.
		{xor(lit(0), xor(lit(1), lit(2))), []string{"space 4 5 6", "2 0 1", "2 1 0", "1 2 3", "1 3 2", "0 4 5"}},
		{ite(lit(0), lit(3), ite(lit(1), lit(2), lit(3))), []string{"space 4 4 5", "3 0 1", "2 0 1", "1 2 3", "0 4 2"}},
		{ite(lit(0), ite(lit(1), lit(2), lit(3)), lit(3)), []string{"space 4 4 5", "3 0 1", "2 0 1", "1 2 3", "0 2 4"}},
		// All of Low stands ahead of High, however deep it is.
		{ite(lit(0), lit(1), ite(lit(2), lit(3), 0)), []string{"space 4 4 5", "3 0 1", "2 0 2", "1 0 1", "0 3 4"}},
		{ite(lit(0), 0, ite(lit(2), 1, lit(3))), []string{"space 4 3 4", "3 0 1", "2 2 1", "0 3 0"}},
	} {
		if got, want := saved(t, s, x.h), summed(x.want...); got != want {
			t.Errorf("%q; want %q", got, want)
		}
	}
	small := made(t, 3, 100)
	f := laid(t, small, 0b10010110)
	if got := saved(t, small, f); got != "space 3 5 6\n2 0 1\n2 1 0\n1 2 3\n1 3 2\n0 4 5\nsum 2924\n" {
		t.Errorf("%q", got)
	}
}

// Promise 13.1: all functions of three variables, in one space in which all others are, against the document's words.
func TestSaveAll(t *testing.T) {
	for vars := range 4 {
		s := made(t, vars, api.MaxNodes)
		var handles []int
		for f := range rows(vars) + 1 {
			handles = append(handles, laid(t, s, f))
		}
		for f, h := range handles {
			if got, want := saved(t, s, h), written(vars, table(f)); got != want {
				t.Fatalf("%d variables, true of %b: %q; want %q", vars, f, got, want)
			}
		}
	}
}

// Promise 13.1: functions that are drawn; the same bytes whatever the handles are: behind Free, among others, in another space.
func TestSaveDrawn(t *testing.T) {
	d := rand.New(rand.NewSource(1))
	moved := 0
	for range 400 {
		vars := 1 + d.Intn(6)
		s, f := made(t, vars, api.MaxNodes), drawn(d, vars)
		want := written(vars, f)
		for range d.Intn(5) {
			laid(t, s, drawn(d, vars))
		}
		h := laid(t, s, f)
		for range 3 {
			if got := saved(t, s, h); got != want {
				t.Fatalf("%d variables, true of %b: %q; want %q", vars, f, got, want)
			}
			// The handles that are free now are others' then.
			s.Free(h)
			laid(t, s, drawn(d, vars))
		}
		keep := laid(t, s, drawn(d, vars))
		s.Free(keep)
		again := laid(t, s, f)
		if got := saved(t, s, again); got != want {
			t.Fatalf("%d variables, true of %b: %q; want %q", vars, f, got, want)
		}
		if again != h {
			moved++
		}
		other := made(t, vars, api.MaxNodes)
		if got := saved(t, other, laid(t, other, f)); got != want {
			t.Fatalf("%d variables, true of %b: %q; want %q", vars, f, got, want)
		}
	}
	if moved < 50 {
		t.Errorf("only %d had another handle", moved)
	}
}

// Promise 13.1: nodes to which the handle does not lead are left out.
func TestSaveAlone(t *testing.T) {
	s := made(t, 4, 1000)
	x, y := answer(t)(s.Lit(2, true)), answer(t)(s.Lit(3, false))
	both := answer(t)(s.And(x, y))
	above := answer(t)(s.And(answer(t)(s.Lit(0, true)), both))
	for _, c := range []struct {
		h    int
		want string
	}{
		{x, summed("space 4 1 2", "2 0 1")},
		{y, summed("space 4 1 2", "3 1 0")},
		{both, summed("space 4 2 3", "3 1 0", "2 0 2")},
		{above, summed("space 4 3 4", "3 1 0", "2 0 2", "0 0 3")},
	} {
		if got := saved(t, s, c.h); got != c.want {
			t.Errorf("%q; want %q", got, c.want)
		}
	}
}

// Promise 13.1: a space that is full is saved, too, however many bytes that makes; Load takes no more than MaxText of them.
func TestSaveMuch(t *testing.T) {
	d := rand.New(rand.NewSource(2))
	s := made(t, 14, api.MaxNodes)
	h, text := arena.False, ""
	for len(text) <= api.MaxText {
		next, err := s.Xor(h, cube(t, s, d))
		if err != nil {
			t.Fatal(err)
		}
		h = next
		s.Free(h)
		text = saved(t, s, h)
	}
	if n, _ := s.Size(h); nodesOf(text) != n || !strings.HasPrefix(text, fmt.Sprint("space 14 ", n, n+1)+"\n") {
		t.Errorf("%d nodes: %.30q", n, text)
	}
	lines := strings.Split(text, "\n")
	if want := summed(lines[:len(lines)-2]...); text != want {
		t.Errorf("the sum is %q", lines[len(lines)-2])
	}
	refused(t, text, api.MaxNodes, api.ErrLimit)
}

// cube is a diagram that is true where some variables are as they are drawn.
func cube(t testing.TB, s *bdd.Space, d *rand.Rand) int {
	t.Helper()
	var l []int
	for v := range s.Vars() {
		if d.Intn(3) > 0 {
			l = append(l, answer(t)(s.Lit(v, d.Intn(2) == 0)))
		}
	}
	return answer(t)(s.All(l...))
}

// P4: Save leaves the space as it was, and its bytes are fresh memory, each time.
func TestSaveFresh(t *testing.T) {
	d := rand.New(rand.NewSource(3))
	for range 100 {
		vars := 1 + d.Intn(5)
		s := made(t, vars, api.MaxNodes)
		f := drawn(d, vars)
		laid(t, s, drawn(d, vars))
		h := laid(t, s, f)
		before := nodes(s)
		first, _ := image.Save(s, h)
		second, _ := image.Save(s, h)
		want := string(second)
		clear(first[:cap(first)])
		if string(second) != want {
			t.Fatalf("%q: two images share memory", want)
		}
		clear(second[:cap(second)])
		if got := saved(t, s, h); got != want {
			t.Fatalf("%q, and then %q", want, got)
		}
		if !slices.Equal(nodes(s), before) {
			t.Fatalf("%q: the space is another one", want)
		}
	}
}

// nodes are all of a space, by their handles; of handles without one, none.
func nodes(s *bdd.Space) []arena.Node {
	var out []arena.Node
	for h := range api.MaxNodes + 2 {
		n, _ := s.Get(h)
		out = append(out, n)
	}
	return out
}
