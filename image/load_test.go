package image_test

import (
	"math"
	"math/rand"
	"slices"
	"strings"
	"testing"

	"solspace/api"
	"solspace/arena"
	"solspace/image"
)

// comesBack: an image is read with that room, into a space that has just its nodes, and the function of that table.
func comesBack(t *testing.T, vars int, f table, text string, room int) {
	t.Helper()
	s, h := loaded(t, text, room)
	size, err := s.Size(h)
	if err != nil || s.Vars() != vars || s.Len() != size || size != nodesOf(text) || told(t, s, h) != f {
		t.Fatalf("%q: %d variables, %d nodes, %d of them its own, true of %b; want %b", text, s.Vars(), s.Len(), size, told(t, s, h), f)
	}
	if got := saved(t, s, h); got != text {
		t.Fatalf("%q, and then %q", text, got)
	}
}

// Promise 13.1: what comes back is the function of the same values, and just its nodes; there is room for so many, and for no fewer.
func TestLoadAll(t *testing.T) {
	for vars := range 4 {
		for f := range rows(vars) + 1 {
			text := written(vars, f)
			comesBack(t, vars, f, text, api.MaxNodes)
			many := nodesOf(text)
			comesBack(t, vars, f, text, many)
			for room := range many {
				refused(t, text, room, api.ErrFull)
			}
		}
	}
}

// Promise 13.1: likewise of functions that are drawn, of more variables; of what Save makes in a space with others.
func TestLoadSaved(t *testing.T) {
	d := rand.New(rand.NewSource(6))
	for range 300 {
		vars := 4 + d.Intn(3)
		s, f := made(t, vars, api.MaxNodes), drawn(d, vars)
		laid(t, s, drawn(d, vars))
		h := laid(t, s, f)
		text := saved(t, s, h)
		comesBack(t, vars, f, text, api.MaxNodes)
		comesBack(t, vars, f, text, nodesOf(text))
		if many := nodesOf(text); many > 0 {
			refused(t, text, many-1, api.ErrFull)
			refused(t, text, d.Intn(many), api.ErrFull)
		}
	}
}

// Promise 13.1: what comes back is a space like others: more can be made in it, as much as there is room for, and each function is one handle.
func TestLoadUsed(t *testing.T) {
	d := rand.New(rand.NewSource(7))
	for range 200 {
		vars := 1 + d.Intn(5)
		f, g := drawn(d, vars), drawn(d, vars)
		s, h := loaded(t, written(vars, f), api.MaxNodes)
		k := laid(t, s, g)
		for _, x := range []struct {
			f table
			h int
		}{
			{f, h}, {g, k}, {f & g, answer(t)(s.And(h, k))}, {f ^ g, answer(t)(s.Xor(h, k))}, {rows(vars) &^ f, answer(t)(s.Not(h))},
		} {
			if got := told(t, s, x.h); got != x.f || laid(t, s, x.f) != x.h {
				t.Fatalf("%b and %b: %b; want %b", f, g, got, x.f)
			}
		}
		s.Free(h)
		if size, _ := s.Size(h); s.Len() != size || told(t, s, h) != f {
			t.Fatalf("%b: %d nodes", f, s.Len())
		}
	}
	s, h := loaded(t, summed("space 2 1 2", "1 0 1"), 2)
	answer(t)(s.Lit(0, true))
	if _, err := s.Not(h); err != error(api.ErrFull) || s.Len() != 2 {
		t.Errorf("%v, %d nodes", err, s.Len())
	}
}

// Promise 13.1: ErrLimit beyond MaxText bytes, ahead of all else.
func TestLoadLimit(t *testing.T) {
	for _, x := range []string{"", "space 0 0 1\n", "space 1 1 2\n0 0 1\n", "\n"} {
		for _, fill := range []string{"x", "\n", "0 0 1\n", "\x00"} {
			text := x + strings.Repeat(fill, api.MaxText+1)
			for _, room := range []int{0, -1, api.MaxNodes, api.MaxNodes + 1} {
				refused(t, text, room, api.ErrLimit)
				refused(t, text[:api.MaxText+1], room, api.ErrLimit)
				refused(t, text[:api.MaxText], room, api.ErrForm)
			}
		}
	}
}

// Promise 13.1: an image of just MaxText bytes is read; the same one with one byte more isn't.
func TestLoadMost(t *testing.T) {
	d := rand.New(rand.NewSource(8))
	s := made(t, 14, api.MaxNodes)
	h, text := arena.False, ""
	for range 20_000 {
		next := answer(t)(s.Xor(h, cube(t, s, d)))
		if text = saved(t, s, next); len(text) == api.MaxText {
			h = next
			break
		}
		// Those that come near are tried again and again, with other cubes.
		if len(text) < api.MaxText-200 {
			h = next
		}
		s.Free(h)
	}
	if len(text) != api.MaxText {
		t.Fatalf("no image of so many bytes was found")
	}
	again, k := loaded(t, text, nodesOf(text))
	if again.Len() != nodesOf(text) || saved(t, again, k) != text {
		t.Errorf("%d nodes; want %d", again.Len(), nodesOf(text))
	}
	a, _ := again.Count(k)
	if b, _ := s.Count(h); a.Cmp(b) != 0 {
		t.Errorf("true of %s, and of %s", b.Text(), a.Text())
	}
	refused(t, text, nodesOf(text)-1, api.ErrFull)
	refused(t, text+"\n", api.MaxNodes, api.ErrLimit)
	refused(t, text[:len(text)-1], api.MaxNodes, api.ErrForm)
}

// Promise 13.1: ErrForm of each part of the first line, and of how many lines there are, ahead of what New says of the room.
func TestLoadHead(t *testing.T) {
	for _, text := range []string{
		"", "\n", "\n\n", "x", "x\n", "\x00",
		// The word.
		summed("0 0 1"), summed("spac 0 0 1"), summed("spaces 0 0 1"), summed("Space 0 0 1"), summed("sum 0 0 1"), summed("space0 0 1"), summed(" 0 0 1"), summed("space"), summed("space "),
		// How many numbers.
		summed("space 0 0"), summed("space 0 0 "), summed("space 0 0 1 1"), summed("space 0"), summed("space 0 0 1 "),
		// What is no number.
		summed("space x 0 1"), summed("space 0 x 1"), summed("space 0 0 x"), summed("space  0 1"), summed("space 0  1"), summed("space 0x0 0 1"), summed("space 0 0 1."), summed("space 0 0 1e0"), summed("space 0 0 \xff"), summed("space 0 0 ١"), summed("space 0 0 1_0"),
		// A nought ahead.
		summed("space 00 0 1"), summed("space 01 0 1"), summed("space 0 00 1"), summed("space 0 0 01"), summed("space 0 0 00"),
		// A sign.
		summed("space -0 0 1"), summed("space +0 0 1"), summed("space 0 -0 1"), summed("space 0 +0 1"), summed("space 0 0 +1"), summed("space 0 0 -1"), summed("space -1 0 1"), summed("space 0 -1 1"),
		// A blank too many, or another one.
		summed(" space 0 0 1"), summed("space  0 0 1"), summed("space 0  0 1"), summed("space 0 0  1"), summed("space 0 0 1  "), summed("space\t0 0 1"), summed("space 0\t0 1"), summed("space 0 0 1\r"), summed("space 0 0\u00a01"),
		// What does not fit 64 bits.
		summed("space 9223372036854775808 0 1"), summed("space 18446744073709551616 0 1"), summed("space 0 18446744073709551616 1"), summed("space 0 0 9223372036854775808"), summed("space 0 0 18446744073709551617"), summed("space 0 0 1" + strings.Repeat("0", 200)), summed("space 0 " + strings.Repeat("9", 101) + " 1"),
		// More variables than there may be.
		summed("space 25 0 1"), summed("space 100 0 0"), summed("space 9223372036854775807 0 1"), summed("space 25 1 2", "0 0 1"),
		// How many lines there are.
		summed("space 1 1 1"), summed("space 1 2 2", "0 0 1"), summed("space 1 0 2", "0 0 1"), summed("space 1 0 1", ""), summed("space 0 9223372036854775807 1"), summed("space 0 9223372036854775806 1"), summed("space 0 9223372036854775805 1"), joined("space 0 0 1"), joined("space 0 1 1"), "space 0 0 1",
		// No line feed at the end, or something behind the end.
		strings.TrimSuffix(summed("space 0 0 1"), "\n"), strings.TrimSuffix(summed("space 1 1 2", "0 0 1"), "\n"), "space 1 0 1\n", "space 1 0 1\nsum",
		summed("space 0 0 1") + "\n", summed("space 0 0 1") + "x", summed("space 0 0 1") + " ", summed("space 0 0 1") + "x\n", summed("space 0 0 1") + "\x00", summed("space 0 0 1") + summed("space 0 0 1"), "\n" + summed("space 0 0 1"),
	} {
		for _, room := range []int{0, api.MaxNodes, -1, api.MaxNodes + 1, math.MinInt} {
			refused(t, text, room, api.ErrForm)
		}
	}
	comesBack(t, 0, 1, summed("space 0 0 1"), 0)
	comesBack(t, 0, 0, summed("space 0 0 0"), 0)
	if s, h := loaded(t, summed("space 24 1 2", "23 1 0"), 1); s.Vars() != 24 || s.Top(h) != 23 {
		t.Errorf("%d variables, %d", s.Vars(), s.Top(h))
	}
	if s, h, err := image.Load(nil, 0); s != nil || h != 0 || err != error(api.ErrForm) {
		t.Errorf("%v, %d, %#v; want ErrForm", s, h, err)
	}
}

// Promise 13.1: what New says of VARS and room; that comes ahead of what is wrong with the nodes' lines, with TOP, and with the sum.
func TestLoadRoom(t *testing.T) {
	texts := []string{
		summed("space 0 0 1"), summed("space 24 0 0"), summed("space 2 1 2", "1 0 1"),
		summed("space 2 1 2", "x"), summed("space 2 1 2", "2 0 1"), summed("space 2 1 2", "1 0 0"), summed("space 0 1 2", "0 0 1"), summed("space 2 1 2", ""),
		summed("space 2 0 2"), summed("space 2 1 7", "1 0 1"), summed("space 0 0 9223372036854775807"),
		joined("space 0 0 1", "sum 1"), joined("space 0 0 1", "x"), joined("space 0 0 1", ""),
	}
	for _, text := range texts {
		for _, room := range []int{-1, math.MinInt, api.MaxNodes + 1, math.MaxInt} {
			refused(t, text, room, api.ErrRange)
		}
	}
	for _, room := range []int{1, 2, api.MaxNodes} {
		comesBack(t, 0, 1, texts[0], room)
		for _, text := range texts[3:] {
			refused(t, text, room, api.ErrForm)
		}
	}
}

// Promise 13.1: ErrForm of a node's line, though there is no room for it either; a line that may be so is ErrFull.
func TestLoadNode(t *testing.T) {
	for _, x := range []string{
		// Three numbers, as of the first line.
		"", " ", "0", "0 1", "0 1 ", "1 0 1 1", "1 0 1 ", " 1 0 1", "1  0 1", "1 0  1", "1\t0 1", "1 0 1\r", "x 0 1", "1 x 1", "1 0 x", "node 1 0 1", "1,0,1", "sum 1", "space 1 0 1",
		"01 0 1", "1 00 1", "1 0 01", "-0 0 1", "+1 0 1", "1 +0 1", "1 0 +1", "-1 0 1", "1 -1 0", "1 0 -1",
		"9223372036854775808 0 1", "18446744073709551617 0 1", "1 18446744073709551616 1", "1 0 18446744073709551617", "1 0 " + strings.Repeat("1", 101),
		// VAR below VARS.
		"3 0 1", "4 0 1", "24 0 1", "25 0 1", "9223372036854775807 0 1",
		// LOW and HIGH unlike.
		"1 0 0", "1 1 1", "1 2 2", "1 7 7",
		// A number that no line ahead has: its own, too, and one behind.
		"1 0 2", "1 2 0", "1 2 3", "1 3 1", "1 0 9223372036854775807", "0 0 4",
	} {
		for _, lines := range [][]string{{"space 3 1 2", x}, {"space 3 2 3", x, "0 0 1"}, {"space 3 2 2", x, x}} {
			for _, room := range []int{0, 1, api.MaxNodes} {
				refused(t, summed(lines...), room, api.ErrForm)
			}
		}
	}
	for _, x := range []string{"0 0 1", "0 1 0", "2 0 1", "2 1 0"} {
		text := summed("space 3 1 2", x)
		refused(t, text, 0, api.ErrFull)
		loaded(t, text, 1)
	}
}

// Promise 13.1: LOW and HIGH are numbers of lines ahead whose VAR is above this one's.
func TestLoadAbove(t *testing.T) {
	for _, x := range []string{
		"1 0 2", "1 1 2", "1 2 0", "1 2 1", // VAR alike
		"2 0 2", "2 2 1", // VAR below
		"0 0 3", "0 3 1", "0 2 3", "0 3 2", "0 4 1", // its own number, and those behind it
		"0 2 2",
	} {
		for _, room := range []int{1, 2, api.MaxNodes} {
			refused(t, summed("space 3 2 3", "1 0 1", x), room, api.ErrForm)
		}
	}
	for _, x := range []string{"0 0 2", "0 1 2", "0 2 0", "0 2 1"} {
		refused(t, summed("space 3 2 3", "1 0 1", x), 1, api.ErrFull)
		loaded(t, summed("space 3 2 3", "1 0 1", x), 2)
	}
	// One of both alone is not above.
	refused(t, summed("space 3 3 4", "2 0 1", "1 0 1", "1 2 3"), 2, api.ErrForm)
	refused(t, summed("space 3 3 4", "2 0 1", "1 0 1", "1 3 2"), 2, api.ErrForm)
	refused(t, summed("space 3 3 4", "2 0 1", "1 0 1", "0 2 3"), 2, api.ErrFull)
	loaded(t, summed("space 3 3 4", "2 0 1", "1 0 1", "0 2 3"), 3)
}

// Promise 13.1: line by line: ErrFull of a line comes ahead of ErrForm of a later one, and behind that of itself and of one ahead; TOP and the sum come last.
func TestLoadFirst(t *testing.T) {
	for _, x := range []string{"x", "", "3 0 1", "0 0 0", "0 0 9", "2 0 2"} {
		refused(t, summed("space 3 2 3", "1 0 1", x), 0, api.ErrFull)
		refused(t, summed("space 3 2 3", "1 0 1", x), 1, api.ErrForm)
		refused(t, summed("space 3 2 3", x, "1 0 1"), 0, api.ErrForm)
		refused(t, summed("space 3 3 4", "1 0 1", "0 0 2", x), 1, api.ErrFull)
		refused(t, summed("space 3 3 4", "1 0 1", "0 0 2", x), 2, api.ErrForm)
		refused(t, summed("space 3 3 4", "1 0 1", x, "0 0 2"), 1, api.ErrForm)
	}
	refused(t, summed("space 3 1 7", "1 0 1"), 0, api.ErrFull)
	refused(t, summed("space 3 1 0", "1 0 1"), 0, api.ErrFull)
	refused(t, joined("space 3 1 2", "1 0 1", "sum 1"), 0, api.ErrFull)
	refused(t, joined("space 3 1 2", "1 0 1", "x"), 0, api.ErrFull)
	refused(t, summed("space 3 1 7", "1 0 1"), 1, api.ErrForm)
	refused(t, joined("space 3 1 2", "1 0 1", "sum 1"), 1, api.ErrForm)
}

// Promise 13.1: a line that stands ahead already needs no room, but is ErrForm at the end; one that leads to both of two such ones stands nowhere.
func TestLoadTwice(t *testing.T) {
	for _, x := range []struct {
		room  int
		lines []string
	}{
		{1, []string{"space 2 2 3", "1 0 1", "1 0 1"}},
		{1, []string{"space 2 2 2", "1 0 1", "1 0 1"}},
		{2, []string{"space 2 3 4", "1 0 1", "1 1 0", "1 0 1"}},
		{2, []string{"space 2 3 4", "1 0 1", "1 0 1", "0 0 3"}},
		{2, []string{"space 2 4 5", "1 0 1", "1 0 1", "0 0 2", "0 0 3"}},
		{1, append([]string{"space 2 50 2"}, slices.Repeat([]string{"1 0 1"}, 50)...)},
		{2, []string{"space 2 3 4", "1 0 1", "1 0 1", "0 2 3"}},
		{3, []string{"space 3 4 5", "2 0 1", "2 0 1", "1 2 3", "0 0 4"}},
	} {
		text := summed(x.lines...)
		refused(t, text, x.room, api.ErrForm)
		refused(t, text, api.MaxNodes, api.ErrForm)
		for room := range x.room {
			refused(t, text, room, api.ErrFull)
		}
	}
}

// Promise 13.1: TOP is 0, 1, or a line's number.
func TestLoadTop(t *testing.T) {
	for _, head := range []string{"space 2 0 2", "space 2 0 3", "space 2 0 9223372036854775807"} {
		refused(t, summed(head), 10, api.ErrForm)
	}
	for _, head := range []string{"space 2 2 4", "space 2 2 5", "space 2 2 9223372036854775807"} {
		refused(t, summed(head, "1 0 1", "0 2 1"), 10, api.ErrForm)
	}
	s, h := loaded(t, summed("space 2 2 3", "1 0 1", "0 2 1"), 10)
	if told(t, s, h) != 0b1110 {
		t.Errorf("true of %b", told(t, s, h))
	}
}

// Promise 13.1: ErrForm of bytes of which Save makes other ones.
func TestLoadOther(t *testing.T) {
	right := []string{"space 3 3 4", "2 0 1", "1 0 1", "0 2 3"}
	loaded(t, summed(right...), 3)
	for _, lines := range [][]string{
		// A node twice.
		{"space 3 4 5", "2 0 1", "2 0 1", "1 0 1", "0 2 4"},
		{"space 3 4 5", "2 0 1", "1 0 1", "0 2 3", "0 2 3"},
		// One to which TOP does not lead: behind it, ahead of it, among the others.
		{"space 3 4 4", "2 0 1", "1 0 1", "0 2 3", "1 1 0"},
		{"space 3 4 5", "1 1 0", "2 0 1", "1 0 1", "0 3 4"},
		{"space 3 4 5", "2 0 1", "1 1 0", "1 0 1", "0 2 4"},
		{"space 3 3 3", "2 0 1", "1 0 1", "0 2 3"},
		{"space 3 1 0", "2 0 1"}, {"space 3 1 1", "2 0 1"},
		// Another order: High ahead of Low.
		{"space 3 3 4", "1 0 1", "2 0 1", "0 3 2"},
		{"space 3 5 6", "2 1 0", "2 0 1", "1 3 2", "1 2 3", "0 4 5"},
		{"space 3 5 6", "2 0 1", "2 1 0", "1 3 2", "1 2 3", "0 5 4"},
		{"space 4 4 5", "3 0 1", "1 0 1", "2 0 2", "0 4 3"},
	} {
		refused(t, summed(lines...), 10, api.ErrForm)
	}
	loaded(t, summed("space 3 5 6", "2 0 1", "2 1 0", "1 2 3", "1 3 2", "0 4 5"), 10)
	loaded(t, summed("space 4 4 5", "3 0 1", "2 0 2", "1 0 1", "0 3 4"), 10)
	// The last line: the sum is 636.
	for _, last := range []string{"sum 635", "sum 637", "sum 0636", "sum +636", "sum  636", "sum 636 ", " sum 636", "Sum 636", "sun 636", "sum", "sum ", "", "636", "sum 10609", "sum 9973636", "sum 636 636", "sum 636\r", "sum\t636", "0 2 3"} {
		refused(t, joined(append(slices.Clone(right), last)...), 10, api.ErrForm)
	}
	if text := joined(append(right, "sum 636")...); text != summed(right...) {
		t.Errorf("%q", text)
	}
}

// Promise 13.1: the sum is over all bytes ahead of its line: the first line's, too.
func TestLoadSum(t *testing.T) {
	for _, x := range [][2]string{{"space 3 1 2", "space 4 1 2"}, {"2 0 1", "1 0 1"}, {"2 0 1", "2 1 0"}} {
		text := summed("space 3 1 2", "2 0 1")
		refused(t, strings.Replace(text, x[0]+"\n", x[1]+"\n", 1), 10, api.ErrForm)
		loaded(t, text, 10)
	}
	refused(t, joined("space 0 0 0", "sum 6745"), 0, api.ErrForm)
	loaded(t, joined("space 0 0 1", "sum 6745"), 0)
}

// Promise 13.1: one byte that turned is seen, whatever it is turned to; so is an image that stops too early.
func TestLoadTurned(t *testing.T) {
	d := rand.New(rand.NewSource(9))
	texts := []string{summed("space 0 0 0"), summed("space 24 0 1"), summed("space 10 1 2", "9 0 1"), summed("space 3 5 6", "2 0 1", "2 1 0", "1 2 3", "1 3 2", "0 4 5")}
	for vars := 3; vars < 6; vars++ {
		texts = append(texts, written(vars, drawn(d, vars)), written(vars, table(d.Uint64())&rows(vars)))
	}
	for _, text := range texts {
		loaded(t, text, api.MaxNodes)
		for at := range text {
			data := []byte(text)
			for to := range 256 {
				if data[at] = byte(to); string(data) != text {
					refused(t, string(data), api.MaxNodes, api.ErrForm)
				}
			}
			refused(t, text[:at], api.MaxNodes, api.ErrForm)
		}
	}
}

// P4: Load writes neither into bytes nor behind them, nor keeps them; two spaces have nothing in common.
func TestLoadFresh(t *testing.T) {
	d := rand.New(rand.NewSource(10))
	for range 200 {
		vars := 1 + d.Intn(5)
		f := drawn(d, vars)
		text := written(vars, f)
		data := []byte(text + "xyz")
		a, h, err := image.Load(data[:len(text)], api.MaxNodes)
		if err != nil || string(data) != text+"xyz" {
			t.Fatalf("%q: %v, %q", text, err, data)
		}
		b, k, err := image.Load(data[:len(text)], api.MaxNodes)
		if err != nil || a == b || a.Arena == b.Arena {
			t.Fatalf("%q: two spaces are one, %v", text, err)
		}
		clear(data)
		if saved(t, a, h) != text || told(t, a, h) != f {
			t.Fatalf("%q: kept", text)
		}
		before := nodes(b)
		a.Free()
		laid(t, a, drawn(d, vars))
		if !slices.Equal(nodes(b), before) || told(t, b, k) != f {
			t.Fatalf("%q: spaces share memory", text)
		}
		data = []byte(text[:len(text)-1] + "xyz")
		was := string(data)
		image.Load(data, api.MaxNodes)
		if string(data) != was {
			t.Fatalf("%q: written into", was)
		}
	}
}

// Promise 13.1: images of no variable up to as many as there may be.
func TestLoadVariables(t *testing.T) {
	for vars := range api.MaxVars + 1 {
		s := made(t, vars, api.MaxNodes)
		var l []int
		for v := range vars {
			l = append(l, answer(t)(s.Lit(v, v%3 > 0)))
		}
		h := answer(t)(s.All(l...))
		text := saved(t, s, h)
		again, k := loaded(t, text, vars)
		if again.Vars() != vars || again.Len() != vars || saved(t, again, k) != text {
			t.Errorf("%d variables: %d, %d nodes", vars, again.Vars(), again.Len())
		}
		if n, err := again.Count(k); err != nil || n.Text() != "1" {
			t.Errorf("%d variables: true of %s, %v", vars, n.Text(), err)
		}
	}
}
