package image_test

import (
	"fmt"
	"math"
	"math/rand"
	"regexp"
	"slices"
	"strconv"
	"strings"
	"testing"

	"solspace/api"
	"solspace/image"
)

var (
	headShape = regexp.MustCompile(`^space (0|[1-9][0-9]*) (0|[1-9][0-9]*) (0|[1-9][0-9]*)\n$`)
	nodeShape = regexp.MustCompile(`^(0|[1-9][0-9]*) (0|[1-9][0-9]*) (0|[1-9][0-9]*)\n$`)
)

// line is a node's, by the numbers that it tells.
type line struct{ v, low, high int }

// triple are a line's numbers, if it has the shape.
func triple(shape *regexp.Regexp, text string) (out line, ok bool) {
	m := shape.FindStringSubmatch(text)
	if m == nil {
		return line{}, false
	}
	for i, p := range []*int{&out.v, &out.low, &out.high} {
		n, err := strconv.ParseInt(m[i+1], 10, 64)
		if err != nil {
			return line{}, false
		}
		*p = int(n)
	}
	return out, true
}

// reads is what the document's words say of an image: its error, OK, if it is read.
func reads(text string, room int) api.Errno {
	if len(text) > 20_000 {
		return api.ErrLimit
	}
	lines := strings.SplitAfter(text, "\n")
	rest := lines[len(lines)-1]
	lines = lines[:len(lines)-1]
	if rest != "" || len(lines) < 2 {
		return api.ErrForm
	}
	head, ok := triple(headShape, lines[0])
	if !ok || head.v > 24 || len(lines)-2 != head.low {
		return api.ErrForm
	}
	if room < 0 || room > 4000 {
		return api.ErrRange
	}
	// The nodes of which each stands there once, from place 2 on, and of each line's number its place.
	there := []line{{v: 99}, {v: 99}}
	places := []int{0, 1}
	for _, x := range lines[1 : len(lines)-1] {
		n, ok := triple(nodeShape, x)
		if !ok || n.v >= head.v || n.low == n.high || n.low >= len(places) || n.high >= len(places) {
			return api.ErrForm
		}
		n.low, n.high = places[n.low], places[n.high]
		if there[n.low].v <= n.v || there[n.high].v <= n.v {
			return api.ErrForm
		}
		at := slices.Index(there, n)
		if at < 0 {
			if len(there)-2 == room {
				return api.ErrFull
			}
			at, there = len(there), append(there, n)
		}
		places = append(places, at)
	}
	if head.high >= len(places) || again(head.v, there, places[head.high]) != text {
		return api.ErrForm
	}
	return api.OK
}

// again is the image of a node among those that are there.
func again(vars int, there []line, top int) string {
	order := []int{0, 1}
	var walk func(at int)
	walk = func(at int) {
		if slices.Contains(order, at) {
			return
		}
		walk(there[at].low)
		walk(there[at].high)
		order = append(order, at)
	}
	walk(top)
	number := func(at int) int { return slices.Index(order, at) }
	out := []string{fmt.Sprint("space ", vars, len(order)-2, number(top))}
	for _, at := range order[2:] {
		out = append(out, fmt.Sprint(there[at].v, number(there[at].low), number(there[at].high)))
	}
	return summed(out...)
}

// held: Load says of an image what the document's words say.
func held(t testing.TB, text string, room int) api.Errno {
	t.Helper()
	want := reads(text, room)
	if want != api.OK {
		refused(t, text, room, want)
		return want
	}
	s, h := loaded(t, text, room)
	if saved(t, s, h) != text || s.Len() != nodesOf(text) {
		t.Errorf("%q: %q, %d nodes", text, saved(t, s, h), s.Len())
	}
	return want
}

// shaken are the lines of an image, without the sum, of which something was made another.
func shaken(d *rand.Rand, lines []string) []string {
	lines = slices.Clone(lines)
	at := d.Intn(len(lines))
	switch d.Intn(6) {
	case 0: // twice
		lines = slices.Insert(lines, at, lines[d.Intn(len(lines))])
	case 1: // gone
		lines = slices.Delete(lines, at, at+1)
	case 2: // in another order
		k := d.Intn(len(lines))
		lines[at], lines[k] = lines[k], lines[at]
	case 3, 4: // another number
		words := strings.Split(lines[at], " ")
		words[d.Intn(len(words))] = fmt.Sprint(d.Intn(7))
		lines[at] = strings.Join(words, " ")
	case 5: // a node that no one needs
		lines = append(lines, fmt.Sprint(d.Intn(3), d.Intn(3), d.Intn(3)))
	}
	if len(lines) > 0 && d.Intn(4) > 0 { // so that there are so many lines, and the nodes are looked at
		words := strings.Split(lines[0], " ")
		if len(words) == 4 {
			words[2] = fmt.Sprint(len(lines) - 1)
			lines[0] = strings.Join(words, " ")
		}
	}
	return lines
}

// Promise 13.1: images of which something was made another, and room that is drawn, against the document's words.
func TestLoadDrawn(t *testing.T) {
	d := rand.New(rand.NewSource(4))
	seen := map[api.Errno]int{}
	for range 20_000 {
		vars := d.Intn(5)
		lines := strings.Split(written(vars, drawn(d, vars)), "\n")
		lines = lines[:len(lines)-2]
		for range d.Intn(4) {
			if len(lines) > 0 {
				lines = shaken(d, lines)
			}
		}
		text := summed(lines...)
		if d.Intn(8) == 0 {
			at := d.Intn(len(text))
			text = text[:at] + string("0123 \nx-"[d.Intn(8)]) + text[at+d.Intn(2):]
		}
		room := []int{api.MaxNodes, d.Intn(5), d.Intn(10), -1, api.MaxNodes + 1}[d.Intn(22)/5]
		seen[held(t, text, room)]++
	}
	for _, e := range []api.Errno{api.OK, api.ErrForm, api.ErrRange, api.ErrFull} {
		if seen[e] < 300 {
			t.Errorf("error %d: only %d of %v", e, seen[e], seen)
		}
	}
}

// Promise 13.1: lines of nodes that are drawn, of few numbers, against the document's words.
func TestLoadDrawnLines(t *testing.T) {
	d := rand.New(rand.NewSource(5))
	seen := map[api.Errno]int{}
	for range 50_000 {
		many, vars := d.Intn(5), 1+d.Intn(4)
		lines := []string{fmt.Sprint("space ", vars, many, d.Intn(many+3))}
		for i := range many {
			// From the last variable on, so that most may stand so.
			lines = append(lines, fmt.Sprint(max(0, vars-1-i/2), d.Intn(min(i, 2)+2), d.Intn(i+2)))
		}
		seen[held(t, summed(lines...), d.Intn(5))]++
	}
	for _, e := range []api.Errno{api.OK, api.ErrForm, api.ErrFull} {
		if seen[e] < 300 {
			t.Errorf("error %d: only %d of %v", e, seen[e], seen)
		}
	}
}

// Whatever the bytes are, Load says what the document's words say.
func FuzzLoad(f *testing.F) {
	for _, text := range []string{"", "\n", "space", "space 0 0 1\nsum 6745\n", "space 2 1 2\n1 0 1\nsum 2288\n", "space 3 5 6\n2 0 1\n2 1 0\n1 2 3\n1 3 2\n0 4 5\nsum 2924\n"} {
		for _, room := range []int{-1, 0, 1, 5, api.MaxNodes, math.MaxInt} {
			f.Add([]byte(text), room, false)
			f.Add([]byte(text), room, true)
		}
	}
	f.Fuzz(func(t *testing.T, data []byte, room int, right bool) {
		if right { // few drawn texts have the right sum
			lines := strings.Split(string(data), "\n")
			data = []byte(summed(lines[:max(0, len(lines)-2)]...))
		}
		kept := string(data)
		held(t, kept, room)
		image.Load(data, room)
		if string(data) != kept {
			t.Errorf("%q: written into", kept)
		}
	})
}
