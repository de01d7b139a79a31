package catalog_test

import (
	"math/rand"
	"slices"
	"strings"
	"testing"

	"solspace/api"
	"solspace/catalog"
	"solspace/semver"
)

// Promise 6.3: each kind of line as a text, ranges as those of chapter 5.
func TestText(t *testing.T) {
	any := semver.Any()
	c := made(t,
		pkg("b-1", semver.Version{0, 20, 999}),
		pkg("a", v1),
		needs("a", v1, "b-1", any),
		needs("a", v1, "zz", ranged(t, "^1.2.0 !1.3.0")),
		clashes("b-1", semver.Version{0, 20, 999}, "a", ranged(t, "=1.0.0 || >2.0.0")),
		clashes("a", v1, "a", semver.Range{}),
		root("a", any),
		root("b-1", semver.Range{}),
		root("c", ranged(t, "<0.5.0")))
	want := "package b-1 0.20.999\n" +
		"package a 1.0.0\n" +
		"needs a 1.0.0 b-1 any\n" +
		"needs a 1.0.0 zz >=1.2.0 <1.3.0 || >=1.3.1 <2.0.0\n" +
		"clashes b-1 0.20.999 a 1.0.0 || >=2.0.1\n" +
		"clashes a 1.0.0 a none\n" +
		"root a any\n" +
		"root b-1 none\n" +
		"root c <0.5.0\n"
	if got := c.Text(); got != want {
		t.Errorf("%q", got)
	}
	for line := range strings.Lines(want) {
		if x, err := catalog.ParseLine(strings.TrimSuffix(line, "\n")); err != nil || !slices.ContainsFunc(c.Lines(), func(y catalog.Line) bool { return same(x, y) }) {
			t.Errorf("%q: %v, %v", line, x, err)
		}
	}
	again, err := catalog.Parse(want)
	if err != nil || again.Text() != want || !slices.EqualFunc(again.Lines(), c.Lines(), same) || !slices.Equal(again.Items(), c.Items()) {
		t.Errorf("%v: %v", again, err)
	}
}

// Promise 6.3: lines that are read, whether or not they may be in a catalog.
func TestParseLine(t *testing.T) {
	any := semver.Any()
	for text, want := range map[string]catalog.Line{
		"package a 1.0.0":                        pkg("a", v1),
		"package a 1.0.0 ":                       pkg("a", v1), // one blank may stand behind
		"package  1.0.0":                         pkg("", v1),
		"package A_? 999.0.12":                   pkg("A_?", semver.Version{999, 0, 12}),
		"package any 0.0.0":                      pkg("any", v0),
		"package a\tb 1.0.0":                     pkg("a\tb", v1),
		"package \xff\x00 1.0.0":                 pkg("\xff\x00", v1),
		"package package 1.0.0":                  pkg("package", v1),
		"package a\nb 1.0.0":                     pkg("a\nb", v1),
		"needs a 1.0.0 b any":                    needs("a", v1, "b", any),
		"needs a 1.0.0 b none":                   needs("a", v1, "b", semver.Range{}),
		"needs  1.0.0  any":                      needs("", v1, "", any),
		"needs a 1.0.0  any":                     needs("a", v1, "", any),
		"needs a 1.0.0 any any":                  needs("a", v1, "any", any),
		"needs a 1.0.0 b  any  ":                 needs("a", v1, "b", any), // blanks of a range are its own
		"needs a 1.0.0 b ^1.0.0":                 needs("a", v1, "b", ranged(t, "^1.0.0")),
		"needs a 1.0.0 b >1.0.0 <3.0.0 || 5.0.0": needs("a", v1, "b", ranged(t, ">1.0.0 <3.0.0||5.0.0")),
		"clashes a 1.0.0 b any":                  clashes("a", v1, "b", any),
		"clashes  1.0.0  2.0.0":                  clashes("", v1, "", ranged(t, "2.0.0")),
		"clashes a 1.0.0 b <1.0.0 || 2.0.0":      clashes("a", v1, "b", ranged(t, "<1.0.0 || 2.0.0")),
		"root a any":                             root("a", any),
		"root a none":                            root("a", semver.Range{}),
		"root  any":                              root("", any),
		"root   any":                             root("", any),
		"root a   any ":                          root("a", any),
		"root 1.0.0 1.0.0":                       root("1.0.0", ranged(t, "1.0.0")),
		"root a >=1.0.0 <2.0.0":                  root("a", ranged(t, ">=1.0.0 <2.0.0")),
		"root a 1.0.0||2.0.0":                    root("a", ranged(t, "1.0.0 || 2.0.0")),
	} {
		got, err := catalog.ParseLine(text)
		if err != nil || !same(got, want) {
			t.Errorf("%q: %v, %v", text, got, err)
		}
	}
}

// unread: ParseLine refuses a text, with the error at that place (-1: none), and no line.
func unread(t *testing.T, text string, want api.Errno, place int) {
	t.Helper()
	x, err := catalog.ParseLine(text)
	if !same(x, catalog.Line{}) {
		t.Errorf("%q: %v beside %v", text, x, err)
	}
	wrong(t, text, err, want, place)
}

// Promise 6.3: what is wrong with a line's text, ahead of its range, is told without a place.
func TestParseLineWords(t *testing.T) {
	for _, text := range []string{
		"", " ", "x", "roots a any", "Root a any", "ROOT a any", " root a any", "\troot a any", "root\ta any", "rootany", "packag a 1.0.0", "pack",
		"need a 1.0.0 b any", "needs\n", "clash a 1.0.0 b any", "any", "none", "0", "\x00", "package\x00 a 1.0.0", "package\r", // no such word
		"package", "package ", "package a", "package a ", "package a  ", "package a  1.0.0", // no version
		"package a 1.0", "package a 1.0.0.0", "package a 01.0.0", "package a 1.0.+1", "package a 1.0.-1", "package a x", "package a v1.0.0", "package a 1.0.0\t", "package 1.0.0",
		"package a >=1.0.0", "package a 1.0.9223372036854775808",
		"package a 1.0.0  ", "package a 1.0.0 x", "package a 1.0.0  x", "package a 1.0.0 any", "package a 1.0.0 \t", "package a 1.0.0 b any", // something behind
		"needs", "needs ", "needs a", "needs a ", "needs a x b any", "needs a  1.0.0 b any", "needs a 1 b any", "needs a b any",
		"clashes", "clashes a", "clashes a any", "clashes a b 1.0.0 any", "clashes  a 1.0.0 b any",
	} {
		unread(t, text, api.ErrForm, -1)
	}
	for _, text := range []string{
		"package a 1000.0.0", "package a 0.1000.0", "package a 0.0.9223372036854775807", "package  1000.0.0", "package a 1000.x.0", // part by part
		"needs a 1000.0.0 b any", "clashes a 1.1.1000 b any",
	} {
		unread(t, text, api.ErrRange, -1)
	}
	// The version comes ahead of what stands behind.
	unread(t, "package a 1000.0.0 x", api.ErrRange, -1)
	unread(t, "package a x x", api.ErrForm, -1)
	unread(t, "needs a 1000.0.0 b x", api.ErrRange, -1)
	unread(t, "clashes a x b 1000.0.0", api.ErrForm, -1)
	unread(t, "needs a 1000.0.0", api.ErrRange, -1)
}

// Promise 6.3: what is wrong with a range is told at its place within the range's text.
func TestParseLineRange(t *testing.T) {
	for _, ahead := range []string{"root a ", "root  ", "needs a 1.0.0 b ", "needs  1.0.0  ", "clashes abc 10.20.30 b "} {
		unread(t, ahead, api.ErrForm, 0)
		unread(t, strings.TrimSuffix(ahead, " "), api.ErrForm, 0) // a range that is missing is empty
		unread(t, ahead+" ", api.ErrForm, 1)
		unread(t, ahead+"x", api.ErrForm, 0)
		unread(t, ahead+" x", api.ErrForm, 1)
		unread(t, ahead+"any x", api.ErrForm, 4)
		unread(t, ahead+"any any any x any", api.ErrForm, 12)
		unread(t, ahead+"any ||", api.ErrForm, 6)
		unread(t, ahead+"any || 1.0.0 1000.0.0 x", api.ErrRange, 13)
		unread(t, ahead+"1000.0.0", api.ErrRange, 0)
		unread(t, ahead+"<>1.0.0", api.ErrForm, 0)
		unread(t, ahead+"any\n", api.ErrForm, 0)
		unread(t, ahead+strings.Repeat("x", 1000), api.ErrForm, 0)
		unread(t, ahead+strings.Repeat("x", 1001), api.ErrLimit, -1)
		if x, err := catalog.ParseLine(ahead + strings.Repeat(" ", 997) + "any"); err != nil || !x.Range.Same(semver.Any()) {
			t.Errorf("a range of 1000 bytes: %v, %v", x, err)
		}
		unread(t, ahead+strings.Repeat(" ", 998)+"any", api.ErrLimit, -1)
	}
	unread(t, "root", api.ErrForm, 0)
	unread(t, "root ", api.ErrForm, 0)
	unread(t, "needs a 1.0.0", api.ErrForm, 0)
	unread(t, "needs a 1.0.0 ", api.ErrForm, 0)
	unread(t, "clashes a 1.0.0", api.ErrForm, 0)
	unread(t, "needs a 1.0.0 any", api.ErrForm, 0) // any is the other one's name there
}

// lineOf reads a line by other means: it is cut into as many words as its kind has, the last one being all that is left.
func lineOf(text string) (catalog.Line, error) {
	kinds := map[string][2]int{"package": {1, 4}, "needs": {2, 5}, "clashes": {3, 5}, "root": {4, 3}}
	kind, ok := kinds[strings.Split(text, " ")[0]]
	if !ok {
		return catalog.Line{}, api.ErrForm
	}
	words := strings.SplitN(text, " ", kind[1])
	words = append(words, make([]string, 5-len(words))...)
	x := catalog.Line{Kind: kind[0], Name: words[1]}
	last := words[kind[1]-1]
	var err error
	if x.Kind != catalog.Root {
		if x.Version, err = semver.Parse(words[2]); err != nil {
			return catalog.Line{}, err
		}
	}
	if x.Kind == catalog.Package {
		if last != "" {
			return catalog.Line{}, api.ErrForm
		}
		return x, nil
	}
	if x.Kind != catalog.Root {
		x.Other = words[3]
	}
	if x.Range, err = semver.ParseRange(last); err != nil {
		return catalog.Line{}, err
	}
	return x, nil
}

// sameError: the same Errno, at the same place or both without one.
func sameError(a, b error) bool {
	at, ok := a.(*api.At)
	bt, ok2 := b.(*api.At)
	if ok && ok2 {
		return *at == *bt
	}
	return !ok && !ok2 && a == b
}

// scrap is a text of pieces of lines, blanks of any number between.
func scrap(d *rand.Rand) string {
	pieces := []string{"package", "needs", "clashes", "root", "a", "b", "abcdefghijklm", "1.0.0", "2.0.0", "1000.0.0", "any", "none", "^1.0.0", "||", "x", ""}
	var out strings.Builder
	out.WriteString(pieces[d.Intn(5)])
	for range d.Intn(7) {
		out.WriteString(strings.Repeat(" ", []int{1, 1, 1, 1, 1, 1, 0, 2}[d.Intn(8)]))
		out.WriteString(pieces[d.Intn(len(pieces))])
	}
	return out.String()
}

// Promise 6.3: lines that are drawn are read as by other means.
func TestParseLineDrawn(t *testing.T) {
	d := rand.New(rand.NewSource(5))
	seen := map[api.Errno]int{}
	for range 200_000 {
		text := scrap(d)
		got, err := catalog.ParseLine(text)
		want, err2 := lineOf(text)
		if !same(got, want) || !sameError(err, err2) {
			t.Fatalf("%q: %v, %v, want %v, %v", text, got, err, want, err2)
		}
		seen[api.Tell(err)]++
	}
	if seen[api.OK] < 1000 || seen[api.ErrForm] < 1000 || seen[api.ErrRange] < 1000 {
		t.Errorf("drawn %v", seen)
	}
}

// stopped: Parse refuses a text, with the error at that place (-1: none), and no catalog.
func stopped(t *testing.T, text string, want api.Errno, place int) {
	t.Helper()
	c, err := catalog.Parse(text)
	if c != nil {
		t.Errorf("%q: a catalog beside %v", text, err)
	}
	wrong(t, text, err, want, place)
}

// Promise 6.3: line feeds: several, at both ends, none at the end; and what is none.
func TestParseLines(t *testing.T) {
	want := "package a 1.0.0\nroot a any\n"
	for _, text := range []string{
		want, "package a 1.0.0\nroot a any", "\n\npackage a 1.0.0\n\n\nroot a any\n\n", "\npackage a 1.0.0 \nroot a  any ",
	} {
		c, err := catalog.Parse(text)
		if err != nil || c.Text() != want {
			t.Errorf("%q: %q, %v", text, c.Text(), err)
		}
	}
	for _, text := range []string{"", "\n", "\n\n\n"} {
		if c, err := catalog.Parse(text); err != nil || c == nil || len(c.Lines()) != 0 {
			t.Errorf("%q: %v, %v", text, c, err)
		}
	}
	stopped(t, "package a 1.0.0\r\nroot a any\r\n", api.ErrForm, 0)
	stopped(t, "root a any\n \n", api.ErrForm, 11) // a blank is not nothing
	stopped(t, "root a any\n\t\n", api.ErrForm, 11)
	stopped(t, "root a any\x00root a any", api.ErrForm, 0)
}

// Promise 6.3: errors are at the first byte of their line, without a place in a range.
func TestParseAt(t *testing.T) {
	ahead := "\npackage a 1.0.0\n\nneeds a 1.0.0 b any\n"
	for line, want := range map[string]api.Errno{
		"x":                                   api.ErrForm,
		" ":                                   api.ErrForm,
		"package":                             api.ErrForm,
		"package b 1.0.0 x":                   api.ErrForm,
		"package b 1000.0.0":                  api.ErrRange,
		"root a any x":                        api.ErrForm,
		"root a any || 1000.0.0":              api.ErrRange,
		"root a":                              api.ErrForm,
		"needs a 1.0.0 b any ||":              api.ErrForm,
		"root a " + strings.Repeat(" ", 1001): api.ErrLimit,
		"package  1.0.0":                      api.ErrName,
		"package any 1.0.0":                   api.ErrName,
		"needs a 1.0.0  any":                  api.ErrName,
		"root A any":                          api.ErrName,
		"package a 1.0.0":                     api.ErrTwice,
		"needs a 2.0.0 b any":                 api.ErrMissing,
		"clashes b 1.0.0 a any":               api.ErrMissing,
	} {
		stopped(t, ahead+line, want, len(ahead))
		stopped(t, ahead+line+"\n", want, len(ahead))
		stopped(t, ahead+"\n\n"+line+"\n\nroot a any\npackage c 1.0.0\n", want, len(ahead)+2)
	}
	stopped(t, "root a any x", api.ErrForm, 0)
	stopped(t, "package A 1.0.0", api.ErrName, 0)
}

// Promise 6.3: what ParseLine says of any line comes ahead of what New says of one; within each the first line's.
func TestParseFirst(t *testing.T) {
	stopped(t, "package A 1.0.0\nx\n", api.ErrForm, 16)
	stopped(t, "package a 1.0.0\npackage a 1.0.0\nroot a 1000.0.0\nx", api.ErrRange, 32)
	stopped(t, "needs a 1.0.0 b any\nroot a any\nroot a", api.ErrForm, 31)
	stopped(t, "x\nroot a 1000.0.0", api.ErrForm, 0)
	stopped(t, "root a 1000.0.0\nx", api.ErrRange, 0)
	stopped(t, "needs b 1.0.0 a any\npackage a 1.0.0\npackage A 1.0.0\npackage a 1.0.0", api.ErrName, 36)
	stopped(t, "needs b 1.0.0 a any\npackage a 1.0.0\npackage a 1.0.0\npackage A 1.0.0", api.ErrTwice, 36)
	stopped(t, "needs b 1.0.0 a any\nclashes c 1.0.0 a any\n", api.ErrMissing, 0)
}

// Promise 6.3: as many lines, names and versions as may be, and one more.
func TestParseLimits(t *testing.T) {
	text := strings.Repeat("root a any\n", api.MaxLines)
	if c, err := catalog.Parse(text); err != nil || c.Text() != text {
		t.Error(err)
	}
	if c, err := catalog.Parse(strings.ReplaceAll(text, "\n", "\n\n\n")); err != nil || c.Text() != text {
		t.Error(err)
	}
	stopped(t, text+"root a any", api.ErrLimit, -1)
	stopped(t, text+"package A 1.0.0", api.ErrLimit, -1)
	stopped(t, text+"root a any\nroot", api.ErrForm, len(text)+11)
	stopped(t, text+"root a "+strings.Repeat(" ", 1001), api.ErrLimit, len(text))

	text = ""
	for i := range api.MaxPackages {
		text += "package " + letter(i) + " 1.0.0\n"
	}
	if c, err := catalog.Parse(text); err != nil || len(c.Items()) != api.MaxPackages {
		t.Error(err)
	}
	stopped(t, "\n"+text+"root a any\npackage z 1.0.0\n", api.ErrLimit, 1+len(text)+11)

	text = ""
	for i := range api.MaxVersions {
		text += "package a " + semver.Version{1, i, 0}.Text() + "\n"
	}
	if c, err := catalog.Parse(text); err != nil || len(c.Items()) != api.MaxVersions {
		t.Error(err)
	}
	stopped(t, text+"\npackage a 2.0.0\n", api.ErrLimit, len(text)+1)
}

// Promise 6.3: as many bytes as may be, and one more, whatever they are.
func TestParseMost(t *testing.T) {
	line := "package a 1.0.0\n"
	feeds := strings.Repeat("\n", api.MaxText-len(line))
	for _, text := range []string{line + feeds, feeds + line} {
		if c, err := catalog.Parse(text); err != nil || c.Text() != line {
			t.Error(err)
		}
		stopped(t, text+"\n", api.ErrLimit, -1)
		stopped(t, "\n"+text, api.ErrLimit, -1)
	}
	stopped(t, strings.Repeat("x", api.MaxText), api.ErrForm, 0)
	stopped(t, strings.Repeat("x", api.MaxText+1), api.ErrLimit, -1)
	stopped(t, strings.Repeat("x", 3*api.MaxText), api.ErrLimit, -1)
	stopped(t, feeds+strings.Repeat("x", len(line)), api.ErrForm, len(feeds))
}

// catalogOf reads a text by other means: all lines at once, then New.
func catalogOf(text string) ([]catalog.Line, api.Errno, int) {
	if len(text) > 20_000 {
		return nil, api.ErrLimit, -1
	}
	var l []catalog.Line
	var starts []int
	at := 0
	for _, s := range strings.Split(text, "\n") {
		if len(s) > 0 {
			x, err := lineOf(s)
			if err != nil {
				return nil, api.Tell(err), at
			}
			l, starts = append(l, x), append(starts, at)
		}
		at += len(s) + 1
	}
	e, place := first(l)
	if e != api.OK && place >= 0 {
		place = starts[place]
	}
	return l, e, place
}

// agree: Parse reads a text as it is read by other means, and what it read is written and read as the same again.
func agree(t *testing.T, text string) api.Errno {
	t.Helper()
	l, e, place := catalogOf(text)
	if e != api.OK {
		stopped(t, text, e, place)
		return e
	}
	c, err := catalog.Parse(text)
	if err != nil || !slices.EqualFunc(c.Lines(), l, same) {
		t.Fatalf("%q: %v, %v", text, c.Lines(), err)
	}
	// What was written otherwise than Text writes it may be longer than is read.
	written := c.Text()
	if _, e, _ := catalogOf(written); e == api.ErrLimit {
		return api.OK
	}
	again, err := catalog.Parse(written)
	if err != nil || again.Text() != written || !slices.EqualFunc(again.Lines(), l, same) || !slices.Equal(again.Items(), c.Items()) {
		t.Fatalf("%q is written %q, and then read as %v, %v", text, written, again.Lines(), err)
	}
	return api.OK
}

// Promise 6.3: texts that are drawn, with a byte turned now and then.
func TestParseDrawn(t *testing.T) {
	d := rand.New(rand.NewSource(7))
	ranges := []semver.Range{{}, semver.Any(), ranged(t, "<1.0.0"), ranged(t, "^1.0.0 || 0.0.0 || ~3.4.0")}
	seen := map[api.Errno]int{}
	for range 40_000 {
		var out strings.Builder
		for range d.Intn(3) {
			out.WriteString("\n")
		}
		for range d.Intn(12) {
			x := drawn(d, ranges, 40+d.Intn(1000))
			if x.Kind == catalog.Package || d.Intn(2) == 0 {
				x.Kind = catalog.Package
				out.WriteString("package " + x.Name + " " + x.Version.Text() + "\n")
			} else if x.Kind == catalog.Root {
				out.WriteString("root " + x.Name + " " + x.Range.Text() + "\n")
			} else {
				out.WriteString([]string{"needs", "clashes"}[d.Intn(2)] + " " + x.Name + " " + x.Version.Text() + " " + x.Other + " " + x.Range.Text() + "\n")
			}
			if d.Intn(60) == 0 {
				out.WriteString(scrap(d) + "\n")
			}
		}
		text := []byte(out.String())
		if len(text) > 0 && d.Intn(4) == 0 {
			text[d.Intn(len(text))] = " \n1a|.-"[d.Intn(7)]
		}
		seen[agree(t, string(text))]++
		if t.Failed() {
			return
		}
	}
	for _, e := range []api.Errno{api.OK, api.ErrForm, api.ErrName, api.ErrRange, api.ErrTwice, api.ErrMissing} {
		if seen[e] < 50 {
			t.Errorf("only %d drawn with error %d: %v", seen[e], e, seen)
		}
	}
}

// Promises 6.1 to 6.3: a catalog that New made is written, and read as the same again.
func TestTextAgain(t *testing.T) {
	d := rand.New(rand.NewSource(8))
	ranges := []semver.Range{{}, semver.Any(), ranged(t, ">=1.0.0"), ranged(t, "1.0.0 || 3.0.0 || 5.0.0 || >=7.7.7 <8.0.0")}
	many := 0
	for range 20_000 {
		var l []catalog.Line
		for range d.Intn(40) {
			l = append(l, drawn(d, ranges, 1_000_000))
		}
		c, err := catalog.New(l)
		if at, ok := err.(*api.At); ok { // what is ahead of the first wrong line may still be one
			l = l[:at.Place]
			c, err = catalog.New(l)
		}
		if err != nil {
			continue
		}
		again, err := catalog.Parse(c.Text())
		if err != nil || !slices.EqualFunc(again.Lines(), l, same) || !slices.Equal(again.Items(), c.Items()) || again.Text() != c.Text() {
			t.Fatalf("%q: %v", c.Text(), err)
		}
		many += len(l)
	}
	if many < 1000 {
		t.Errorf("only %d lines", many)
	}
}

// Promise 6.3: any line that is read or not is that by other means too.
func FuzzParseLine(f *testing.F) {
	for _, s := range []string{"package a 1.0.0", "needs a 1.0.0 b any", "clashes a 1.0.0 b <1.0.0 || 2.0.0", "root a any", "package a 1.0.0 ", "root", ""} {
		f.Add(s)
	}
	f.Fuzz(func(t *testing.T, text string) {
		got, err := catalog.ParseLine(text)
		want, err2 := lineOf(text)
		if !same(got, want) || !sameError(err, err2) {
			t.Errorf("%q: %v, %v, want %v, %v", text, got, err, want, err2)
		}
	})
}

// Promise 6.3: any text that is read or not is that by other means too.
func FuzzParse(f *testing.F) {
	for _, s := range []string{"package a 1.0.0\n\nroot a any", "needs a 1.0.0 b any\npackage a 1.0.0\n", "root a\n", "package a 1.0.0\npackage a 1.0.0", "\n\n", ""} {
		f.Add(s)
	}
	f.Fuzz(func(t *testing.T, text string) { agree(t, text) })
}
