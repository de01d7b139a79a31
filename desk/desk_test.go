package desk_test

import (
	"fmt"
	"slices"
	"strconv"
	"strings"
	"testing"

	"solspace/api"
	"solspace/desk"
)

// The head of the function stays as it is.
var _ func(string) string = desk.Session

// What help tells, word for word.
const help = "add always can clause clauses clear core count cores fits help items kth least lines near never order range undo why yank"

// behind is how many words stand behind each line's first one (-1: any number).
func behind() map[string]int {
	return map[string]int{
		"add": -1, "yank": 1, "undo": 0, "lines": 0, "items": 0, "count": 0, "kth": 1, "least": 0, "near": -1, "always": 0, "never": 0, "fits": -1, "order": -1,
		"core": 0, "why": 2, "cores": 0, "range": -1, "clause": -1, "clauses": 0, "can": 0, "clear": 0, "help": 0,
	}
}

// text is lines with line feeds behind.
func text(lines ...string) string {
	out := ""
	for _, x := range lines {
		out += x + "\n"
	}
	return out
}

// says: that is the session's answer, to the byte.
func says(t testing.TB, session, want string) {
	t.Helper()
	if got := desk.Session(session); got != want {
		t.Errorf("%.300q: %.600q; want %.600q", session, got, want)
	}
}

// talk is a session of lines that are answered already (what, is not looked at), and then of lines each of which has its answer behind it.
func talk(t testing.TB, ahead []string, pairs ...string) {
	t.Helper()
	lines := slices.Clone(ahead)
	for i := 0; i < len(pairs); i += 2 {
		lines = append(lines, pairs[i])
	}
	got := strings.Split(desk.Session(text(lines...)), "\n")
	if len(got) != len(lines)+1 || got[len(lines)] != "" {
		t.Fatalf("%d lines are answered by %q", len(lines), got)
	}
	for i := 0; i < len(pairs); i += 2 {
		if a := got[len(ahead)+i/2]; a != pairs[i+1] {
			t.Errorf("%.200q (line %d): %.300q; want %.300q", pairs[i], i/2, a, pairs[i+1])
		}
	}
}

// fails: behind these lines, each of the wrong ones is answered by that error, and changes nothing.
func fails(t testing.TB, ahead []string, want api.Errno, wrong ...string) {
	t.Helper()
	state := []string{"lines", "items", "clauses", "count", "undo", "lines", "undo", "lines", "undo", "lines"}
	plain := desk.Session(text(append(slices.Clone(ahead), state...)...))
	for _, x := range wrong {
		talk(t, ahead, x, "error "+strconv.Itoa(int(want)))
		got := desk.Session(text(slices.Concat(ahead, []string{x}, state)...))
		lines := strings.SplitAfter(got, "\n")
		if at := len(ahead); strings.Join(slices.Delete(lines, at, at+1), "") != plain {
			t.Errorf("%.200q: something is changed: %.600q; want %.600q", x, got, plain)
		}
	}
}

// added are lines that add others.
func added(lines ...string) []string {
	var out []string
	for _, x := range lines {
		out = append(out, "add "+x)
	}
	return out
}

// versions are the lines of so many versions of a package.
func versions(name string, many int) []string {
	var out []string
	for i := range many {
		out = append(out, fmt.Sprintf("package %s %d.0.0", name, i))
	}
	return out
}

// small is a catalog of a 2.0.0 (item 0), a 1.0.0 (1) and b 1.0.0 (2); its installations are 1; 1 and 2; 0 and 2.
func small() []string {
	return added("package a 1.0.0", "package a 2.0.0", "package b 1.0.0", "needs a 2.0.0 b ^1.0.0", "root a any")
}

// Promise 16.1: more than MaxText bytes, whatever they are.
func TestMaxText(t *testing.T) {
	says(t, strings.Repeat(" ", api.MaxText), "ok\n")
	says(t, strings.Repeat(" ", api.MaxText+1), "error 4\n")
	says(t, strings.Repeat("\n", api.MaxText), strings.Repeat("ok\n", api.MaxText))
	says(t, strings.Repeat("\n", api.MaxText+1), "error 4\n")
	says(t, strings.Repeat("x", api.MaxText), "error 3\n")
	says(t, strings.Repeat("x", api.MaxText+1), "error 4\n")
	says(t, strings.Repeat("é", api.MaxText/2), "error 3\n")
	says(t, strings.Repeat("é", api.MaxText/2)+"x", "error 4\n")
	says(t, "help\n"+strings.Repeat(" ", api.MaxText-9)+"help", help+"\n"+help+"\n")
	// The line feed at the end counts.
	says(t, "help\n"+strings.Repeat(" ", api.MaxText-10)+"help\n", help+"\n"+help+"\n")
	says(t, "help\n"+strings.Repeat(" ", api.MaxText-9)+"help\n", "error 4\n")
	says(t, strings.Repeat("help\n", api.MaxText/5), strings.Repeat(help+"\n", api.MaxText/5))
	says(t, strings.Repeat("help\n", api.MaxText*3), "error 4\n")
}

// Promise 16.1: lines are cut at line feeds; one at the end is left out; the empty text is one line.
func TestLines(t *testing.T) {
	for _, x := range []struct{ session, want string }{
		{"", "ok\n"},
		{"\n", "ok\n"},
		{"\n\n", "ok\nok\n"},
		{"\n\n\n", "ok\nok\nok\n"},
		{"undo", "error 8\n"},
		{"undo\n", "error 8\n"},
		{"undo\n\n", "error 8\nok\n"},
		{"undo\n\n\n", "error 8\nok\nok\n"},
		{"\nundo", "ok\nerror 8\n"},
		{"\n\nundo\n", "ok\nok\nerror 8\n"},
		{"undo\nclear\nundo", "error 8\nclear\nerror 8\n"},
		{"undo\n\nclear\n\n\nundo\n", "error 8\nok\nclear\nok\nok\nerror 8\n"},
		{"undo\n \n", "error 8\nok\n"},
		{"undo\r\nclear\r\n", "error 3\nerror 3\n"},
		{"undo\rclear", "error 3\n"},
		{"undo\x00\nclear", "error 3\nclear\n"},
		{"undo\u2028clear", "error 3\n"},
		{"undo\vclear\fcan", "error 3\n"},
	} {
		says(t, x.session, x.want)
	}
}

// Promise 16.1: words have blanks between, several, too, and at both ends; nothing else is a blank.
func TestBlanks(t *testing.T) {
	for _, x := range []string{"", " ", "  ", strings.Repeat(" ", 1000)} {
		says(t, x, "ok\n")
		says(t, x+"clear"+x, "clear\n")
		says(t, x+"clear\n"+x+"\n", "clear\nok\n")
	}
	for _, x := range []string{" ", "  ", "       "} {
		talk(t, nil, x+"add"+x+"package"+x+"a"+x+"1.0.0"+x, "1", "add"+x+"root a"+x+">=1.0.0"+x+"<2.0.0 ||"+x+"3.0.0", "2", "lines", "package a 1.0.0; root a >=1.0.0 <2.0.0 || 3.0.0",
			"near"+x+"0"+x+"1", "0", "fits"+x, "1", x+"yank"+x+"1"+x, "1", "range"+x+"1.0.0"+x+"||"+x+"2.0.0", "1.0.0 || 2.0.0", "clause"+x+"1"+x+"-2"+x, "1", "clauses"+x, "1 -2",
			"why"+x+"a"+x+"1.0.0", "error 8", "help"+x, help)
	}
	for _, x := range []string{"\t", "\r", "\v", "\f", "\x00", "\u00a0", "\u0085", "\u2003", "\u3000", "\ufeff", "\x80", "\xff", "\xc2", "\xe2\x80"} {
		says(t, x, "error 3\n")
		says(t, " "+x+" ", "error 3\n")
		says(t, x+"clear", "error 3\n")
		says(t, "clear"+x, "error 3\n")
		says(t, "clear "+x, "error 3\n")
		says(t, x+" clear", "error 3\n")
		says(t, "fits"+x+"0", "error 3\n")
		says(t, "fits 0"+x+"1", "error 3\n")
		says(t, "add package a"+x+"1.0.0", "error 3\n")
	}
}

// Promise 16.1: a first word that is none of the table's.
func TestNoWord(t *testing.T) {
	words := []string{"x", "Help", "HELP", "hel", "helpp", "help,", "ok", "nothing", "error", "package", "0", "-1", "-", "|", "yes", "no", "quit", "ad", "clauses,", "clausess", "corex", "cor", "publish", "cheap", "change", "hélp", "\xff", "?"}
	for word := range behind() {
		words = append(words, word+"s x", strings.ToUpper(word), word[:len(word)-1]+"_", "."+word, word+".", "\""+word+"\"")
	}
	for _, x := range words {
		if x == "clauses x" || x == "cores x" {
			continue
		}
		says(t, x, "error 3\n")
		says(t, x+" 0", "error 3\n")
		says(t, " "+x+"\nclear", "error 3\nclear\n")
	}
}

// Promise 16.1: as many words stand behind the first one as are told.
func TestHowManyWords(t *testing.T) {
	for word, many := range behind() {
		for n := range 6 {
			for _, x := range []string{"0", "1.0.0", "a", "x"} {
				if n == many || many < 0 {
					continue
				}
				fails(t, small(), api.ErrForm, word+strings.Repeat(" "+x, n))
			}
		}
	}
	// Ahead of what is wrong with the words, and of what the chapters would say.
	fails(t, nil, api.ErrForm, "yank", "yank 99 99", "kth", "kth 0 0", "why a", "why a 1.0.1000 a", "why", "undo 0", "least 0", "clear 0", "can 0", "clauses 0")
}

// Promise 16.1: any number of words may stand behind some.
func TestAnyNumber(t *testing.T) {
	talk(t, small(), "near", "1", "near"+strings.Repeat(" 0", 100), "0 2", "fits", "4", "fits"+strings.Repeat(" 2 0", 100), "fits", "order", "error 13", "order"+strings.Repeat(" 0 2 0", 50), "2 0",
		"clause", "1", "clause"+strings.Repeat(" 5", 48), "2", "range"+strings.Repeat(" any", 249), "any", "add root a"+strings.Repeat(" any", 249), "6")
}

// numbers that are none: each word that a number may not be.
func noNumbers() []string {
	return []string{
		"01", "00", "007", "-0", "-00", "-01", "+1", "+0", "-", "+", "--1", "-+1", "1-", "1.0", "1.", ".1", "0x1", "0b1", "1_0", "1e3", "1,", "a", "x1", "1x", "٣", "１", "½", "\xff", "1\t", "\t1", "-\u00a01", "1\x00",
		"9223372036854775808", "-9223372036854775809", "18446744073709551616", "18446744073709551615", "99999999999999999999", "-99999999999999999999", strings.Repeat("9", 1000), "-" + strings.Repeat("1", 100), "00000000000000000000000000001",
	}
}

// Promise 16.1: numbers are decimal, perhaps with -, without a nought ahead, of 64 bits: else ErrForm, wherever one is read.
func TestNumbers(t *testing.T) {
	for _, x := range noNumbers() {
		fails(t, small(), api.ErrForm, "yank "+x, "near "+x, "near 0 "+x, "fits "+x, "fits 0 2 "+x, "order "+x, "order 2 0 "+x, "clause "+x, "clause 1 2 "+x)
	}
	// As much as 64 bits can be, and small ones: these are read, and then may be beyond what there is.
	for _, x := range []string{"9223372036854775807", "-9223372036854775808", "-9223372036854775807", "1000000000000000000", "-100", "-25", "25", "100", "4294967296", "4294967297", "-4294967295", "18446744073709551"} {
		fails(t, small(), api.ErrRange, "yank "+x, "near "+x, "fits 0 "+x, "order 2 "+x+" 0", "clause "+x, "clause 1 "+x)
	}
	fails(t, small(), api.ErrRange, "yank -1", "yank 5", "near -1", "fits -1", "order -1", "clause 0")
	talk(t, small(), "yank 4", "4", "yank 3", "3", "yank 0", "2", "fits 0", "fits", "clause -1 1 10 -10 20", "1")
}

// Promise 16.1: words are read from the left, and what is wrong first is told, ahead of what the chapters say.
func TestFirstError(t *testing.T) {
	fails(t, small(), api.ErrRange, "near 24 x", "near 0 -1 x", "fits 24 x", "fits 0 1 2 99 01", "order -1 -0", "order 0 24 x", "order 24")
	fails(t, small(), api.ErrForm, "near x 24", "near 0 01 24", "fits x 24", "order - 24", "order 0 2 + -1", "clause 0 x", "clause x 0", "clause 25 99999999999999999999")
	// A catalog without installations: what is read comes first.
	none := added("package a 1.0.0", "root b any")
	fails(t, none, api.ErrRange, "near 24", "order 24")
	fails(t, none, api.ErrForm, "near x", "kth x", "kth -1", "order 0 x")
	fails(t, none, api.ErrNone, "near 23", "least", "kth 0")
	fails(t, none, api.ErrFalse, "order 23", "order 0", "order")
	// One of too many clauses.
	much := added(versions("a", 21)...)
	fails(t, much, api.ErrRange, "near 24", "near 0 -1")
	fails(t, much, api.ErrForm, "near x", "near 0 x", "kth x", "kth 01", "why a x")
	fails(t, much, api.ErrLimit, "near 23", "near 0", "kth 0", "least")
	// One for which there is no room.
	full := added(knotted()...)
	fails(t, full, api.ErrForm, "kth x", "near x")
	fails(t, full, api.ErrLimit, "kth 1"+strings.Repeat("0", 100))
	fails(t, full, api.ErrFull, "kth 1"+strings.Repeat("0", 99), "kth 0", "near 0")
	// VERSION is read ahead of all that is said of NAME.
	fails(t, small(), api.ErrForm, "why z x", "why any 1.0", "why 1.0.0 a")
	fails(t, small(), api.ErrRange, "why z 1.0.1000")
	fails(t, small(), api.ErrMissing, "why z 1.0.0", "why any 1.0.0", "why \xff 1.0.0")
}

// Promise 16.1: items are from 0 to MaxVersions - 1, whatever items the catalog has.
func TestItems(t *testing.T) {
	for _, ahead := range [][]string{nil, small(), added(versions("a", 20)...)} {
		for item := range api.MaxVersions {
			for _, word := range []string{"near ", "fits ", "near 0 ", "fits 23 "} {
				lines := strings.Split(desk.Session(text(append(slices.Clone(ahead), word+strconv.Itoa(item))...)), "\n")
				if got := lines[len(ahead)]; strings.HasPrefix(got, "error") {
					t.Errorf("%s%d: %s", word, item, got)
				}
			}
		}
		for _, item := range []string{"24", "25", "63", "64", "-1", "-24"} {
			fails(t, ahead, api.ErrRange, "near "+item, "fits "+item, "order "+item, "near 23 "+item, "fits 0 "+item, "order 0 "+item+" 1")
		}
	}
	talk(t, small(), "fits 23", "-2", "fits 3", "-2", "fits 0 2 23", "-2", "order 23", "error 13", "order 0 2 3", "error 13", "near 23", "1", "near 0 23 3", "0 2")
}

// Promise 16.1: help is one line, and names just the words of the table.
func TestHelp(t *testing.T) {
	says(t, "help", help+"\n")
	says(t, " help \nhelp\n", help+"\n"+help+"\n")
	words := strings.Fields(help)
	if len(words) != len(behind()) {
		t.Errorf("%d words", len(words))
	}
	for _, word := range words {
		if _, ok := behind()[word]; !ok {
			t.Errorf("%s", word)
		}
	}
}

// Promise 16.1: the answers to the first lines of a session are the beginning of the answers to all.
func TestBeginning(t *testing.T) {
	lines := slices.Concat(small(), []string{"", "count", "x", "kth 1", "near 0", "clause 1 -2", "clause 0", "can", "  ", "clauses", "yank 3", "lines", "undo", "clear", "help", "can", "undo", "add package z 1.0.0", "items", ""})
	all := desk.Session(text(lines...))
	told := strings.SplitAfter(all, "\n")
	if len(told) != len(lines)+1 {
		t.Fatalf("%d lines are answered by %d", len(lines), len(told)-1)
	}
	for n := 1; n <= len(lines); n++ {
		says(t, text(lines[:n]...), strings.Join(told[:n], ""))
	}
}

// P4: a session hangs on its text alone: nothing is left of another one.
func TestAgain(t *testing.T) {
	session := text(append(small(), "clause 1 2", "clause -1", "can", "undo", "lines", "clauses")...)
	want := desk.Session(session)
	for range 3 {
		says(t, session, want)
		says(t, "lines\nclauses\nundo\ncan", "\n\nerror 8\nyes nothing\n")
	}
}

// README's example.
func TestReadme(t *testing.T) {
	says(t, "add package a 1.0.0\nadd package a 2.0.0\nadd package b 1.0.0\nadd needs a 2.0.0 b ^1.0.0\nadd root a any\ncount\nleast\nnear 0\norder 0 2\nwhy c 1.0.0\n", "1\n2\n3\n4\n5\n3\n1\n0 2\n2 0\nerror 7\n")
}
