package desk_test

import (
	"fmt"
	"math/big"
	"math/rand"
	"regexp"
	"slices"
	"strings"
	"testing"

	"solspace/api"
	"solspace/catalog"
	"solspace/clause"
	"solspace/count"
	"solspace/desk"
	"solspace/plan"
	"solspace/reason"
	"solspace/semver"
	"solspace/space"
)

// model is a session as plainly as can be: the lines of now, those of before, and the clauses.
type model struct {
	lines   []catalog.Line
	was     [][]catalog.Line
	clauses []api.Clause
}

// byWords is what the document's words ask of a session, by the faces of the chapters.
func byWords(session string) string {
	if len(session) > 20000 {
		return "error 4\n"
	}
	session = strings.TrimSuffix(session, "\n")
	var m model
	out := ""
	for _, line := range strings.Split(session, "\n") {
		told, err := m.line(line)
		if err != nil {
			told = fmt.Sprintf("error %d", api.Tell(err))
		}
		out += told + "\n"
	}
	return out
}

// line answers one.
func (m *model) line(line string) (string, error) {
	words := slices.DeleteFunc(strings.Split(line, " "), func(x string) bool { return x == "" })
	if len(words) == 0 {
		return "ok", nil
	}
	word, words := words[0], words[1:]
	if n, ok := behind()[word]; !ok || n >= 0 && n != len(words) {
		return "", api.ErrForm
	}
	switch word {
	case "add", "yank", "undo":
		return m.change(word, words)
	case "lines", "items":
		return m.shown(word), nil
	case "count", "kth", "least", "near", "always", "never":
		return m.installed(word, words)
	case "fits", "order":
		return m.planned(word, words)
	case "core", "why", "cores":
		return m.reasons(word, words)
	case "range":
		r, err := semver.ParseRange(strings.Join(words, " "))
		if err != nil {
			return "", err
		}
		return r.Text(), nil
	case "clause", "clauses", "can":
		return m.logic(word, words)
	case "clear":
		*m = model{}
		return "clear", nil
	}
	return help, nil
}

// digits are a number's form.
var digits = regexp.MustCompile(`^(0|-?[1-9][0-9]*)$`)

// whole reads a number of 64 bits.
func whole(word string) (int, error) {
	n, ok := new(big.Int).SetString(word, 10)
	if !digits.MatchString(word) || !ok || !n.IsInt64() {
		return 0, api.ErrForm
	}
	return int(n.Int64()), nil
}

// chosen reads items.
func chosen(words []string) (uint, error) {
	set := uint(0)
	for _, word := range words {
		n, err := whole(word)
		if err == nil && (n < 0 || n > 23) {
			err = api.ErrRange
		}
		if err != nil {
			return 0, err
		}
		set |= 1 << n
	}
	return set, nil
}

// list tells numbers.
func list(l []int) string { return strings.Trim(fmt.Sprint(l), "[]") }

// members tells a set.
func members(set uint) string {
	out := ""
	for i := range 64 {
		if set>>i&1 == 1 {
			out += fmt.Sprintf(" %d", i)
		}
	}
	if out == "" {
		return "nothing"
	}
	return out[1:]
}

// listed tells clauses.
func listed(l []api.Clause) string {
	out := ""
	for i, c := range l {
		if i > 0 {
			out += ", "
		}
		out += list(c)
	}
	return out
}

func (m *model) catalog() *catalog.Catalog {
	c, err := catalog.New(m.lines)
	if err != nil {
		panic(err)
	}
	return c
}

func (m *model) change(word string, words []string) (string, error) {
	next := slices.Clone(m.lines)
	switch word {
	case "add":
		x, err := catalog.ParseLine(strings.Join(words, " "))
		if err != nil {
			return "", err
		}
		next = append(next, x)
	case "yank":
		n, err := whole(words[0])
		if err == nil && (n < 0 || n >= len(next)) {
			err = api.ErrRange
		}
		if err != nil {
			return "", err
		}
		next = slices.Delete(next, n, n+1)
	case "undo":
		if len(m.was) == 0 {
			return "", api.ErrNone
		}
		m.lines, m.was = m.was[len(m.was)-1], m.was[:len(m.was)-1]
		return fmt.Sprint(len(m.lines)), nil
	}
	if _, err := catalog.New(next); err != nil {
		return "", err
	}
	m.was = append(m.was, m.lines)
	m.was = m.was[max(0, len(m.was)-50):]
	m.lines = next
	return fmt.Sprint(len(m.lines)), nil
}

func (m *model) shown(word string) string {
	if word == "lines" {
		return strings.Join(strings.Split(strings.TrimSuffix(m.catalog().Text(), "\n"), "\n"), "; ")
	}
	out := ""
	for i, x := range m.catalog().Items() {
		if i > 0 {
			out += ", "
		}
		out += fmt.Sprintf("%s %d.%d.%d", x.Name, x.Version[0], x.Version[1], x.Version[2])
	}
	return out
}

func (m *model) installed(word string, words []string) (string, error) {
	var k count.Nat
	var now uint
	var err error
	if word == "kth" {
		k, err = count.Parse(words[0])
	} else {
		now, err = chosen(words)
	}
	if err != nil {
		return "", err
	}
	s, err := space.Of(m.catalog(), 4000)
	if err != nil {
		return "", err
	}
	var set uint
	var l []int
	switch word {
	case "count":
		n, err := s.Count(s.All)
		return n.Text(), err
	case "always":
		l, err = s.Always()
		return list(l), err
	case "never":
		l, err = s.Never()
		return list(l), err
	case "kth":
		set, err = s.Kth(s.All, k)
	case "least":
		set, err = s.Least()
	case "near":
		set, err = s.Near(now)
	}
	return members(set), err
}

func (m *model) planned(word string, words []string) (string, error) {
	set, err := chosen(words)
	if err != nil {
		return "", err
	}
	if word == "order" {
		l, err := plan.Order(m.catalog(), set)
		return list(l), err
	}
	if ok, n := plan.Fits(m.catalog(), set); !ok {
		return fmt.Sprint(n), nil
	}
	return "fits", nil
}

func (m *model) reasons(word string, words []string) (string, error) {
	switch word {
	case "core":
		l, err := reason.Core(m.catalog())
		return list(l), err
	case "why":
		v, err := semver.Parse(words[1])
		if err != nil {
			return "", err
		}
		l, err := reason.WhyNot(m.catalog(), words[0], v)
		return list(l), err
	}
	cores, fixes, err := reason.Cores(m.catalog())
	out := ""
	for _, set := range cores {
		out += members(set) + ", "
	}
	out += "|"
	for _, set := range fixes {
		out += ", " + members(set)
	}
	return out, err
}

func (m *model) logic(word string, words []string) (string, error) {
	switch word {
	case "clause":
		c := api.Clause{}
		for _, word := range words {
			n, err := whole(word)
			if err != nil {
				return "", err
			}
			c = append(c, n)
		}
		all := slices.Concat(m.clauses, []api.Clause{c})
		if err := clause.Check(24, all); err != nil {
			return "", err
		}
		m.clauses = all
		return fmt.Sprint(len(all)), nil
	case "clauses":
		return listed(m.clauses), nil
	}
	vars := 0
	for clause.Check(vars, m.clauses) != nil {
		vars++
	}
	a, err := clause.Solve(vars, m.clauses)
	if !a.Holds {
		return "no " + listed(a.Proof), err
	}
	return "yes " + members(a.Values), err
}

// pick is one of these.
func pick(d *rand.Rand, l ...string) string { return l[d.Intn(len(l))] }

// someRange is a range's text that is drawn, now and then none.
func someRange(d *rand.Rand) string {
	return pick(d, "any", "any", "none", "1.0.0", "!1.0.0", "<2.0.0", ">=1.0.0", "^1.0.0", "~0.0.0", "0.0.0 ||  2.0.0", "x", "1.0.1000", "")
}

// someWords are any number of words, made one by one.
func someWords(d *rand.Rand, most int, word func() string) string {
	out := ""
	for range d.Intn(most + 1) {
		out += pick(d, " ", " ", "   ") + word()
	}
	return out
}

// someLine is a session's line that is drawn; many are right.
func someLine(d *rand.Rand) string {
	name := func() string { return pick(d, "a", "a", "b", "b", "c", "d-1", "any") }
	version := func() string { return pick(d, "0.0.0", "1.0.0", "1.0.0", "2.0.0", "1.0", "3.0.1000") }
	item := func() string {
		return pick(d, "0", "1", "2", "3", "4", "5", "0", "1", "2", "23", "24", "-1", "x", "-0")
	}
	literal := func() string {
		return pick(d, "1", "2", "3", "4", "-1", "-2", "-3", "-4", "1", "-1", "9", "0", "25", "01")
	}
	switch d.Intn(16) {
	case 0, 1, 2:
		return "add package " + name() + " " + version()
	case 3:
		return "add " + pick(d, "needs", "clashes") + " " + name() + " " + version() + " " + name() + " " + someRange(d)
	case 4:
		return "add root " + name() + " " + someRange(d)
	case 5:
		return "yank" + someWords(d, 1, item)
	case 6:
		return pick(d, "undo", "undo", "clear")
	case 7:
		return pick(d, "lines", "items", "clauses", "can", "count", "least", "help", "", "  ")
	case 8:
		return "kth " + pick(d, "0", "1", "2", "3", "5", "x", "18446744073709551616")
	case 9, 10:
		return pick(d, "near", "fits", "order", "order") + someWords(d, 3, item)
	case 11:
		return pick(d, "always", "never", "core", "cores")
	case 12:
		return "why " + name() + " " + version()
	case 13:
		return "range" + someWords(d, 2, func() string { return someRange(d) })
	case 14:
		return "clause" + someWords(d, 3, literal)
	}
	return spoilt(d, pick(d, strings.Fields(help)...)+someWords(d, 3, item))
}

// spoilt is a line of which something is changed.
func spoilt(d *rand.Rand, line string) string {
	i := d.Intn(len(line))
	switch d.Intn(4) {
	case 0:
		return line[:i] + line[i+1:]
	case 1:
		return line[:i] + pick(d, " ", "\t", "x", "0", "-", "\xff", "é", "\n") + line[i:]
	}
	return line
}

// kinds counts how lines were answered, by their first words.
func kinds(seen map[string]int, lines []string, told string) {
	for i, answer := range strings.Split(strings.TrimSuffix(told, "\n"), "\n") {
		words := strings.Fields(lines[i])
		if len(words) == 0 {
			continue
		}
		if !strings.HasPrefix(answer, "error") {
			answer = strings.SplitN(answer+" ", " ", 2)[0]
			if answer != "yes" && answer != "no" && answer != "nothing" && answer != "fits" && answer != "-2" && answer != "" {
				answer = "something"
			}
		}
		seen[words[0]+": "+answer]++
	}
}

// Promise 16.1: sessions that are drawn, against the document's words.
func TestDrawn(t *testing.T) {
	d := rand.New(rand.NewSource(1))
	seen := map[string]int{}
	for range 20_000 {
		session := ""
		for range 1 + d.Intn(30) {
			session += someLine(d) + "\n"
		}
		if d.Intn(3) == 0 {
			session = strings.TrimSuffix(session, "\n")
		}
		got := desk.Session(session)
		if want := byWords(session); got != want {
			t.Fatalf("%q: %q; want %q", session, got, want)
		}
		kinds(seen, strings.Split(strings.TrimSuffix(session, "\n"), "\n"), got)
	}
	for _, what := range []string{
		"add: something", "add: error 2", "add: error 3", "add: error 5", "add: error 7", "add: error 9", "yank: something", "yank: error 2", "yank: error 3", "yank: error 7", "undo: something", "undo: error 8",
		"lines: something", "lines: ", "items: something", "items: ", "count: something", "kth: something", "kth: nothing", "kth: error 3", "kth: error 8", "least: something", "least: nothing", "least: error 8",
		"near: something", "near: nothing", "near: error 2", "near: error 3", "near: error 8", "always: something", "always: ", "never: something", "never: ", "fits: fits", "fits: something", "fits: -2", "fits: error 2", "fits: error 3",
		"order: something", "order: ", "order: error 2", "order: error 3", "order: error 13", "core: something", "core: error 8", "why: something", "why: error 2", "why: error 3", "why: error 7", "why: error 8", "cores: something",
		"range: something", "range: error 2", "range: error 3", "clause: something", "clause: error 2", "clause: error 3", "clauses: something", "clauses: ", "can: yes", "can: no", "clear: something", "help: something",
	} {
		if seen[what] < 8 {
			t.Errorf("%s: only %d", what, seen[what])
		}
	}
}

// Promise 16.1: sessions that are drawn, cut off behind each line: the answers are the beginning of all.
func TestDrawnBeginning(t *testing.T) {
	d := rand.New(rand.NewSource(2))
	for range 200 {
		session := ""
		for range 10 + d.Intn(10) {
			session += someLine(d) + "\n"
		}
		all := desk.Session(session)
		for i := range session {
			if session[i] != '\n' {
				continue
			}
			part := desk.Session(session[:i+1])
			if !strings.HasPrefix(all, part) || strings.Count(part, "\n") != strings.Count(session[:i+1], "\n") {
				t.Fatalf("%q: %q; all is %q", session[:i+1], part, all)
			}
		}
	}
}

// Promise 16.1: any text, against the document's words.
func FuzzSession(f *testing.F) {
	for _, x := range []string{
		"", "\n", "help\n", " add  package a 1.0.0 \ncount\nkth 0\n", "clause 1\nclause -1\ncan\nclauses\nclear", "near 0 24\nfits x\norder -0", "range ^1.2.0 !1.3.0", "add root a any\ncore\ncores\nundo\nundo\nyank 0",
		text(append(small(), "count", "least", "near 0", "always", "never", "items", "lines", "why a 1.0.0", "order 0 2", "fits 0")...), "\xff \t\r\n\x00",
	} {
		f.Add(x)
	}
	f.Fuzz(func(t *testing.T, session string) {
		if got, want := desk.Session(session), byWords(session); got != want {
			t.Errorf("%q: %q; want %q", session, got, want)
		}
	})
}
