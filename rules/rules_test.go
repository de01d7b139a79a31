package rules_test

import (
	"fmt"
	"slices"
	"strings"
	"testing"

	"solspace/api"
	"solspace/catalog"
	"solspace/clause"
	"solspace/rules"
)

// The heads of the functions, and the fields of the type, stay as they are.
var (
	_ func(*catalog.Catalog) (rules.Rules, error) = rules.Of
	_ func(rules.Rules, []bool) []api.Clause      = rules.Rules.Only
	_                                             = rules.Rules{Vars: 0, Clauses: []api.Clause(nil), From: []int(nil)}
)

// parsed is a catalog of lines that may be one.
func parsed(t testing.TB, lines ...string) *catalog.Catalog {
	t.Helper()
	c, err := catalog.Parse(strings.Join(lines, "\n"))
	if err != nil {
		t.Fatalf("%q: %v", lines, err)
	}
	return c
}

// made is a catalog's rules, where there are any.
func made(t testing.TB, c *catalog.Catalog) rules.Rules {
	t.Helper()
	r, err := rules.Of(c)
	if err != nil {
		t.Fatalf("%q: %v", c.Text(), err)
	}
	return r
}

// told is rules as texts: of each clause where it comes from, and its literals.
func told(r rules.Rules) []string {
	var out []string
	for i, c := range r.Clauses {
		out = append(out, fmt.Sprint(r.From[i], " ", []int(c)))
	}
	return out
}

// says: of a catalog of these lines there are so many variables, and these clauses.
func says(t *testing.T, vars int, lines []string, want ...string) {
	t.Helper()
	r := made(t, parsed(t, lines...))
	if len(r.From) != len(r.Clauses) {
		t.Fatalf("%q: %d clauses from %d lines", lines, len(r.Clauses), len(r.From))
	}
	if r.Vars != vars || !slices.Equal(told(r), want) {
		t.Errorf("%q: %d %q, want %d %q", lines, r.Vars, told(r), vars, want)
	}
	if err := clause.Check(r.Vars, r.Clauses); err != nil {
		t.Errorf("%q: Check: %v", lines, err)
	}
}

// refused: of a catalog of these lines there are too many clauses, and nothing is told beside that.
func refused(t *testing.T, lines []string) {
	t.Helper()
	r, err := rules.Of(parsed(t, lines...))
	if err != error(api.ErrLimit) {
		t.Errorf("%d lines: %#v, want %d without a place", len(lines), err, api.ErrLimit)
	}
	if r.Vars != 0 || len(r.Clauses) > 0 || len(r.From) > 0 {
		t.Errorf("%d lines: %v beside %v", len(lines), r, err)
	}
}

// counted: of a catalog of these lines there are so many clauses.
func counted(t *testing.T, want int, lines []string) {
	t.Helper()
	r := made(t, parsed(t, lines...))
	if len(r.Clauses) != want || len(r.From) != want {
		t.Errorf("%d lines: %d clauses from %d lines, want %d", len(lines), len(r.Clauses), len(r.From), want)
	}
}

// versions are the lines of so many versions of a package: the newest one, which has the least number, last.
func versions(name string, many int) []string {
	var out []string
	for i := range many {
		out = append(out, fmt.Sprintf("package %s %d.0.0", name, i))
	}
	return out
}

// Promise 9.1: a catalog without a line has neither variables nor clauses, and so has none at all.
func TestNothing(t *testing.T) {
	says(t, 0, nil)
	for _, c := range []*catalog.Catalog{nil, new(catalog.Catalog)} {
		r, err := rules.Of(c)
		if err != nil || r.Vars != 0 || len(r.Clauses) > 0 || len(r.From) > 0 {
			t.Errorf("%v: %v", r, err)
		}
	}
}

// Promise 9.1: Vars is how many items there are; a line that only tells of an item says nothing alone.
func TestVars(t *testing.T) {
	says(t, 1, []string{"package a 1.0.0"})
	says(t, 3, []string{"package c 1.0.0", "package a 1.0.0", "package b 1.0.0"})
	says(t, 0, []string{"root a any"}, "0 []")
	says(t, 1, []string{"package b 1.0.0", "root a any", "needs b 1.0.0 d any"}, "1 []", "2 [-1]")
	for n := range 19 {
		if r := made(t, parsed(t, versions("a", n)...)); r.Vars != n || len(r.Clauses) != n*(n-1)/2 {
			t.Errorf("%d versions: %d variables, %d clauses", n, r.Vars, len(r.Clauses))
		}
	}
	var most []string
	for i := range api.MaxPackages {
		most = append(most, versions(string(rune('a'+i)), api.MaxVersions/api.MaxPackages)...)
	}
	if r := made(t, parsed(t, most...)); r.Vars != api.MaxVersions {
		t.Errorf("%d variables", r.Vars)
	}
}

// Promise 9.1: not both of each two items of one name, by the second one, then by the first one.
func TestTwoOfOneName(t *testing.T) {
	says(t, 2, []string{"package a 1.0.0", "package a 2.0.0"}, "-1 [-1 -2]")
	says(t, 2, []string{"package a 1.0.0", "package b 1.0.0"})
	says(t, 4, versions("a", 4), "-1 [-1 -2]", "-1 [-1 -3]", "-1 [-2 -3]", "-1 [-1 -4]", "-1 [-2 -4]", "-1 [-3 -4]")
	says(t, 6, []string{"package b 1.0.0", "package a 1.0.0", "package b 2.0.0", "package ab 1.0.0", "package a 2.0.0", "package b 3.0.0"},
		"-1 [-1 -2]", "-1 [-4 -5]", "-1 [-4 -6]", "-1 [-5 -6]")
	// A name that begins like another one is another one.
	says(t, 3, []string{"package a 1.0.0", "package a-b 1.0.0", "package ab 1.0.0"})
}

// Promise 9.1: what comes from no line stands ahead of all that lines say, wherever the packages' lines stand; lines keep their numbers.
func TestPairsFirst(t *testing.T) {
	says(t, 3, []string{"root a any", "package a 1.0.0", "clashes a 1.0.0 b any", "package a 2.0.0", "needs a 2.0.0 b any", "package b 1.0.0"},
		"-1 [-1 -2]", "0 [1 2]", "2 [-2 -3]", "4 [-1 3]")
	says(t, 3, []string{"root b any", "root a <2.0.0", "package b 1.0.0", "package a 1.0.0", "package a 2.0.0"},
		"-1 [-1 -2]", "0 [3]", "1 [2]")
}

// Promise 9.1: Root: one of the items in the range, rising; where there are none, the clause without literals.
func TestRoot(t *testing.T) {
	there := []string{"package b 1.0.0", "package a 3.0.0", "package a 1.0.0", "package c 1.0.0"}
	for _, x := range []struct{ line, want string }{
		{"root a any", "4 [1 2]"},
		{"root a <3.0.0", "4 [2]"},
		{"root a >=2.0.0", "4 [1]"},
		{"root a 1.0.0 || 3.0.0", "4 [1 2]"},
		{"root a 2.0.0", "4 []"},
		{"root a none", "4 []"},
		{"root b any", "4 [3]"},
		{"root b >1.0.0", "4 []"},
		{"root c 1.0.0", "4 [4]"},
		{"root d any", "4 []"},
		{"root d none", "4 []"},
	} {
		says(t, 4, append(slices.Clone(there), x.line), "-1 [-1 -2]", x.want)
	}
	says(t, 0, []string{"root a none"}, "0 []")
	says(t, 1, []string{"package a 0.0.0", "root a 0.0.0"}, "1 [1]")
}

// Promise 9.1: Needs: not the item, or one of those in the range; where there are none, not the item; it may be among them itself.
func TestNeeds(t *testing.T) {
	there := []string{"package b 1.0.0", "package a 3.0.0", "package a 1.0.0", "package c 1.0.0"}
	for _, x := range []struct{ line, want string }{
		{"needs a 3.0.0 b any", "4 [-1 3]"},
		{"needs a 1.0.0 b any", "4 [-2 3]"},
		{"needs a 1.0.0 c 1.0.0", "4 [-2 4]"},
		{"needs c 1.0.0 a any", "4 [-4 1 2]"},
		{"needs b 1.0.0 a >=3.0.0", "4 [-3 1]"},
		{"needs b 1.0.0 a <3.0.0", "4 [-3 2]"},
		{"needs b 1.0.0 a ~2.0.0", "4 [-3]"},
		{"needs b 1.0.0 a none", "4 [-3]"},
		{"needs a 3.0.0 d any", "4 [-1]"},
		{"needs c 1.0.0 c any", "4 [-4 4]"},
		{"needs a 3.0.0 a any", "4 [-1 1 2]"},
		{"needs a 1.0.0 a any", "4 [-2 1 2]"},
		{"needs a 1.0.0 a >1.0.0", "4 [-2 1]"},
		{"needs a 1.0.0 a none", "4 [-2]"},
	} {
		says(t, 4, append(slices.Clone(there), x.line), "-1 [-1 -2]", x.want)
	}
}

// Promise 9.1: Clashes: of each in the range that not both are there, none where there are none; it may clash with itself.
func TestClashes(t *testing.T) {
	there := []string{"package b 1.0.0", "package a 3.0.0", "package a 1.0.0", "package c 1.0.0"}
	for _, x := range []struct {
		line string
		want []string
	}{
		{"clashes a 3.0.0 b any", []string{"4 [-1 -3]"}},
		{"clashes b 1.0.0 a any", []string{"4 [-3 -1]", "4 [-3 -2]"}},
		{"clashes c 1.0.0 a any", []string{"4 [-4 -1]", "4 [-4 -2]"}},
		{"clashes c 1.0.0 a <2.0.0", []string{"4 [-4 -2]"}},
		{"clashes c 1.0.0 a 2.0.0", nil},
		{"clashes c 1.0.0 a none", nil},
		{"clashes c 1.0.0 d any", nil},
		{"clashes c 1.0.0 c any", []string{"4 [-4 -4]"}},
		{"clashes c 1.0.0 c >1.0.0", nil},
		{"clashes a 3.0.0 a any", []string{"4 [-1 -1]", "4 [-1 -2]"}},
		{"clashes a 1.0.0 a any", []string{"4 [-2 -1]", "4 [-2 -2]"}},
		{"clashes a 1.0.0 a !1.0.0", []string{"4 [-2 -1]"}},
	} {
		says(t, 4, append(slices.Clone(there), x.line), append([]string{"-1 [-1 -2]"}, x.want...)...)
	}
}

// Promise 9.1: a line that stands twice says it twice, from each of its numbers.
func TestTwice(t *testing.T) {
	says(t, 2, []string{"root a any", "package a 1.0.0", "root a any", "needs a 1.0.0 b any", "clashes a 1.0.0 b any", "package b 1.0.0",
		"clashes a 1.0.0 b any", "needs a 1.0.0 b any", "root c any", "root c any"},
		"0 [1]", "2 [1]", "3 [-1 2]", "4 [-1 -2]", "6 [-1 -2]", "7 [-1 2]", "8 []", "9 []")
	// Two lines may say what no line says.
	says(t, 2, []string{"package a 1.0.0", "package a 2.0.0", "clashes a 2.0.0 a 1.0.0", "clashes a 2.0.0 a 1.0.0"},
		"-1 [-1 -2]", "2 [-1 -2]", "3 [-1 -2]")
}

// Promise 9.1: a clause of a line may be of all items: with its own one it has one literal more than there are items.
func TestLong(t *testing.T) {
	lines := append(versions("a", 19), "needs a 0.0.0 a any", "root a any")
	r := made(t, parsed(t, lines...))
	var all []int
	for i := range 19 {
		all = append(all, i+1)
	}
	n := len(r.Clauses)
	if !slices.Equal(r.Clauses[n-2], append([]int{-19}, all...)) || !slices.Equal(r.Clauses[n-1], all) {
		t.Errorf("%v", r.Clauses[n-2:])
	}
	if !slices.Equal(r.From[n-2:], []int{19, 20}) {
		t.Errorf("from %v", r.From[n-2:])
	}
}

// Promise 9.1: there are at most MaxClauses: by what no line says alone.
func TestLimitOfPairs(t *testing.T) {
	counted(t, 190, versions("a", 20))
	for n := 21; n <= api.MaxVersions; n++ {
		refused(t, versions("a", n))
	}
	counted(t, 91+45, slices.Concat(versions("a", 14), versions("b", 10)))
	refused(t, slices.Concat(versions("a", 21), versions("b", 3)))
}

// Promise 9.1: there are at most MaxClauses: just so many, and one more, by lines of each kind.
func TestLimitOfLines(t *testing.T) {
	for _, x := range []string{"root a any", "root b any", "root a none", "needs a 0.0.0 a any", "needs a 3.0.0 b any", "clashes a 0.0.0 a 3.0.0", "clashes a 4.0.0 a 4.0.0"} {
		lines := versions("a", 20)
		lines = append(lines, slices.Repeat([]string{x}, 10)...)
		counted(t, api.MaxClauses, lines)
		refused(t, append(lines, x))
		refused(t, append([]string{x}, lines...))
		refused(t, append(lines, slices.Repeat([]string{x}, 70)...))
		// What says nothing is no clause more.
		counted(t, api.MaxClauses, append(lines, "package b 1.0.0", "clashes a 0.0.0 c any", "clashes a 0.0.0 a none"))
	}
}

// Promise 9.1: one line alone may lead beyond MaxClauses, by each clause of it.
func TestLimitWithinLine(t *testing.T) {
	lines := append(slices.Concat(versions("a", 12), versions("b", 12)), "root a any", "root b any")
	for i := range 5 {
		lines = append(lines, fmt.Sprintf("clashes a %d.0.0 b any", i))
	}
	counted(t, 132+2+60, lines)
	for n := range 13 {
		more := append(slices.Clone(lines), fmt.Sprintf("clashes a 5.0.0 b <%d.0.0", n))
		if n <= 6 {
			counted(t, 194+n, more)
		} else {
			refused(t, more)
		}
	}
}

// Promise 9.1: as much as a catalog may have, and as many lines as say nothing.
func TestLimitMost(t *testing.T) {
	lines := versions("a", api.MaxVersions)
	for len(lines) < api.MaxLines {
		lines = append(lines, "clashes a 0.0.0 a any")
	}
	refused(t, lines)
	lines = []string{"package a 1.0.0"}
	for len(lines) < api.MaxLines {
		lines = append(lines, "clashes a 1.0.0 b any")
	}
	counted(t, 0, lines)
	for i := range lines[1:] {
		lines[i+1] = "clashes a 1.0.0 a any"
	}
	counted(t, api.MaxLines-1, lines)
}
