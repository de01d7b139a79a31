package rules_test

import (
	"math"
	"math/rand"
	"slices"
	"testing"

	"solspace/api"
	"solspace/rules"
)

// alike says whether clauses are the same, literal by literal.
func alike(a, b []api.Clause) bool {
	return slices.EqualFunc(a, b, func(c, d api.Clause) bool { return slices.Equal(c, d) })
}

// only: of these lines alone there are these clauses.
func only(t *testing.T, r rules.Rules, lines []bool, want ...api.Clause) {
	t.Helper()
	if got := r.Only(lines); !alike(got, want) {
		t.Errorf("%v, only %v: %v, want %v", r, lines, got, want)
	}
}

// mixed is rules of a catalog that has all kinds of lines.
func mixed(t testing.TB) rules.Rules {
	t.Helper()
	return made(t, parsed(t,
		"root a any",             // 0: 1 2
		"package a 1.0.0",        // 1
		"package a 2.0.0",        // 2
		"package b 1.0.0",        // 3
		"clashes b 1.0.0 a any",  // 4: -3 -1; -3 -2
		"needs a 2.0.0 b any",    // 5: -1 3
		"root c any",             // 6: nothing
		"clashes b 1.0.0 a none", // 7: no clause
	))
}

// Promise 9.1: Only: the clauses that come from no line always, those of the lines that are told, in order.
func TestOnly(t *testing.T) {
	r := mixed(t)
	pair, wanted, first, second, need, none := api.Clause{-1, -2}, api.Clause{1, 2}, api.Clause{-3, -1}, api.Clause{-3, -2}, api.Clause{-1, 3}, api.Clause{}
	const no, yes = false, true
	only(t, r, nil, pair)
	only(t, r, []bool{}, pair)
	only(t, r, []bool{no, no, no, no, no, no, no, no}, pair)
	only(t, r, []bool{yes, yes, yes, yes, yes, yes, yes, yes}, pair, wanted, first, second, need, none)
	only(t, r, []bool{yes, no, no, no, no, no, no, no}, pair, wanted)
	only(t, r, []bool{no, yes, yes, yes, no, no, no, yes}, pair)
	only(t, r, []bool{no, no, no, no, yes, no, no, no}, pair, first, second)
	only(t, r, []bool{no, no, no, no, no, yes, no, no}, pair, need)
	only(t, r, []bool{no, no, no, no, no, no, yes, no}, pair, none)
	only(t, r, []bool{yes, no, no, no, no, yes, no, no}, pair, wanted, need)
	only(t, r, []bool{no, yes, yes, yes, yes, yes, yes, yes}, pair, first, second, need, none)
}

// Promise 9.1: lines that aren't told are left out; those that aren't there are no harm.
func TestOnlyShortAndLong(t *testing.T) {
	r := mixed(t)
	const no, yes = false, true
	only(t, r, []bool{yes}, api.Clause{-1, -2}, api.Clause{1, 2})
	only(t, r, []bool{yes, yes, yes, yes}, api.Clause{-1, -2}, api.Clause{1, 2})
	only(t, r, []bool{no, yes, yes, yes, yes}, api.Clause{-1, -2}, api.Clause{-3, -1}, api.Clause{-3, -2})
	long := make([]bool, 5000)
	only(t, r, long, api.Clause{-1, -2})
	for i := range long {
		long[i] = i > 7
	}
	only(t, r, long, api.Clause{-1, -2})
	for i := range long {
		long[i] = true
	}
	only(t, r, long, r.Clauses...)
	for n := range len(long[:20]) {
		var want []api.Clause
		for i, c := range r.Clauses {
			if r.From[i] < n {
				want = append(want, c)
			}
		}
		only(t, r, long[:n], want...)
	}
}

// Promise 9.1: what stands behind the lines' end tells nothing.
func TestOnlyBehind(t *testing.T) {
	all := slices.Repeat([]bool{true}, 8)
	only(t, mixed(t), all[:0], api.Clause{-1, -2})
	only(t, mixed(t), all[:1], api.Clause{-1, -2}, api.Clause{1, 2})
}

// Promise 9.1: Only of a catalog without clauses, and of one where all come from lines, or none does.
func TestOnlyOfFew(t *testing.T) {
	only(t, rules.Rules{}, nil)
	only(t, rules.Rules{}, []bool{true, true})
	only(t, made(t, nil), []bool{true})
	only(t, made(t, parsed(t, "package a 1.0.0")), []bool{true})
	only(t, made(t, parsed(t, "root a any")), nil)
	only(t, made(t, parsed(t, "root a any")), []bool{false})
	only(t, made(t, parsed(t, "root a any")), []bool{true}, nil)
	only(t, made(t, parsed(t, "package a 1.0.0", "package a 2.0.0")), nil, api.Clause{-1, -2})
	only(t, made(t, parsed(t, "package a 1.0.0", "package a 2.0.0")), []bool{true, true, true}, api.Clause{-1, -2})
}

// Promise 9.1: a line that stands twice is told by each of its numbers.
func TestOnlyTwice(t *testing.T) {
	r := made(t, parsed(t, "root a any", "root a any", "package a 1.0.0"))
	only(t, r, []bool{true, false}, api.Clause{1})
	only(t, r, []bool{false, true}, api.Clause{1})
	only(t, r, []bool{true, true}, api.Clause{1}, api.Clause{1})
}

// Promise 9.1: Only of catalogs that are drawn, against going through all clauses.
func TestOnlyDrawn(t *testing.T) {
	d := rand.New(rand.NewSource(1))
	for range 2000 {
		c := drawn(t, d, 8, 12)
		r := made(t, c)
		lines := make([]bool, d.Intn(len(c.Lines())+6))
		on := map[int]bool{-1: true}
		for i := range lines {
			lines[i] = d.Intn(2) == 0
			on[i] = lines[i]
		}
		var want []api.Clause
		for i, x := range r.Clauses {
			if on[r.From[i]] {
				want = append(want, x)
			}
		}
		only(t, r, lines, want...)
		only(t, r, slices.Repeat([]bool{true}, len(c.Lines())), r.Clauses...)
	}
}

// P1: Only of rules that no catalog has ends, and doesn't panic; a number below -1 is no line's.
func TestOnlyOfOthers(t *testing.T) {
	two := []api.Clause{{1}, {2}}
	all := []bool{true, true}
	only(t, rules.Rules{Vars: 2, Clauses: two}, all)
	only(t, rules.Rules{Vars: 2, Clauses: two, From: []int{1}}, all, two[0])
	only(t, rules.Rules{Vars: 2, From: []int{0, 1, -1}}, all)
	only(t, rules.Rules{Vars: -5, Clauses: two, From: []int{1, -1, 0, -1}}, all, two...)
	for _, n := range []int{-2, -3, math.MinInt, 2, 3, math.MaxInt} {
		only(t, rules.Rules{Vars: 2, Clauses: two, From: []int{n, n}}, all)
		only(t, rules.Rules{Vars: 2, Clauses: two, From: []int{n, -1}}, nil, two[1])
	}
	only(t, rules.Rules{Clauses: []api.Clause{nil, {0, math.MinInt}}, From: []int{1, 0}}, all, nil, api.Clause{0, math.MinInt})
}
