package reason_test

import (
	"fmt"
	"math/rand"
	"slices"
	"testing"

	"solspace/api"
	"solspace/catalog"
	"solspace/clause"
	"solspace/reason"
	"solspace/rules"
	"solspace/semver"
)

// idle are lines of so many items of which nothing is said; Solve tries all that they may be, ahead of those of greater names.
func idle(names string, many int) []string {
	var out []string
	for i := range many {
		out = append(out, fmt.Sprintf("package %c %d.0.0", names[i%len(names)], i/len(names)))
	}
	return out
}

// pair are lines of two packages, g and h, each with two versions.
func pair() []string {
	return []string{"package g 1.0.0", "package g 2.0.0", "package h 1.0.0", "package h 2.0.0"}
}

// against are lines that can't be together, which is seen only where something is decided of g.
func against() []string {
	return []string{"root g any", "root h any", "clashes g 1.0.0 h any", "clashes g 2.0.0 h any"}
}

// trap are lines that can be together, without a; but a is tried first, and then they can't.
func trap() []string {
	return []string{"needs a 1.0.0 g any", "needs a 1.0.0 h any", "clashes g 1.0.0 h any", "clashes g 2.0.0 h any"}
}

// trapped is as many items as there may be, for a trap.
func trapped() []string {
	return slices.Concat([]string{"package a 1.0.0"}, idle("bcdef", 19), pair())
}

// solved is what Solve says of those lines of a catalog that are told.
func solved(t *testing.T, c *catalog.Catalog, in func(n int) bool) (clause.Answer, error) {
	t.Helper()
	r, err := rules.Of(c)
	if err != nil {
		t.Fatal(err)
	}
	lines := make([]bool, len(c.Lines()))
	for n := range lines {
		lines[n] = in(n)
	}
	return clause.Solve(r.Vars, r.Only(lines))
}

// all tells each line.
func all(int) bool { return true }

// Promises 11.1 and 11.2: Solve's ErrLimit of all lines, which can't be together: just below it, and beyond.
func TestSolveLimit(t *testing.T) {
	below, beyond := 0, 0
	for many := range 21 {
		c := parsed(t, slices.Concat(idle("abcdef", many), pair(), against())...)
		_, err := solved(t, c, all)
		if err != nil {
			beyond++
			fails[int](t, api.ErrLimit)(reason.Core(c))
			fails[int](t, api.ErrLimit)(reason.WhyNot(c, "a", semver.Version{0, 0, 0}))
			limited(t, c)
			continue
		}
		below++
		n := many + 4
		is(t, n, n+1, n+2, n+3)(reason.Core(c))
		are(t, []uint{0b1111}, []uint{1, 2, 4, 8})(reason.Cores(c))
	}
	if below < 5 || beyond < 5 {
		t.Errorf("%d below the limit, %d beyond", below, beyond)
	}
}

// Promises 11.1 and 11.2: Solve's ErrLimit of all lines, which can be together.
func TestSolveLimitThoughItCan(t *testing.T) {
	c := parsed(t, append(trapped(), trap()...)...)
	if _, err := solved(t, c, all); err != error(api.ErrLimit) {
		t.Fatalf("Solve: %v", err)
	}
	fails[int](t, api.ErrLimit)(reason.Core(c))
	fails[int](t, api.ErrLimit)(reason.WhyNot(c, "a", semver.Version{1, 0, 0}))
	limited(t, c)
}

// Promise 11.1: Solve's ErrLimit where a line is left out, though all are told at once; it is not asked of lines that never are left together.
func TestCoreLimitOnTheWay(t *testing.T) {
	items := append(idle("abcdef", 20), pair()...)
	// The last line alone shows that they can't be together; without it that takes too long.
	c := parsed(t, slices.Concat(items, against(), []string{"root z any"})...)
	if a, err := solved(t, c, all); err != nil || a.Holds {
		t.Fatalf("Solve: %v, %v", a, err)
	}
	fails[int](t, api.ErrLimit)(reason.Core(c))
	limited(t, c)
	// The lines behind it go one by one, as long as it is there, and nothing is left of them without it.
	c = parsed(t, slices.Concat(items, []string{"root z any"}, against())...)
	is(t, 24)(reason.Core(c))
	if _, err := solved(t, c, func(n int) bool { return n != 24 }); err != error(api.ErrLimit) {
		t.Fatalf("Solve: %v", err)
	}
	// All sets of lines are tried, that without it too.
	limited(t, c)
	// In the middle: those behind it are gone when it is left out, and those ahead of it can be together.
	l := against()
	c = parsed(t, slices.Concat(items, l[:2], []string{"root z any"}, l[2:])...)
	is(t, 26)(reason.Core(c))
	// Two that show it, the first one ahead of all others: the second one goes, and then the others.
	c = parsed(t, slices.Concat(items, []string{"root y any"}, l, []string{"root z any"})...)
	is(t, 24)(reason.Core(c))
}

// Promise 11.1: WhyNot says Solve's ErrLimit of the lines with what is wanted besides, and of what is left of these.
func TestWhyNotSolveLimit(t *testing.T) {
	v := semver.Version{1, 0, 0}
	// Without what is wanted all can be, and that is seen at once.
	c := parsed(t, slices.Concat(idle("abcde", 19), pair(), []string{"package z 1.0.0",
		"needs z 1.0.0 g any", "needs z 1.0.0 h any", "clashes g 1.0.0 h any", "clashes g 2.0.0 h any"})...)
	fails[int](t, api.ErrNone)(reason.Core(c))
	fails[int](t, api.ErrNone)(reason.WhyNot(c, "g", v))
	fails[int](t, api.ErrLimit)(reason.WhyNot(c, "z", v))
	// That a can't be with itself is seen at once; left out, what is left takes too long.
	c = parsed(t, append(trapped(), append(trap(), "clashes a 1.0.0 a any")...)...)
	fails[int](t, api.ErrNone)(reason.Core(c))
	fails[int](t, api.ErrLimit)(reason.WhyNot(c, "a", v))
	// Ahead of the others it is not left out while they are there.
	c = parsed(t, slices.Concat(trapped(), []string{"clashes a 1.0.0 a any"}, trap())...)
	is(t, 24, 29)(reason.WhyNot(c, "a", v))
}

// Promise 11.2: Cores tries all sets of lines: Solve's ErrLimit of some is said, though all can be together, and are told at once.
func TestCoresLimitOfSome(t *testing.T) {
	c := parsed(t, append(trapped(), append(trap(), "clashes a 1.0.0 a any")...)...)
	if a, err := solved(t, c, all); err != nil || !a.Holds {
		t.Fatalf("Solve: %v, %v", a, err)
	}
	fails[int](t, api.ErrNone)(reason.Core(c))
	limited(t, c)
}

// Promise 11.1: Core of hard catalogs whose lines are drawn, against asking Solve, line by line.
func TestCoreHard(t *testing.T) {
	d := rand.New(rand.NewSource(1))
	items := append(idle("abcdef", 20), pair()...)
	limits := 0
	for range 60 {
		more := []string{"root z any", "root g 1.0.0", "root h 2.0.0", "needs g 1.0.0 h any", "clashes h 1.0.0 a any"}
		l := append(against(), more[d.Intn(5)], more[d.Intn(5)])
		d.Shuffle(len(l), func(i, j int) { l[i], l[j] = l[j], l[i] })
		c := parsed(t, append(slices.Clone(items), l...)...)
		want, wantErr := asked(t, c)
		got, err := reason.Core(c)
		if err != wantErr || !slices.Equal(got, want) {
			t.Fatalf("%q: %v, %v; want %v, %v", c.Text(), got, err, want, wantErr)
		}
		if err != nil {
			limits++
		}
	}
	if limits < 5 || limits > 55 {
		t.Errorf("%d of 60 are beyond the limit", limits)
	}
}

// asked is Core, by asking Solve of what is left, line by line; of a catalog whose lines can't be together.
func asked(t *testing.T, c *catalog.Catalog) ([]int, error) {
	t.Helper()
	gone := map[int]bool{}
	if _, err := solved(t, c, all); err != nil {
		return nil, err
	}
	lines := c.Lines()
	var out []int
	for n := len(lines) - 1; n >= 0; n-- {
		if lines[n].Kind == catalog.Package {
			continue
		}
		a, err := solved(t, c, func(k int) bool { return k != n && !gone[k] })
		if err != nil {
			return nil, err
		}
		if a.Holds {
			out = append([]int{n}, out...)
		} else {
			gone[n] = true
		}
	}
	return out, nil
}
