package clause_test

import (
	"math"
	"math/rand"
	"slices"
	"testing"

	"solspace/api"
	"solspace/clause"
)

// The heads of the functions, and the fields of the type, stay as they are.
var (
	_ func(int, []api.Clause) error                      = clause.Check
	_ func(api.Clause, uint) bool                        = clause.Holds
	_ func([]api.Clause, uint) bool                      = clause.AllHold
	_ func(int, []api.Clause, []int) ([]int, int, error) = clause.Follows
	_ func(int, []api.Clause) (clause.Answer, error)     = clause.Solve
	_                                                    = clause.Answer{Holds: false, Values: uint(0), Proof: []api.Clause(nil)}
)

// clauses is a list of them.
func clauses(l ...api.Clause) []api.Clause { return l }

// fill is so many clauses, or so many literals, alike.
func fill[T any](n int, x T) []T { return slices.Repeat([]T{x}, n) }

// behind is a list of good clauses, and one behind them.
func behind(n int, c api.Clause) []api.Clause { return append(fill(n, api.Clause{1, -1}), c) }

// wrong: an error is this one, at that place (-1: a plain Errno without one).
func wrong(t *testing.T, what any, err error, want api.Errno, place int) {
	t.Helper()
	if place < 0 {
		if err != error(want) {
			t.Errorf("%v: %#v, want %d without a place", what, err, want)
		}
		return
	}
	if at, ok := err.(*api.At); !ok || at.Err != want || at.Place != place {
		t.Errorf("%v: %#v, want %d at %d", what, err, want, place)
	}
}

// refused: Check has that error, at that place, and Follows and Solve say it, with nothing beside it.
func refused(t *testing.T, vars int, l []api.Clause, want api.Errno, place int) {
	t.Helper()
	wrong(t, "Check", clause.Check(vars, l), want, place)
	for _, assume := range [][]int{nil, {1}, {0}, {1, -1}} { // Check's errors are ahead of ErrArg
		told, n, err := clause.Follows(vars, l, assume)
		if len(told) > 0 || n != 0 {
			t.Errorf("Follows: %v and %d beside %v", told, n, err)
		}
		wrong(t, "Follows", err, want, place)
	}
	a, err := clause.Solve(vars, l)
	nothing(t, a, err)
	wrong(t, "Solve", err, want, place)
}

// nothing: an answer is its zero value.
func nothing(t *testing.T, a clause.Answer, err error) {
	t.Helper()
	if a.Holds || a.Values != 0 || len(a.Proof) > 0 {
		t.Errorf("Solve: %v beside %v", a, err)
	}
}

// taken: Check has no error, nor have Follows and Solve.
func taken(t *testing.T, vars int, l []api.Clause) {
	t.Helper()
	if err := clause.Check(vars, l); err != nil {
		t.Errorf("Check: %v", err)
	}
	if _, _, err := clause.Follows(vars, l, nil); err != nil {
		t.Errorf("Follows: %v", err)
	}
	if _, err := clause.Solve(vars, l); err != nil {
		t.Errorf("Solve: %v", err)
	}
}

// Promise 7.1: variables are from 0 to MaxVars.
func TestCheckVars(t *testing.T) {
	for vars := range api.MaxVars + 1 {
		taken(t, vars, nil)
		taken(t, vars, clauses(nil))
	}
	for _, vars := range []int{-1, -2, math.MinInt, api.MaxVars + 1, api.MaxVars + 2, math.MaxInt} {
		refused(t, vars, nil, api.ErrRange, -1)
		refused(t, vars, clauses(nil), api.ErrRange, -1)
	}
}

// Promise 7.1: there are at most MaxClauses, and none will do.
func TestCheckClauses(t *testing.T) {
	for _, n := range []int{0, 1, api.MaxClauses - 1, api.MaxClauses} {
		taken(t, 2, fill(n, api.Clause{1, 2}))
	}
	taken(t, 0, fill(api.MaxClauses, api.Clause(nil)))
	refused(t, 2, fill(api.MaxClauses+1, api.Clause{1, 2}), api.ErrLimit, -1)
	refused(t, 0, fill(api.MaxClauses+1, api.Clause(nil)), api.ErrLimit, -1)
	refused(t, 2, fill(5*api.MaxClauses, api.Clause{1, 2}), api.ErrLimit, -1)
}

// Promise 7.1: a clause has at most 2 MaxVars literals, however many variables there are, and none will do.
func TestCheckLiterals(t *testing.T) {
	const most = 2 * api.MaxVars
	for _, n := range []int{0, 1, most - 1, most} {
		taken(t, 1, clauses(fill(n, 1)))
		taken(t, api.MaxVars, clauses(fill(n, -api.MaxVars)))
	}
	for _, at := range []int{0, 1, 77, api.MaxClauses - 1} {
		taken(t, 1, behind(at, fill(most, 1)))
		refused(t, 1, behind(at, fill(most+1, 1)), api.ErrLimit, at)
		refused(t, api.MaxVars, behind(at, fill(9*most, -1)), api.ErrLimit, at)
	}
}

// Promise 7.1: literals are from -vars to vars, and not 0.
func TestCheckRange(t *testing.T) {
	for vars := range api.MaxVars + 1 {
		for x := -vars - 3; x <= vars+3; x++ {
			one := clauses(nil, api.Clause{x})
			if x == 0 || x < -vars || x > vars {
				refused(t, vars, one, api.ErrRange, 1)
			} else {
				taken(t, vars, one)
			}
		}
	}
	for _, x := range []int{0, 3, -3, 25, -25, math.MinInt, math.MinInt + 1, math.MaxInt} {
		for _, at := range []int{0, 1, 77, api.MaxClauses - 1} {
			refused(t, 2, behind(at, api.Clause{x, 1, 2}), api.ErrRange, at)
			refused(t, 2, behind(at, api.Clause{1, x, 2}), api.ErrRange, at)
			refused(t, 2, behind(at, append(fill(2*api.MaxVars-1, 1), x)), api.ErrRange, at)
		}
	}
}

// Promise 7.1: where several errors apply, the one that is told first is answered.
func TestCheckOrder(t *testing.T) {
	long, bad := api.Clause(fill(2*api.MaxVars+1, 1)), api.Clause{9}
	longBad := append(slices.Clone(long), 0)
	many := fill(api.MaxClauses+1, longBad)
	refused(t, -1, many, api.ErrRange, -1)
	refused(t, api.MaxVars+1, many, api.ErrRange, -1)
	refused(t, 2, many, api.ErrLimit, -1)
	refused(t, 2, clauses(longBad), api.ErrLimit, 0)
	refused(t, 2, clauses(append(api.Clause{0}, long...)), api.ErrLimit, 0)
	refused(t, 2, clauses(nil, bad, long), api.ErrRange, 1)
	refused(t, 2, clauses(nil, long, bad), api.ErrLimit, 1)
	refused(t, 2, clauses(nil, bad, bad), api.ErrRange, 1)
	refused(t, 2, clauses(nil, nil, long, long), api.ErrLimit, 2)
	refused(t, 2, clauses(bad, nil), api.ErrRange, 0) // though the next one can't hold
}

// truth says by a list of bools whether a clause holds.
func truth(c api.Clause, is []bool) bool {
	for _, x := range c {
		for v, yes := range is {
			if yes && x == v+1 || !yes && x == -(v+1) {
				return true
			}
		}
	}
	return false
}

// bools is values, variable by variable.
func bools(vars int, values uint) []bool {
	is := make([]bool, vars)
	for v := range is {
		is[v], values = values%2 == 1, values/2
	}
	return is
}

// Promise 7.1: a clause holds, if one of its literals does; at each value of some variables.
func TestHolds(t *testing.T) {
	r := rand.New(rand.NewSource(71))
	const vars = 5
	for range 300 {
		l := drawn(r, vars, r.Intn(4), 4)
		for values := range uint(1 << vars) {
			all := true
			for _, c := range l {
				want := truth(c, bools(vars, values))
				all = all && want
				if got := clause.Holds(c, values); got != want {
					t.Fatalf("Holds of %v, %b: %v", c, values, got)
				}
				// Bits of no variable of it make no difference.
				if got := clause.Holds(c, values|^uint(1<<vars-1)); got != want {
					t.Fatalf("Holds of %v, %b with bits beyond: %v", c, values, got)
				}
			}
			if got := clause.AllHold(l, values); got != all {
				t.Fatalf("AllHold of %v, %b: %v", l, values, got)
			}
		}
	}
}

// Promise 7.1: literals of each variable, the last one too, alone and at both ends of a clause.
func TestHoldsEachVariable(t *testing.T) {
	for v := range api.MaxVars {
		bit := uint(1) << v
		w := (v + 1) % api.MaxVars // one that is false, and not v
		for _, c := range []api.Clause{{v + 1}, {v + 1, w + 1}, {w + 1, v + 1}, {v + 1, v + 1}} {
			if !clause.Holds(c, bit) || clause.Holds(c, 0) || clause.Holds(c, ^bit&^(1<<w)) {
				t.Errorf("%v", c)
			}
		}
		no := api.Clause{-(v + 1)}
		if clause.Holds(no, bit) || !clause.Holds(no, 0) || !clause.Holds(no, ^bit) {
			t.Errorf("%v", no)
		}
		if both := (api.Clause{v + 1, -(v + 1)}); !clause.Holds(both, 0) || !clause.Holds(both, bit) {
			t.Errorf("%v", both)
		}
	}
}

// Promise 7.1: a clause without literals never holds; no clauses all hold.
func TestHoldsNothing(t *testing.T) {
	for _, values := range []uint{0, 1, 5, ^uint(0)} {
		if clause.Holds(nil, values) || clause.Holds(api.Clause{}, values) {
			t.Errorf("a clause without literals holds of %b", values)
		}
		if !clause.AllHold(nil, values) || !clause.AllHold([]api.Clause{}, values) {
			t.Errorf("no clauses don't all hold of %b", values)
		}
		if clause.AllHold(clauses(api.Clause{1, -1}, nil), values) || clause.AllHold(clauses(nil, api.Clause{1, -1}), values) {
			t.Errorf("one without literals holds among others of %b", values)
		}
	}
}

// P1: nothing is said of other literals, but none panics; those beside them hold as they do.
func TestHoldsOthers(t *testing.T) {
	for _, x := range []int{0, 25, -25, 63, 64, 65, 66, -63, -64, -65, -66, math.MaxInt, math.MinInt, math.MinInt + 1} {
		for _, values := range []uint{0, 1, ^uint(0)} {
			clause.Holds(api.Clause{x}, values)
			clause.AllHold(clauses(api.Clause{x}, api.Clause{x, x}), values)
			if !clause.Holds(api.Clause{x, 1, -1}, values) {
				t.Errorf("%d is in the way", x)
			}
		}
	}
}
