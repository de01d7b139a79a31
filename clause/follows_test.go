package clause_test

import (
	"math"
	"math/rand"
	"slices"
	"testing"

	"solspace/api"
	"solspace/clause"
)

// drawn is so many clauses, of at most so many literals.
func drawn(r *rand.Rand, vars, many, most int) []api.Clause {
	l := make([]api.Clause, many)
	for i := range l {
		for range r.Intn(most + 1) {
			l[i] = append(l[i], side(r, vars))
		}
	}
	return l
}

// side is a literal.
func side(r *rand.Rand, vars int) int {
	x := 1 + r.Intn(vars)
	if r.Intn(2) == 0 {
		return -x
	}
	return x
}

// spread goes by the words of 7.2, with what was told as a list alone.
func spread(l []api.Clause, told []int) ([]int, int) {
	told = slices.Clone(told)
again:
	for i, c := range l {
		holds, left := false, []int{}
		for _, x := range c {
			holds = holds || slices.Contains(told, x)
			if !slices.Contains(told, -x) && !slices.Contains(left, x) {
				left = append(left, x)
			}
		}
		switch {
		case !holds && len(left) == 0:
			return told, i
		case !holds && len(left) == 1:
			told = append(told, left[0])
			goto again
		}
	}
	return told, -1
}

// assumed is what is told of literals over so many variables, each once; false: it may not be.
func assumed(vars int, assume []int) ([]int, bool) {
	var told []int
	for _, x := range assume {
		if x == 0 || x < -vars || x > vars || slices.Contains(told, -x) {
			return nil, false
		}
		if !slices.Contains(told, x) {
			told = append(told, x)
		}
	}
	return told, true
}

// follows: Follows tells that, and which clause can't hold.
func follows(t *testing.T, vars int, l []api.Clause, assume, want []int, number int) {
	t.Helper()
	told, n, err := clause.Follows(vars, l, assume)
	if err != nil || n != number || !slices.Equal(told, want) {
		t.Errorf("Follows of %d, %v, %v: %v, %d, %v; want %v, %d", vars, l, assume, told, n, err, want, number)
	}
}

// likeWords: Follows tells what spread does.
func likeWords(t *testing.T, vars int, l []api.Clause, assume []int) {
	t.Helper()
	begin, ok := assumed(vars, assume)
	if !ok {
		told, n, err := clause.Follows(vars, l, assume)
		if len(told) > 0 || n != 0 {
			t.Errorf("%v and %d beside %v", told, n, err)
		}
		wrong(t, assume, err, api.ErrArg, -1)
		return
	}
	want, number := spread(l, begin)
	follows(t, vars, l, assume, want, number)
}

// Promise 7.2: what is assumed is told, in order, each once.
func TestFollowsAssumed(t *testing.T) {
	follows(t, 0, nil, nil, nil, -1)
	follows(t, 3, nil, nil, nil, -1)
	follows(t, 3, nil, []int{}, nil, -1)
	follows(t, 3, nil, []int{3, -1, 2}, []int{3, -1, 2}, -1)
	follows(t, 3, nil, []int{3, 3, -1, 3, 2, -1}, []int{3, -1, 2}, -1)
	follows(t, api.MaxVars, nil, []int{-api.MaxVars, api.MaxVars - 1}, []int{-api.MaxVars, api.MaxVars - 1}, -1)
	follows(t, 2, nil, fill(1000, -2), []int{-2}, -1)
	// They are all told ahead of what follows from the first one.
	follows(t, 4, clauses(api.Clause{-4, 1}), []int{4, 2}, []int{4, 2, 1}, -1)
	follows(t, 4, clauses(api.Clause{-4, 1}), []int{4, -1}, []int{4, -1}, 0)
	follows(t, 4, clauses(api.Clause{-4, 1}), []int{4, 1}, []int{4, 1}, -1)
}

// Promise 7.2: ErrArg of each kind, wherever it stands, without a place.
func TestFollowsErrArg(t *testing.T) {
	for _, assume := range [][]int{
		{0}, {3}, {-3}, {api.MaxVars}, {-api.MaxVars - 1}, {math.MaxInt}, {math.MinInt}, {math.MinInt + 1},
		{1, 0}, {1, 3}, {1, 2, -3}, {1, math.MinInt}, {0, 1}, {3, 1},
		{1, -1}, {-1, 1}, {1, 2, -1}, {-1, 2, 1}, {1, 1, -1}, {2, 1, -2}, {-2, 2, 2},
	} {
		for _, l := range [][]api.Clause{nil, clauses(nil), clauses(api.Clause{1}, api.Clause{-1}), clauses(api.Clause{1, -2})} {
			likeWords(t, 2, l, assume)
			if _, ok := assumed(2, assume); ok {
				t.Errorf("%v is no wrong one", assume)
			}
		}
	}
	for _, x := range []int{-1, 0, 1} {
		likeWords(t, 0, nil, []int{x})
	}
	for vars := 1; vars <= api.MaxVars; vars++ {
		for _, x := range []int{-vars - 1, -vars, vars, vars + 1} {
			likeWords(t, vars, nil, []int{x})
		}
	}
}

// Promise 7.2: which clauses tell a literal, and which can't hold.
func TestFollowsSpreads(t *testing.T) {
	one := func(c ...int) []api.Clause { return clauses(c) }
	follows(t, 3, one(2), nil, []int{2}, -1)
	follows(t, 3, one(-3), nil, []int{-3}, -1)
	follows(t, 3, one(1, 2), nil, nil, -1)
	follows(t, 3, one(1, 2), []int{-1}, []int{-1, 2}, -1)
	follows(t, 3, one(1, 2), []int{-2}, []int{-2, 1}, -1)
	follows(t, 3, one(1, 2), []int{2}, []int{2}, -1)
	follows(t, 3, one(1, 2, 3), []int{-1, 3}, []int{-1, 3}, -1) // it holds: 2 isn't asked for
	follows(t, 3, one(1, 2, 3), []int{3, -1}, []int{3, -1}, -1)
	follows(t, 3, one(1, 2, 3), []int{-1, -3}, []int{-1, -3, 2}, -1)
	follows(t, 3, one(1, 2), []int{-1, -2}, []int{-1, -2}, 0)
	follows(t, 3, one(), nil, nil, 0)
	follows(t, 0, one(), nil, nil, 0)
	follows(t, 3, clauses(api.Clause{1, 2}, nil), []int{3}, []int{3}, 1)
	follows(t, api.MaxVars, one(api.MaxVars, 1), []int{-1}, []int{-1, api.MaxVars}, -1)
	follows(t, api.MaxVars, one(-api.MaxVars, 1), []int{-1}, []int{-1, -api.MaxVars}, -1)
}

// Promise 7.2: the one literal may stand twice; a literal and its other side are two.
func TestFollowsTwice(t *testing.T) {
	one := func(c ...int) []api.Clause { return clauses(c) }
	follows(t, 3, one(2, 2), nil, []int{2}, -1)
	follows(t, 3, one(-2, -2, -2), nil, []int{-2}, -1)
	follows(t, 3, one(2, 1, 2), []int{-1}, []int{-1, 2}, -1)
	follows(t, 3, one(1, 2, 1, 2), []int{-1}, []int{-1, 2}, -1)
	follows(t, 3, one(2, 1, 2), nil, nil, -1)
	follows(t, 3, one(2, 2), []int{-2}, []int{-2}, 0)
	follows(t, 3, one(fill(2*api.MaxVars, 3)...), nil, []int{3}, -1)
	follows(t, 3, one(1, -1), nil, nil, -1)
	follows(t, 3, one(1, -1), []int{1}, []int{1}, -1)
	follows(t, 3, one(1, -1), []int{-1}, []int{-1}, -1)
	follows(t, 3, one(2, 1, -1), []int{-2}, []int{-2}, -1)
	follows(t, 3, one(1, 2, -1), []int{-1}, []int{-1}, -1) // -1 is told: it holds
	follows(t, 3, one(-1, 2, 1), []int{-2}, []int{-2}, -1)
}

// Promise 7.2: behind each that is told clauses are gone through from the first one on again; the first that can't hold is all.
func TestFollowsFromTheFirst(t *testing.T) {
	follows(t, 3, clauses(api.Clause{-1, 2}, api.Clause{1}, api.Clause{3}), nil, []int{1, 2, 3}, -1)
	follows(t, 3, clauses(api.Clause{3}, api.Clause{-1, 2}, api.Clause{1}), nil, []int{3, 1, 2}, -1)
	follows(t, 4, clauses(api.Clause{-3, 4}, api.Clause{-2, 3}, api.Clause{-1, 2}, api.Clause{1}), nil, []int{1, 2, 3, 4}, -1)
	follows(t, 4, clauses(api.Clause{-2, 4}, api.Clause{-1, 3}, api.Clause{-1, 2}, api.Clause{1}), nil, []int{1, 3, 2, 4}, -1)
	// The clause that can't hold is another one, if the first one isn't gone to again.
	follows(t, 2, clauses(api.Clause{-1, -2}, api.Clause{1}, api.Clause{2}), nil, []int{1, -2}, 2)
	follows(t, 3, clauses(api.Clause{-1, 3}, api.Clause{-1, -3}, api.Clause{1}, api.Clause{2}), nil, []int{1, 3}, 1)
	// What stands behind it is told no more; what stands ahead of it is.
	follows(t, 3, clauses(api.Clause{1}, nil, api.Clause{2}), nil, []int{1}, 1)
	follows(t, 3, clauses(nil, api.Clause{1}), nil, nil, 0)
	follows(t, 3, clauses(nil, nil), nil, nil, 0)
	follows(t, 3, clauses(api.Clause{1, 2}, api.Clause{3}, api.Clause{-3}, api.Clause{-3}), nil, []int{3}, 2)
}

// Promise 7.2: a chain through all variables, the last of all clauses first.
func TestFollowsChain(t *testing.T) {
	var l []api.Clause
	var want []int
	for v := api.MaxVars; v > 0; v-- {
		if v > 1 {
			l = append(l, api.Clause{-(v - 1), v})
		}
		want = append([]int{v}, want...)
	}
	follows(t, api.MaxVars, l, []int{1}, want, -1)
	follows(t, api.MaxVars, append(l, api.Clause{1}), nil, want, -1)
	follows(t, api.MaxVars, append(l, api.Clause{-api.MaxVars, -1}), []int{1}, want, len(l))
}

// small tells each list of at most most things.
func small[T any](things []T, most int, look func([]T)) {
	var grow func(l []T)
	grow = func(l []T) {
		look(l)
		if len(l) == most {
			return
		}
		for _, x := range things {
			grow(append(slices.Clone(l), x))
		}
	}
	grow(nil)
}

// Promise 7.2: all lists of at most three clauses, of at most two literals, of two variables, by its words.
func TestFollowsAllSmall(t *testing.T) {
	var shapes []api.Clause
	small([]int{1, -1, 2, -2}, 2, func(c []int) { shapes = append(shapes, c) })
	small(shapes, 3, func(l []api.Clause) {
		small([]int{1, -1, 2, -2}, 2, func(assume []int) { likeWords(t, 2, l, assume) })
	})
}

// Promise 7.2: drawn clauses, by its words.
func TestFollowsDrawn(t *testing.T) {
	r := rand.New(rand.NewSource(72))
	for range 20000 {
		vars := 1 + r.Intn(8)
		if r.Intn(10) == 0 {
			vars = api.MaxVars
		}
		l := drawn(r, vars, r.Intn(30), 1+r.Intn(4))
		var assume []int
		for range r.Intn(4) {
			assume = append(assume, side(r, vars+r.Intn(2)))
		}
		likeWords(t, vars, l, assume)
	}
}

// Promise 7.2 and DOC 5: what follows is so: it holds of all values of which all clauses hold, and what is assumed; if some clause can't hold, there are none.
func TestFollowsIsSo(t *testing.T) {
	r := rand.New(rand.NewSource(725))
	const vars = 5
	for range 2000 {
		l := drawn(r, vars, r.Intn(14), 3)
		assume, ok := assumed(vars, []int{side(r, vars), side(r, vars)})
		if !ok {
			continue
		}
		told, n, err := clause.Follows(vars, l, assume)
		if err != nil {
			t.Fatal(err)
		}
		for values := range uint(1 << vars) {
			if !clause.AllHold(l, values) || slices.ContainsFunc(assume, func(x int) bool { return !clause.Holds(api.Clause{x}, values) }) {
				continue
			}
			if n >= 0 {
				t.Fatalf("%v, %v: clause %d holds of %b", l, assume, n, values)
			}
			for _, x := range told {
				if !clause.Holds(api.Clause{x}, values) {
					t.Fatalf("%v, %v: %d is not so of %b", l, assume, x, values)
				}
			}
		}
	}
}
