package proof_test

import (
	"math/rand"
	"slices"
	"testing"

	"solspace/api"
	"solspace/clause"
	"solspace/proof"
)

// eliminates: Eliminate tells that.
func eliminates(t *testing.T, vars int, l []api.Clause, want []int, can bool) {
	t.Helper()
	if sizes, got, err := proof.Eliminate(vars, l); err != nil || got != can || !slices.Equal(sizes, want) {
		t.Errorf("Eliminate of %d, %v: %v, %v, %v; want %v, %v", vars, l, sizes, got, err, want, can)
	}
}

// uneliminated: Eliminate has that error, at that place, and nothing beside it.
func uneliminated(t *testing.T, vars int, l []api.Clause, want api.Errno, place int) {
	t.Helper()
	sizes, can, err := proof.Eliminate(vars, l)
	if len(sizes) > 0 || can {
		t.Errorf("Eliminate of %d, %v: %v and %v beside %v", vars, l, sizes, can, err)
	}
	wrong(t, "Eliminate", err, want, place)
}

// once is clauses, each once, in order.
func once(l []api.Clause) []api.Clause {
	var out []api.Clause
	there := map[string]bool{}
	for _, c := range l {
		var key []byte
		for _, x := range c {
			key = append(key, byte(x))
		}
		if !there[string(key)] {
			there[string(key)] = true
			out = append(out, c)
		}
	}
	return out
}

// eliminated goes by the words of 8.4; false: there were more than 2000.
func eliminated(vars int, l []api.Clause) (sizes []int, can, ok bool) {
	var left []api.Clause
	for _, c := range l {
		if c, always := formed(c); !always {
			left = append(left, c)
		}
	}
	left = once(left)
	for v := range vars {
		var next, with, other []api.Clause
		for _, c := range left {
			switch {
			case slices.Contains(c, v+1):
				with = append(with, c)
			case slices.Contains(c, -(v + 1)):
				other = append(other, c)
			default:
				next = append(next, c)
			}
		}
		for _, a := range with {
			for _, b := range other {
				if c, no := resolved(a, b, v); no == api.OK {
					next = append(next, c)
				}
			}
		}
		left = once(next)
		if len(left) > 2000 {
			return nil, false, false
		}
		sizes = append(sizes, len(left))
	}
	return sizes, len(left) == 0, true
}

// likeWords: Eliminate answers what its words do.
func likeWords(t *testing.T, vars int, l []api.Clause) {
	t.Helper()
	if sizes, can, ok := eliminated(vars, l); ok {
		eliminates(t, vars, l, sizes, can)
	} else {
		uneliminated(t, vars, l, api.ErrLimit, -1)
	}
}

// tried: Eliminate answers what trying all values does: behind a variable nothing is left, just if all values of those behind it go with some of those ahead; all can hold, just if some values do.
func tried(t *testing.T, vars int, l []api.Clause) {
	t.Helper()
	sizes, can, err := proof.Eliminate(vars, l)
	if err != nil || len(sizes) != vars {
		t.Fatalf("%d, %v: %v, %v", vars, l, sizes, err)
	}
	if can != canHold(vars, l) {
		t.Fatalf("%d, %v: %v", vars, l, can)
	}
	goes := make([]bool, 1<<vars) // with some values of the variables ahead
	for values := range goes {
		goes[values] = clause.AllHold(l, uint(values))
	}
	for v, n := range sizes {
		half := make([]bool, len(goes)/2)
		for i := range half {
			half[i] = goes[2*i] || goes[2*i+1]
		}
		goes = half
		if all := !slices.Contains(goes, false); all != (n == 0) {
			t.Fatalf("%d, %v: %d left behind %d, all values go: %v", vars, l, n, v, all)
		}
	}
}

// Promise 8.4: what Check says.
func TestEliminateCheck(t *testing.T) {
	for _, x := range refusals() {
		uneliminated(t, x.vars, x.l, x.want, x.place)
	}
}

// Promise 8.4: no variable, no clause, the clause without literals.
func TestEliminateNothing(t *testing.T) {
	eliminates(t, 0, nil, nil, true)
	eliminates(t, 0, clauses(), nil, true)
	eliminates(t, 0, clauses(nil), nil, false)
	eliminates(t, 0, fill(api.MaxClauses, api.Clause{}), nil, false)
	eliminates(t, 1, nil, []int{0}, true)
	eliminates(t, 3, nil, []int{0, 0, 0}, true)
	eliminates(t, 3, clauses(nil), []int{1, 1, 1}, false)
	eliminates(t, 3, clauses(nil, api.Clause{2}, nil), []int{2, 1, 1}, false)
	eliminates(t, api.MaxVars, nil, fill(api.MaxVars, 0), true)
	eliminates(t, api.MaxVars, clauses(nil, nil), fill(api.MaxVars, 1), false)
}

// Promise 8.4: clauses in Form, those that tell true left out, each once.
func TestEliminateForm(t *testing.T) {
	eliminates(t, 3, clauses(api.Clause{3, -3}), []int{0, 0, 0}, true)
	eliminates(t, 3, clauses(api.Clause{3, 2, -3}, api.Clause{3}), []int{1, 1, 0}, true)
	eliminates(t, 3, clauses(api.Clause{2, 3}, api.Clause{3, 2}, api.Clause{3, 2, 3}, api.Clause{3}), []int{2, 1, 0}, true)
	eliminates(t, 3, clauses(api.Clause{3, 3}, api.Clause{3}, api.Clause{-3, -3}), []int{2, 2, 1}, false)
	eliminates(t, 1, clauses(api.Clause{1, -1}, api.Clause{-1}), []int{0}, true) // of these two nothing is told
	eliminates(t, 2, fill(api.MaxClauses, api.Clause{2}), []int{1, 0}, true)
}

// Promise 8.4: sizes behind each variable, by hand.
func TestEliminate(t *testing.T) {
	eliminates(t, 1, clauses(api.Clause{1}), []int{0}, true)
	eliminates(t, 1, clauses(api.Clause{-1}), []int{0}, true)
	eliminates(t, 1, clauses(api.Clause{1}, api.Clause{-1}), []int{1}, false)
	eliminates(t, 2, square(1, 2), []int{2, 1}, false)
	eliminates(t, 2, square(1, 2)[1:], []int{1, 0}, true)
	eliminates(t, 2, clauses(api.Clause{1, 2}, api.Clause{-1, -2}), []int{0, 0}, true) // Resolve tells nothing
	eliminates(t, 3, clauses(api.Clause{1, 2}, api.Clause{-1, 3}), []int{1, 0, 0}, true)
	eliminates(t, 3, clauses(api.Clause{1, 3}, api.Clause{-1, 3}, api.Clause{3}), []int{1, 1, 0}, true) // it is there already
	eliminates(t, 3, clauses(api.Clause{1, 3}, api.Clause{1, 2, 3}, api.Clause{-1, 2, 3}, api.Clause{-1, -2}), []int{2, 1, 0}, true)
	eliminates(t, 4, append(square(3, 4), api.Clause{1}, api.Clause{-2, -1}), []int{5, 4, 2, 1}, false)
	// Nothing is left out because others say more.
	eliminates(t, 3, clauses(api.Clause{2}, api.Clause{2, 3}, api.Clause{-2, 3}, api.Clause{3}), []int{4, 1, 0}, true)
	// Two with it and three with the other side tell six.
	eliminates(t, 6, clauses(api.Clause{1, 2}, api.Clause{1, 3}, api.Clause{-1, 4}, api.Clause{-1, 5}, api.Clause{-1, 6}), []int{6, 3, 0, 0, 0, 0}, true)
	// Of one variable after another.
	eliminates(t, 3, clauses(api.Clause{3}, api.Clause{-3, 2}, api.Clause{-2, 1}, api.Clause{-1}), []int{3, 2, 1}, false)
	const last = api.MaxVars
	eliminates(t, last, clauses(api.Clause{last}, api.Clause{-last}), append(fill(last-1, 2), 1), false)
	eliminates(t, last, clauses(api.Clause{last}), append(fill(last-1, 1), 0), true)
	eliminates(t, last, clauses(api.Clause{1, last}, api.Clause{-1, last}, api.Clause{-last}), append(fill(last-1, 2), 1), false)
}

// Promise 8.4: variables that no literal of l has, and those beyond vars: sizes has just vars.
func TestEliminateVars(t *testing.T) {
	for vars := 1; vars <= api.MaxVars; vars++ {
		eliminates(t, vars, clauses(api.Clause{1}, api.Clause{1, vars}), fill(vars, 0), true)
		eliminates(t, vars, clauses(api.Clause{1}, api.Clause{-1}), fill(vars, 1), false)
	}
}

// Promise 8.4: all lists of at most three clauses, of at most two literals, of two variables.
func TestEliminateAllSmall(t *testing.T) {
	for _, l := range small(smallClauses(2), 3) {
		likeWords(t, 2, l)
		tried(t, 2, l)
	}
}

// Promise 8.4 and DOC 5: drawn clauses; taking away and trying agree (DAVIS, PUTNAM).
func TestEliminateDrawn(t *testing.T) {
	r := rand.New(rand.NewSource(84))
	can, cant := 0, 0
	for range 5000 {
		vars := 1 + r.Intn(5)
		l := drawn(r, vars, r.Intn(8*vars), 1+r.Intn(4))
		if r.Intn(2) == 0 {
			l = slices.DeleteFunc(l, func(c api.Clause) bool { return len(c) < 2 })
		}
		likeWords(t, vars, l)
		tried(t, vars, l)
		_, is, _ := proof.Eliminate(vars, l)
		if a, err := clause.Solve(vars, l); err != nil || a.Holds != is {
			t.Fatalf("%d, %v: %v, and by Solve %v, %v", vars, l, is, a.Holds, err)
		}
		if is {
			can++
		} else {
			cant++
		}
	}
	if can < 500 || cant < 500 {
		t.Errorf("%d can, %d can't: too few of some", can, cant)
	}
}

// Promise 8.4: clauses of all variables, some of which come to more than 2000.
func TestEliminateFull(t *testing.T) {
	r := rand.New(rand.NewSource(841))
	limit := 0
	for range 20 {
		l := drawn(r, api.MaxVars, 60+r.Intn(130), 4+r.Intn(2))
		l = slices.DeleteFunc(l, func(c api.Clause) bool { return len(c) < 3 })
		likeWords(t, api.MaxVars, l)
		if _, _, err := proof.Eliminate(api.MaxVars, l); err != nil {
			limit++
		}
	}
	if limit < 4 || limit > 16 {
		t.Errorf("%d of 20 come to more than 2000", limit)
	}
}

// group is so many clauses: literals, and things of the six variables from v on, never the same ones.
func group(n, v int, literals ...int) []api.Clause {
	var l []api.Clause
	for set := 1; set <= n; set++ {
		c := slices.Clone(literals)
		for k := range 6 {
			if set>>k&1 == 1 {
				c = append(c, v+k+1)
			}
		}
		l = append(l, c)
	}
	return l
}

// crowd is a clauses with variable v, b with the other side, and more without: a * b + more are left behind it.
func crowd(v, a, b, more int) []api.Clause {
	return slices.Concat(group(more, v+13), group(a, v+1, v+1), group(b, v+7, -(v+1)))
}

// Promise 8.4: 2000 are left, and one more.
func TestEliminateLimit(t *testing.T) {
	for _, v := range []int{0, 1, 5} {
		for _, x := range [][3]int{{40, 50, 0}, {50, 40, 0}, {40, 49, 40}, {63, 31, 47}, {31, 63, 47}} {
			a, b, more := x[0], x[1], x[2]
			l := crowd(v, a, b, more)
			sizes, can, err := proof.Eliminate(api.MaxVars, l)
			if err != nil || !can || len(sizes) != api.MaxVars || sizes[v] != 2000 || v > 0 && sizes[v-1] != a+b+more {
				t.Errorf("%d, %v: %v, %v, %v", v, x, sizes, can, err)
			}
			likeWords(t, api.MaxVars, l)
			uneliminated(t, api.MaxVars, crowd(v, a, b, more+1), api.ErrLimit, -1)
		}
		uneliminated(t, api.MaxVars, crowd(v, 50, 50, 0), api.ErrLimit, -1)
		uneliminated(t, api.MaxVars, crowd(v, 63, 63, 63), api.ErrLimit, -1)
		// That they can't hold anyway makes no difference.
		uneliminated(t, api.MaxVars, append(crowd(v, 40, 50, 0), nil), api.ErrLimit, -1)
		likeWords(t, api.MaxVars, append(crowd(v, 40, 49, 39), nil))
	}
}

// Promise 8.4: each once is ahead of the limit: what is there already is no more, nor what Resolve doesn't tell.
func TestEliminateLimitOnce(t *testing.T) {
	with := crowd(0, 40, 50, 0)
	for _, c := range with[:30] { // clauses that come out of two of them
		with = append(with, append(slices.Clone(c[1:]), with[45][1:]...))
	}
	sizes, _, err := proof.Eliminate(api.MaxVars, with)
	if err != nil || len(sizes) == 0 || sizes[0] != 2000 {
		t.Errorf("%v, %v", sizes, err)
	}
	likeWords(t, api.MaxVars, with)

	same := append(group(63, 1, 1), group(63, 1, -1)...) // 3969 pairs of 63
	sizes, _, err = proof.Eliminate(api.MaxVars, same)
	if err != nil || len(sizes) == 0 || sizes[0] != 63 {
		t.Errorf("%v, %v", sizes, err)
	}
	likeWords(t, api.MaxVars, same)

	always := append(group(63, 1, 1, 20), group(63, 7, -1, -20)...)
	eliminates(t, api.MaxVars, always, fill(api.MaxVars, 0), true)
}
