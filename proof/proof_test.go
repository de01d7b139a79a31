package proof_test

import (
	"math"
	"math/rand"
	"slices"
	"testing"

	"solspace/api"
	"solspace/clause"
	"solspace/proof"
)

// The heads of the functions, and the fields of the type, stay as they are.
var (
	_ func(api.Clause) (api.Clause, bool)                         = proof.Form
	_ func(api.Clause, api.Clause, int) (api.Clause, error)       = proof.Resolve
	_ func(int, []api.Clause, []proof.Step) ([]api.Clause, error) = proof.Follow
	_ func(int, []api.Clause, []api.Clause) (bool, int, error)    = proof.Shows
	_ func(int, []api.Clause) ([]int, bool, error)                = proof.Eliminate
	_                                                             = proof.Step{A: 0, B: 0, Var: 0}
)

// clauses is a list of them.
func clauses(l ...api.Clause) []api.Clause { return l }

// fill is so many clauses, steps or literals, alike.
func fill[T any](n int, x T) []T { return slices.Repeat([]T{x}, n) }

// alike says whether two lists have the same clauses.
func alike(a, b []api.Clause) bool {
	return slices.EqualFunc(a, b, func(c, d api.Clause) bool { return slices.Equal(c, d) })
}

// wrong: an error is this one, at that place (-1: a plain Errno without one).
func wrong(t *testing.T, what any, err error, want api.Errno, place int) {
	t.Helper()
	at, ok := err.(*api.At)
	switch {
	case place < 0 && err != error(want):
		t.Errorf("%v: %#v, want %d without a place", what, err, want)
	case place >= 0 && (!ok || at.Err != want || at.Place != place):
		t.Errorf("%v: %#v, want %d at %d", what, err, want, place)
	}
}

// literal is one of so many variables.
func literal(r *rand.Rand, vars int) int {
	x := 1 + r.Intn(vars)
	if r.Intn(2) == 0 {
		return -x
	}
	return x
}

// drawn is so many clauses, of at most so many literals.
func drawn(r *rand.Rand, vars, many, most int) []api.Clause {
	l := make([]api.Clause, many)
	for i := range l {
		for range r.Intn(most + 1) {
			l[i] = append(l[i], literal(r, vars))
		}
	}
	return l
}

// small is each list of at most most things.
func small[T any](things []T, most int) [][]T {
	out := [][]T{nil}
	for begin := 0; most > 0; most-- {
		end := len(out)
		for _, l := range out[begin:end] {
			for _, x := range things {
				out = append(out, append(slices.Clone(l), x))
			}
		}
		begin = end
	}
	return out
}

// smallClauses is each clause of at most so many literals, of two variables.
func smallClauses(most int) []api.Clause {
	var out []api.Clause
	for _, c := range small([]int{1, -1, 2, -2}, most) {
		out = append(out, c)
	}
	return out
}

// formed goes by the words of Form.
func formed(c api.Clause) (api.Clause, bool) {
	var out api.Clause
	for v := range api.MaxVars {
		yes, no := slices.Contains(c, v+1), slices.Contains(c, -(v+1))
		switch {
		case yes && no:
			return nil, true
		case yes:
			out = append(out, v+1)
		case no:
			out = append(out, -(v + 1))
		}
	}
	return out, false
}

// resolved goes by the words of Resolve.
func resolved(a, b api.Clause, v int) (api.Clause, api.Errno) {
	if v < 0 || v > api.MaxVars-1 || !slices.Contains(a, v+1) || !slices.Contains(b, -(v+1)) {
		return nil, api.ErrArg
	}
	var all api.Clause
	for _, x := range a {
		if x != v+1 {
			all = append(all, x)
		}
	}
	for _, x := range b {
		if x != -(v + 1) {
			all = append(all, x)
		}
	}
	out, always := formed(all)
	if always {
		return nil, api.ErrNone
	}
	return out, api.OK
}

// form: Form tells that.
func form(t *testing.T, c, want api.Clause, always bool) {
	t.Helper()
	if got, ok := proof.Form(c); ok != always || !slices.Equal(got, want) {
		t.Errorf("Form of %v: %v, %v; want %v, %v", c, got, ok, want, always)
	}
}

// resolves: Resolve tells that, or has that error, without a place, and nothing beside it.
func resolves(t *testing.T, a, b api.Clause, v int, want api.Clause, no api.Errno) {
	t.Helper()
	got, err := proof.Resolve(a, b, v)
	if !slices.Equal(got, want) || no == api.OK && err != nil {
		t.Errorf("Resolve of %v, %v, %d: %v, %v; want %v", a, b, v, got, err, want)
	}
	if no != api.OK {
		wrong(t, a, err, no, -1)
	}
}

// Promise 8.1: literals, each once, by variable, rising.
func TestForm(t *testing.T) {
	form(t, nil, nil, false)
	form(t, api.Clause{}, nil, false)
	form(t, api.Clause{1}, api.Clause{1}, false)
	form(t, api.Clause{-1}, api.Clause{-1}, false)
	form(t, api.Clause{3, 1, 2}, api.Clause{1, 2, 3}, false)
	form(t, api.Clause{-3, -1, -2}, api.Clause{-1, -2, -3}, false)
	form(t, api.Clause{4, -3, 2, -1}, api.Clause{-1, 2, -3, 4}, false)
	form(t, api.Clause{2, 2}, api.Clause{2}, false)
	form(t, api.Clause{-2, 1, -2, 1, -2}, api.Clause{1, -2}, false)
	form(t, api.Clause{10, 9, -11}, api.Clause{9, 10, -11}, false)
	form(t, api.Clause{api.MaxVars, 1}, api.Clause{1, api.MaxVars}, false)
	form(t, api.Clause{-api.MaxVars, -1}, api.Clause{-1, -api.MaxVars}, false)
	form(t, fill(1000, -7), api.Clause{-7}, false)
}

// Promise 8.1: true, and nothing, if it has a literal and its other side, of whichever variable, wherever they stand.
func TestFormAlways(t *testing.T) {
	for v := 1; v <= api.MaxVars; v++ {
		w := v%api.MaxVars + 1
		for _, x := range []int{v, -v} {
			form(t, api.Clause{x}, api.Clause{x}, false)
			form(t, api.Clause{x, x}, api.Clause{x}, false)
			form(t, api.Clause{x, -x}, nil, true)
			form(t, api.Clause{x, w, -x}, nil, true)
			form(t, api.Clause{w, x, x, -w, x}, nil, true)
			form(t, append(fill(200, x), -x), nil, true)
		}
	}
}

// Promise 8.1: all small clauses, and drawn ones of all variables, by its words; a clause in Form stays as it is.
func TestFormWords(t *testing.T) {
	l := smallClauses(5)
	r := rand.New(rand.NewSource(81))
	for range 5000 {
		l = append(l, drawn(r, 1+r.Intn(api.MaxVars), 1, 1+r.Intn(30))...)
	}
	for _, c := range l {
		want, always := formed(c)
		form(t, c, want, always)
		form(t, want, want, false)
	}
}

// Promise 8.1: ErrArg: v at its bounds, and one beyond.
func TestResolveVar(t *testing.T) {
	var all, none api.Clause
	for v := range api.MaxVars {
		all, none = append(all, v+1), append(none, -(v+1))
		resolves(t, api.Clause{v + 1}, api.Clause{-(v + 1)}, v, nil, api.OK)
	}
	const last = api.MaxVars - 1
	resolves(t, all[:1], none[:1], 0, nil, api.OK)
	resolves(t, all, none[last:], last, all[:last], api.OK)
	resolves(t, all[last:], none, last, none[:last], api.OK)
	resolves(t, all, none[:1], 0, all[1:], api.OK)
	for _, v := range []int{-1, -2, api.MaxVars, api.MaxVars + 1, math.MaxInt, math.MaxInt - 1, math.MinInt, math.MinInt + 1} {
		resolves(t, all, none, v, nil, api.ErrArg)
		// Nothing is said of such literals elsewhere, but v is no variable, though they stand there.
		resolves(t, api.Clause{1, v + 1}, api.Clause{2, -(v + 1)}, v, nil, api.ErrArg)
	}
}

// Promise 8.1: ErrArg: a without v + 1, b without -(v + 1).
func TestResolveArg(t *testing.T) {
	for v := range api.MaxVars {
		yes, no := v+1, -(v + 1)
		w := (v+1)%api.MaxVars + 1
		resolves(t, nil, api.Clause{no}, v, nil, api.ErrArg)
		resolves(t, api.Clause{yes}, nil, v, nil, api.ErrArg)
		resolves(t, nil, nil, v, nil, api.ErrArg)
		resolves(t, api.Clause{no}, api.Clause{no}, v, nil, api.ErrArg)
		resolves(t, api.Clause{yes}, api.Clause{yes}, v, nil, api.ErrArg)
		resolves(t, api.Clause{no}, api.Clause{yes}, v, nil, api.ErrArg) // the other way round
		resolves(t, api.Clause{w}, api.Clause{no}, v, nil, api.ErrArg)
		resolves(t, api.Clause{yes}, api.Clause{-w}, v, nil, api.ErrArg)
		resolves(t, api.Clause{w}, api.Clause{-w}, v, nil, api.ErrArg)
		// ErrArg is told ahead of ErrNone.
		resolves(t, api.Clause{w, -w}, api.Clause{no}, v, nil, api.ErrArg)
		resolves(t, api.Clause{yes, w}, api.Clause{-w}, v, nil, api.ErrArg)
	}
}

// Promise 8.1: what is left, in Form; ErrNone, where that has a literal and its other side.
func TestResolve(t *testing.T) {
	resolves(t, api.Clause{1, 2}, api.Clause{-1, 3}, 0, api.Clause{2, 3}, api.OK)
	resolves(t, api.Clause{3, 1}, api.Clause{2, -1}, 0, api.Clause{2, 3}, api.OK)
	resolves(t, api.Clause{2, 2, 1, 2}, api.Clause{-2, -2}, 1, api.Clause{1}, api.OK)
	resolves(t, api.Clause{2, 1}, api.Clause{1, -2}, 1, api.Clause{1}, api.OK)
	resolves(t, api.Clause{5, 4, -3}, api.Clause{-3, -5, -1}, 4, api.Clause{-1, -3, 4}, api.OK)
	resolves(t, api.Clause{1}, api.Clause{-1}, 0, nil, api.OK)
	resolves(t, api.Clause{1, 1}, api.Clause{-1, -1}, 0, nil, api.OK)

	resolves(t, api.Clause{1, 2}, api.Clause{-1, -2}, 0, nil, api.ErrNone)
	resolves(t, api.Clause{1, 2, -2}, api.Clause{-1}, 0, nil, api.ErrNone)
	resolves(t, api.Clause{1}, api.Clause{2, -1, -2}, 0, nil, api.ErrNone)
	resolves(t, api.Clause{1, api.MaxVars}, api.Clause{-1, -api.MaxVars}, 0, nil, api.ErrNone)
}

// Promise 8.1: v + 1 and -(v + 1) that stand in the other clause stay.
func TestResolveStays(t *testing.T) {
	resolves(t, api.Clause{1, -1}, api.Clause{-1}, 0, api.Clause{-1}, api.OK)
	resolves(t, api.Clause{1}, api.Clause{-1, 1}, 0, api.Clause{1}, api.OK)
	resolves(t, api.Clause{-1, 2, 1}, api.Clause{3, -1}, 0, api.Clause{-1, 2, 3}, api.OK)
	resolves(t, api.Clause{2, 1}, api.Clause{1, 3, -1, 1}, 0, api.Clause{1, 2, 3}, api.OK)
	resolves(t, api.Clause{1, -1}, api.Clause{1, -1}, 0, nil, api.ErrNone)
	const last = api.MaxVars
	resolves(t, api.Clause{last, -last}, api.Clause{-last}, last-1, api.Clause{-last}, api.OK)
	resolves(t, api.Clause{last}, api.Clause{-last, last}, last-1, api.Clause{last}, api.OK)
}

// Promise 8.1: each two small clauses, and drawn ones of all variables, by its words; of values of which both hold, what they tell holds (ROBINSON).
func TestResolveWords(t *testing.T) {
	look := func(a, b api.Clause, v int) {
		want, no := resolved(a, b, v)
		resolves(t, a, b, v, want, no)
	}
	l := smallClauses(3)
	for _, a := range l {
		for _, b := range l {
			for v := -1; v < 4; v++ {
				look(a, b, v)
			}
			c, err := proof.Resolve(a, b, 1)
			for values := uint(0); err == nil && values < 4; values++ {
				if clause.Holds(a, values) && clause.Holds(b, values) && !clause.Holds(c, values) {
					t.Fatalf("%v, %v: %v is not so of %b", a, b, c, values)
				}
			}
		}
	}
	r := rand.New(rand.NewSource(811))
	for range 20000 {
		vars := 1 + r.Intn(api.MaxVars)
		l, v := drawn(r, vars, 2, 1+r.Intn(8)), r.Intn(vars)
		if r.Intn(5) > 0 {
			l[0] = slices.Insert(l[0], r.Intn(len(l[0])+1), v+1)
			l[1] = slices.Insert(l[1], r.Intn(len(l[1])+1), -(v + 1))
		}
		look(l[0], l[1], v)
	}
}

// P1: nothing is said of other literals, but none panics.
func TestOtherLiterals(t *testing.T) {
	for _, x := range []int{0, api.MaxVars + 1, -api.MaxVars - 1, 63, 64, 65, 66, -63, -64, -65, -66, math.MaxInt, math.MinInt, math.MinInt + 1} {
		for _, c := range []api.Clause{{x}, {x, x}, {x, -x}, {1, x, 2}, {x, 0, -1}} {
			proof.Form(c)
			for _, v := range []int{-1, 0, 1, api.MaxVars - 1, api.MaxVars, x, x - 1} {
				proof.Resolve(c, c, v)
				proof.Resolve(append(api.Clause{1}, c...), append(c, -1), v)
			}
		}
	}
}
