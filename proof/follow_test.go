package proof_test

import (
	"math"
	"math/rand"
	"testing"

	"solspace/api"
	"solspace/clause"
	"solspace/proof"
)

// refusal is what Check says something of.
type refusal struct {
	vars  int
	l     []api.Clause
	want  api.Errno
	place int
}

// refusals are of each kind that Check has.
func refusals() []refusal {
	long, bad := api.Clause(fill(2*api.MaxVars+1, 1)), api.Clause{3}
	return []refusal{
		{-1, nil, api.ErrRange, -1},
		{api.MaxVars + 1, clauses(nil), api.ErrRange, -1},
		{math.MinInt, clauses(long), api.ErrRange, -1},
		{math.MaxInt, nil, api.ErrRange, -1},
		{2, fill(api.MaxClauses+1, api.Clause{1}), api.ErrLimit, -1},
		{0, fill(api.MaxClauses+1, api.Clause(nil)), api.ErrLimit, -1},
		{2, clauses(long), api.ErrLimit, 0},
		{2, clauses(api.Clause{1}, api.Clause{-1}, long, bad), api.ErrLimit, 2},
		{2, clauses(api.Clause{1}, api.Clause{-1}, bad, long), api.ErrRange, 2},
		{2, clauses(api.Clause{1, -1}, api.Clause{0}), api.ErrRange, 1},
		{2, clauses(nil, api.Clause{1, -3}), api.ErrRange, 1},
		{0, clauses(api.Clause{1}), api.ErrRange, 0},
		{api.MaxVars, clauses(api.Clause{-api.MaxVars - 1}), api.ErrRange, 0},
		{2, append(fill(api.MaxClauses-1, api.Clause{1}), api.Clause{math.MinInt}), api.ErrRange, api.MaxClauses - 1},
	}
}

// unfollowed: Follow has that error, at that place, and nothing beside it.
func unfollowed(t *testing.T, vars int, l []api.Clause, steps []proof.Step, want api.Errno, place int) {
	t.Helper()
	got, err := proof.Follow(vars, l, steps)
	if len(got) > 0 {
		t.Errorf("Follow of %d, %v: %v beside %v", vars, l, got, err)
	}
	wrong(t, "Follow", err, want, place)
}

// followed: Follow tells that.
func followed(t *testing.T, vars int, l []api.Clause, steps []proof.Step, want []api.Clause) {
	t.Helper()
	if got, err := proof.Follow(vars, l, steps); err != nil || !alike(got, want) {
		t.Errorf("Follow of %d, %v, %v: %v, %v; want %v", vars, l, steps, got, err, want)
	}
}

// Promise 8.2: what Check says, ahead of all else.
func TestFollowCheck(t *testing.T) {
	for _, x := range refusals() {
		unfollowed(t, x.vars, x.l, nil, x.want, x.place)
		unfollowed(t, x.vars, x.l, []proof.Step{{-1, -1, -1}}, x.want, x.place)
		unfollowed(t, x.vars, x.l, make([]proof.Step, 1001), x.want, x.place)
	}
}

// Promise 8.2: no step, with and without clauses.
func TestFollowNoStep(t *testing.T) {
	followed(t, 0, nil, nil, nil)
	followed(t, api.MaxVars, nil, []proof.Step{}, nil)
	followed(t, 0, clauses(nil), nil, nil)
	followed(t, 2, clauses(api.Clause{1, 2}, api.Clause{-1}), nil, nil)
	followed(t, 2, fill(api.MaxClauses, api.Clause{1, 2}), nil, nil)
}

// Promise 8.2: 1000 steps, and one more.
func TestFollowLimit(t *testing.T) {
	l := clauses(api.Clause{1, 2}, api.Clause{-1})
	step := proof.Step{A: 0, B: 1, Var: 0}
	for _, n := range []int{1, 2, 999, 1000} {
		followed(t, 2, l, fill(n, step), fill(n, api.Clause{2}))
	}
	for _, n := range []int{1001, 1002, 5000} {
		unfollowed(t, 2, l, fill(n, step), api.ErrLimit, -1)
		unfollowed(t, 2, l, make([]proof.Step, n), api.ErrLimit, -1) // ahead of what is wrong with the first one
	}
	unfollowed(t, 2, l, append(fill(999, step), proof.Step{}), api.ErrArg, 999)
	unfollowed(t, 2, l, append(fill(999, step), proof.Step{A: 0, B: 1001}), api.ErrRange, 999)
	followed(t, 2, clauses(api.Clause{1, 2}, api.Clause{-1}, api.Clause{-2}), append(fill(999, step), proof.Step{A: 1001, B: 2, Var: 1}), append(fill(999, api.Clause{2}), nil))
}

// Promise 8.2: ErrRange of clauses that there are not, of those of the step itself, and of steps behind it.
func TestFollowRange(t *testing.T) {
	l := clauses(api.Clause{1, 2}, api.Clause{-1, 2}, api.Clause{-2})
	good := []proof.Step{{0, 1, 0}, {3, 2, 1}} // 3 is [2], 4 is []
	followed(t, 2, l, good, clauses(api.Clause{2}, nil))
	for at := range 3 {
		for _, n := range []int{-1, -2, 3 + at, 4 + at, 5 + at, 1000, math.MaxInt, math.MinInt} {
			for _, step := range []proof.Step{{n, 1, 0}, {0, n, 0}, {n, n, 0}, {n, 2, -1}, {1, n, 99}} {
				steps := append(append([]proof.Step{}, good[:at]...), step)
				unfollowed(t, 2, l, steps, api.ErrRange, at)
				unfollowed(t, 2, l, append(steps, proof.Step{A: 0, B: 0}, proof.Step{A: -1}), api.ErrRange, at)
			}
		}
	}
	unfollowed(t, 0, nil, []proof.Step{{}}, api.ErrRange, 0)
	unfollowed(t, 0, clauses(nil), []proof.Step{{A: 0, B: 1}}, api.ErrRange, 0)
}

// Promise 8.2: what Resolve says, at the step's number.
func TestFollowResolve(t *testing.T) {
	l := clauses(api.Clause{1, 2}, api.Clause{-1, -2}, api.Clause{-1})
	good := []proof.Step{{0, 2, 0}, {0, 2, 0}, {0, 2, 0}}
	for at := range 4 {
		for step, no := range map[proof.Step]api.Errno{
			{0, 1, 0}:               api.ErrNone,
			{0, 1, 1}:               api.ErrNone,
			{1, 0, 0}:               api.ErrArg,
			{0, 2, 1}:               api.ErrArg,
			{2, 2, 0}:               api.ErrArg,
			{0, 2, 2}:               api.ErrArg, // no literal has it
			{0, 2, -1}:              api.ErrArg,
			{0, 2, api.MaxVars}:     api.ErrArg,
			{0, 2, math.MaxInt}:     api.ErrArg,
			{0, 2, math.MinInt}:     api.ErrArg,
			{0, 2, api.MaxVars - 1}: api.ErrArg,
		} {
			steps := append(append([]proof.Step{}, good[:at]...), step)
			unfollowed(t, 2, l, steps, no, at)
			unfollowed(t, 2, l, append(steps, proof.Step{A: -1}), no, at)
		}
	}
}

// Promise 8.2: steps that lean on steps, down to a clause without literals; what they tell is in Form, though clauses aren't.
func TestFollow(t *testing.T) {
	l := clauses(api.Clause{2, 1, 2}, api.Clause{2, -1}, api.Clause{1, -2}, api.Clause{-2, -1, -1})
	steps := []proof.Step{{0, 1, 0}, {2, 3, 0}, {4, 5, 1}, {0, 5, 1}}
	followed(t, 2, l, steps, clauses(api.Clause{2}, api.Clause{-2}, nil, api.Clause{1}))
	followed(t, 3, clauses(api.Clause{3, 2, 1}, api.Clause{-1, 3}), []proof.Step{{0, 1, 0}}, clauses(api.Clause{2, 3}))
	followed(t, 1, clauses(api.Clause{1}, api.Clause{-1}), []proof.Step{{0, 1, 0}}, clauses(nil))
	followed(t, 1, clauses(api.Clause{1, -1}), []proof.Step{}, nil)
	// A step may lean on one clause twice.
	followed(t, 1, clauses(api.Clause{1, -1}, api.Clause{-1}), []proof.Step{{0, 1, 0}}, clauses(api.Clause{-1}))
	unfollowed(t, 1, clauses(api.Clause{1, -1}), []proof.Step{{0, 0, 0}}, api.ErrNone, 0)
}

// Promise 8.2: a chain through all variables, each step leaning on the one ahead.
func TestFollowChain(t *testing.T) {
	l := clauses(api.Clause{1})
	var steps []proof.Step
	var want []api.Clause
	for v := 1; v < api.MaxVars; v++ {
		l = append(l, api.Clause{v + 1, -v})
		want = append(want, api.Clause{v + 1})
	}
	l = append(l, api.Clause{-api.MaxVars})
	want = append(want, nil)
	for v := range api.MaxVars {
		steps = append(steps, proof.Step{A: len(l) + v - 1, B: v + 1, Var: v})
	}
	steps[0].A = 0
	followed(t, api.MaxVars, l, steps, want)
}

// Promise 8.2: drawn steps, by its words; of values of which all clauses hold, those of steps do.
func TestFollowDrawn(t *testing.T) {
	r := rand.New(rand.NewSource(82))
	const vars = 4
	good := 0
	for range 5000 {
		l := drawn(r, vars, 2+r.Intn(10), 3)
		known := append([]api.Clause{}, l...)
		var steps []proof.Step
		no, place := api.OK, -1
		for try := 0; try < 200 && no == api.OK; try++ {
			s := proof.Step{A: r.Intn(len(known)), B: r.Intn(len(known)), Var: r.Intn(vars)}
			c, e := resolved(known[s.A], known[s.B], s.Var)
			if e != api.OK {
				if r.Intn(100) > 0 {
					continue
				}
				no, place = e, len(steps)
			}
			steps, known = append(steps, s), append(known, c)
		}
		if no != api.OK {
			unfollowed(t, vars, l, steps, no, place)
			continue
		}
		followed(t, vars, l, steps, known[len(l):])
		good++
		for values := range uint(1 << vars) {
			if clause.AllHold(l, values) && !clause.AllHold(known, values) {
				t.Fatalf("%v: not all of %v hold of %b", l, known, values)
			}
		}
	}
	if good < 500 {
		t.Errorf("%d good ones: too few", good)
	}
}
