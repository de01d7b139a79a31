package proof

import "solspace/api"

// sides are a clause's literals as two sets of variables: those that are to be true, and those that are to be false.
// Clauses with the same literals have the same ones, however they are written: so they tell whether one was there already.
type sides struct{ yes, no uint }

// sidesOf is a clause's literals.
func sidesOf(c api.Clause) sides {
	var s sides
	for _, x := range c {
		switch { // nothing is said of other literals, but a shift by them could panic
		case 0 < x && x <= api.MaxVars:
			s.yes |= 1 << (x - 1)
		case -api.MaxVars <= x && x < 0:
			s.no |= 1 << (-x - 1)
		}
	}
	return s
}

// always says whether there is a literal and its other side.
func (s sides) always() bool { return s.yes&s.no != 0 }

// clause is the literals by variable, rising, where none stands beside its other side.
func (s sides) clause() api.Clause {
	var c api.Clause
	for v := range api.MaxVars {
		switch {
		case s.yes>>v&1 == 1:
			c = append(c, v+1)
		case s.no>>v&1 == 1:
			c = append(c, -(v + 1))
		}
	}
	return c
}

// resolve is all literals of two clauses, but a variable of the first one, and not it of the second one: each may have the other side, which stays.
func resolve(a, b sides, v int) sides {
	bit := uint(1) << v
	return sides{yes: a.yes&^bit | b.yes, no: a.no | b.no&^bit}
}
