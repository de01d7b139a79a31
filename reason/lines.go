package reason

import (
	"solspace/catalog"
	"solspace/clause"
	"solspace/rules"
)

// sayings are a catalog's rules, and the numbers of the lines that say something, rising.
type sayings struct {
	rules rules.Rules
	lines []int
	// How many lines there are, those of packages too.
	all int
}

// said is what a catalog says. ErrLimit: it has too many clauses.
func said(c *catalog.Catalog) (sayings, error) {
	r, err := rules.Of(c)
	if err != nil {
		return sayings{}, err
	}
	lines := c.Lines()
	s := sayings{rules: r, all: len(lines)}
	for n, x := range lines {
		if x.Kind != catalog.Package {
			s.lines = append(s.lines, n)
		}
	}
	return s, nil
}

// can says whether some lines can be together. ErrLimit: it takes too long to tell.
func (s sayings) can(lines []int) (bool, error) {
	in := make([]bool, s.all)
	for _, n := range lines {
		in[n] = true
	}
	a, err := clause.Solve(s.rules.Vars, s.rules.Only(in))
	return a.Holds, err
}

// table says of each set of lines that say something (bit k is the k-th one) whether they can be together.
// None is left out that could be told by others: whether it takes too long hangs on each one alone.
func (s sayings) table() ([]bool, error) {
	var out []bool
	for set := range uint(1) << len(s.lines) {
		can, err := s.can(s.picked(set))
		if err != nil {
			return nil, err
		}
		out = append(out, can)
	}
	return out, nil
}

// picked are the lines of a set.
func (s sayings) picked(set uint) []int {
	var out []int
	for k, n := range s.lines {
		if set>>k&1 == 1 {
			out = append(out, n)
		}
	}
	return out
}
