package proof

import (
	"solspace/api"
	"solspace/clause"
)

// The most clauses of Eliminate.
const mostLeft = 2000

// Eliminate takes variables away, one by one, from 0 on (Davis and Putnam): for each, all that follows by Resolve from one clause with it and one with not it stands for those that have it; clauses in form, each once, in order of being there. It tells how many there are behind each variable, and whether all can hold. ErrLimit: more than 2000.
func Eliminate(vars int, l []api.Clause) (sizes []int, can bool, err error) {
	if err := clause.Check(vars, l); err != nil {
		return nil, false, err
	}
	var left pile
	for _, c := range l {
		left.add(sidesOf(c))
	}
	for v := range vars {
		left = left.without(v)
		if left.tooMuch() {
			return nil, false, api.ErrLimit
		}
		sizes = append(sizes, len(left.list))
	}
	return sizes, len(left.list) == 0, nil
}

// pile is clauses, each once, in order of being there; its zero value has none.
type pile struct {
	list  []sides
	there map[sides]struct{}
}

// add adds a clause, unless it holds always, or is there.
func (p *pile) add(c sides) {
	if _, ok := p.there[c]; ok || c.always() {
		return
	}
	if p.there == nil {
		p.there = map[sides]struct{}{}
	}
	p.there[c] = struct{}{}
	p.list = append(p.list, c)
}

// tooMuch says whether there are more clauses than may be.
func (p *pile) tooMuch() bool { return len(p.list) > mostLeft }

// without is what is left without a variable; where it is too much, not all of that.
func (p *pile) without(v int) pile {
	var out pile
	var with, against []sides
	for _, c := range p.list {
		switch bit := uint(1) << v; {
		case c.yes&bit != 0:
			with = append(with, c)
		case c.no&bit != 0:
			against = append(against, c)
		default:
			out.add(c)
		}
	}
	for _, a := range with {
		for _, b := range against {
			out.add(resolve(a, b, v))
		}
		if out.tooMuch() {
			break
		}
	}
	return out
}
