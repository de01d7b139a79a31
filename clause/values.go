package clause

import (
	"slices"

	"solspace/api"
)

// values are what is told of variables: 1: it is true; -1: it is false; 0: nothing.
// As an array they are kept by a copy, and are put back by it, whatever was told since.
type values [api.MaxVars]int8

// side is 1, if a literal is told, -1, if its other side is, else 0.
func (v *values) side(x int) int8 {
	if x > 0 {
		return v[x-1]
	}
	return -v[-x-1]
}

// tell tells a literal.
func (v *values) tell(x int) {
	if x > 0 {
		v[x-1] = 1
	} else {
		v[-x-1] = -1
	}
}

// next is the number of the first clause that can't hold (with 0), or that can by one literal alone (with that literal); -1 and 0, if there is none.
func (v *values) next(l []api.Clause) (int, int) {
	for i, c := range l {
		if x, ok := v.only(c); ok {
			return i, x
		}
	}
	return -1, 0
}

// only is the literal by which alone a clause can hold (0: by none); false, if it holds, or can by several.
func (v *values) only(c api.Clause) (int, bool) {
	first := slices.IndexFunc(c, func(x int) bool { return v.side(x) >= 0 })
	if first < 0 {
		return 0, true
	}
	one := c[first]
	// The one literal may stand twice; its other side is another one.
	more := slices.ContainsFunc(c[first:], func(x int) bool {
		return v.side(x) > 0 || v.side(x) == 0 && x != one
	})
	if more {
		return 0, false
	}
	return one, true
}

// number is the values as one: bit v is variable v.
func (v *values) number() uint {
	n := uint(0)
	for i, side := range v {
		if side > 0 {
			n |= 1 << i
		}
	}
	return n
}
