package plan

import (
	"math/bits"

	"solspace/catalog"
	"solspace/semver"
)

// single says whether a set has only items that there are, and of each name at most one.
func single(c *catalog.Catalog, set uint) bool {
	there := c.Items()
	if set>>len(there) != 0 {
		return false
	}
	for _, item := range there {
		if bits.OnesCount(set&among(c, item.Name, semver.Any())) > 1 {
			return false
		}
	}
	return true
}

// keeps says whether a set keeps to a line of its catalog.
func keeps(c *catalog.Catalog, x catalog.Line, set uint) bool {
	switch x.Kind {
	case catalog.Root:
		return set&among(c, x.Name, x.Range) != 0
	case catalog.Needs:
		return set&own(c, x) == 0 || set&among(c, x.Other, x.Range) != 0
	case catalog.Clashes:
		return set&own(c, x) == 0 || set&among(c, x.Other, x.Range) == 0
	}
	return true
}

// needed is of each item the set of those, but itself, that its lines name.
func needed(c *catalog.Catalog) []uint {
	out := make([]uint, len(c.Items()))
	for _, x := range c.Lines() {
		if x.Kind == catalog.Needs {
			out[c.Number(x.Name, x.Version)] |= among(c, x.Other, x.Range) &^ own(c, x)
		}
	}
	return out
}

// own is the set of a line's own item; of a root, which has none, it is not asked.
func own(c *catalog.Catalog, x catalog.Line) uint { return just(c.Number(x.Name, x.Version)) }

// among is the set of a package's items in a range.
func among(c *catalog.Catalog, name string, r semver.Range) uint {
	var out uint
	for _, item := range c.Among(name, r) {
		out |= just(item)
	}
	return out
}

// just is the set of one item.
func just(item int) uint { return 1 << item }

// items are those of a set, rising.
func items(set uint) []int {
	var out []int
	for item := range bits.Len(set) {
		if set&just(item) != 0 {
			out = append(out, item)
		}
	}
	return out
}
