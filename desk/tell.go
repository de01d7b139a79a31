package desk

import (
	"math/bits"
	"strconv"
	"strings"

	"solspace/api"
)

// What stands between the things of a list.
const comma = ", "

// tellError tells an error by its number.
func tellError(err error) string { return "error " + strconv.Itoa(int(api.Tell(err))) }

// tellNumbers tells them with blanks between.
func tellNumbers(l []int) string {
	var words []string
	for _, n := range l {
		words = append(words, strconv.Itoa(n))
	}
	return strings.Join(words, " ")
}

// tellSet tells its items.
func tellSet(set uint) string {
	if set == 0 {
		return "nothing"
	}
	var l []int
	for v := range bits.Len(set) {
		if set>>v&1 == 1 {
			l = append(l, v)
		}
	}
	return tellNumbers(l)
}

// tellSets tells each of them.
func tellSets(l []uint) []string {
	var out []string
	for _, set := range l {
		out = append(out, tellSet(set))
	}
	return out
}

// tellClauses tells the numbers of each: a clause that has none is nothing between two commas.
func tellClauses(l []api.Clause) string {
	var out []string
	for _, c := range l {
		out = append(out, tellNumbers(c))
	}
	return strings.Join(out, comma)
}
