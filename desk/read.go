package desk

import (
	"strconv"

	"solspace/api"
)

// throw throws an error, if there is one.
func throw(err error) {
	if err != nil {
		panic(err)
	}
}

// must is what a call answers, unless it answers an error, which is thrown.
func must[T any](x T, err error) T {
	throw(err)
	return x
}

// readNumber reads one. What is read and written again is another text where a nought or a plus stood ahead.
func readNumber(word string) int {
	n, err := strconv.ParseInt(word, 10, 64)
	if err != nil || strconv.FormatInt(n, 10) != word {
		panic(api.ErrForm)
	}
	return int(n)
}

// readClause reads its numbers, whatever they are.
func readClause(words []string) api.Clause {
	var out api.Clause
	for _, word := range words {
		out = append(out, readNumber(word))
	}
	return out
}

// readSet reads its items: any that a catalog may have, though the one of now hasn't.
func readSet(words []string) uint {
	var out uint
	for _, word := range words {
		item := readNumber(word)
		if item < 0 || item >= api.MaxVersions {
			panic(api.ErrRange)
		}
		out |= 1 << item
	}
	return out
}
