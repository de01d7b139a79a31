package image

import (
	"strings"

	"solspace/api"
	"solspace/arena"
	"solspace/bdd"
	"solspace/count"
)

// parts are what an image's first line tells, and its nodes' lines. The last line is left out: what Save makes of the others tells it.
type parts struct {
	vars, top int
	nodes     []string
}

// cut takes an image apart, if it has a first line, and as many others as that tells.
func cut(text string) (parts, bool) {
	text, ended := strings.CutSuffix(text, "\n")
	lines := strings.Split(text, "\n")
	head, headed := strings.CutPrefix(lines[0], headWord)
	n, ok := three(head)
	if !ended || !headed || !ok || n[0] > api.MaxVars || n[1] != len(lines)-2 {
		return parts{}, false
	}
	return parts{vars: n[0], top: n[2], nodes: lines[1 : len(lines)-1]}, true
}

// laid puts the nodes of lines into a space that has none; of each number its handle. ErrForm: a line is none of a node that may be there; ErrFull.
func laid(s *bdd.Space, lines []string) ([]int, error) {
	handles := []int{arena.False, arena.True}
	leads := func(v, number int) bool { return number < len(handles) && v < s.Top(handles[number]) }
	for _, text := range lines {
		n, ok := three(text)
		v, low, high := n[0], n[1], n[2]
		if !ok || v >= s.Vars() || low == high || !leads(v, low) || !leads(v, high) {
			return nil, api.ErrForm
		}
		// By the space's functions, more nodes than these would be made, and need room.
		h, err := s.Make(arena.Node{Var: v, Low: handles[low], High: handles[high]})
		if err != nil {
			return nil, err
		}
		handles = append(handles, h)
	}
	return handles, nil
}

// three reads three numbers, with one blank between.
func three(text string) ([3]int, bool) {
	var out [3]int
	words := strings.Split(text, " ")
	if len(words) != len(out) {
		return out, false
	}
	for i, word := range words {
		n, ok := number(word)
		if !ok {
			return out, false
		}
		out[i] = n
	}
	return out, true
}

// number reads one, from 0 on, that an int can be.
func number(text string) (int, bool) {
	n, err := count.Parse(text)
	if err != nil {
		return 0, false
	}
	return n.Fits()
}
