package desk_test

import (
	"fmt"
	"slices"
	"strconv"
	"strings"
	"testing"

	"solspace/api"
)

// Promise 16.1: add tells how many lines there are; what is told is what was read.
func TestAdd(t *testing.T) {
	talk(t, nil,
		"add package b 1.0.0", "1",
		"add package a 1.0.0", "2",
		"add needs a 1.0.0 b >=1.0.0", "3",
		"add clashes b 1.0.0 c !2.0.0 <3.0.0", "4",
		"add root a any", "5",
		"add root a any", "6",
		"add package a 2.10.999", "7",
		"lines", "package b 1.0.0; package a 1.0.0; needs a 1.0.0 b >=1.0.0; clashes b 1.0.0 c <2.0.0 || >=2.0.1 <3.0.0; root a any; root a any; package a 2.10.999",
		"items", "a 2.10.999, a 1.0.0, b 1.0.0",
		"add root z none", "8",
		"lines", "package b 1.0.0; package a 1.0.0; needs a 1.0.0 b >=1.0.0; clashes b 1.0.0 c <2.0.0 || >=2.0.1 <3.0.0; root a any; root a any; package a 2.10.999; root z none",
	)
}

// Promise 16.1: what ParseLine says, then what Publish says.
func TestAddRefused(t *testing.T) {
	fails(t, small(), api.ErrForm, "add", "add x", "add a 1.0.0", "add Package c 1.0.0", "add package", "add package c", "add package c 1.0", "add package c 1.0.00", "add package c 1.0.0 x", "add needs", "add needs a 2.0.0",
		"add needs a 2.0.0 b", "add needs a 2.0.0 b x", "add needs a b", "add root", "add root a", "add root a ||", "add root a any || x", "add clashes a 2.0.0 b >", "add add package c 1.0.0", "add lines", "add package c -1.0.0", "add package c 1.0.99999999999999999999")
	fails(t, small(), api.ErrRange, "add package c 1.0.1000", "add root a >=1000.0.0", "add needs a 2.0.1000 b any", "add needs a 2.0.0 b 1.1000.0")
	fails(t, small(), api.ErrName, "add package any 1.0.0", "add package C 1.0.0", "add package 1 1.0.0", "add package c1234567890ab 1.0.0", "add needs a 2.0.0 none any", "add root - any", "add root \xff any")
	fails(t, small(), api.ErrTwice, "add package a 1.0.0", "add package b 1.0.0")
	fails(t, small(), api.ErrMissing, "add needs a 3.0.0 b any", "add clashes c 1.0.0 b any")
	long := "add root a" + strings.Repeat(" any", 251)
	fails(t, small(), api.ErrLimit, long)
	talk(t, small(), long, "error 4", long[:len(long)-4], "6")
	// What ParseLine says comes ahead of what Publish says.
	fails(t, small(), api.ErrForm, "add package any 1.0", "add needs z 1.0.0 any x")
}

// Promise 16.1: as many lines, names and versions as there may be.
func TestAddLimits(t *testing.T) {
	lines := append([]string{"package a 1.0.0"}, slices.Repeat([]string{"root a any"}, 98)...)
	talk(t, added(lines...), "add root a any", "100", "add root a any", "error 4", "add package a 1.0.0", "error 4", "add x", "error 3", "yank 99", "99", "add root b none", "100")
	fails(t, added(append(lines, "root a any")...), api.ErrLimit, "add root a any", "add package a 1.0.0", "add package any 1.0.0")
	var names []string
	for i := range 8 {
		names = append(names, fmt.Sprintf("package p%d 1.0.0", i))
	}
	fails(t, added(names...), api.ErrLimit, "add package q 1.0.0")
	talk(t, added(names...), "add package p0 2.0.0", "9")
	fails(t, added(versions("a", 24)...), api.ErrLimit, "add package a 99.0.0")
	talk(t, added(versions("a", 23)...), "add package a 99.0.0", "24", "add package a 1.0.0", "error 9", "yank 3", "23")
}

// Promise 16.1: yank tells how many lines are left; what Yank says.
func TestYank(t *testing.T) {
	talk(t, small(), "yank 3", "4", "lines", "package a 1.0.0; package a 2.0.0; package b 1.0.0; root a any", "yank 0", "3", "lines", "package a 2.0.0; package b 1.0.0; root a any",
		"yank 2", "2", "yank 2", "error 2", "yank 1", "1", "items", "a 2.0.0", "yank 0", "0", "lines", "", "yank 0", "error 2")
	fails(t, small(), api.ErrRange, "yank 5", "yank -1", "yank 100", "yank 9223372036854775807", "yank -9223372036854775808")
	fails(t, nil, api.ErrRange, "yank 0", "yank -1", "yank 1")
	fails(t, small(), api.ErrMissing, "yank 1")
	fails(t, small(), api.ErrForm, "yank", "yank a", "yank 0 1", "yank 1.0.0", "yank -0")
}

// Promise 16.1: undo tells how many lines there are then; what Undo says.
func TestUndo(t *testing.T) {
	talk(t, small(), "undo", "4", "undo", "3", "lines", "package a 1.0.0; package a 2.0.0; package b 1.0.0", "yank 1", "2", "undo", "3", "lines", "package a 1.0.0; package a 2.0.0; package b 1.0.0",
		"undo", "2", "undo", "1", "undo", "0", "undo", "error 8", "lines", "", "undo", "error 8", "add root a any", "1", "undo", "0", "undo", "error 8")
	fails(t, nil, api.ErrNone, "undo", " undo ")
	// The last 50 changes alone.
	lines := slices.Repeat([]string{"add root a none"}, 60)
	pairs := []string{}
	for i := range 50 {
		pairs = append(pairs, "undo", strconv.Itoa(59-i))
	}
	talk(t, lines, append(pairs, "undo", "error 8", "undo", "error 8", "yank 0", "9", "undo", "10", "undo", "error 8")...)
	// What was refused is not taken back, nor what only asks, nor a clause.
	talk(t, small(), "add x", "error 3", "yank 1", "error 7", "count", "3", "clause 1", "1", "undo", "4", "clauses", "1", "undo", "3")
}

// Promise 16.1: lines and items of a shelf that has none are empty lines.
func TestNoLines(t *testing.T) {
	says(t, "lines", "\n")
	says(t, "items", "\n")
	says(t, "lines\nitems\nlines", "\n\n\n")
	talk(t, nil, "add root a any", "1", "items", "", "lines", "root a any", "yank 0", "0", "lines", "", "items", "")
	talk(t, nil, "add package a 1.0.0", "1", "items", "a 1.0.0", "lines", "package a 1.0.0", "undo", "0", "lines", "", "items", "")
}

// Promise 16.1: items are told by name, of one name the newest first.
func TestItemsTold(t *testing.T) {
	talk(t, added("package b-1 1.0.0", "package b 0.0.0", "package a 1.2.3", "package a 1.10.0", "package a 1.2.4", "package b1 999.999.999"), "items", "a 1.10.0, a 1.2.4, a 1.2.3, b 0.0.0, b-1 1.0.0, b1 999.999.999")
}

// Promise 16.1: behind clear all is as at first: the shelf, what can be taken back, and the clauses.
func TestClear(t *testing.T) {
	says(t, "clear", "clear\n")
	says(t, "clear\nclear\n", "clear\nclear\n")
	ahead := append(small(), "clause 1", "clause -1", "can", "yank 4", "count", "undo")
	talk(t, ahead, "clear", "clear", "undo", "error 8", "lines", "", "items", "", "count", "1", "clauses", "", "can", "yes nothing", "least", "nothing", "yank 0", "error 2",
		"add package a 1.0.0", "1", "clause 2", "1", "count", "2", "undo", "0", "undo", "error 8", "clear", "clear", "clauses", "", "lines", "")
	// All that is answered behind it is what a session of its own answers.
	rest := append(small(), "count", "cores", "can", "undo", "lines", "clause 3", "clauses", "clear", "lines")
	own := strings.SplitAfter(session(rest...), "\n")
	whole := strings.SplitAfter(session(slices.Concat(ahead, []string{"clear"}, rest)...), "\n")
	if got := whole[len(ahead)+1:]; !slices.Equal(got, own) {
		t.Errorf("%q; want %q", got, own)
	}
}
