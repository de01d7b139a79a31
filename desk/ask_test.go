package desk_test

import (
	"fmt"
	"slices"
	"strings"
	"testing"

	"solspace/api"
	"solspace/desk"
)

// session is the answer to lines.
func session(lines ...string) string { return desk.Session(text(lines...)) }

// knotted are lines for whose diagram there is no room among MaxNodes.
func knotted() []string {
	var out []string
	for _, name := range strings.Split("abcdefgh", "") {
		out = append(out, versions(name, 3)...)
	}
	return append(out,
		"clashes c 1.0.0 f 1.0.0", "clashes d 0.0.0 g 1.0.0", "clashes f 2.0.0 c 0.0.0", "clashes h 0.0.0 a !1.0.0", "clashes h 1.0.0 b >0.0.0", "clashes h 2.0.0 e !1.0.0",
		"needs a 0.0.0 g any", "needs a 1.0.0 g 0.0.0", "needs b 0.0.0 f any", "needs b 1.0.0 f <2.0.0", "needs d 0.0.0 h any", "needs d 1.0.0 h any",
		"needs f 0.0.0 c any", "needs g 0.0.0 e >0.0.0", "needs g 1.0.0 d any", "needs g 2.0.0 c 2.0.0")
}

// Promise 16.1: what Of says is told by all that ask the space; by nothing else.
func TestSpaceRefused(t *testing.T) {
	asks := []string{"count", "kth 0", "least", "near", "near 0 1", "always", "never"}
	fails(t, added(versions("a", 21)...), api.ErrLimit, asks...)
	fails(t, added(knotted()...), api.ErrFull, asks...)
	talk(t, added(versions("a", 20)...), "count", "21", "kth 0", "nothing", "kth 20", "0", "least", "nothing", "always", "", "never", "", "add package a 99.0.0", "21", "count", "error 4", "undo", "20", "count", "21")
	talk(t, added(versions("a", 21)...), "fits 0", "fits", "fits 0 1", "-2", "order 20", "20", "yank 0", "20", "count", "21")
	talk(t, added(knotted()...), "fits", "fits", "order", "", "core", "error 8")
}

// Promise 16.1: count tells how many.
func TestCount(t *testing.T) {
	says(t, "count", "1\n")
	talk(t, small(), "count", "3", "undo", "4", "count", "5", "undo", "3", "count", "6", "add root z any", "4", "count", "0", "undo", "3", "count", "6")
	var lines []string
	for _, name := range strings.Split("abcdefgh", "") {
		lines = append(lines, versions(name, 3)...)
	}
	talk(t, added(lines...), "count", "65536")
}

// Promise 16.1: kth tells the k-th installation; its number is read by Parse (1.1).
func TestKth(t *testing.T) {
	talk(t, small(), "kth 0", "1", "kth 1", "1 2", "kth 2", "0 2", "kth 3", "error 8")
	talk(t, nil, "kth 0", "nothing", "kth 1", "error 8")
	fails(t, small(), api.ErrNone, "kth 3", "kth 4", "kth 100", "kth 9223372036854775807", "kth 9223372036854775808", "kth 18446744073709551615", "kth 18446744073709551616", "kth 18446744073709551617", "kth 1"+strings.Repeat("0", 99), "kth "+strings.Repeat("9", 100))
	fails(t, small(), api.ErrLimit, "kth 1"+strings.Repeat("0", 100), "kth "+strings.Repeat("9", 101))
	fails(t, small(), api.ErrForm, "kth -1", "kth -0", "kth 00", "kth 01", "kth x", "kth +1", "kth 1.0", "kth -", "kth 0x0", "kth ٣", "kth \xff", "kth 0"+strings.Repeat("9", 200))
	fails(t, added("root a any"), api.ErrNone, "kth 0")
	// All of them, in order: as numbers whose digits are the items, the first one first.
	talk(t, added("package a 1.0.0", "package b 1.0.0", "package c 1.0.0"), "kth 0", "nothing", "kth 1", "2", "kth 2", "1", "kth 3", "1 2", "kth 4", "0", "kth 5", "0 2", "kth 6", "0 1", "kth 7", "0 1 2", "kth 8", "error 8")
}

// Promise 16.1: least and near tell a set.
func TestLeastNear(t *testing.T) {
	talk(t, small(), "least", "1", "near", "1", "near 0", "0 2", "near 1", "1", "near 2", "0 2", "near 0 1", "1", "near 1 2", "1 2", "near 2 1", "1 2", "near 0 1 2", "0 2", "near 0 0 2", "0 2")
	talk(t, nil, "least", "nothing", "near", "nothing", "near 0", "nothing", "near 0 23", "nothing")
	fails(t, added("package a 1.0.0", "root a none"), api.ErrNone, "least", "near", "near 0")
	talk(t, added("package a 1.0.0"), "least", "nothing", "near", "nothing", "near 0", "0")
}

// Promise 16.1: always and never tell numbers: of none an empty line.
func TestAlwaysNever(t *testing.T) {
	talk(t, nil, "always", "", "never", "")
	talk(t, small(), "always", "", "never", "", "add root a >1.0.0", "6", "always", "0 2", "never", "1", "undo", "5", "add clashes b 1.0.0 b any", "6", "always", "1", "never", "0 2")
	// Without an installation, both are all items.
	talk(t, small(), "add root z any", "6", "always", "0 1 2", "never", "0 1 2")
}

// Promise 16.1: fits, or the number of the first line to which a set doesn't keep, or -2.
func TestFits(t *testing.T) {
	talk(t, small(), "fits 1", "fits", "fits 1 2", "fits", "fits 0 2", "fits", "fits 2 0", "fits", "fits", "4", "fits 2", "4", "fits 0", "3", "fits 0 1", "-2", "fits 0 1 2", "-2", "fits 3", "-2", "fits 23", "-2")
	talk(t, nil, "fits", "fits", "fits 0", "-2")
	talk(t, small(), "add clashes b 1.0.0 a <2.0.0", "6", "fits 1 2", "5", "fits 0 2", "fits", "add root z any", "7", "fits 0 2", "6", "fits 1 2", "5", "fits 0", "3")
}

// Promise 16.1: order tells numbers; what Order says.
func TestOrder(t *testing.T) {
	talk(t, small(), "order 0 2", "2 0", "order 2 0", "2 0", "order 1", "1", "order 2 1", "1 2")
	fails(t, small(), api.ErrFalse, "order", "order 0", "order 2", "order 0 1", "order 3", "order 0 2 23")
	talk(t, nil, "order", "")
	fails(t, nil, api.ErrFalse, "order 0")
	round := added("package a 1.0.0", "package b 1.0.0", "package c 1.0.0", "needs a 1.0.0 b any", "needs b 1.0.0 a any", "needs c 1.0.0 c any")
	fails(t, round, api.ErrCycle, "order 0 1", "order 0 1 2")
	talk(t, round, "order", "", "order 2", "2", "order 0", "error 13")
}

// Promise 16.1: core and why tell numbers of lines; what Core, Parse (5.1) and WhyNot say.
func TestCoreWhy(t *testing.T) {
	ahead := append(small(), "add clashes a 1.0.0 b any", "add root b any")
	talk(t, ahead, "core", "error 8", "why a 1.0.0", "5 6 7", "why a 2.0.0", "error 8", "why b 1.0.0", "error 8", "add clashes a 2.0.0 a any", "8", "core", "4 5 6 7", "why a 2.0.0", "4 5 6 7", "undo", "7", "yank 6", "6", "add clashes a 2.0.0 a any", "7", "core", "error 8", "why a 2.0.0", "6 7", "why a 1.0.0", "error 8", "why b 1.0.0", "4 5 6 7",
		"lines", "package a 1.0.0; package a 2.0.0; package b 1.0.0; needs a 2.0.0 b >=1.0.0 <2.0.0; root a any; clashes a 1.0.0 b any; clashes a 2.0.0 a any")
	talk(t, nil, "core", "error 8", "add root a any", "1", "core", "0", "undo", "0", "core", "error 8")
	fails(t, ahead, api.ErrMissing, "why a 3.0.0", "why c 1.0.0", "why A 1.0.0", "why a 999.999.999")
	fails(t, ahead, api.ErrForm, "why a x", "why a 1.0", "why a 1.0.0.0", "why a 01.0.0", "why a ^1.0.0", "why a any", "why a", "why 1.0.0", "why", "why a 1.0.0 x")
	fails(t, ahead, api.ErrRange, "why a 1000.0.0", "why a 1.0.1000")
	fails(t, added(versions("a", 21)...), api.ErrLimit, "core", "why a 1.0.0", "cores")
	// There are as many lines as there may be, so one more can't be wanted.
	most := added(append([]string{"package a 1.0.0"}, slices.Repeat([]string{"root b any"}, 99)...)...)
	fails(t, most, api.ErrLimit, "why a 1.0.0")
	talk(t, most, "core", "1", "why a 2.0.0", "error 7", "yank 1", "99", "why a 1.0.0", "1")
}

// Promise 16.1: Solve's ErrLimit, where a search takes too long.
func TestCoreLimit(t *testing.T) {
	var lines []string
	for i := range 20 {
		lines = append(lines, fmt.Sprintf("package %c %d.0.0", 'a'+i%6, i/6))
	}
	lines = append(lines, "package g 1.0.0", "package g 2.0.0", "package h 1.0.0", "package h 2.0.0", "root g any", "root h any", "clashes g 1.0.0 h any", "clashes g 2.0.0 h any")
	fails(t, added(lines...), api.ErrLimit, "core", "why a 0.0.0", "cores")
	talk(t, added(lines[12:]...), "core", "12 13 14 15", "cores", "0 1 2 3, |, 0, 1, 2, 3")
}

// Promise 16.1: cores tells the sets of cores, a bar, and the sets of fixes, with commas between all of these.
func TestCores(t *testing.T) {
	says(t, "cores", "|, nothing\n")
	ahead := append(small(), "add clashes a 1.0.0 b any", "add root b any")
	talk(t, ahead, "cores", "|, nothing", "add clashes a 2.0.0 a any", "8", "cores", "1 2 3 4, |, 1, 2, 3, 4", "add root z any", "9", "cores", "1 2 3 4, 5, |, 1 5, 2 5, 3 5, 4 5")
	talk(t, nil, "add root a any", "1", "cores", "0, |, 0", "add root b none", "2", "cores", "0, 1, |, 0 1", "add package a 1.0.0", "3", "cores", "1, |, 1", "yank 1", "2", "cores", "|, nothing")
	// As many lines that say something as there may be, and one more.
	ten := append([]string{"package a 1.0.0"}, slices.Repeat([]string{"root a any"}, 10)...)
	talk(t, added(ten...), "cores", "|, nothing", "add package b 1.0.0", "12", "cores", "|, nothing", "add root a any", "13", "cores", "error 4", "core", "error 8", "undo", "12", "cores", "|, nothing")
	fails(t, added(append(ten, "root z any")...), api.ErrLimit, "cores")
}

// Promise 16.1: range tells the range's text; what ParseRange says.
func TestRange(t *testing.T) {
	talk(t, nil, "range ^1.2.0 !1.3.0", ">=1.2.0 <1.3.0 || >=1.3.1 <2.0.0", "range any", "any", "range none", "none", "range 1.0.0", "1.0.0", "range >=1.0.0    <1.0.0", "none", "range 2.0.0 || 1.0.0", "1.0.0 || 2.0.0",
		"range 2.0.0||1.0.0", "1.0.0 || 2.0.0", "range <=999.999.999", "any", "range ~0.1.0", ">=0.1.0 <0.2.0", "range any"+strings.Repeat(" any", 249), "any")
	fails(t, small(), api.ErrForm, "range", "range x", "range ||", "range any ||", "range || any", "range any x", "range >", "range > 1.0.0", "range 1.0", "range ==1.0.0", "range any \xff", "range 1.0.0 | 2.0.0")
	fails(t, small(), api.ErrRange, "range 1000.0.0", "range any || <1.0.1000", "range 1000.0.0 x")
	// Blanks between words count once.
	talk(t, nil, "range any"+strings.Repeat(" any", 249)+" x", "error 4", "range"+strings.Repeat(" ", 2000)+"any"+strings.Repeat(" ", 2000)+"any", "any", "range "+strings.Repeat("x", 1000), "error 3", "range "+strings.Repeat("x", 1001), "error 4")
}
