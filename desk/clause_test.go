package desk_test

import (
	"fmt"
	"slices"
	"strings"
	"testing"

	"solspace/api"
)

// Promise 16.1: clause tells how many there are; clauses tells them as they were told.
func TestClause(t *testing.T) {
	talk(t, nil, "clause 1 2", "1", "clause -1", "2", "clauses", "1 2, -1", "clause 24 -24 24", "3", "clause", "4", "clauses", "1 2, -1, 24 -24 24, ", "clause 3 1 2", "5", "clauses", "1 2, -1, 24 -24 24, , 3 1 2", "clause", "6", "clauses", "1 2, -1, 24 -24 24, , 3 1 2, ")
	talk(t, nil, "clauses", "", "clause", "1", "clauses", "", "clause", "2", "clauses", ", ", "clause 1", "3", "clauses", ", , 1")
	says(t, "clauses", "\n")
	for v := 1; v <= api.MaxVars; v++ {
		talk(t, nil, fmt.Sprintf("clause %d", v), "1", fmt.Sprintf("clause %d", -v), "2", "clauses", fmt.Sprintf("%d, %d", v, -v))
	}
	// The shelf and the clauses have nothing in common.
	talk(t, small(), "clause 1", "1", "count", "3", "lines", "package a 1.0.0; package a 2.0.0; package b 1.0.0; needs a 2.0.0 b >=1.0.0 <2.0.0; root a any", "add root b any", "6", "clauses", "1")
}

// Promise 16.1: what Check says, of MaxVars variables; such a clause is not kept.
func TestClauseRefused(t *testing.T) {
	some := []string{"clause 1 2", "clause -2 3"}
	fails(t, some, api.ErrRange, "clause 0", "clause 25", "clause -25", "clause 1 0", "clause 0 1", "clause 1 2 3 25", "clause 9223372036854775807", "clause -9223372036854775808")
	fails(t, some, api.ErrForm, "clause x", "clause 1 x", "clause -0", "clause 1.0", "clause 1,2", "clause 01", "clause 1 - 2", "clause 0 x", "clause 99999999999999999999")
	long := "clause" + strings.Repeat(" 1", 48)
	fails(t, some, api.ErrLimit, long+" 1", long+" 0", long+" 25 26")
	talk(t, some, long+" 1", "error 4", long, "3", "clause 0", "error 2", "clause 25", "error 2", "clause x", "error 3", "clauses", "1 2, -2 3,"+strings.Repeat(" 1", 48), "clause 4", "4", "clauses", "1 2, -2 3,"+strings.Repeat(" 1", 48)+", 4", "can", "yes 0 1 2 3")
	// As many as there may be; how many there are is told ahead of what is wrong with one.
	most := slices.Repeat([]string{"clause 1"}, 199)
	talk(t, most, "clause 2", "200", "clause 3", "error 4", "clause", "error 4", "clause 0", "error 4", "clause x", "error 3", "can", "yes 0 1", "clause 1", "error 4", "clauses", strings.Repeat("1, ", 199)+"2")
	fails(t, append(most, "clause 2"), api.ErrLimit, "clause 1", "clause 0", "clause")
}

// Promise 16.1: can tells yes, and the set of what is true: nothing, too.
func TestCanYes(t *testing.T) {
	says(t, "can", "yes nothing\n")
	talk(t, nil, "clause -1", "1", "can", "yes nothing", "clause -3 -2", "2", "can", "yes 1", "clause 3", "3", "can", "yes 2")
	talk(t, nil, "clause 1 2", "1", "can", "yes 0 1", "clause -1", "2", "clause -2 3", "3", "can", "yes 1 2")
	// As many variables as the greatest one needs; those of which nothing is said are true.
	for v := 1; v <= api.MaxVars; v++ {
		var all, others []string
		for i := range v {
			all = append(all, fmt.Sprint(i))
			if i+1 < v {
				others = append(others, fmt.Sprint(i))
			}
		}
		rest := strings.Join(others, " ")
		if rest == "" {
			rest = "nothing"
		}
		talk(t, nil, fmt.Sprintf("clause %d", v), "1", "can", "yes "+strings.Join(all, " "))
		talk(t, nil, fmt.Sprintf("clause %d", -v), "1", "can", "yes "+rest)
		talk(t, nil, fmt.Sprintf("clause 1 %d", -v), "1", "can", "yes "+strings.Join(all, " "))
	}
}

// Promise 16.1: can tells no, and the clauses of the proof, the last one without numbers.
func TestCanNo(t *testing.T) {
	talk(t, nil, "clause", "1", "can", "no ")
	talk(t, nil, "clause 1", "1", "clause -1", "2", "can", "no ", "can", "no ", "clauses", "1, -1")
	talk(t, nil, "clause 1 2", "1", "clause 1 -2", "2", "clause -1 2", "3", "can", "yes 0 1", "clause -1 -2", "4", "can", "no -1, ", "clauses", "1 2, 1 -2, -1 2, -1 -2")
	talk(t, nil, "clause 2 3", "1", "clause 2 -3", "2", "clause -2 3", "3", "clause -2 -3", "4", "can", "no -1 -2, -1, -2, ")
	// What is shown is not kept as a clause.
	talk(t, []string{"clause 2 3", "clause 2 -3", "clause -2 3", "clause -2 -3", "can"}, "clauses", "2 3, 2 -3, -2 3, -2 -3", "clause 1", "5", "can", "no -2, ")
	talk(t, nil, "clause 1", "1", "clause", "2", "can", "no ", "clear", "clear", "can", "yes nothing")
}

// Promise 16.1: what Solve says: a proof of 2000 clauses, and no end.
func TestCanLimit(t *testing.T) {
	square := func(v int) []string {
		return []string{fmt.Sprintf("clause %d %d", v, v+1), fmt.Sprintf("clause %d %d", v, -v-1), fmt.Sprintf("clause %d %d", -v, v+1), fmt.Sprintf("clause %d %d", -v, -v-1)}
	}
	fails(t, square(23), api.ErrLimit, "can")
	fails(t, square(12), api.ErrLimit, "can")
	got := strings.Split(session(append(square(10), "can")...), "\n")[4]
	if proof := strings.Split(strings.TrimPrefix(got, "no "), ", "); !strings.HasPrefix(got, "no -1 -2 ") || len(proof) != 1024 || proof[1023] != "" {
		t.Errorf("%.100q, %d clauses", got, len(proof))
	}
	talk(t, square(23), "can", "error 4", "clause 23", "5", "can", "no ", "clear", "clear", "can", "yes nothing")
}
