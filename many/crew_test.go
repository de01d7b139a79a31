package many

import (
	"slices"
	"testing"
)

// Promise 15.1: there are never more workers than are told, nor than there are texts, and none without a text; in the end none is busy.
func TestCrew(t *testing.T) {
	texts := slices.Repeat([]string{"package a 1.0.0\npackage b 1.0.0\nneeds a 1.0.0 b any\n", "x"}, 25)
	for most := 1; most <= mostWorkers; most++ {
		for _, n := range []int{0, 1, 2, 3, 16, 17, 50} {
			c := newCrew(texts[:n])
			c.run(most)
			if c.workers > min(most, n) || c.workers < min(1, n) || c.busy != 0 {
				t.Errorf("%d texts, at most %d workers: %d workers, %d busy", n, most, c.workers, c.busy)
			}
		}
	}
}
