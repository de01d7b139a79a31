package shelf_test

import (
	"fmt"
	"slices"
	"testing"

	"solspace/api"
	"solspace/catalog"
	"solspace/shelf"
)

// roots are so many lines, each another one.
func roots(from, to int) []string {
	var out []string
	for i := from; i < to; i++ {
		out = append(out, fmt.Sprintf("root a %d.0.0", i))
	}
	return out
}

// Promise 14.1: Publish and Yank are taken back from the last one on; ErrNone, when there is none, as often as it is asked.
func TestUndo(t *testing.T) {
	var s shelf.Shelf
	fails(t, s.Undo(), api.ErrNone, -1)
	publish(t, &s, "package a 1.0.0", "root a any", "package b 1.0.0")
	done(t, s.Yank(1))
	publish(t, &s, "root b any")
	done(t, s.Yank(0))
	done(t, s.Yank(1))
	for _, want := range [][]string{
		{"package b 1.0.0", "root b any"},
		{"package a 1.0.0", "package b 1.0.0", "root b any"},
		{"package a 1.0.0", "package b 1.0.0"},
		{"package a 1.0.0", "root a any", "package b 1.0.0"},
		{"package a 1.0.0", "root a any"},
		{"package a 1.0.0"},
		{},
	} {
		done(t, s.Undo())
		has(t, &s, want...)
	}
	for range 3 {
		fails(t, s.Undo(), api.ErrNone, -1)
		has(t, &s)
	}
}

// Promise 14.1: what was taken out comes back to its place, wherever that was.
func TestUndoYank(t *testing.T) {
	lines := []string{"package a 1.0.0", "root b any", "package b 1.0.0", "root a any", "package b 2.0.0"}
	for first := range lines {
		for second := range len(lines) - 1 {
			s := stocked(t, lines...)
			done(t, s.Yank(first))
			left := slices.Delete(slices.Clone(lines), first, first+1)
			done(t, s.Yank(second))
			done(t, s.Undo())
			has(t, s, left...)
			done(t, s.Undo())
			has(t, s, lines...)
		}
	}
}

// Promise 14.1: the last 50 alone can be taken back.
func TestUndoMost(t *testing.T) {
	for _, many := range []int{49, 50, 51, 52, 99, 100} {
		lines := roots(0, many)
		s := stocked(t, lines...)
		for i := range min(many, 50) {
			done(t, s.Undo())
			has(t, s, lines[:many-1-i]...)
		}
		for range 3 {
			fails(t, s.Undo(), api.ErrNone, -1)
		}
		has(t, s, lines[:max(0, many-50)]...)
	}
}

// Promise 14.1: likewise of Yank, and of both by turns.
func TestUndoMostYank(t *testing.T) {
	lines := roots(0, 60)
	s := stocked(t, lines...)
	for i := range 51 {
		done(t, s.Yank(0))
		has(t, s, lines[i+1:]...)
	}
	for i := range 50 {
		done(t, s.Undo())
		has(t, s, lines[50-i:]...)
	}
	fails(t, s.Undo(), api.ErrNone, -1)
	has(t, s, lines[1:]...)

	s = stocked(t, "package a 1.0.0")
	for range 40 {
		publish(t, s, "root a any")
		done(t, s.Yank(1))
	}
	for range 25 {
		has(t, s, "package a 1.0.0")
		done(t, s.Undo())
		has(t, s, "package a 1.0.0", "root a any")
		done(t, s.Undo())
	}
	fails(t, s.Undo(), api.ErrNone, -1)
	has(t, s, "package a 1.0.0")
}

// Promise 14.1: what was taken back is none of the 50, and makes no room for those that were too long ago.
func TestUndoThenMore(t *testing.T) {
	s := stocked(t, roots(0, 60)...)
	for range 20 {
		done(t, s.Undo())
	}
	publish(t, s, roots(100, 115)...)
	for i := range 15 {
		has(t, s, append(roots(0, 40), roots(100, 115-i)...)...)
		done(t, s.Undo())
	}
	for i := range 30 {
		has(t, s, roots(0, 40-i)...)
		done(t, s.Undo())
	}
	fails(t, s.Undo(), api.ErrNone, -1)
	has(t, s, roots(0, 10)...)
	publish(t, s, "root b any")
	done(t, s.Undo())
	fails(t, s.Undo(), api.ErrNone, -1)
	has(t, s, roots(0, 10)...)
}

// Promise 14.1: Undo is itself no change that is taken back.
func TestUndoOfUndo(t *testing.T) {
	s := stocked(t, "root a any", "root b any", "root c any")
	done(t, s.Undo())
	done(t, s.Undo())
	has(t, s, "root a any")
	publish(t, s, "root d any")
	done(t, s.Undo())
	has(t, s, "root a any")
	done(t, s.Undo())
	has(t, s)
	fails(t, s.Undo(), api.ErrNone, -1)
}

// Promise 14.1: what is refused, and what is asked, is no change: it can't be taken back, and is none of the 50.
func TestUndoRefused(t *testing.T) {
	s := stocked(t, roots(0, 50)...)
	for range 60 {
		fails(t, s.Publish(catalog.Line{}), api.ErrArg, 50)
		fails(t, s.Publish(read(t, "needs a 1.0.0 b any")), api.ErrMissing, 50)
		fails(t, s.Yank(50), api.ErrRange, -1)
		s.Catalog()
		s.Space()
		s.Count()
	}
	for i := range 50 {
		done(t, s.Undo())
		fails(t, s.Yank(-1), api.ErrRange, -1)
		has(t, s, roots(0, 49-i)...)
	}
	fails(t, s.Undo(), api.ErrNone, -1)
}
