package many_test

import (
	"math"
	"math/rand"
	"runtime"
	"slices"
	"strings"
	"sync"
	"testing"
	"time"

	"solspace/api"
	"solspace/many"
)

// answers: All of texts is One of each, in order.
func answers(t testing.TB, texts []string, workers int, want []many.Answer) {
	t.Helper()
	l, err := many.All(texts, workers)
	if err != nil || len(l) != len(want) {
		t.Fatalf("%d texts, %d workers: %d answers, %v", len(texts), workers, len(l), err)
	}
	for i := range l {
		if !alike(l[i], want[i]) {
			t.Fatalf("%d workers: %d, %q: %+v; want %+v", workers, i, texts[i], l[i], want[i])
		}
	}
}

// each is One of texts, without any workers.
func each(texts []string) []many.Answer {
	var out []many.Answer
	for _, x := range texts {
		out = append(out, many.One(x))
	}
	return out
}

// limited: All says ErrLimit, and nothing else.
func limited(t testing.TB, texts []string, workers int) {
	t.Helper()
	if l, err := many.All(texts, workers); l != nil || err != error(api.ErrLimit) {
		t.Errorf("%d texts, %d workers: %v, %#v; want ErrLimit", len(texts), workers, l, err)
	}
}

// Promise 15.1: ErrLimit of more than 50 texts.
func TestAllTexts(t *testing.T) {
	texts := slices.Repeat([]string{"package a 1.0.0\n"}, 60)
	for workers := 1; workers <= 16; workers++ {
		answers(t, texts[:50], workers, slices.Repeat([]many.Answer{{Many: "2"}}, 50))
		for n := 51; n <= 60; n++ {
			limited(t, texts[:n], workers)
		}
	}
	// They count, whatever they are.
	limited(t, make([]string, 51), 1)
	answers(t, make([]string, 50), 1, slices.Repeat([]many.Answer{{Many: "1"}}, 50))
	limited(t, make([]string, 100_000), 16)
}

// Promise 15.1: ErrLimit, unless workers is from 1 to 16: of no text at all, too.
func TestAllWorkers(t *testing.T) {
	texts := slices.Repeat([]string{"package a 1.0.0\n"}, 60)
	for _, workers := range []int{0, -1, -2, -16, 17, 18, 100, math.MinInt, math.MaxInt} {
		for _, n := range []int{0, 1, 2, 17, 50, 51, 60} {
			limited(t, texts[:n], workers)
		}
		limited(t, nil, workers)
	}
	for _, workers := range []int{1, 16} {
		for _, n := range []int{0, 1, 2, 17, 50} {
			answers(t, texts[:n], workers, slices.Repeat([]many.Answer{{Many: "2"}}, n))
		}
	}
}

// Promise 15.1: of no text there is no answer, and nothing is wrong.
func TestAllNone(t *testing.T) {
	for workers := 1; workers <= 16; workers++ {
		for _, texts := range [][]string{nil, {}} {
			if l, err := many.All(texts, workers); len(l) != 0 || err != nil {
				t.Errorf("%d workers: %v, %v", workers, l, err)
			}
		}
	}
}

// Promise 15.1: each answer is that of the text at its place, though some take long and some are refused: for every number of workers, more than there are texts, too.
func TestAllOrder(t *testing.T) {
	texts := []string{
		text(wide()...), "", text(knotted()...), "x", "root a any", text(versions("a", 21)...), text(versions("a", 20)...), "package a 1.0.0",
		strings.Repeat("\n", api.MaxText+1), "package a 1.0.0\nroot a any\n", text(three()...), "\nneeds a 1.0.0 b any", "package b 1.0.0\nroot a any\n",
	}
	want := each(texts)
	for workers := 1; workers <= 16; workers++ {
		answers(t, texts, workers, want)
	}
	slices.Reverse(texts)
	slices.Reverse(want)
	for workers := 1; workers <= 16; workers++ {
		for _, n := range []int{1, 2, 5, 12, 13} {
			answers(t, texts[:n], workers, want[:n])
		}
	}
	var errs []api.Errno
	for _, a := range want {
		errs = append(errs, api.Tell(a.Err))
	}
	if !slices.Equal(errs, []api.Errno{api.ErrNone, api.ErrMissing, 0, 0, api.ErrLimit, 0, 0, api.ErrLimit, api.ErrNone, api.ErrForm, api.ErrFull, 0, 0}) {
		t.Errorf("%v", errs)
	}
}

// Promise 15.1: texts that are drawn, by every number of workers, again and again: the same answers each time, those of chapters 3 and 10.
func TestAllDrawn(t *testing.T) {
	d := rand.New(rand.NewSource(3))
	for n := 0; n <= 50; n += 1 + d.Intn(4) {
		var texts []string
		var want []many.Answer
		for range n {
			texts = append(texts, drawn(d, 10))
			want = append(want, byChapters(texts[len(texts)-1]))
		}
		for workers := 1; workers <= 16; workers++ {
			for range 3 {
				answers(t, texts, workers, want)
			}
		}
	}
}

// P4: the texts are not written into, nor what stands behind them.
func TestAllGiven(t *testing.T) {
	texts := []string{"package a 1.0.0\n", "x", "root a any\n", "behind", "behind, too"}
	was := slices.Clone(texts)
	for workers := 1; workers <= 16; workers++ {
		if l, err := many.All(texts[:3], workers); len(l) != 3 || err != nil {
			t.Errorf("%v, %v", l, err)
		}
		if !slices.Equal(texts, was) {
			t.Fatalf("%d workers: %q; want %q", workers, texts, was)
		}
	}
}

// P4: what comes out is the caller's: no two answers share anything, nor with what is answered later, nor is it kept.
func TestAllFresh(t *testing.T) {
	settled := text("package a 1.0.0", "package b 1.0.0", "package c 1.0.0", "package d 1.0.0", "root a any", "root b any", "clashes a 1.0.0 c any", "clashes a 1.0.0 d any")
	texts := []string{settled, settled, "root a x", "root a x", settled}
	want := each(texts)
	for workers := 1; workers <= 16; workers++ {
		l, err := many.All(texts, workers)
		if err != nil {
			t.Fatal(err)
		}
		for i := range l {
			if !alike(l[i], want[i]) {
				t.Fatalf("%d workers: %d: %+v; want %+v", workers, i, l[i], want[i])
			}
			spoil(&l[i])
		}
		answers(t, texts, workers, want)
	}
}

// P1, P4: when All answers, all of its workers are gone, and nothing is written any more.
func TestAllJoined(t *testing.T) {
	texts := slices.Repeat([]string{text(three()...), "x", ""}, 16)
	before := runtime.NumGoroutine()
	for workers := 1; workers <= 16; workers++ {
		l, err := many.All(texts, workers)
		if err != nil {
			t.Fatal(err)
		}
		clear(l)
		for range 1000 { // a worker that has told that it is done may still be on its way out
			if runtime.NumGoroutine() <= before {
				break
			}
			time.Sleep(time.Millisecond)
		}
		if now := runtime.NumGoroutine(); now > before {
			t.Errorf("%d workers: %d goroutines, %d before", workers, now, before)
		}
		for i := range l {
			if !alike(l[i], many.Answer{}) {
				t.Errorf("%d workers: %+v", workers, l[i])
			}
		}
	}
}

// P4: what All answers hangs on its arguments alone: several calls at the same time are as one behind the other.
func TestAllAtOnce(t *testing.T) {
	d := rand.New(rand.NewSource(4))
	var wait sync.WaitGroup
	for workers := 1; workers <= 16; workers++ {
		var texts []string
		for range 20 {
			texts = append(texts, drawn(d, 8))
		}
		want := each(texts)
		wait.Go(func() {
			l, err := many.All(texts, workers)
			if err != nil || !slices.EqualFunc(l, want, alike) {
				t.Errorf("%d workers: %+v, %v; want %+v", workers, l, err, want)
			}
		})
	}
	wait.Wait()
}
