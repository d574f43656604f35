package timers_test

import (
	"math"
	"slices"
	"testing"

	"marquee/api"
	"marquee/timers"
)

// edges are numbers that a timer, a time and a number may be.
var edges = []int{math.MinInt, math.MinInt + 1, -1 << 40, -2, -1, 0, 1, 2, 1 << 40, math.MaxInt - 1, math.MaxInt}

func timer(at, stmt, seq int) api.Timer { return api.Timer{At: at, Stmt: stmt, Seq: seq} }

// row is a list of timers.
func row(l ...api.Timer) []api.Timer { return l }

// wantAll holds all that a wheel tells without being changed against l; it is asked twice, since asking changes nothing.
func wantAll(t *testing.T, w *timers.Wheel, l ...api.Timer) {
	t.Helper()
	var first api.Timer
	if len(l) > 0 {
		first = l[0]
	}
	for range 2 {
		if got := w.All(); !slices.Equal(got, l) {
			t.Fatalf("All: %v, want %v", got, l)
		}
		if n := w.Len(); n != len(l) {
			t.Fatalf("Len: %d, want %d", n, len(l))
		}
		if x, ok := w.Next(); x != first || ok != (len(l) > 0) {
			t.Fatalf("Next: %v, %v, want %v", x, ok, first)
		}
	}
}

func wantSet(t *testing.T, w *timers.Wheel, at, stmt, seq int) {
	t.Helper()
	if x := w.Set(at, stmt); x != timer(at, stmt, seq) {
		t.Fatalf("Set(%d, %d): %v, want Seq %d", at, stmt, x, seq)
	}
}

func wantCancel(t *testing.T, w *timers.Wheel, seq int, was bool) {
	t.Helper()
	if got := w.Cancel(seq); got != was {
		t.Fatalf("Cancel(%d): %v, want %v", seq, got, was)
	}
}

func wantDrop(t *testing.T, w *timers.Wheel, stmt, n int) {
	t.Helper()
	if got := w.Drop(stmt); got != n {
		t.Fatalf("Drop(%d): %d, want %d", stmt, got, n)
	}
}

// wantPop asks for x, and for nothing, if x is no timer: none has the Seq 0.
func wantPop(t *testing.T, w *timers.Wheel, now int, x api.Timer) {
	t.Helper()
	if got, ok := w.Pop(now); got != x || ok != (x.Seq != 0) {
		t.Fatalf("Pop(%d): %v, %v, want %v", now, got, ok, x)
	}
}

// wantPops asks for all of l, and then for nothing, time and again.
func wantPops(t *testing.T, w *timers.Wheel, now int, l ...api.Timer) {
	t.Helper()
	for _, x := range l {
		wantPop(t, w, now, x)
	}
	wantPop(t, w, now, api.Timer{})
	wantPop(t, w, now, api.Timer{})
}

// popped are all timers that are due, as they are popped.
func popped(w *timers.Wheel, now int) []api.Timer {
	var l []api.Timer
	for x, ok := w.Pop(now); ok; x, ok = w.Pop(now) {
		l = append(l, x)
	}
	return l
}

// orders are all orders of 0 to n-1.
func orders(n int) [][]int {
	if n == 0 {
		return [][]int{nil}
	}
	var all [][]int
	for _, l := range orders(n - 1) {
		for i := range n {
			all = append(all, slices.Insert(slices.Clone(l), i, n-1))
		}
	}
	return all
}
