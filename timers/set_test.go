package timers_test

import (
	"math"
	"slices"
	"testing"

	"marquee/api"
	"marquee/timers"
)

// Promises 14.1, 14.2: the chapter's examples.
func TestExamples(t *testing.T) {
	w := timers.New()
	wantSet(t, w, 5, 2, 1)
	wantSet(t, w, 5, 1, 2)
	wantSet(t, w, 3, 9, 3)
	wantAll(t, w, timer(3, 9, 3), timer(5, 1, 2), timer(5, 2, 1))
	wantPop(t, w, 4, timer(3, 9, 3))
	wantPop(t, w, 4, api.Timer{})
	wantCancel(t, w, 1, true)
	wantCancel(t, w, 1, false)
	wantDrop(t, w, 1, 1)
	wantAll(t, w)
}

// Promise 14.1: New gives a wheel of none, at each call a new one.
func TestNew(t *testing.T) {
	w, other := timers.New(), timers.New()
	if w == nil || w == other {
		t.Fatal(w, other)
	}
	wantAll(t, w)
	wantSet(t, w, 1, 1, 1)
	wantAll(t, other)
	wantAll(t, timers.New())
}

// wantNone: a wheel of none answers that there is nothing, whatever it is asked for.
func wantNone(t *testing.T, w *timers.Wheel) {
	t.Helper()
	wantAll(t, w)
	for _, n := range edges {
		wantCancel(t, w, n, false)
		wantDrop(t, w, n, 0)
		wantPop(t, w, n, api.Timer{})
	}
	wantAll(t, w)
}

// Promises 14.1, 14.2: each call on a wheel of none: a new one, one that New did not give, and those whose timers went in each of the ways.
func TestWheelOfNone(t *testing.T) {
	ways := []func(*timers.Wheel){
		func(w *timers.Wheel) { w.Cancel(1) },
		func(w *timers.Wheel) { w.Pop(7) },
		func(w *timers.Wheel) { w.Drop(3) },
	}
	for _, w := range []*timers.Wheel{timers.New(), new(timers.Wheel)} {
		wantNone(t, w)
		for i, empty := range ways {
			wantSet(t, w, 7, 3, i+1)
			wantAll(t, w, timer(7, 3, i+1))
			empty(w)
			wantNone(t, w)
			wantCancel(t, w, i+1, false)
			wantDrop(t, w, 3, 0)
			wantPop(t, w, 7, api.Timer{})
		}
	}
}

// R1: a nil wheel answers zero values and does nothing.
func TestNilWheel(t *testing.T) {
	var w *timers.Wheel
	for _, at := range edges {
		for _, stmt := range edges {
			if x := w.Set(at, stmt); x != (api.Timer{}) {
				t.Fatal(x)
			}
			wantNone(t, w)
		}
	}
}

// R1: a wheel that New did not give is one of none, too.
func TestWheelThatNewDidNotGive(t *testing.T) {
	w := new(timers.Wheel)
	wantNone(t, w)
	wantSet(t, w, 2, 1, 1)
	wantSet(t, w, 1, 1, 2)
	wantAll(t, w, timer(1, 1, 2), timer(2, 1, 1))
	wantCancel(t, w, 1, true)
	wantSet(t, w, 1, 0, 3)
	wantPop(t, w, 1, timer(1, 0, 3))
	wantDrop(t, w, 1, 1)
	wantNone(t, w)
	wantSet(t, w, 0, 0, 4)
	wantAll(t, w, timer(0, 0, 4))
}

// Promise 14.1: Set gives the next Seq, whatever At and Stmt are, and though timers of the same stand there.
func TestSetOfEdges(t *testing.T) {
	w := timers.New()
	seq := 0
	for _, at := range edges {
		for _, stmt := range edges {
			for range 2 {
				seq++
				wantSet(t, w, at, stmt, seq)
			}
		}
	}
	l := w.All()
	for i, x := range l {
		if want := timer(edges[i/2/len(edges)], edges[i/2%len(edges)], i+1); x != want {
			t.Fatalf("%d: %v, want %v", i, x, want)
		}
	}
	if len(l) != seq {
		t.Error(len(l))
	}
}

// Promise 14.1: no Seq is given twice, though timers went, each in one of the ways, the one that was set last among them.
func TestSeqIsNotGivenAgain(t *testing.T) {
	w := timers.New()
	wantSet(t, w, 1, 1, 1)
	wantCancel(t, w, 1, true)
	wantSet(t, w, 1, 1, 2)
	wantPop(t, w, 1, timer(1, 1, 2))
	wantSet(t, w, 1, 1, 3)
	wantDrop(t, w, 1, 1)
	wantSet(t, w, 1, 1, 4)
	wantSet(t, w, 9, 2, 5)
	wantSet(t, w, 1, 1, 6)
	wantDrop(t, w, 1, 2)
	wantCancel(t, w, 6, false)
	wantSet(t, w, 0, 2, 7)
	wantAll(t, w, timer(0, 2, 7), timer(9, 2, 5))
}

// Promise 14.1, 14.2: timers of the same At, and of the same At and Stmt, stand by the order, however they are set.
func TestOrderHoweverTheyAreSet(t *testing.T) {
	l := row(timer(1, 2, 0), timer(2, 1, 0), timer(2, 1, 0), timer(2, 3, 0), timer(3, 0, 0), timer(3, 0, 0))
	for _, order := range orders(len(l)) {
		w := timers.New()
		var want []api.Timer
		for i, place := range order {
			wantSet(t, w, l[place].At, l[place].Stmt, i+1)
		}
		for place, x := range l {
			x.Seq = slices.Index(order, place) + 1
			want = append(want, x)
		}
		// Of two that are the same the one that was set ahead stands ahead.
		for _, i := range []int{1, 4} {
			if want[i].Seq > want[i+1].Seq {
				want[i], want[i+1] = want[i+1], want[i]
			}
		}
		wantAll(t, w, want...)
		wantPops(t, w, math.MaxInt, want...)
	}
}

// The order asks At first, then Stmt, then Seq, each as a number, however far apart they are.
func TestOrderOfTwo(t *testing.T) {
	for _, at := range edges {
		for _, otherAt := range edges {
			for _, stmt := range edges {
				for _, otherStmt := range edges {
					w := timers.New()
					a, b := w.Set(at, stmt), w.Set(otherAt, otherStmt)
					if otherAt < at || otherAt == at && otherStmt < stmt {
						a, b = b, a
					}
					wantAll(t, w, a, b)
				}
			}
		}
	}
}

// Promise 14.1: many timers of the same At and Stmt stand by their Seq.
func TestManyOfTheSame(t *testing.T) {
	w := timers.New()
	var want []api.Timer
	for i := range 200 {
		wantSet(t, w, 4, 4, i+1)
		want = append(want, timer(4, 4, i+1))
		wantAll(t, w, want...)
	}
	for len(want) > 0 {
		wantPop(t, w, 4, want[0])
		want = want[1:]
		wantAll(t, w, want...)
	}
}
