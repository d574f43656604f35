package timers_test

import (
	"math"
	"slices"
	"testing"

	"marquee/api"
	"marquee/timers"
)

// Promise 14.1: Cancel of what is no number of a timer that is there changes nothing.
func TestCancelOfNothing(t *testing.T) {
	w := timers.New()
	for i := range 4 {
		wantSet(t, w, i, 10*i, i+1)
	}
	wantCancel(t, w, 2, true)
	wantPop(t, w, 0, timer(0, 0, 1))
	wantDrop(t, w, 30, 1)
	for _, seq := range append(edges, 4, 5, 6, 10, 20, 1<<32+3, -3) {
		wantCancel(t, w, seq, false)
		wantAll(t, w, timer(2, 20, 3))
	}
	wantCancel(t, w, 3, true)
	wantAll(t, w)
}

// Promise 14.1: a number that was not given yet is none, and is a timer's once it is given.
func TestCancelAheadOfSet(t *testing.T) {
	w := timers.New()
	wantCancel(t, w, 1, false)
	wantSet(t, w, 8, 8, 1)
	wantCancel(t, w, 2, false)
	wantSet(t, w, 8, 8, 2)
	wantCancel(t, w, 2, true)
	wantAll(t, w, timer(8, 8, 1))
}

// Promise 14.1: Cancel takes just the one timer away, wherever in the order it stands and in whatever order they are cancelled.
func TestCancelInAnyOrder(t *testing.T) {
	for _, places := range orders(6) {
		w := timers.New()
		var want []api.Timer
		for i := range 6 {
			wantSet(t, w, i/2, i%2/2, i+1)
			want = append(want, timer(i/2, 0, i+1))
		}
		for _, place := range places {
			wantCancel(t, w, place+1, true)
			wantCancel(t, w, place+1, false)
			want = slices.DeleteFunc(want, func(x api.Timer) bool { return x.Seq == place+1 })
			wantAll(t, w, want...)
		}
	}
}

// Promises 14.1, 14.2: out of a wheel each timer that can be taken is, and the order of the others stays.
func TestCancelOfEachOne(t *testing.T) {
	const many = 63
	for gone := range many {
		w := timers.New()
		for i := range many {
			wantSet(t, w, i*37%many/2, i%5, i+1)
		}
		want := w.All()
		wantCancel(t, w, want[gone].Seq, true)
		want = slices.Delete(want, gone, gone+1)
		wantAll(t, w, want...)
		wantPops(t, w, many, want...)
	}
}

// Promise 14.1: Drop of a Stmt that has none, one, many, all.
func TestDrop(t *testing.T) {
	w := timers.New()
	wantDrop(t, w, 1, 0)
	for i := range 5 {
		wantSet(t, w, 10-i, 1, 2*i+1)
		wantSet(t, w, 10-i, i, 2*i+2)
	}
	wantDrop(t, w, 5, 0)
	wantDrop(t, w, -1, 0)
	wantDrop(t, w, 10, 0)
	wantDrop(t, w, 3, 1)
	wantDrop(t, w, 3, 0)
	wantAll(t, w, timer(6, 1, 9), timer(6, 4, 10), timer(7, 1, 7), timer(8, 1, 5), timer(8, 2, 6), timer(9, 1, 3), timer(9, 1, 4), timer(10, 0, 2), timer(10, 1, 1))
	wantDrop(t, w, 1, 6)
	wantDrop(t, w, 1, 0)
	wantAll(t, w, timer(6, 4, 10), timer(8, 2, 6), timer(10, 0, 2))
	for seq := range 11 {
		wantCancel(t, w, seq, seq == 2 || seq == 6 || seq == 10)
	}
	for i := range 9 {
		wantSet(t, w, -i, 7, 11+i)
	}
	wantDrop(t, w, 7, 9)
	wantAll(t, w)
	wantDrop(t, w, 7, 0)
}

// Promise 14.1: Drop counts and takes those of a Stmt that are there still, whichever of them went, in whatever order.
func TestDropOfWhatIsLeft(t *testing.T) {
	for _, places := range orders(5) {
		for gone := range 6 {
			w := timers.New()
			for i := range 5 {
				wantSet(t, w, i%3, 1, 2*i+1)
				wantSet(t, w, i%3, 2, 2*i+2)
			}
			for _, place := range places[:gone] {
				wantCancel(t, w, 2*place+1, true)
			}
			wantSet(t, w, 9, 1, 11)
			wantDrop(t, w, 1, 6-gone)
			wantAll(t, w, timer(0, 2, 2), timer(0, 2, 8), timer(1, 2, 4), timer(1, 2, 10), timer(2, 2, 6))
			wantDrop(t, w, 2, 5)
			wantAll(t, w)
		}
	}
}

// Promise 14.1: the least and the greatest int are Stmts as others are.
func TestDropOfEdges(t *testing.T) {
	for _, stmt := range edges {
		w := timers.New()
		var want []api.Timer
		for i, at := range edges {
			wantSet(t, w, at, stmt, 2*i+1)
			other := w.Set(at, edges[(slices.Index(edges, stmt)+1+i%(len(edges)-1))%len(edges)])
			want = append(want, other)
		}
		wantDrop(t, w, stmt, len(edges))
		wantDrop(t, w, stmt, 0)
		wantAll(t, w, want...)
	}
}

// Promise 14.2: Pop at a time ahead of the first one, just at it, behind all, time and again.
func TestPop(t *testing.T) {
	w := timers.New()
	for i, at := range []int{20, 10, 30, 10, 20} {
		wantSet(t, w, at, 1, i+1)
	}
	wantPops(t, w, 9)
	wantPop(t, w, 10, timer(10, 1, 2))
	wantPops(t, w, 10, timer(10, 1, 4))
	wantPops(t, w, 10)
	wantPops(t, w, 19)
	wantAll(t, w, timer(20, 1, 1), timer(20, 1, 5), timer(30, 1, 3))
	wantPops(t, w, math.MinInt)
	wantPops(t, w, 29, timer(20, 1, 1), timer(20, 1, 5))
	wantPops(t, w, 10)
	wantPops(t, w, math.MaxInt, timer(30, 1, 3))
	wantPops(t, w, math.MaxInt)
	wantAll(t, w)
}

// Promise 14.2: a timer is due just if its At is at most now, whatever they are.
func TestPopOfEdges(t *testing.T) {
	for _, at := range edges {
		for _, now := range edges {
			w := timers.New()
			x := w.Set(at, 1)
			if at <= now {
				wantPops(t, w, now, x)
				wantAll(t, w)
				continue
			}
			wantPops(t, w, now)
			wantAll(t, w, x)
		}
	}
}

// Promise 14.2: what is set ahead of the time that was popped up to is due as others are.
func TestSetBehindPop(t *testing.T) {
	w := timers.New()
	wantSet(t, w, 10, 1, 1)
	wantSet(t, w, 12, 1, 2)
	wantPops(t, w, 11, timer(10, 1, 1))
	wantSet(t, w, 4, 1, 3)
	wantSet(t, w, 12, 0, 4)
	wantAll(t, w, timer(4, 1, 3), timer(12, 0, 4), timer(12, 1, 2))
	wantPops(t, w, 3)
	wantPops(t, w, 4, timer(4, 1, 3))
	wantPops(t, w, 12, timer(12, 0, 4), timer(12, 1, 2))
}

// Promise 14.2: the first timer stays there, though it is asked for, until it goes.
func TestNext(t *testing.T) {
	w := timers.New()
	wantSet(t, w, 3, 1, 1)
	wantAll(t, w, timer(3, 1, 1))
	wantSet(t, w, 2, 9, 2)
	wantAll(t, w, timer(2, 9, 2), timer(3, 1, 1))
	wantSet(t, w, 2, 8, 3)
	wantSet(t, w, 2, 8, 4)
	wantAll(t, w, timer(2, 8, 3), timer(2, 8, 4), timer(2, 9, 2), timer(3, 1, 1))
	wantCancel(t, w, 3, true)
	wantAll(t, w, timer(2, 8, 4), timer(2, 9, 2), timer(3, 1, 1))
	wantDrop(t, w, 8, 1)
	wantAll(t, w, timer(2, 9, 2), timer(3, 1, 1))
	wantPop(t, w, 2, timer(2, 9, 2))
	wantAll(t, w, timer(3, 1, 1))
}
