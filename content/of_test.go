package content_test

import (
	"math"
	"testing"

	"marquee/api"
)

// Promise 15.3: no views at all hold nothing.
func TestOfNoViews(t *testing.T) {
	l := came(0, 1, 5)
	for _, now := range []int{5, 6, math.MaxInt} {
		wantOf(t, nil, l, now)
		wantOf(t, views(), l, now)
		wantOf(t, nil, nil, now)
		wantNoNext(t, nil, l, now)
		wantNoNext(t, views(), l, now)
	}
}

// Promise 15.3: what is held is what each view holds of all that came, not of what another one leaves.
func TestOf(t *testing.T) {
	l := came(0, 1, 5, 5, 8)
	l[0].Row, l[1].Row, l[2].Row, l[3].Row, l[4].Row = row(whole(7)), row(whole(8)), row(whole(7)), row(whole(9)), row(whole(8))
	wantOf(t, views(all(), all()), l, 8, 1, 2, 3, 4, 5)
	wantOf(t, views(all(), length(2)), l, 8, 4, 5)
	wantOf(t, views(length(3), length(2)), l, 8, 4, 5)
	wantOf(t, views(length(4), unique(0)), l, 8, 3, 4, 5)
	wantOf(t, views(length(2), unique(0)), l, 8, 4, 5)
	wantOf(t, views(first(), unique(0)), l, 8)
	wantOf(t, views(first(), last()), l, 8)
	wantOf(t, views(first(), last()), l[:1], 8, 1)
	wantOf(t, views(first(), sorted(2, 0)), l, 8, 1)
	wantOf(t, views(sorted(2, 0), last()), l, 8)
	wantOf(t, views(sorted(2, 0), time(4)), l, 8, 3)
	wantOf(t, views(time(4), lengthBatch(2)), l, 8, 3, 4)
	wantOf(t, views(time(3), lengthBatch(2)), l, 8)
	wantOf(t, views(sortedDesc(3, 0), time(4), unique(0)), l, 8, 4, 5)
	wantOf(t, views(sortedDesc(3, 0), time(4), unique(0), last()), l, 8, 5)
	wantOf(t, views(sortedDesc(3, 0), time(4), unique(0), last(), all(), length(1)), l, 8, 5)
	wantOf(t, views(timeBatch(4), length(4)), l, 8, 3, 4)
	wantOf(t, views(timeBatch(4), length(2)), l, 8, 4)
	wantOf(t, views(timeBatch(8), unique(0)), l, 8, 3, 4)
	wantOf(t, views(timeBatch(9), all()), l, 8)
}

// Promise 15.3: the same view twice holds what it holds.
func TestOfOneTwice(t *testing.T) {
	l := came(0, 1, 5, 5, 8)
	wantOf(t, views(length(2), length(2)), l, 8, 4, 5)
	wantOf(t, views(last(), last(), last()), l, 8, 5)
	wantOf(t, views(time(4), unique(0), time(4)), l, 8, 3, 4, 5)
}

// Promise 15.3: one that Check refuses lets nothing be held, wherever it stands.
func TestOfRefused(t *testing.T) {
	l := came(0, 1, 5)
	for _, bad := range views(api.ViewSpec{}, length(0), time(api.MaxTime+1), unique(1), unique(0, 0), unique(), sorted(1, 1), api.ViewSpec{Kind: api.ViewAll, N: 1}) {
		wantOf(t, views(bad), l, 5)
		wantOf(t, views(bad, bad), l, 5)
		wantOf(t, views(bad, all()), l, 5)
		wantOf(t, views(all(), bad), l, 5)
		wantOf(t, views(all(), bad, length(2)), l, 5)
	}
}

// Promise 15.3: the first of a view of time to leave says when it changes.
func TestNextOfTime(t *testing.T) {
	l := came(0, 0, 3, 3, 9)
	wantNext(t, views(time(1)), l, 9, 10)
	wantNoNext(t, views(time(1)), l, 10)
	wantNext(t, views(time(6)), l, 9, 15)
	wantNext(t, views(time(7)), l, 9, 10)
	wantNext(t, views(time(10)), l, 9, 10)
	wantNext(t, views(time(10)), l, 10, 13)
	wantNext(t, views(time(10)), l, 12, 13)
	wantNext(t, views(time(10)), l, 13, 19)
	wantNext(t, views(time(10)), l, 18, 19)
	wantNoNext(t, views(time(10)), l, 19)
	wantNoNext(t, views(time(10)), l, math.MaxInt)
	wantNext(t, views(time(10)), l[:4], 3, 10)
	wantNext(t, views(time(api.MaxTime)), l, 9, api.MaxTime)
	wantNext(t, views(time(api.MaxTime)), l, api.MaxTime, api.MaxTime+3)
	wantNext(t, views(time(api.MaxTime)), came(api.MaxTime), api.MaxTime, 2*api.MaxTime)
	wantNoNext(t, views(time(api.MaxTime)), came(api.MaxTime), 2*api.MaxTime)
}

// Promise 15.3: batches of time turn while there is something in them, or was.
func TestNextOfTimeBatch(t *testing.T) {
	l := came(3, 3, 7, 8, 12, 13, 30)
	wantNext(t, views(timeBatch(5)), l[:2], 3, 8)
	wantNext(t, views(timeBatch(5)), l[:3], 7, 8)
	wantNext(t, views(timeBatch(5)), l[:3], 8, 13)
	wantNext(t, views(timeBatch(5)), l[:3], 12, 13)
	wantNoNext(t, views(timeBatch(5)), l[:3], 13)
	wantNext(t, views(timeBatch(5)), l[:4], 8, 13)
	wantNext(t, views(timeBatch(5)), l[:4], 13, 18)
	wantNext(t, views(timeBatch(5)), l[:4], 17, 18)
	wantNoNext(t, views(timeBatch(5)), l[:4], 18)
	wantNext(t, views(timeBatch(5)), l[:6], 13, 18)
	wantNext(t, views(timeBatch(5)), l[:6], 18, 23)
	wantNoNext(t, views(timeBatch(5)), l[:6], 23)
	wantNext(t, views(timeBatch(5)), l, 30, 33)
	wantNext(t, views(timeBatch(5)), l, 33, 38)
	wantNext(t, views(timeBatch(5)), l, 37, 38)
	wantNoNext(t, views(timeBatch(5)), l, 38)
	wantNoNext(t, views(timeBatch(5)), l, math.MaxInt)
	wantNext(t, views(timeBatch(1)), l, 30, 31)
	wantNext(t, views(timeBatch(1)), l, 31, 32)
	wantNoNext(t, views(timeBatch(1)), l, 32)
	wantNext(t, views(timeBatch(api.MaxTime)), l, 30, api.MaxTime+3)
	wantNext(t, views(timeBatch(api.MaxTime)), l, api.MaxTime+3, 2*api.MaxTime+3)
	wantNext(t, views(timeBatch(api.MaxTime)), came(api.MaxTime), api.MaxTime, 2*api.MaxTime)
	wantNext(t, views(timeBatch(api.MaxTime)), came(api.MaxTime), 2*api.MaxTime, 3*api.MaxTime)
	wantNoNext(t, views(timeBatch(api.MaxTime)), came(api.MaxTime), 3*api.MaxTime)
}

// Promise 15.3: the others never change by time alone.
func TestNextOfWhatNeverChanges(t *testing.T) {
	l := came(0, 1, 5)
	for _, v := range samples() {
		if v.Kind == api.ViewTime || v.Kind == api.ViewTimeBatch {
			continue
		}
		for _, now := range []int{5, 6, api.MaxTime, math.MaxInt} {
			wantNoNext(t, views(v), l, now)
			wantNoNext(t, views(v, all(), v), l, now)
		}
	}
}

// Promise 15.3: the least time at which any of the views changes, though what all of them hold may not.
func TestNextOfMany(t *testing.T) {
	l := came(0, 1, 5)
	wantNext(t, views(time(5), time(7)), l, 5, 6)
	wantNext(t, views(time(7), time(5)), l, 5, 6)
	wantNext(t, views(time(7), timeBatch(10)), l, 5, 7)
	wantNext(t, views(timeBatch(10), time(20)), l, 5, 10)
	wantNext(t, views(all(), timeBatch(10), last()), l, 5, 10)
	wantNext(t, views(first(), time(5)), l, 5, 6)
	wantNext(t, views(time(5), first(), last()), l, 8, 10)
	wantNext(t, views(time(3), timeBatch(9)), l, 8, 9)
	wantNext(t, views(time(3), timeBatch(9)), l, 9, 18)
	wantNoNext(t, views(time(3), timeBatch(9)), l, 18)
	wantOf(t, views(first(), time(5)), l, 5)
	wantOf(t, views(first(), time(5)), l, 6)
}

// Promise 15.3: one that Check refuses holds nothing at any time, and the others change as they do.
func TestNextOfRefused(t *testing.T) {
	l := came(0, 1, 5)
	for _, bad := range views(api.ViewSpec{}, time(0), time(-3), time(api.MaxTime+1), timeBatch(0), timeBatch(api.MaxTime+1), api.ViewSpec{Kind: api.ViewTime, N: 1, Desc: true}, api.ViewSpec{Kind: api.ViewTimeBatch, N: 1, Cols: []int{0}}, unique(1)) {
		wantNoNext(t, views(bad), l, 5)
		wantNoNext(t, views(bad, all(), bad), l, 5)
		wantNext(t, views(bad, time(5)), l, 5, 6)
		wantNext(t, views(time(5), bad), l, 5, 6)
		wantNext(t, views(time(7), bad, timeBatch(6)), l, 5, 6)
	}
}
