package content_test

import (
	"math"
	"slices"
	"testing"

	"marquee/api"
	"marquee/content"
)

// Promise 15.1: views that name nothing may be of rows with any columns, or none.
func TestCheckOfBareViews(t *testing.T) {
	for _, v := range views(all(), last(), first()) {
		for _, columns := range append(edges, 3, api.MaxColumns) {
			wantCheck(t, v, columns, api.OK)
			v.Cols = []int{}
			wantCheck(t, v, columns, api.OK)
			for _, n := range edges {
				bad := v
				bad.N = n
				if n != 0 {
					wantCheck(t, bad, columns, api.ErrView)
				}
			}
			bad := v
			bad.Desc = true
			wantCheck(t, bad, columns, api.ErrView)
			bad = v
			bad.Cols = []int{0}
			wantCheck(t, bad, columns, api.ErrView)
			bad.Cols = []int{0, 1}
			wantCheck(t, bad, columns, api.ErrView)
		}
	}
}

// Promise 15.1: N of the views that name it, from 1 to its most.
func TestCheckOfN(t *testing.T) {
	for _, c := range []struct {
		v    api.ViewSpec
		most int
	}{
		{length(0), 1 << 16},
		{lengthBatch(0), 1 << 16},
		{sorted(0, 0), 1 << 16},
		{sortedDesc(0, 1), 1 << 16},
		{time(0), 1 << 40},
		{timeBatch(0), 1 << 40},
	} {
		for _, n := range append(edges, 3, 1000, 1<<16-1, 1<<16, 1<<16+1, 1<<32+1, 1<<40-1, 1<<40+1) {
			want := api.ErrView
			if n >= 1 && n <= c.most {
				want = api.OK
			}
			c.v.N = n
			wantCheck(t, c.v, 2, want)
		}
	}
}

// Promise 15.1: Cols and Desc where the kind does not name them.
func TestCheckOfWhatIsNotNamed(t *testing.T) {
	for _, v := range views(length(1), length(api.MaxSize), time(1), time(api.MaxTime), lengthBatch(3), timeBatch(3)) {
		for _, columns := range append(edges, 3) {
			wantCheck(t, v, columns, api.OK)
			v.Cols = []int{}
			wantCheck(t, v, columns, api.OK)
			bad := v
			bad.Desc = true
			wantCheck(t, bad, columns, api.ErrView)
			bad = v
			bad.Cols = []int{0}
			wantCheck(t, bad, columns, api.ErrView)
			bad.Cols = []int{0, 1}
			wantCheck(t, bad, columns, api.ErrView)
			bad.Desc = true
			wantCheck(t, bad, columns, api.ErrView)
		}
	}
}

// colsCase is Cols, and of how many columns they may be places, if ever: from least on.
type colsCase struct {
	cols  []int
	least int
	ever  bool
}

func colsCases() []colsCase {
	return []colsCase{
		{nil, 0, false},
		{[]int{}, 0, false},
		{[]int{0}, 1, true},
		{[]int{1}, 2, true},
		{[]int{31}, 32, true},
		{[]int{32}, 33, true},
		{[]int{math.MaxInt - 1}, math.MaxInt, true},
		{[]int{math.MaxInt}, 0, false},
		{[]int{-1}, 0, false},
		{[]int{math.MinInt}, 0, false},
		{[]int{0, 1}, 2, true},
		{[]int{1, 0}, 2, true},
		{[]int{0, 2}, 3, true},
		{[]int{2, 0, 1}, 3, true},
		{[]int{5, 1, 3}, 6, true},
		{from(0, 31), 32, true},
		{from(0, 32), 33, true},
		{[]int{0, 0}, 0, false},
		{[]int{1, 1}, 0, false},
		{[]int{0, 1, 0}, 0, false},
		{[]int{1, 0, 0}, 0, false},
		{[]int{2, 1, 0, 1}, 0, false},
		{[]int{0, -1}, 0, false},
		{[]int{-1, 0}, 0, false},
		{[]int{1, -1, 0}, 0, false},
		{[]int{0, math.MinInt, 1}, 0, false},
		{append(from(0, 31), 0), 0, false},
		{append(from(0, 31), 31), 0, false},
	}
}

// Promise 15.1: Cols of a view of unlike ones, and of how many columns.
func TestCheckOfCols(t *testing.T) {
	for _, c := range colsCases() {
		for _, columns := range append(edges, 3, 4, 5, 6, 7, 31, 32, 33, 34) {
			want := api.ErrView
			if c.ever && columns >= c.least {
				want = api.OK
			}
			v := unique(c.cols...)
			wantCheck(t, v, columns, want)
			v.Desc = true
			wantCheck(t, v, columns, api.ErrView)
			for _, n := range edges {
				if n != 0 {
					v = unique(c.cols...)
					v.N = n
					wantCheck(t, v, columns, api.ErrView)
				}
			}
		}
	}
}

// Promise 15.1: a sorted view has just one of them.
func TestCheckOfSorted(t *testing.T) {
	for _, c := range colsCases() {
		for _, columns := range append(edges, 3, 4, 5, 6, 7, 31, 32, 33, 34) {
			want := api.ErrView
			if c.ever && columns >= c.least && len(c.cols) == 1 {
				want = api.OK
			}
			v := api.ViewSpec{Kind: api.ViewSorted, N: 1, Cols: c.cols}
			wantCheck(t, v, columns, want)
			v.Desc = true
			wantCheck(t, v, columns, want)
			v.N = api.MaxSize
			wantCheck(t, v, columns, want)
			v.N++
			wantCheck(t, v, columns, api.ErrView)
			v.N = 0
			wantCheck(t, v, columns, api.ErrView)
		}
	}
}

// Promise 15.1: a kind that there is none of may not be, whatever else is set.
func TestCheckOfNoKind(t *testing.T) {
	for _, kind := range append(edges, 3, 4, 5, 6, 7, 8, 9, 10, 11, 12, 100, 1<<32+1) {
		if slices.Contains(kinds, kind) {
			continue
		}
		for _, v := range samples() {
			v.Kind = kind
			wantCheck(t, v, 5, api.ErrView)
		}
	}
}

// samples are views that may be of five columns, of each kind some.
func samples() []api.ViewSpec {
	return views(all(), last(), first(), length(1), length(3), time(1), time(7), lengthBatch(1), lengthBatch(3),
		timeBatch(1), timeBatch(4), unique(0), unique(4, 0), sorted(1, 0), sorted(3, 4), sortedDesc(2, 1))
}

// Promise 15.1: each of those may be of five columns.
func TestCheckOfSamples(t *testing.T) {
	for _, v := range samples() {
		wantCheck(t, v, 5, api.OK)
	}
}

// Promise 15.1 and R1: very many Cols are looked at soon.
func TestCheckOfVeryMany(t *testing.T) {
	const many = 1 << 20
	cols := from(0, many-1)
	wantVery := func(columns int, want api.Errno) {
		t.Helper()
		if got := content.Check(unique(cols...), columns); got != want {
			t.Errorf("Check for %d columns: %d, want %d", columns, got, want)
		}
	}
	wantVery(many, api.OK)
	wantVery(many-1, api.ErrView)
	slices.Reverse(cols)
	wantVery(many, api.OK)
	cols[many/2] = many - 1
	wantVery(many, api.ErrView)
}
