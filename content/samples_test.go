package content_test

import (
	"math"
	"slices"
	"testing"

	"marquee/api"
	"marquee/content"
	"marquee/schema"
)

// edges are numbers that may be handed in as any number.
var edges = []int{math.MinInt, math.MinInt + 1, -1 << 40, -2, -1, 0, 1, 2, 1 << 40, math.MaxInt - 1, math.MaxInt}

// kinds are all kinds of views.
var kinds = []int{api.ViewAll, api.ViewLength, api.ViewTime, api.ViewLengthBatch, api.ViewTimeBatch, api.ViewUnique, api.ViewSorted, api.ViewLast, api.ViewFirst}

var null = api.Value{Kind: api.KindNull}

func whole(n int) api.Value { return api.Value{Kind: api.KindInt, N: n} }

func dec(n int) api.Value { return api.Value{Kind: api.KindDec, N: n} }

func truth(n int) api.Value { return api.Value{Kind: api.KindBool, N: n} }

func text(s string) api.Value { return api.Value{Kind: api.KindText, Text: s} }

func row(values ...api.Value) []api.Value { return values }

func all() api.ViewSpec { return api.ViewSpec{Kind: api.ViewAll} }

func last() api.ViewSpec { return api.ViewSpec{Kind: api.ViewLast} }

func first() api.ViewSpec { return api.ViewSpec{Kind: api.ViewFirst} }

func length(n int) api.ViewSpec { return api.ViewSpec{Kind: api.ViewLength, N: n} }

func time(n int) api.ViewSpec { return api.ViewSpec{Kind: api.ViewTime, N: n} }

func lengthBatch(n int) api.ViewSpec { return api.ViewSpec{Kind: api.ViewLengthBatch, N: n} }

func timeBatch(n int) api.ViewSpec { return api.ViewSpec{Kind: api.ViewTimeBatch, N: n} }

func unique(cols ...int) api.ViewSpec { return api.ViewSpec{Kind: api.ViewUnique, Cols: cols} }

func sorted(n, col int) api.ViewSpec {
	return api.ViewSpec{Kind: api.ViewSorted, N: n, Cols: []int{col}}
}

func sortedDesc(n, col int) api.ViewSpec {
	return api.ViewSpec{Kind: api.ViewSorted, N: n, Cols: []int{col}, Desc: true}
}

func views(l ...api.ViewSpec) []api.ViewSpec { return l }

// came are arrivals at those times, with Seqs from 1 on, each with its Seq as its row.
func came(times ...int) []api.Arrival {
	var l []api.Arrival
	for i, at := range times {
		l = append(l, api.Arrival{Seq: i + 1, Time: at, Row: row(whole(i + 1))})
	}
	return l
}

// with are arrivals at 0, with Seqs from 1 on, of those rows.
func with(rows ...[]api.Value) []api.Arrival {
	l := came(make([]int, len(rows))...)
	for i := range rows {
		l[i].Row = rows[i]
	}
	return l
}

// column is arrivals at 0 of one value each.
func column(values ...api.Value) []api.Arrival {
	var rows [][]api.Value
	for _, v := range values {
		rows = append(rows, row(v))
	}
	return with(rows...)
}

func inOrder(l []int) []int { return slices.Sorted(slices.Values(l)) }

func seqs(l []api.Arrival) []int {
	var s []int
	for _, a := range l {
		s = append(s, a.Seq)
	}
	return s
}

// from are the numbers from one to another.
func from(a, b int) []int {
	var l []int
	for i := a; i <= b; i++ {
		l = append(l, i)
	}
	return l
}

func sameArrival(a, b api.Arrival) bool {
	return a.Seq == b.Seq && a.Time == b.Time && schema.SameRow(a.Row, b.Row)
}

func sameArrivals(a, b []api.Arrival) bool { return slices.EqualFunc(a, b, sameArrival) }

// those are the arrivals of l with these Seqs.
func those(l []api.Arrival, seqs ...int) []api.Arrival {
	asked := map[int]bool{}
	for _, seq := range seqs {
		asked[seq] = true
	}
	var some []api.Arrival
	for _, a := range l {
		if asked[a.Seq] {
			some = append(some, a)
		}
	}
	return some
}

func wantCheck(t *testing.T, v api.ViewSpec, columns int, want api.Errno) {
	t.Helper()
	if got := content.Check(v, columns); got != want {
		t.Errorf("Check(%v, %d): %d, want %d", v, columns, got, want)
	}
}

// wantOne holds One, and Of of that view alone.
func wantOne(t *testing.T, v api.ViewSpec, l []api.Arrival, now int, want ...int) {
	t.Helper()
	if got := content.One(v, l, now); !sameArrivals(got, those(l, want...)) || len(got) != len(want) {
		t.Errorf("One(%v, %v, %d): %v, want %v", v, l, now, seqs(got), want)
	}
	wantOf(t, views(v), l, now, want...)
}

func wantOf(t *testing.T, views []api.ViewSpec, l []api.Arrival, now int, want ...int) {
	t.Helper()
	if got := content.Of(views, l, now); !sameArrivals(got, those(l, want...)) || len(got) != len(want) {
		t.Errorf("Of(%v, %v, %d): %v, want %v", views, l, now, seqs(got), want)
	}
}

func wantNext(t *testing.T, views []api.ViewSpec, l []api.Arrival, now, want int) {
	t.Helper()
	if got, ok := content.Next(views, l, now); got != want || !ok {
		t.Errorf("Next(%v, %v, %d): %d, %v, want %d", views, l, now, got, ok, want)
	}
}

func wantNoNext(t *testing.T, views []api.ViewSpec, l []api.Arrival, now int) {
	t.Helper()
	if got, ok := content.Next(views, l, now); got != 0 || ok {
		t.Errorf("Next(%v, %v, %d): %d, %v, want none", views, l, now, got, ok)
	}
}

func wantDiff(t *testing.T, old, fresh, in, out []api.Arrival) {
	t.Helper()
	got := content.Diff(old, fresh)
	if !sameArrivals(got.In, in) || !sameArrivals(got.Out, out) {
		t.Errorf("Diff(%v, %v): %v, want In %v, Out %v", old, fresh, got, in, out)
	}
}
