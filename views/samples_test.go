package views_test

import (
	"math"
	"slices"
	"testing"

	"marquee/api"
	"marquee/schema"
	"marquee/views"
)

// edges are numbers that may be handed in as any number.
var edges = []int{math.MinInt, math.MinInt + 1, -1 << 40, -2, -1, 0, 1, 2, 1 << 40, 1<<40 + 1, math.MaxInt - 1, math.MaxInt}

// kinds are all kinds of views.
var kinds = []int{api.ViewAll, api.ViewLength, api.ViewTime, api.ViewLengthBatch, api.ViewTimeBatch, api.ViewUnique, api.ViewSorted, api.ViewLast, api.ViewFirst}

var null = api.Value{Kind: api.KindNull}

func whole(n int) api.Value { return api.Value{Kind: api.KindInt, N: n} }

func dec(n int) api.Value { return api.Value{Kind: api.KindDec, N: n} }

func truth(n int) api.Value { return api.Value{Kind: api.KindBool, N: n} }

func text(s string) api.Value { return api.Value{Kind: api.KindText, Text: s} }

func row(values ...api.Value) []api.Value { return values }

func all() api.ViewSpec { return api.ViewSpec{Kind: api.ViewAll} }

func last() api.ViewSpec { return api.ViewSpec{Kind: api.ViewLast} }

func first() api.ViewSpec { return api.ViewSpec{Kind: api.ViewFirst} }

func length(n int) api.ViewSpec { return api.ViewSpec{Kind: api.ViewLength, N: n} }

func time(n int) api.ViewSpec { return api.ViewSpec{Kind: api.ViewTime, N: n} }

func lengthBatch(n int) api.ViewSpec { return api.ViewSpec{Kind: api.ViewLengthBatch, N: n} }

func timeBatch(n int) api.ViewSpec { return api.ViewSpec{Kind: api.ViewTimeBatch, N: n} }

func unique(cols ...int) api.ViewSpec { return api.ViewSpec{Kind: api.ViewUnique, Cols: cols} }

func sorted(n, col int) api.ViewSpec {
	return api.ViewSpec{Kind: api.ViewSorted, N: n, Cols: []int{col}}
}

func sortedDesc(n, col int) api.ViewSpec {
	return api.ViewSpec{Kind: api.ViewSorted, N: n, Cols: []int{col}, Desc: true}
}

func specs(l ...api.ViewSpec) []api.ViewSpec { return l }

// samples are one view of each kind, that rows of two columns may have.
func samples() []api.ViewSpec {
	return specs(all(), length(3), time(4), lengthBatch(2), timeBatch(3), unique(0), sorted(2, 0), sortedDesc(2, 1), last(), first())
}

func at(seq, time int, values ...api.Value) api.Arrival {
	return api.Arrival{Seq: seq, Time: time, Row: values}
}

func seqs(l []api.Arrival) []int {
	var s []int
	for _, a := range l {
		s = append(s, a.Seq)
	}
	return s
}

func sameArrival(a, b api.Arrival) bool {
	return a.Seq == b.Seq && a.Time == b.Time && schema.SameRow(a.Row, b.Row)
}

func sameArrivals(a, b []api.Arrival) bool { return slices.EqualFunc(a, b, sameArrival) }

func deepCopy(l []api.Arrival) []api.Arrival {
	var fresh []api.Arrival
	for _, a := range l {
		a.Row = append([]api.Value(nil), a.Row...)
		fresh = append(fresh, a)
	}
	return fresh
}

// run is a set whose calls are held against what is wanted; came are all arrivals that it was given, by their Seqs.
type run struct {
	t    *testing.T
	set  *views.Set
	came map[int]api.Arrival
}

func start(t *testing.T, columns int, together ...api.ViewSpec) *run {
	t.Helper()
	set := views.New(together, columns)
	if set == nil {
		t.Fatalf("New(%v, %d): nil", together, columns)
	}
	return &run{t, set, map[int]api.Arrival{}}
}

func in(seqs ...int) []int { return seqs }

func out(seqs ...int) []int { return seqs }

// those are the arrivals with these Seqs.
func (r *run) those(seqs []int) []api.Arrival {
	var l []api.Arrival
	for _, seq := range seqs {
		l = append(l, r.came[seq])
	}
	return l
}

func (r *run) wantDelta(what string, got api.Delta, in, out []int) {
	r.t.Helper()
	if !sameArrivals(got.In, r.those(in)) || !sameArrivals(got.Out, r.those(out)) {
		r.t.Errorf("%s: %v, want in %v, out %v", what, got, in, out)
	}
}

func (r *run) add(a api.Arrival, in, out []int) {
	r.t.Helper()
	r.came[a.Seq] = a
	r.wantDelta("Add of "+show(a), r.set.Add(a), in, out)
}

// refuse: a is not taken, and nothing is told.
func (r *run) refuse(a api.Arrival) {
	r.t.Helper()
	was := r.set.Content()
	next, found := r.set.Next()
	r.wantDelta("Add of "+show(a), r.set.Add(a), nil, nil)
	if !sameArrivals(r.set.Content(), was) || r.set.Len() != len(was) {
		r.t.Errorf("behind the Add of %s: %v, want %v", show(a), r.set.Content(), was)
	}
	if at, ok := r.set.Next(); at != next || ok != found {
		r.t.Errorf("behind the Add of %s: Next is %d, %v, want %d, %v", show(a), at, ok, next, found)
	}
}

func (r *run) advance(now int, in, out []int) {
	r.t.Helper()
	r.wantDelta("Advance", r.set.Advance(now), in, out)
}

func (r *run) holds(seqs ...int) {
	r.t.Helper()
	if got := r.set.Content(); !sameArrivals(got, r.those(seqs)) {
		r.t.Errorf("Content: %v, want %v", got, seqs)
	}
	if got := r.set.Len(); got != len(seqs) {
		r.t.Errorf("Len: %d, want %d", got, len(seqs))
	}
}

func (r *run) next(want int) {
	r.t.Helper()
	if got, ok := r.set.Next(); got != want || !ok {
		r.t.Errorf("Next: %d, %v, want %d", got, ok, want)
	}
}

func (r *run) noNext() {
	r.t.Helper()
	if got, ok := r.set.Next(); got != 0 || ok {
		r.t.Errorf("Next: %d, %v, want none", got, ok)
	}
}
