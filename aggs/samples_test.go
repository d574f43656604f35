package aggs_test

import (
	"math"
	"testing"

	"marquee/aggs"
	"marquee/api"
)

const (
	least    = math.MinInt
	greatest = math.MaxInt
)

// edges are numbers that may be handed in as any number.
var edges = []int{least, least + 1, -10001, -10000, -9999, -2, -1, 0, 1, 2, 3, 9999, 10000, 10001, 15000, greatest - 1, greatest}

var null = api.Value{Kind: api.KindNull}

func whole(n int) api.Value { return api.Value{Kind: api.KindInt, N: n} }

func dec(n int) api.Value { return api.Value{Kind: api.KindDec, N: n} }

func truth(n int) api.Value { return api.Value{Kind: api.KindBool, N: n} }

func text(s string) api.Value { return api.Value{Kind: api.KindText, Text: s} }

// odd is a value of a kind that is none.
func odd(kind int) api.Value { return api.Value{Kind: kind} }

func list(l ...api.Value) []api.Value { return l }

func wholes(l ...int) []api.Value {
	var out []api.Value
	for _, n := range l {
		out = append(out, whole(n))
	}
	return out
}

func decs(l ...int) []api.Value {
	var out []api.Value
	for _, n := range l {
		out = append(out, dec(n))
	}
	return out
}

func plain(name string) api.AggSpec { return api.AggSpec{Name: name} }

func distinct(name string) api.AggSpec { return api.AggSpec{Name: name, Distinct: true} }

func countAll() api.AggSpec { return api.AggSpec{Name: "count", All: true} }

func names() []string { return []string{"count", "sum", "avg", "min", "max", "first", "last"} }

// specs are all that are aggregates.
func specs() []api.AggSpec {
	l := []api.AggSpec{countAll()}
	for _, s := range names() {
		l = append(l, plain(s))
		if s != "first" && s != "last" {
			l = append(l, distinct(s))
		}
	}
	return l
}

// noSpecs are some that are none.
func noSpecs() []api.AggSpec {
	l := []api.AggSpec{distinct("first"), distinct("last"), {Name: "count", Distinct: true, All: true}}
	for _, s := range names()[1:] {
		l = append(l, api.AggSpec{Name: s, All: true}, api.AggSpec{Name: s, Distinct: true, All: true})
	}
	for _, s := range []string{"", "q", "Count", "COUNT", "counts", "coun", " count", "sum ", "mean", "average", "median", "count(*)", "firs", "lasts", "maximum", "min\x00", "\xff", "null", "*"} {
		l = append(l, plain(s), distinct(s), api.AggSpec{Name: s, All: true}, api.AggSpec{Name: s, Distinct: true, All: true})
	}
	return l
}

// answer is what a call tells: a value, or an error beside none.
type answer struct {
	v api.Value
	e api.Errno
}

func ok(v api.Value) answer { return answer{v, api.OK} }

func fails(e api.Errno) answer { return answer{e: e} }

func of(spec api.AggSpec, l []api.Value) answer {
	v, e := aggs.Of(spec, l)
	return answer{v, e}
}

func valueOf(a *aggs.Agg) answer {
	v, e := a.Value()
	return answer{v, e}
}

// stepwise is what an aggregate tells to which the values came one by one.
func stepwise(spec api.AggSpec, l []api.Value) answer {
	a := aggs.New(spec)
	for i, v := range l {
		a.Add(i, v)
	}
	return valueOf(a)
}

// row is a list of values with what is wanted of it.
type row struct {
	l    []api.Value
	want answer
}

// wantOf: each list makes what is wanted, at once and one by one.
func wantOf(t *testing.T, spec api.AggSpec, rows ...row) {
	t.Helper()
	for _, r := range rows {
		if got := of(spec, r.l); got != r.want {
			t.Errorf("%v of %v: %v, want %v", spec, r.l, got, r.want)
		}
		if got := stepwise(spec, r.l); got != r.want {
			t.Errorf("%v of %v, one by one: %v, want %v", spec, r.l, got, r.want)
		}
	}
}

// run is an aggregate whose calls are held against what is wanted.
type run struct {
	t *testing.T
	a *aggs.Agg
}

func start(t *testing.T, spec api.AggSpec) *run {
	t.Helper()
	a := aggs.New(spec)
	if a == nil {
		t.Fatalf("New(%v): nil", spec)
	}
	return &run{t, a}
}

func (r *run) add(seq int, v api.Value) { r.a.Add(seq, v) }

func (r *run) remove(seq int, want bool) {
	r.t.Helper()
	if got := r.a.Remove(seq); got != want {
		r.t.Errorf("Remove(%d): %v, want %v", seq, got, want)
	}
}

// tells: Value and Len, asked twice.
func (r *run) tells(want answer, many int) {
	r.t.Helper()
	for range 2 {
		if got := valueOf(r.a); got != want {
			r.t.Errorf("Value: %v, want %v", got, want)
		}
		if got := r.a.Len(); got != many {
			r.t.Errorf("Len: %d, want %d", got, many)
		}
	}
}
