package aggs_test

import (
	"testing"

	"marquee/aggs"
	"marquee/api"
)

// Promise 17.1: the seven names, All of count without Distinct alone, Distinct not of first or last.
func TestCheck(t *testing.T) {
	for _, s := range specs() {
		if e := aggs.Check(s); e != api.OK {
			t.Errorf("%v: %d", s, e)
		}
	}
	for _, s := range noSpecs() {
		if e := aggs.Check(s); e != api.ErrAgg {
			t.Errorf("%v: %d", s, e)
		}
	}
	if n := len(specs()); n != 13 {
		t.Errorf("%d are aggregates", n)
	}
}

// Promises 17.1, 17.2, 17.3: what is no aggregate has no kind, makes nothing and is not begun, whatever else is wrong.
func TestNoAggregate(t *testing.T) {
	for _, s := range noSpecs() {
		for kind := -2; kind < 8; kind++ {
			if k, e := aggs.Kind(s, kind); k != 0 || e != api.ErrAgg {
				t.Errorf("Kind of %v and %d: %d, %d", s, kind, k, e)
			}
		}
		for _, l := range [][]api.Value{nil, {}, wholes(1), list(null), list(whole(1), text("a")), wholes(greatest, 1)} {
			if got := of(s, l); got != fails(api.ErrAgg) {
				t.Errorf("%v of %v: %v", s, l, got)
			}
		}
		if a := aggs.New(s); a != nil {
			t.Errorf("New(%v): %v", s, a)
		}
	}
}

const none = -1

// kindsOf are the kinds of what an aggregate makes of values of KindNull, KindBool, KindInt, KindDec, KindText.
func kindsOf(name string) [5]int {
	const i, d = api.KindInt, api.KindDec
	switch name {
	case "count":
		return [5]int{i, i, i, i, i}
	case "sum":
		return [5]int{none, none, i, d, none}
	case "avg":
		return [5]int{none, none, d, d, none}
	}
	return [5]int{none, api.KindBool, i, d, api.KindText}
}

// Promise 17.1: the kind of each aggregate of each kind.
func TestKind(t *testing.T) {
	for _, s := range specs() {
		for kind, want := range kindsOf(s.Name) {
			wantKind(t, s, kind, want)
		}
	}
}

// Promise 17.1: numbers that are no kind have what every kind has: of count KindInt, of all others none.
func TestKindOfNoKind(t *testing.T) {
	for _, s := range specs() {
		want := none
		if s.Name == "count" {
			want = api.KindInt
		}
		for _, kind := range []int{least, -2, -1, 5, 6, 7, 22, greatest} {
			wantKind(t, s, kind, want)
		}
	}
}

func wantKind(t *testing.T, s api.AggSpec, kind, want int) {
	t.Helper()
	e := api.OK
	if want == none {
		want, e = 0, api.ErrKind
	}
	if k, got := aggs.Kind(s, kind); k != want || got != e {
		t.Errorf("Kind of %v and %d: %d, %d, want %d, %d", s, kind, k, got, want, e)
	}
}

// Promises 17.1 and 17.2 together: values of a kind, some of them null, make one of the kind that is told, or null; where none is told, one of them may be an error.
func TestKindIsThatOfTheValue(t *testing.T) {
	c := newChance(3)
	for range 20000 {
		s := c.spec()
		kind := c.Intn(5)
		var l []api.Value
		for range c.Intn(5) {
			l = append(l, c.ofKind(kind), null)
		}
		want, e := aggs.Kind(s, kind)
		got := of(s, l)
		switch {
		case e == api.OK && got.e != api.OK && got.e != api.ErrOver:
			t.Errorf("%v of %v: %v", s, l, got)
		case e == api.OK && got.v.Kind != want && got.v.Kind != api.KindNull:
			t.Errorf("%v of %v: %v, want of kind %d", s, l, got, want)
		case e != api.OK && (s.Name == "sum" || s.Name == "avg") && kind != api.KindNull && len(l) > 0 && got != fails(api.ErrKind):
			t.Errorf("%v of %v: %v", s, l, got)
		}
	}
}
