package value_test

import (
	"math"
	"testing"

	"marquee/api"
	"marquee/value"
)

func trues() []api.Value {
	return []api.Value{
		yes,
		{Kind: api.KindBool, N: 2},
		{Kind: api.KindBool, N: -1},
		{Kind: api.KindBool, N: math.MinInt},
		{Kind: api.KindBool, N: 1, Text: "a"},
	}
}

func falses() []api.Value {
	return []api.Value{no, {Kind: api.KindBool, N: 0, Text: "a"}}
}

func unknowns() []api.Value {
	return []api.Value{
		null, {N: 1}, {Text: "true"},
		whole(0), whole(1), dec(0), dec(10000), text(""), text("true"),
		{Kind: api.KindText, N: 1, Text: "true"},
		{Kind: -1, N: 1}, {Kind: 5}, {Kind: 9, N: 1}, {Kind: math.MinInt, N: 1}, {Kind: math.MaxInt},
	}
}

// like gives the values that logic takes as it takes v.
func like(v api.Value) []api.Value {
	switch v {
	case yes:
		return trues()
	case no:
		return falses()
	}
	return unknowns()
}

// Promise 1.2.
func TestNotAndTrue(t *testing.T) {
	for _, c := range []struct {
		a, not api.Value
		is     bool
	}{{yes, no, true}, {no, yes, false}, {null, null, false}} {
		for _, a := range like(c.a) {
			if got := value.Not(a); got != c.not {
				t.Errorf("Not(%#v): %#v, want %#v", a, got, c.not)
			}
			if got := value.True(a); got != c.is {
				t.Errorf("True(%#v): %v", a, got)
			}
		}
	}
}

// Promise 1.2: the whole table, with each value that counts as one of the three.
func TestAndOr(t *testing.T) {
	for _, c := range []struct{ a, b, and, or api.Value }{
		{no, no, no, no},
		{no, null, no, null},
		{no, yes, no, yes},
		{null, no, no, null},
		{null, null, null, null},
		{null, yes, null, yes},
		{yes, no, no, yes},
		{yes, null, null, yes},
		{yes, yes, yes, yes},
	} {
		for _, a := range like(c.a) {
			for _, b := range like(c.b) {
				if got := value.And(a, b); got != c.and {
					t.Errorf("And(%#v, %#v): %#v, want %#v", a, b, got, c.and)
				}
				if got := value.Or(a, b); got != c.or {
					t.Errorf("Or(%#v, %#v): %#v, want %#v", a, b, got, c.or)
				}
			}
		}
	}
}
