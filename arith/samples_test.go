package arith_test

import (
	"math"
	"testing"

	"marquee/api"
	"marquee/arith"
)

const (
	least    = math.MinInt
	greatest = math.MaxInt
	// The farthest whole numbers that as decs do not leave an int.
	leastWhole    = math.MinInt / api.Scale
	greatestWhole = math.MaxInt / api.Scale
)

var null = api.Value{Kind: api.KindNull}

func whole(n int) api.Value { return api.Value{Kind: api.KindInt, N: n} }

func dec(n int) api.Value { return api.Value{Kind: api.KindDec, N: n} }

func text(s string) api.Value { return api.Value{Kind: api.KindText, Text: s} }

type one func(a api.Value) (api.Value, api.Errno)

type two func(a, b api.Value) (api.Value, api.Errno)

func ones() map[string]one {
	return map[string]one{"Neg": arith.Neg, "Dec": arith.Dec, "Int": arith.Int}
}

func twos() map[string]two {
	return map[string]two{"Add": arith.Add, "Sub": arith.Sub, "Mul": arith.Mul, "Div": arith.Div, "Mod": arith.Mod}
}

// edges are numbers about which something just leaves an int, or just does not.
func edges() []int {
	return []int{
		least, least + 1, least + 2, least / 2, least/2 - 1, least/2 + 1,
		leastWhole - 1, leastWhole, leastWhole + 1,
		-1 << 32, -3037000500, -3037000499, -100000, -20001, -20000, -19999, -15000, -10001, -10000, -9999, -5000, -7, -3, -2, -1,
		0, 1, 2, 3, 7, 5000, 9999, 10000, 10001, 15000, 19999, 20000, 25000, 30000, 75000, 3037000499, 3037000500, 1 << 32,
		greatestWhole - 1, greatestWhole, greatestWhole + 1,
		greatest/2 - 1, greatest / 2, greatest/2 + 1, greatest - 1, greatest,
	}
}

func numbers() []api.Value {
	var l []api.Value
	for _, n := range edges() {
		l = append(l, whole(n), dec(n))
	}
	return l
}

// nulls are all of KindNull; but for the first they may not be, yet Kind and N alone play a part.
func nulls() []api.Value {
	return []api.Value{null, {Kind: api.KindNull, N: 5}, {Kind: api.KindNull, Text: "a"}}
}

// strangers are neither numbers nor null.
func strangers() []api.Value {
	return []api.Value{
		{Kind: api.KindBool}, {Kind: api.KindBool, N: 1}, {Kind: api.KindBool, N: 7},
		text(""), text("a"), text("1"), {Kind: api.KindText, N: 1}, text("\xff"),
		{Kind: -1}, {Kind: 5}, {Kind: 5, N: 1, Text: "a"}, {Kind: least}, {Kind: greatest},
	}
}

type rowOne struct {
	a    api.Value
	want api.Value
	err  api.Errno
}

type rowTwo struct {
	a, b api.Value
	want api.Value
	err  api.Errno
}

func checkOne(t *testing.T, name string, f one, rows []rowOne) {
	t.Helper()
	for _, r := range rows {
		if v, e := f(r.a); v != r.want || e != r.err {
			t.Errorf("%s(%#v): %#v, %d, want %#v, %d", name, r.a, v, e, r.want, r.err)
		}
	}
}

func checkTwo(t *testing.T, name string, f two, rows []rowTwo) {
	t.Helper()
	for _, r := range rows {
		if v, e := f(r.a, r.b); v != r.want || e != r.err {
			t.Errorf("%s(%#v, %#v): %#v, %d, want %#v, %d", name, r.a, r.b, v, e, r.want, r.err)
		}
	}
}
