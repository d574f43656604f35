package key_test

import (
	"math"
	"strings"

	"marquee/api"
)

var (
	null = api.Value{Kind: api.KindNull}
	yes  = api.Value{Kind: api.KindBool, N: 1}
	no   = api.Value{Kind: api.KindBool, N: 0}
)

func whole(n int) api.Value { return api.Value{Kind: api.KindInt, N: n} }

func dec(n int) api.Value { return api.Value{Kind: api.KindDec, N: n} }

func text(s string) api.Value { return api.Value{Kind: api.KindText, Text: s} }

func row(l ...api.Value) []api.Value { return l }

// longest is the greatest text that may be.
func longest() string { return strings.Repeat("a", api.MaxText) }

// goodValues may be; no two of them are the same.
func goodValues() []api.Value {
	return []api.Value{
		null, no, yes,
		whole(0), whole(1), whole(-1), whole(255), whole(256), whole(1<<32 + 7), whole(10000), whole(math.MinInt), whole(math.MaxInt),
		dec(0), dec(1), dec(-1), dec(255), dec(10000), dec(math.MinInt), dec(math.MaxInt),
		text(""), text("A"), text("a"), text("ab"), text("it's"), text("é"), text("\x00"), text("\x00\x00"), text("\x04\x00\x00"),
		text(strings.Repeat("b", 255)), text(strings.Repeat("b", 256)), text(strings.Repeat("b", 257)), text(longest()),
	}
}

// badValues may not be.
func badValues() []api.Value {
	return []api.Value{
		{Kind: api.KindNull, N: 1},
		{Kind: api.KindNull, Text: "a"},
		{Kind: api.KindBool, N: 2},
		{Kind: api.KindBool, N: -1},
		{Kind: api.KindBool, N: 256},
		{Kind: api.KindBool, N: 257},
		{Kind: api.KindBool, N: 1, Text: "a"},
		{Kind: api.KindInt, N: 1, Text: "a"},
		{Kind: api.KindDec, N: 1, Text: "a"},
		{Kind: api.KindText, N: 1, Text: "a"},
		text("\xff"),
		text("a\xc3"),
		text(longest() + "a"),
		text(strings.Repeat("a", 1<<16)),
		text(strings.Repeat("a", 1<<16+1)),
		{Kind: -1},
		{Kind: 5},
		{Kind: 9, N: 1},
		{Kind: 256},
		{Kind: 258, N: 1},
		{Kind: 260, Text: "a"},
		{Kind: -252},
		{Kind: math.MinInt},
		{Kind: math.MaxInt, Text: "a"},
	}
}

// goodRows are all rows of at most two values that may be, and some longer ones; no two of them are the same.
func goodRows() [][]api.Value {
	l := [][]api.Value{{}}
	for _, a := range goodValues() {
		l = append(l, row(a))
		for _, b := range goodValues() {
			l = append(l, row(a, b))
		}
	}
	return append(l,
		row(null, null, null),
		row(null, yes, whole(1), text("ab")),
		row(text(""), text(""), text("")),
		row(text("a"), text("b"), text("c")),
		row(text("ab"), text(""), text("c")),
		goodValues(),
		append(goodValues(), goodValues()...),
		make([]api.Value, 1000))
}

// badRows may not be, each because of one value.
func badRows() [][]api.Value {
	var l [][]api.Value
	for _, v := range badValues() {
		l = append(l, row(v), row(v, yes), row(yes, v), row(null, v, null), append(goodValues(), v))
	}
	return l
}
