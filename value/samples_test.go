package value_test

import (
	"math"
	"strings"

	"marquee/api"
)

var (
	null = api.Value{Kind: api.KindNull}
	yes  = api.Value{Kind: api.KindBool, N: 1}
	no   = api.Value{Kind: api.KindBool, N: 0}
)

func whole(n int) api.Value { return api.Value{Kind: api.KindInt, N: n} }

func dec(n int) api.Value { return api.Value{Kind: api.KindDec, N: n} }

func text(s string) api.Value { return api.Value{Kind: api.KindText, Text: s} }

// goodValues may be.
func goodValues() []api.Value {
	l := []api.Value{null, no, yes}
	for _, n := range []int{
		math.MinInt, math.MinInt + 1, math.MinInt / api.Scale, math.MinInt/api.Scale - 1,
		-10001, -10000, -9999, -2, -1, 0, 1, 2, 9, 10, 100, 5000, 9999, 10000, 10001, 12340, 15000, 20000, 100000,
		math.MaxInt / api.Scale, math.MaxInt/api.Scale + 1, math.MaxInt - 1, math.MaxInt,
	} {
		l = append(l, whole(n), dec(n))
	}
	for _, n := range []int{-2, -1, 0, 1, 2, math.MaxInt / api.Scale, math.MinInt / api.Scale} {
		l = append(l, dec(n*api.Scale+3), dec(n*api.Scale-3))
	}
	for _, s := range []string{
		"", "a", "A", "aa", "ab", "b", "'", "''", "it's", "'a'", "null", "true", "false", "1", "1.0", "-1",
		" ", "\x00", "\n", "é", "\u20ac", "\U0001f600", "\ufffd", "z", "\u007f",
		strings.Repeat("a", api.MaxText), strings.Repeat("é", api.MaxText/2), strings.Repeat("'", api.MaxText),
	} {
		l = append(l, text(s))
	}
	return l
}

// badValues may not be.
func badValues() []api.Value {
	return []api.Value{
		{Kind: api.KindNull, N: 1},
		{Kind: api.KindNull, N: -1},
		{Kind: api.KindNull, Text: "a"},
		{Kind: api.KindBool, N: 2},
		{Kind: api.KindBool, N: -1},
		{Kind: api.KindBool, N: math.MinInt},
		{Kind: api.KindBool, N: math.MaxInt},
		{Kind: api.KindBool, N: 0, Text: "a"},
		{Kind: api.KindBool, N: 1, Text: "a"},
		{Kind: api.KindInt, N: 1, Text: "a"},
		{Kind: api.KindInt, N: 0, Text: "\xff"},
		{Kind: api.KindDec, N: 1, Text: "a"},
		{Kind: api.KindDec, N: 0, Text: "0"},
		{Kind: api.KindText, N: 1, Text: "a"},
		{Kind: api.KindText, N: -1},
		text("\xff"),
		text("\x80"),
		text("a\xc3"),
		text("\xc0\x80"),
		text("\xed\xa0\x80"),
		text("\xf4\x90\x80\x80"),
		text(strings.Repeat("a", api.MaxText-1) + "\xff"),
		text(strings.Repeat("a", api.MaxText+1)),
		text(strings.Repeat("é", api.MaxText/2) + "a"),
		{Kind: -1},
		{Kind: 5},
		{Kind: 9},
		{Kind: 5, N: 1},
		{Kind: 5, N: -1},
		{Kind: 5, Text: "a"},
		{Kind: 5, N: 1, Text: "a"},
		{Kind: -1, N: 1, Text: "b"},
		{Kind: math.MinInt},
		{Kind: math.MaxInt},
	}
}

func allValues() []api.Value { return append(goodValues(), badValues()...) }
