package funcs_test

import (
	"math"
	"slices"
	"strings"
	"testing"

	"marquee/api"
	"marquee/funcs"
)

const (
	leastInt    = math.MinInt
	greatestInt = math.MaxInt
	// The farthest whole numbers that as decs do not leave an int.
	leastWhole    = math.MinInt / api.Scale
	greatestWhole = math.MaxInt / api.Scale
)

var (
	null = api.Value{Kind: api.KindNull}
	yes  = api.Value{Kind: api.KindBool, N: 1}
	no   = api.Value{Kind: api.KindBool, N: 0}
)

func whole(n int) api.Value { return api.Value{Kind: api.KindInt, N: n} }

func dec(n int) api.Value { return api.Value{Kind: api.KindDec, N: n} }

func text(s string) api.Value { return api.Value{Kind: api.KindText, Text: s} }

// long answers a text of n bytes.
func long(n int) api.Value { return text(strings.Repeat("x", n)) }

func list(l ...api.Value) []api.Value { return l }

// call is a call with what it must answer; an error has no value beside it.
type call struct {
	name string
	args []api.Value
	want api.Value
	err  api.Errno
}

func good(want api.Value, name string, args ...api.Value) call {
	return call{name, args, want, api.OK}
}

func bad(err api.Errno, name string, args ...api.Value) call {
	return call{name, args, null, err}
}

func checkCalls(t *testing.T, calls ...call) {
	t.Helper()
	for _, c := range calls {
		if v, e := funcs.Call(c.name, c.args); v != c.want || e != c.err {
			t.Errorf("%s(%#v): %#v, %d, want %#v, %d", c.name, c.args, v, e, c.want, c.err)
		}
	}
}

// numberEdges are numbers about which something changes or just leaves an int.
func numberEdges() []int {
	return []int{
		leastInt, leastInt + 1, leastWhole - 1, leastWhole, leastWhole + 1,
		-25001, -25000, -24999, -20000, -19999, -15000, -10001, -10000, -9999, -5001, -5000, -4999, -2, -1,
		0, 1, 2, 4999, 5000, 5001, 9999, 10000, 10001, 15000, 19999, 20000, 24999, 25000, 25001,
		greatestWhole - 1, greatestWhole, greatestWhole + 1, greatestInt - 1, greatestInt,
	}
}

func numbers() []api.Value {
	var l []api.Value
	for _, n := range numberEdges() {
		l = append(l, whole(n), dec(n))
	}
	return l
}

// texts have runes of one to four bytes, all that lies about the letters, and blanks and other white signs.
func texts() []api.Value {
	var l []api.Value
	for _, s := range []string{
		"", "a", "Z", "az", "AZ", "@[`{", "aZ9", "it's", "true", "1.5",
		"é", "É", "aä", "ß", "日本", "a日É😀z", "😀", "\u0000", "\ufffd", "\u212a", "\u0131",
		" ", "   ", " a", "a ", "  a b ", "\t", "\ta\t", " \t ", "\n \n", "\u00a0", "\u00a0a\u00a0", " \u3000 ",
	} {
		l = append(l, text(s))
	}
	return append(l, long(api.MaxText), long(api.MaxText-1), text(strings.Repeat("é", api.MaxText/2)))
}

func goodValues() []api.Value {
	return slices.Concat(list(null, no, yes), numbers(), texts())
}

// badValues are of a kind, but may not be.
func badValues() []api.Value {
	return []api.Value{
		{Kind: api.KindNull, N: 1}, {Kind: api.KindNull, Text: "a"},
		{Kind: api.KindBool, N: 2}, {Kind: api.KindBool, N: -1}, {Kind: api.KindBool, N: 1, Text: "a"},
		{Kind: api.KindInt, N: 1, Text: "a"}, {Kind: api.KindDec, N: 1, Text: "a"},
		{Kind: api.KindText, N: 1}, {Kind: api.KindText, N: 1, Text: "a"},
		text("\xff"), text("a\xc3"), text("\xed\xa0\x80"), long(api.MaxText + 1),
	}
}

// kindless are values whose kinds are none.
func kindless() []api.Value {
	return []api.Value{{Kind: -1}, {Kind: 5}, {Kind: 6, N: 1, Text: "a"}, {Kind: leastInt}, {Kind: greatestInt}}
}

// fitting answers argument lists that the functions take, each function with each length and kind that it may have.
func fitting() map[string][][]api.Value {
	number := [][]api.Value{{whole(-7)}, {whole(greatestInt)}, {dec(-15000)}, {dec(leastInt + 1)}}
	letters := [][]api.Value{{text("")}, {text(" aÉ日😀 ")}, {long(api.MaxText)}}
	alike := [][]api.Value{
		{yes}, {no, yes, no}, {whole(1)}, {whole(greatestInt), whole(2)}, {dec(5)}, {dec(leastInt), dec(6), dec(7), dec(8)},
		{whole(1), dec(2)}, {dec(3), whole(4), whole(5)}, {text("b"), text("a")}, {long(api.MaxText), text("")},
	}
	m := map[string][][]api.Value{
		"concat": {{text("a")}, {text("a"), text("b")}, {long(api.MaxText), text("")}, {text("é"), text("日"), text("😀"), text("")}},
		"nullif": {{yes, no}, {whole(1), whole(2)}, {whole(1), dec(2)}, {dec(3), whole(4)}, {dec(5), dec(6)}, {text("a"), text("b")}},
		"substr": {{text("abc"), whole(1), whole(5)}, {text("日本"), whole(leastInt), whole(greatestInt)}},
		"totext": {{yes}, {whole(leastInt)}, {dec(leastInt)}, {long(api.MaxText)}},
	}
	for _, name := range []string{"abs", "ceil", "floor", "round", "sign", "toint"} {
		m[name] = number
	}
	m["todec"] = [][]api.Value{{whole(greatestWhole)}, {dec(leastInt)}}
	for _, name := range []string{"length", "lower", "trim", "upper"} {
		m[name] = letters
	}
	for _, name := range []string{"coalesce", "greatest", "least"} {
		m[name] = alike
	}
	return m
}

// eachFitting goes over all of fitting; what is given is the receiver's own.
func eachFitting(do func(name string, args []api.Value)) {
	for name, lists := range fitting() {
		for _, l := range lists {
			do(name, slices.Clone(l))
		}
	}
}

// with answers a list with a value in a place of it.
func with(l []api.Value, place int, v api.Value) []api.Value {
	l = slices.Clone(l)
	l[place] = v
	return l
}

func kindsOf(l []api.Value) []int {
	var kinds []int
	for _, v := range l {
		kinds = append(kinds, v.Kind)
	}
	return kinds
}
