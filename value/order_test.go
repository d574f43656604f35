package value_test

import (
	"cmp"
	"math"
	"testing"

	"marquee/api"
	"marquee/value"
)

// risingClasses: the values of one class are the same to Order, and each class stands ahead of the next.
func risingClasses() [][]api.Value {
	return [][]api.Value{
		{null, {N: 1}, {N: math.MinInt}, {Text: "a"}},
		{{Kind: api.KindBool, N: -1}},
		{no, {Kind: api.KindBool, N: 0, Text: "a"}},
		{yes},
		{{Kind: api.KindBool, N: 2}},
		{whole(math.MinInt)},
		{whole(math.MinInt/api.Scale - 1)},
		{dec(math.MinInt)},
		{whole(math.MinInt / api.Scale)},
		{dec(-10001)},
		{whole(-1)},
		{dec(-10000)},
		{dec(-9999)},
		{dec(-1)},
		{whole(0), {Kind: api.KindInt, Text: "a"}},
		{dec(0), {Kind: api.KindDec, Text: "a"}},
		{dec(1)},
		{whole(1)},
		{dec(10000)},
		{dec(15000)},
		{whole(2)},
		{whole(10000)},
		{whole(math.MaxInt / api.Scale)},
		{dec(math.MaxInt)},
		{whole(math.MaxInt/api.Scale + 1)},
		{whole(math.MaxInt)},
		{text(""), {Kind: api.KindText, N: 1}},
		{text("1")},
		{text("A")},
		{text("a")},
		{text("ab")},
		{text("b"), {Kind: api.KindText, N: -1, Text: "b"}},
		{text("é")},
		{text("\xff")},
		{{Kind: math.MinInt, N: 9, Text: "z"}},
		{{Kind: -1}},
		{{Kind: 5, N: math.MinInt, Text: "b"}},
		{{Kind: 5, N: -1}},
		{{Kind: 5}},
		{{Kind: 5, Text: "a"}},
		{{Kind: 5, Text: "b"}},
		{{Kind: 5, N: 1}},
		{{Kind: 5, N: math.MaxInt}},
		{{Kind: 6}},
		{{Kind: math.MaxInt, N: -1}},
	}
}

// Promise 1.4.
func TestOrder(t *testing.T) {
	classes := risingClasses()
	for i, l := range classes {
		for j, m := range classes {
			for _, a := range l {
				for _, b := range m {
					if got := value.Order(a, b); got != cmp.Compare(i, j) {
						t.Errorf("Order(%#v, %#v): %d, want %d", a, b, got, cmp.Compare(i, j))
					}
				}
			}
		}
	}
}

// Promise 1.4: the chapter's examples.
func TestOrderExamples(t *testing.T) {
	if got := value.Order(null, text("a")); got != -1 {
		t.Errorf("Order(null, 'a'): %d", got)
	}
	if got := value.Order(whole(1), dec(10000)); got != -1 {
		t.Errorf("Order(1, 1.0): %d", got)
	}
}
