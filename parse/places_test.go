package parse_test

import (
	"math"
	"slices"
	"strings"
	"testing"

	"marquee/api"
	"marquee/parse"
	"marquee/tree"
)

// placed is a source with the At of its trees, in pre-order.
type placed struct {
	s    string
	want []int
}

// Promise 7.1: where each tree stands.
func TestPlaces(t *testing.T) {
	for _, x := range []placed{
		{" 5", []int{1}}, {"  1.5", []int{2}}, {" 'a'", []int{1}}, {" true", []int{1}}, {" false", []int{1}}, {" null", []int{1}}, {"   a", []int{3}},
		{" t . a", []int{1, 1}}, {"-t.a", []int{0, 1, 1}},
		{" f ()", []int{1}}, {" f(a, b)", []int{1, 3, 6}},
		{" count(*)", []int{1}}, {" count( a)", []int{1, 8}}, {" sum(distinct a)", []int{1, 14}},
		{" - a", []int{1, 3}}, {"- -a", []int{0, 2, 3}}, {" not a", []int{1, 5}}, {"not not a", []int{0, 4, 8}},
		{"a + b", []int{2, 0, 4}}, {"a - b", []int{2, 0, 4}}, {"a * b", []int{2, 0, 4}}, {"a / b", []int{2, 0, 4}}, {"a % b", []int{2, 0, 4}},
		{"a = b", []int{2, 0, 4}}, {"a != b", []int{2, 0, 5}}, {"a < b", []int{2, 0, 4}}, {"a <= b", []int{2, 0, 5}}, {"a > b", []int{2, 0, 4}}, {"a >= b", []int{2, 0, 5}},
		{"a and b", []int{2, 0, 6}}, {"a or b", []int{2, 0, 5}}, {"a - b + c", []int{6, 2, 0, 4, 8}}, {"a + b * c", []int{2, 0, 6, 4, 8}}, {"a or b or c", []int{7, 2, 0, 5, 10}},
		{"a is null", []int{2, 0}}, {"a is not null", []int{2, 0}}, {"a between b and c", []int{2, 0, 10, 16}}, {"a in (b, c)", []int{2, 0, 6, 9}},
		{"a not between b and c", []int{2, 6, 0, 14, 20}}, {"a not in (b)", []int{2, 6, 0, 10}}, {"not a in (b)", []int{0, 6, 4, 10}},
		{" case when a then b else c end", []int{1, 11, 18, 25}}, {" case when a then b end", []int{1, 11, 18, 20}}, {"case when a then b when c then d end", []int{0, 10, 17, 24, 31, 33}},
		{"(a)", []int{1}}, {"( ( a ) )", []int{4}}, {"(a + b)", []int{3, 1, 5}}, {"(-a)", []int{1, 2}}, {"-(a)", []int{0, 2}}, {"(a) + (b)", []int{4, 1, 7}}, {"(t.a)", []int{1, 1}}, {"(a) is null", []int{4, 1}}, {"(a) not in ((b))", []int{4, 8, 1, 13}}, {"case when (a) then (b) end", []int{0, 11, 20, 23}},
	} {
		n, _, e := parse.Expr(tokens(t, x.s), 0)
		if got := places(n); e != api.OK || !slices.Equal(got, x.want) {
			t.Errorf("%q: %v, %d, want %v", x.s, got, e, x.want)
		}
	}
}

// Promise 7.1: At is a token's own, whatever it is.
func TestPlacesThatNoSourceHas(t *testing.T) {
	l := tokens(t, "a + b = case when c then d end")
	for i := range l {
		l[i].At = []int{math.MinInt, -1, math.MaxInt, 7, 7, 0, -5, 3, 2, 1, 1 << 40}[i]
	}
	n, end, e := parse.Expr(l, 0)
	if want := []int{7, -1, math.MinInt, math.MaxInt, 7, -5, 2, 1}; e != api.OK || end != len(l) || !slices.Equal(places(n), want) {
		t.Errorf("%v, %d, %d, want %v", places(n), end, e, want)
	}
}

// Promise 7.1: tokens of a kind that rules take, as no source gives them, stand for what they say; a field that their kind does not name plays no part.
func TestFieldsThatPlayNoPart(t *testing.T) {
	for _, x := range []struct {
		token api.Token
		want  api.Node
	}{
		{api.Token{Kind: api.TokenInt, N: -5, Text: "a", At: 1}, api.Node{Kind: api.Int, N: -5, At: 1}},
		{api.Token{Kind: api.TokenInt, N: math.MinInt, Text: "("}, api.Node{Kind: api.Int, N: math.MinInt}},
		{api.Token{Kind: api.TokenDec, N: -1, Text: "null"}, api.Node{Kind: api.Dec, N: -1}},
		{api.Token{Kind: api.TokenText, N: 3, Text: "\xff"}, api.Node{Kind: api.Text, Text: "\xff"}},
		{api.Token{Kind: api.TokenText, Text: strings.Repeat("x", api.MaxText+1)}, api.Node{Kind: api.Text, Text: strings.Repeat("x", api.MaxText+1)}},
		{api.Token{Kind: api.TokenName, N: 9, Text: "null"}, api.Node{Kind: api.Col, Text: "null"}},
		{api.Token{Kind: api.TokenName, Text: ""}, api.Node{Kind: api.Col}},
		{api.Token{Kind: api.TokenName, Text: "("}, api.Node{Kind: api.Col, Text: "("}},
		{api.Token{Kind: api.TokenWord, N: 7, Text: "null"}, api.Node{Kind: api.Null}},
		{api.Token{Kind: api.TokenWord, N: 7, Text: "false"}, api.Node{Kind: api.Bool}},
		{api.Token{Kind: api.TokenWord, N: 7, Text: "true"}, api.Node{Kind: api.Bool, N: 1}},
	} {
		if n, end, e := parse.Expr([]api.Token{x.token}, 0); e != api.OK || end != 1 || !equal(n, x.want) {
			t.Errorf("Expr of %#v: %#v, %d, %d, want %#v", x.token, n, end, e, x.want)
		}
	}
	for _, s := range []string{"not a in (b, 1) or -c = f(d)", "case when t.a then sum(distinct b) end", "a not between 1 and 2"} {
		l := tokens(t, s)
		want, wantEnd, _ := parse.Expr(l, 0)
		for i := range l {
			if l[i].Kind != api.TokenInt {
				l[i].N = 1 + i
			}
		}
		if n, end, e := parse.Expr(l, 0); e != api.OK || end != wantEnd || !equal(n, want) {
			t.Errorf("Expr of %#v: %#v, %d, %d, want %#v", l, n, end, e, want)
		}
	}
}

// Promise 7.1: in the place of a sign or a word there is no token of another kind with its text.
func TestTextsOfOtherKinds(t *testing.T) {
	for _, x := range eachRule() {
		l := tokens(t, x.s)
		for i, k := range l {
			if k.Kind != api.TokenSign && k.Kind != api.TokenWord {
				continue
			}
			for _, kind := range []int{api.TokenWord, api.TokenSign, api.TokenPeriod, api.TokenEnd} {
				if kind == k.Kind {
					continue
				}
				m := slices.Clone(l)
				m[i].Kind = kind
				checkEnd(t, m, i, x.ends[i])
			}
		}
	}
}

// Promise 7.2: names of any length are read; up to MaxName bytes they have the form.
func TestLongNames(t *testing.T) {
	for many, form := range map[int]int{api.MaxName: api.FormExpr, api.MaxName + 1: api.FormNone, 5000: api.FormNone} {
		s := strings.Repeat("n", many)
		for _, source := range []string{s, s + "." + s, s + "(" + s + ")", "a." + s, s + ".a", s + "()"} {
			l := tokens(t, source)
			if n, end, e := parse.Expr(l, 0); e != api.OK || end != len(l) || tree.Form(n) != form {
				t.Errorf("%d bytes: %d, %d, want the form %d", many, end, e, form)
			}
		}
	}
}
