package lex_test

import (
	"math"
	"slices"
	"strings"
	"testing"

	"marquee/api"
	"marquee/lex"
)

// Promise 5.3.
func TestShow(t *testing.T) {
	for _, x := range []struct {
		l    []api.Token
		want string
	}{
		{nil, ""},
		{list(), ""},
		{list(name("a", 0)), "a"},
		{list(name("A1_", 0)), "A1_"},
		{list(word("select", 0)), "select"},
		{list(sign("->", 0)), "->"},
		{list(whole(0, 0)), "0"},
		{list(whole(12, 0)), "12"},
		{list(whole(math.MaxInt, 0)), "9223372036854775807"},
		{list(dec(0, 0)), "0.0"},
		{list(dec(1, 0)), "0.0001"},
		{list(dec(12500, 0)), "1.25"},
		{list(dec(20000, 0)), "2.0"},
		{list(dec(math.MaxInt, 0)), "922337203685477.5807"},
		{list(text("", 0)), "''"},
		{list(text("it's", 0)), "'it''s'"},
		{list(text("'", 0)), "''''"},
		{list(text(" a  b ", 0)), "' a  b '"},
		{list(period(0, 0)), "0ms"},
		{list(period(10000, 0)), "10000ms"},
		{list(period(api.MaxTime, 0)), "1099511627776ms"},
		{list(word("select", 0), name("a1", 7), sign(">=", 10), period(10000, 13)), "select a1 >= 10000ms"},
		{list(sign("<", 0), sign("=", 0), sign("-", 0), sign("-", 0), sign("/", 0), sign("*", 0)), "< = - - / *"},
		{list(text("a", 0), text("b", 0)), "'a' 'b'"},
		{list(whole(1, 0), sign(".", 0), whole(5, 0)), "1 . 5"},
		{list(whole(5, 0), word("ms", 0)), "5 ms"},
		{list(name("a", 9), name("b", -4), name("c", math.MinInt), name("d", math.MaxInt)), "a b c d"},
	} {
		if got := lex.Show(x.l); got != x.want {
			t.Errorf("Show(%#v): %q, want %q", x.l, got, x.want)
		}
	}
}

// Promise 5.3: tokens that may be, each alone, at any byte.
func TestShowOfEach(t *testing.T) {
	for _, x := range goodTokens() {
		for _, at := range []int{0, 1, -1, math.MinInt, math.MaxInt} {
			y := x
			y.At = at
			s := lex.Show(list(y))
			if got, _, e := lex.Lex(s); s == "" || e != api.OK || !slices.Equal(got, list(x)) {
				t.Errorf("Show(%#v): %q, of which Lex says %#v, %d", y, s, got, e)
			}
		}
	}
}

// Promise 5.3: "", if one may not be, alone and among others that may.
func TestShowOfBadTokens(t *testing.T) {
	for _, bad := range badTokens() {
		for _, at := range []int{0, 1, -1} {
			bad.At = at
			for _, l := range [][]api.Token{
				list(bad),
				list(bad, bad),
				list(bad, name("a", 0)),
				list(name("a", 0), bad),
				list(word("select", 0), bad, sign("*", 0)),
			} {
				if got := lex.Show(l); got != "" {
					t.Errorf("Show(%#v): %q", l, got)
				}
			}
		}
	}
}

// Promise 5.3: two tokens that may be say no third one, whatever they are.
func TestShowOfPairs(t *testing.T) {
	good := goodTokens()
	for _, a := range good {
		for _, b := range good {
			l := list(a, b)
			s := lex.Show(l)
			want := lex.Show(l[:1]) + " " + lex.Show(l[1:])
			if got, _, e := lex.Lex(s); s != want || e != api.OK || !slices.Equal(apart(got), l) {
				t.Fatalf("Show(%#v): %q, of which Lex says %#v, %d", l, s, got, e)
			}
		}
	}
}

// Promise 5.3: the tokens are not changed, and what lies behind the list's end neither.
func TestShowLeavesTokens(t *testing.T) {
	held := list(name("a", 3), whole(5, 5), name("b", 7))
	if got := lex.Show(held[:2]); got != "a 5" {
		t.Errorf("%q", got)
	}
	if !slices.Equal(held, list(name("a", 3), whole(5, 5), name("b", 7))) {
		t.Errorf("%#v", held)
	}
	held[1].N = 6
	if got := lex.Show(held[:2]); got != "a 6" {
		t.Errorf("%q", got)
	}
}

// Promise 5.2: tokens that were handed out may be changed, whoever holds others.
func TestTokensAreNew(t *testing.T) {
	const s = "select a from T"
	want := list(word("select", 0), name("a", 7), word("from", 9), name("T", 14))
	a, _, _ := lex.Lex(s)
	b, _, _ := lex.Lex(s)
	for i := range a {
		a[i] = api.Token{}
	}
	_ = append(a, name("x", 1))
	c, _, _ := lex.Lex(s)
	if !slices.Equal(b, want) || !slices.Equal(c, want) {
		t.Errorf("%#v, %#v", b, c)
	}
}

// Promise 5.3: texts that are long end, too.
func TestShowOfLongTexts(t *testing.T) {
	s := strings.Repeat("a ", 1<<16)
	l, _, e := lex.Lex(s)
	if len(l) != 1<<16 || e != api.OK || lex.Show(l) != strings.TrimSpace(s) {
		t.Errorf("%d, %d", len(l), e)
	}
	if got := lex.Show(list(name(s, 0))); got != "" {
		t.Errorf("%d bytes", len(got))
	}
}
