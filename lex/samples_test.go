package lex_test

import (
	"math"
	"slices"
	"strings"
	"testing"

	"marquee/api"
	"marquee/lex"
)

func name(s string, at int) api.Token { return api.Token{Kind: api.TokenName, Text: s, At: at} }

func word(s string, at int) api.Token { return api.Token{Kind: api.TokenWord, Text: s, At: at} }

func sign(s string, at int) api.Token { return api.Token{Kind: api.TokenSign, Text: s, At: at} }

func text(s string, at int) api.Token { return api.Token{Kind: api.TokenText, Text: s, At: at} }

func whole(n, at int) api.Token { return api.Token{Kind: api.TokenInt, N: n, At: at} }

func dec(n, at int) api.Token { return api.Token{Kind: api.TokenDec, N: n, At: at} }

func period(n, at int) api.Token { return api.Token{Kind: api.TokenPeriod, N: n, At: at} }

func list(l ...api.Token) []api.Token { return l }

// taken is a source with its tokens.
type taken struct {
	s    string
	want []api.Token
}

func checkTaken(t *testing.T, l []taken) {
	t.Helper()
	for _, x := range l {
		if got, at, e := lex.Lex(x.s); !slices.Equal(got, x.want) || at != 0 || e != api.OK {
			t.Errorf("Lex(%q): %#v, %d, %d, want %#v", x.s, got, at, e, x.want)
		}
	}
}

// refused is a source with the byte of its error, and that error.
type refused struct {
	s    string
	at   int
	want api.Errno
}

func checkRefused(t *testing.T, l []refused) {
	t.Helper()
	for _, x := range l {
		if got, at, e := lex.Lex(x.s); len(got) != 0 || at != x.at || e != x.want {
			t.Errorf("Lex(%q): %#v, %d, %d, want %d, %d", x.s, got, at, e, x.at, x.want)
		}
	}
}

// theWords are the chapter's, as it writes them.
func theWords() []string {
	return strings.Fields("all and as avg between by case context count create delete desc distinct else end events every false first from group having in insert into irstream is istream last matched max merge min ms not null on or order output overlapping partition pattern rstream schema select set snapshot start sum then timer true update when where window within")
}

// theSigns are the chapter's, as it writes them.
func theSigns() []string {
	return strings.Fields("<= >= != -> < > = + - * / % ( ) , . ; [ ] #")
}

// goodTokens may be; no two of them are the same.
func goodTokens() []api.Token {
	l := list(
		name("a", 0), name("a1", 0), name("_", 0), name("__9", 0), name("Trade", 0), name("trade", 0), name("selects", 0), name("asc", 0), name("MSS", 0), name("s", 0), name("d", 0),
		name(strings.Repeat("n", api.MaxName), 0), name(strings.Repeat("n", 4*api.MaxText), 0),
		whole(0, 0), whole(1, 0), whole(10, 0), whole(10000, 0), whole(math.MaxInt, 0),
		dec(0, 0), dec(1, 0), dec(12500, 0), dec(10000, 0), dec(20500, 0), dec(math.MaxInt, 0),
		text("", 0), text("a", 0), text("it's", 0), text("'", 0), text("''", 0), text("'a'", 0), text("é", 0), text("\x00", 0), text("a\nb", 0), text("--", 0), text("/*", 0), text("*/", 0), text(" ", 0),
		text(strings.Repeat("x", api.MaxText), 0), text(strings.Repeat("'", api.MaxText), 0),
		period(0, 0), period(1, 0), period(10000, 0), period(api.MaxTime, 0),
	)
	for _, s := range theWords() {
		l = append(l, word(s, 0))
	}
	for _, s := range theSigns() {
		l = append(l, sign(s, 0))
	}
	return l
}

// badTokens may not be.
func badTokens() []api.Token {
	return list(
		api.Token{}, api.Token{Kind: api.TokenEnd, Text: "a"}, api.Token{Kind: api.TokenEnd, N: 1}, api.Token{Kind: api.TokenEnd, Text: "select", At: 3},
		api.Token{Kind: -1, Text: "a"}, api.Token{Kind: 8, Text: "a"}, api.Token{Kind: 8, N: 1}, api.Token{Kind: math.MinInt, Text: "+"}, api.Token{Kind: math.MaxInt, Text: "select"},
		name("", 0), name("select", 0), name("SELECT", 0), name("sElect", 0), name(" a", 0), name("a ", 0), name("a b", 0), name("a-b", 0), name("a--", 0), name("a/**/", 0), name("--", 0), name("/*", 0),
		name("1", 0), name("1a", 0), name("1s", 0), name("'a'", 0), name("+", 0), name("é", 0), name("a\x00", 0), name("!", 0), name("a'", 0),
		api.Token{Kind: api.TokenName, Text: "a", N: 1}, api.Token{Kind: api.TokenName, Text: "a", N: -1},
		word("", 0), word("Select", 0), word("SELECT", 0), word("selec", 0), word("select ", 0), word(" select", 0), word("order by", 0), word("asc", 0), word("5", 0), word("+", 0), word("--", 0),
		api.Token{Kind: api.TokenWord, Text: "select", N: 1},
		sign("", 0), sign("!", 0), sign("--", 0), sign("/*", 0), sign("/**/", 0), sign("< =", 0), sign("<>", 0), sign("=>", 0), sign("+ ", 0), sign(" +", 0), sign("+--", 0), sign(":", 0), sign("a", 0), sign("select", 0), sign("1", 0), sign("'", 0), sign("==", 0),
		api.Token{Kind: api.TokenSign, Text: "+", N: 1},
		whole(-1, 0), whole(math.MinInt, 0), api.Token{Kind: api.TokenInt, N: 1, Text: "1"}, api.Token{Kind: api.TokenInt, N: 1, Text: "a"},
		dec(-1, 0), dec(-10000, 0), dec(math.MinInt, 0), api.Token{Kind: api.TokenDec, N: 12500, Text: "1.25"},
		text("\xff", 0), text("a\xc3", 0), text("\xc3'\xa9", 0), text(strings.Repeat("x", api.MaxText+1), 0), text(strings.Repeat("'", api.MaxText+1), 0),
		api.Token{Kind: api.TokenText, Text: "a", N: 1}, api.Token{Kind: api.TokenText, N: -1},
		period(-1, 0), period(math.MinInt, 0), period(api.MaxTime+1, 0), period(math.MaxInt, 0), api.Token{Kind: api.TokenPeriod, N: 1, Text: "ms"}, api.Token{Kind: api.TokenPeriod, N: 1, Text: "1ms"},
	)
}

// apart are the tokens with each At 0.
func apart(l []api.Token) []api.Token {
	l = slices.Clone(l)
	for i := range l {
		l[i].At = 0
	}
	return l
}
