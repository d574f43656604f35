package parse_test

import (
	"math"
	"slices"
	"strconv"
	"strings"
	"testing"

	"marquee/api"
	"marquee/lex"
	"marquee/parse"
	"marquee/tree"
)

func name(s string) api.Token { return api.Token{Kind: api.TokenName, Text: s} }

func word(s string) api.Token { return api.Token{Kind: api.TokenWord, Text: s} }

func sign(s string) api.Token { return api.Token{Kind: api.TokenSign, Text: s} }

func whole(n int) api.Token { return api.Token{Kind: api.TokenInt, N: n} }

func period(n int) api.Token { return api.Token{Kind: api.TokenPeriod, N: n} }

// tokens are those of a source that Lex takes.
func tokens(t *testing.T, s string) []api.Token {
	t.Helper()
	l, at, e := lex.Lex(s)
	if e != api.OK {
		t.Fatalf("Lex(%q): %d, %d", s, at, e)
	}
	return l
}

// shape writes a tree with brackets around all that has kids.
func shape(n api.Node) string {
	switch n.Kind {
	case api.Null:
		return "null"
	case api.Bool:
		return []string{"false", "true"}[n.N]
	case api.Int:
		return strconv.Itoa(n.N)
	case api.Dec:
		return strconv.Itoa(n.N) + "d"
	case api.Text:
		return strconv.Quote(n.Text)
	case api.Col:
		if len(n.Kids) > 0 {
			return n.Kids[0].Text + "." + n.Text
		}
		return n.Text
	}
	head := map[int]string{api.Unary: n.Text, api.Binary: n.Text, api.IsNull: "is" + strconv.Itoa(n.N), api.Between: "between", api.In: "in", api.Case: "case", api.Call: "call " + n.Text, api.Agg: "agg" + strconv.Itoa(n.N) + " " + n.Text}[n.Kind]
	l := []string{head}
	for _, k := range n.Kids {
		l = append(l, shape(k))
	}
	return "(" + strings.Join(l, " ") + ")"
}

// places are the At of n and of all that stands within it, in pre-order.
func places(n api.Node) []int {
	l := []int{n.At}
	for _, k := range n.Kids {
		l = append(l, places(k)...)
	}
	return l
}

// equal holds all fields against each other, At, too.
func equal(a, b api.Node) bool {
	return a.At == b.At && tree.Same(a, b) && slices.EqualFunc(a.Kids, b.Kids, equal)
}

// taken is a source with its shape, and how many of its tokens it is.
type taken struct {
	s    string
	want string
	end  int
}

func checkTaken(t *testing.T, l []taken) {
	t.Helper()
	for _, x := range l {
		n, end, e := parse.Expr(tokens(t, x.s), 0)
		if e != api.OK || end != x.end || tree.Form(n) != api.FormExpr || shape(n) != x.want {
			t.Errorf("Expr of %q: %#v, %d, %d, want %s, %d", x.s, n, end, e, x.want, x.end)
		}
	}
}

// refused is a source with the place of the token at which its error is seen.
type refused struct {
	s  string
	at int
}

func checkRefused(t *testing.T, want api.Errno, l []refused) {
	t.Helper()
	for _, x := range l {
		checkError(t, tokens(t, x.s), 0, x.at, want)
	}
}

func checkError(t *testing.T, l []api.Token, at, wantAt int, want api.Errno) {
	t.Helper()
	if n, end, e := parse.Expr(l, at); !isZero(n) || end != wantAt || e != want {
		t.Errorf("Expr of %s at %d: %#v, %d, %d, want %d, %d", brief(l), at, n, end, e, wantAt, want)
	}
}

// brief tells of tokens as much as a line holds.
func brief(l []api.Token) string {
	var s []string
	for _, t := range l[:min(len(l), 30)] {
		s = append(s, strconv.Itoa(t.Kind)+":"+t.Text+":"+strconv.Itoa(t.N))
	}
	return strconv.Itoa(len(l)) + " tokens: " + strings.Join(s, " ")
}

func isZero(n api.Node) bool {
	return n.Kind == 0 && n.Text == "" && n.N == 0 && n.At == 0 && len(n.Kids) == 0
}

// signsOfOthers and wordsOfOthers are those that no rule of the chapter takes anywhere.
func signsOfOthers() []string {
	return strings.Fields("-> ; [ ] #")
}

func wordsOfOthers() []string {
	return strings.Fields("all as by context create delete desc events every from group having insert into irstream istream matched merge ms on order output overlapping partition pattern rstream schema select set snapshot start timer update where window within")
}

// strangers are tokens that no rule of the chapter takes anywhere: some that sources give, and some that none gives.
func strangers() []api.Token {
	l := []api.Token{period(0), period(5)}
	for _, s := range signsOfOthers() {
		l = append(l, sign(s))
	}
	for _, s := range wordsOfOthers() {
		l = append(l, word(s))
	}
	return append(l, tokensOfNoSource()...)
}

// tokensOfNoSource are of no kind that there is, or words and signs that are none.
func tokensOfNoSource() []api.Token {
	l := []api.Token{{}, {Kind: api.TokenEnd, Text: "a"}, {Kind: api.TokenEnd, Text: "(", N: 1}, {Kind: api.TokenEnd, Text: "null"}}
	for _, kind := range []int{-1, -api.TokenInt, 8, 9, 1000, math.MaxInt, math.MinInt} {
		for _, s := range []string{"", "a", "(", ")", ",", ".", "-", "+", "=", "not", "null", "and", "or", "count", "case", "when", "end"} {
			l = append(l, api.Token{Kind: kind, Text: s, N: 1})
		}
	}
	for _, s := range []string{"", "asc", "a", "AND", "Or", "NOT", "Null", "TRUE", "Count", "CASE", "not ", " not", "and or", "is null", "+", "-", "(", ")", ",", ".", "=", "*", "5"} {
		l = append(l, word(s))
	}
	for _, s := range []string{"", "!", "==", "<>", "=>", "--", "+ ", " +", "((", "()", ":", "a", "5", "and", "or", "not", "null", "is", "in", "between", "case", "count", "true", "distinct", "when", "then", "else", "end"} {
		l = append(l, sign(s))
	}
	return l
}
