package stmts_test

import (
	"math"
	"slices"
	"strconv"
	"strings"
	"testing"

	"marquee/api"
	"marquee/lex"
	"marquee/stmts"
	"marquee/tree"
)

func name(s string) api.Token { return api.Token{Kind: api.TokenName, Text: s} }

func word(s string) api.Token { return api.Token{Kind: api.TokenWord, Text: s} }

func sign(s string) api.Token { return api.Token{Kind: api.TokenSign, Text: s} }

func whole(n int) api.Token { return api.Token{Kind: api.TokenInt, N: n} }

func period(n int) api.Token { return api.Token{Kind: api.TokenPeriod, N: n} }

// tokens are those of a source that Lex takes.
func tokens(t *testing.T, s string) []api.Token {
	t.Helper()
	l, at, e := lex.Lex(s)
	if e != api.OK {
		t.Fatalf("Lex(%q): %d, %d", s, at, e)
	}
	return l
}

// kindNames are the kinds of trees in short; a Col and a None are written otherwise.
var kindNames = map[int]string{
	api.Null: "null", api.Bool: "bool", api.Int: "int", api.Dec: "dec", api.Text: "text", api.Col: "col", api.Unary: "unary", api.Binary: "binary", api.IsNull: "isnull", api.Between: "between", api.In: "in", api.Case: "case", api.Call: "call", api.Agg: "agg", api.Name: "name",
	api.None: "none", api.Item: "item", api.Star: "star", api.View: "view", api.Stream: "stream", api.Order: "order", api.Rate: "rate", api.Set: "set", api.List: "list",
	api.PatEvent: "event", api.PatEvery: "every", api.PatThen: "then", api.PatAnd: "and", api.PatOr: "or", api.PatNot: "not", api.PatTimer: "timer", api.PatWithin: "within", api.Pattern: "pattern", api.Column_: "column",
	api.CreateSchema: "schema", api.CreateWindow: "window", api.CreateContext: "context", api.Select: "select", api.OnDelete: "delete", api.OnUpdate: "update", api.OnSelect: "onselect", api.OnMerge: "merge", api.Keyed: "keyed", api.Categories: "categories", api.Spans: "spans",
}

// head is a tree without its kids: its kind, its text, its number, as far as they are not zero.
func head(n api.Node) string {
	s := kindNames[n.Kind]
	if n.Text != "" {
		s += ":" + n.Text
	}
	if n.N != 0 {
		s += "/" + strconv.Itoa(n.N)
	}
	return s
}

// shape writes a tree with brackets around all that has kids; a Col is its name alone, a None a _.
func shape(n api.Node) string {
	switch {
	case n.Kind == api.None && head(n) == "none" && len(n.Kids) == 0:
		return "_"
	case n.Kind == api.Col && n.N == 0 && len(n.Kids) == 0:
		return n.Text
	case len(n.Kids) == 0:
		return head(n)
	}
	l := []string{head(n)}
	for _, k := range n.Kids {
		l = append(l, shape(k))
	}
	return "(" + strings.Join(l, " ") + ")"
}

// inShort is as much of its shape as a line or two hold.
func inShort(n api.Node) string {
	s := shape(n)
	return s[:min(len(s), 600)]
}

// equal holds all fields against each other, At, too.
func equal(a, b api.Node) bool {
	return a.At == b.At && tree.Same(a, b) && slices.EqualFunc(a.Kids, b.Kids, equal)
}

func isZero(n api.Node) bool {
	return n.Kind == 0 && n.Text == "" && n.N == 0 && n.At == 0 && len(n.Kids) == 0
}

// face is a call that reads from a token on, with the form of what it reads.
type face struct {
	name string
	read func([]api.Token, int) (api.Node, int, api.Errno)
	form int
}

func patternFace() face { return face{"Pattern", stmts.Pattern, api.FormPattern} }

func stmtFace() face { return face{"Stmt", stmts.Stmt, api.FormStmt} }

// taken is a source with its shape; a | in it stands where what is read ends, if it is not the end.
type taken struct{ s, want string }

func (f face) checkTaken(t *testing.T, l []taken) {
	t.Helper()
	for _, x := range l {
		ahead, behind, _ := strings.Cut(x.s, "|")
		want := len(tokens(t, ahead))
		n, end, e := f.read(tokens(t, ahead+" "+behind), 0)
		if e != api.OK || end != want || tree.Form(n) != f.form || shape(n) != x.want {
			t.Errorf("%s of %q: %s, %d, %d, want %s, %d", f.name, x.s, shape(n), end, e, x.want, want)
		}
	}
}

// checkRefused: each source has a | ahead of the token at which ErrSyntax is seen, or at its end.
func (f face) checkRefused(t *testing.T, l []string) {
	t.Helper()
	for _, s := range l {
		ahead, behind, found := strings.Cut(s, "|")
		if !found {
			t.Fatalf("%q has no |", s)
		}
		f.checkError(t, tokens(t, ahead+" "+behind), 0, len(tokens(t, ahead)), api.ErrSyntax)
	}
}

func (f face) checkError(t *testing.T, l []api.Token, at, wantAt int, want api.Errno) {
	t.Helper()
	if n, end, e := f.read(l, at); !isZero(n) || end != wantAt || e != want {
		t.Errorf("%s of %s at %d: %s, %d, %d, want %d, %d", f.name, brief(l), at, inShort(n), end, e, wantAt, want)
	}
}

// checkEnd: what is read from the first token on ends there, and has its form.
func (f face) checkEnd(t *testing.T, l []api.Token, want int) {
	t.Helper()
	if n, end, e := f.read(l, 0); tree.Form(n) != f.form || end != want || e != api.OK {
		t.Errorf("%s of %s: %s, %d, %d, want %d", f.name, brief(l), inShort(n), end, e, want)
	}
}

// brief tells of tokens as much as a line or two hold.
func brief(l []api.Token) string {
	var s []string
	for _, t := range l[:min(len(l), 60)] {
		text := t.Text
		if t.Kind == api.TokenInt || t.Kind == api.TokenDec || t.Kind == api.TokenPeriod {
			text = strconv.Itoa(t.N)
		}
		s = append(s, strconv.Itoa(t.Kind)+":"+text)
	}
	return strconv.Itoa(len(l)) + " tokens: " + strings.Join(s, " ")
}

// numbered gives each token an At of its own.
func numbered(l []api.Token) []api.Token {
	l = slices.Clone(l)
	for i := range l {
		l[i].At = 7*i + 3
	}
	return l
}

// strangers are tokens that no rule of the chapter, and none of an Expr, takes anywhere: some that sources give, and some that none gives.
func strangers() []api.Token {
	return append([]api.Token{sign(";"), word("ms")}, tokensOfNoSource()...)
}

// tokensOfNoSource are of no kind that there is, or words and signs that are none.
func tokensOfNoSource() []api.Token {
	l := []api.Token{{}, {Kind: api.TokenEnd, Text: "a"}, {Kind: api.TokenEnd, Text: "(", N: 1}, {Kind: api.TokenEnd, Text: "select"}}
	for _, kind := range []int{-1, -api.TokenName, 8, 1000, math.MaxInt, math.MinInt} {
		for _, s := range []string{"", "a", "(", ")", ",", "=", "#", "select", "from", "where", "as", "every", "length", "int"} {
			l = append(l, api.Token{Kind: kind, Text: s, N: 1})
		}
	}
	for _, s := range []string{"", "a", "SELECT", "From", "AS", "where ", " where", "group by", "(", ")", ",", "#", "=", "->", "*", "5", "length", "keepall", "unique", "sorted", "int", "text"} {
		l = append(l, word(s))
	}
	for _, s := range []string{"", "!", "==", "=>", "( ", "()", ":", "##", "a", "5", "select", "from", "as", "every", "within", "or", "and", "not", "length", "int"} {
		l = append(l, sign(s))
	}
	return l
}
