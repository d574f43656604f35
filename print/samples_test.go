package print_test

import (
	"strings"
	"testing"

	"marquee/api"
	"marquee/lex"
	"marquee/parse"
	"marquee/print"
	"marquee/stmts"
	"marquee/tree"
)

func node(kind int, text string, n int, kids ...api.Node) api.Node {
	return api.Node{Kind: kind, Text: text, N: n, Kids: kids}
}

func null() api.Node { return node(api.Null, "", 0) }

func truth(n int) api.Node { return node(api.Bool, "", n) }

func whole(n int) api.Node { return node(api.Int, "", n) }

func dec(n int) api.Node { return node(api.Dec, "", n) }

func text(s string) api.Node { return node(api.Text, s, 0) }

func name(s string) api.Node { return node(api.Name, s, 0) }

func none() api.Node { return node(api.None, "", 0) }

func star() api.Node { return node(api.Star, "", 0) }

func col(s string) api.Node { return node(api.Col, s, 0) }

func colOf(stream, s string) api.Node { return node(api.Col, s, 0, name(stream)) }

func neg(a api.Node) api.Node { return node(api.Unary, "-", 0, a) }

func not(a api.Node) api.Node { return node(api.Unary, "not", 0, a) }

func binary(sign string, a, b api.Node) api.Node { return node(api.Binary, sign, 0, a, b) }

func isNull(n int, a api.Node) api.Node { return node(api.IsNull, "", n, a) }

func between(a, b, c api.Node) api.Node { return node(api.Between, "", 0, a, b, c) }

func in(l ...api.Node) api.Node { return node(api.In, "", 0, l...) }

func choice(l ...api.Node) api.Node { return node(api.Case, "", 0, l...) }

func call(s string, l ...api.Node) api.Node { return node(api.Call, s, 0, l...) }

func agg(s string, l ...api.Node) api.Node { return node(api.Agg, s, 0, l...) }

func distinct(s string, a api.Node) api.Node { return node(api.Agg, s, 1, a) }

func event(s string) api.Node { return node(api.PatEvent, s, 0, none(), none()) }

func tagged(tag, s string, filter api.Node) api.Node {
	return node(api.PatEvent, s, 0, filter, name(tag))
}

func every(a api.Node) api.Node { return node(api.PatEvery, "", 0, a) }

func then(a, b api.Node) api.Node { return node(api.PatThen, "", 0, a, b) }

func both(a, b api.Node) api.Node { return node(api.PatAnd, "", 0, a, b) }

func either(a, b api.Node) api.Node { return node(api.PatOr, "", 0, a, b) }

func never(a api.Node) api.Node { return node(api.PatNot, "", 0, a) }

func timer(n int) api.Node { return node(api.PatTimer, "", n) }

func within(n int, a api.Node) api.Node { return node(api.PatWithin, "", n, a) }

func list(l ...api.Node) api.Node { return node(api.List, "", 0, l...) }

func item(s string, e api.Node) api.Node { return node(api.Item, s, 0, e) }

func order(n int, e api.Node) api.Node { return node(api.Order, "", n, e) }

func set(s string, e api.Node) api.Node { return node(api.Set, s, 0, e) }

func column(s string, kind int) api.Node { return node(api.Column_, s, kind) }

func view(s string, l ...api.Node) api.Node { return node(api.View, s, 0, l...) }

func period(n int) api.Node { return node(api.Int, "ms", n) }

func rate(s string, n int, unit string) api.Node { return node(api.Rate, s, n, name(unit)) }

// stream is one without a filter and without a name of its own.
func stream(s string, views ...api.Node) api.Node {
	return streamAs(s, none(), none(), views...)
}

func streamAs(s string, filter, as api.Node, views ...api.Node) api.Node {
	return node(api.Stream, s, 0, append([]api.Node{filter, as}, views...)...)
}

func ofPattern(p, as api.Node) api.Node { return node(api.Pattern, "", 0, p, as) }

// The places of a Select's kids.
const (
	intoAt = iota
	itemsAt
	fromAt
	whereAt
	groupsAt
	havingAt
	ordersAt
	rateAt
)

// selectAll is select * from A.
func selectAll() api.Node {
	return node(api.Select, "", 1, none(), star(), list(stream("A")), none(), list(), none(), list(), none())
}

// selectWith is selectAll with another kid at a place.
func selectWith(at int, k api.Node) api.Node {
	n := selectAll()
	n.Kids[at] = k
	return n
}

// from is a select of all from streams.
func from(l ...api.Node) api.Node { return selectWith(fromAt, list(l...)) }

func schema(s string, l ...api.Node) api.Node { return node(api.CreateSchema, s, 0, l...) }

func window(s, of string, views ...api.Node) api.Node {
	return node(api.CreateWindow, s, 0, append([]api.Node{name(of)}, views...)...)
}

func context(s string, k api.Node) api.Node { return node(api.CreateContext, s, 0, k) }

func keyed(l ...api.Node) api.Node { return node(api.Keyed, "", 0, l...) }

func categories(s string, l ...api.Node) api.Node { return node(api.Categories, s, 0, l...) }

func spans(n int, start, end api.Node) api.Node { return node(api.Spans, "", n, start, end) }

// repeat is n times the same tree.
func repeat(k api.Node, n int) []api.Node {
	var l []api.Node
	for range n {
		l = append(l, k)
	}
	return l
}

// joined is n times the same text with , between.
func joined(s string, n int) string {
	return strings.TrimSuffix(strings.Repeat(s+", ", n), ", ")
}

// face is a call that writes trees of a form, with the one that reads them.
type face struct {
	name  string
	form  int
	write func(api.Node) string
	read  func([]api.Token, int) (api.Node, int, api.Errno)
}

func exprFace() face { return face{"Expr", api.FormExpr, print.Expr, parse.Expr} }

func patternFace() face { return face{"Pattern", api.FormPattern, print.Pattern, stmts.Pattern} }

func stmtFace() face { return face{"Stmt", api.FormStmt, print.Stmt, stmts.Stmt} }

func faces() []face { return []face{exprFace(), patternFace(), stmtFace()} }

// back answers what a text is read as, and whether all of it is read.
func (f face) back(s string) (api.Node, bool) {
	l, _, e := lex.Lex(s)
	if e != api.OK {
		return api.Node{}, false
	}
	return f.backOf(l)
}

func (f face) backOf(l []api.Token) (api.Node, bool) {
	n, end, e := f.read(l, 0)
	return n, e == api.OK && end == len(l)
}

// printed is a tree with its text.
type printed struct {
	n    api.Node
	want string
}

// check holds texts against what is written, and what is written against what is read again.
func (f face) check(t *testing.T, l []printed) {
	t.Helper()
	for _, x := range l {
		if got := f.write(x.n); got != x.want {
			t.Errorf("%s: %q, want %q", f.name, got, x.want)
		}
		f.checkRead(t, x.n)
	}
}

// checkRead: what is written is read as it was, and written again it is the same text.
func (f face) checkRead(t *testing.T, n api.Node) {
	t.Helper()
	s := f.write(n)
	m, ok := f.back(s)
	if !ok || !tree.Same(n, m) {
		t.Errorf("%s: %q is read as %q (%#v)", f.name, s, f.write(m), m)
	}
	if again := f.write(m); again != s {
		t.Errorf("%s: %q is written again as %q", f.name, s, again)
	}
}

// checkNothing: none of l has the form that is asked for.
func (f face) checkNothing(t *testing.T, l ...api.Node) {
	t.Helper()
	for i, n := range l {
		if got := f.write(n); got != "" {
			t.Errorf("%s: %d: %q of %#v, want nothing", f.name, i, got, n)
		}
	}
}
