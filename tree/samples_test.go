package tree_test

import (
	"strings"
	"testing"

	"marquee/api"
	"marquee/tree"
)

func node(kind int, text string, n int, kids ...api.Node) api.Node {
	return api.Node{Kind: kind, Text: text, N: n, Kids: kids}
}

func whole(n int) api.Node { return node(api.Int, "", n) }

func text(s string) api.Node { return node(api.Text, s, 0) }

func name(s string) api.Node { return node(api.Name, s, 0) }

func none() api.Node { return node(api.None, "", 0) }

func star() api.Node { return node(api.Star, "", 0) }

func col(s string) api.Node { return node(api.Col, s, 0) }

func colOf(stream, s string) api.Node { return node(api.Col, s, 0, name(stream)) }

func binary(sign string, a, b api.Node) api.Node { return node(api.Binary, sign, 0, a, b) }

func agg(s string, kids ...api.Node) api.Node { return node(api.Agg, s, 0, kids...) }

func event(s string) api.Node { return node(api.PatEvent, s, 0, none(), none()) }

func not(kids ...api.Node) api.Node { return node(api.PatNot, "", 0, kids...) }

func timer(n int) api.Node { return node(api.PatTimer, "", n) }

func list(kids ...api.Node) api.Node { return node(api.List, "", 0, kids...) }

func item(s string, e api.Node) api.Node { return node(api.Item, s, 0, e) }

func order(n int, e api.Node) api.Node { return node(api.Order, "", n, e) }

func set(s string, e api.Node) api.Node { return node(api.Set, s, 0, e) }

func column(s string, kind int) api.Node { return node(api.Column_, s, kind) }

func view(s string, kids ...api.Node) api.Node { return node(api.View, s, 0, kids...) }

func period(n int) api.Node { return node(api.Int, "ms", n) }

func rate(s string, n int, unit string) api.Node { return node(api.Rate, s, n, name(unit)) }

// stream is one without a filter and without a name of its own.
func stream(s string, views ...api.Node) api.Node {
	return node(api.Stream, s, 0, append([]api.Node{none(), none()}, views...)...)
}

func streamAs(s string, filter, as api.Node, views ...api.Node) api.Node {
	return node(api.Stream, s, 0, append([]api.Node{filter, as}, views...)...)
}

// repeat is n times the same tree.
func repeat(k api.Node, n int) []api.Node {
	var l []api.Node
	for range n {
		l = append(l, k)
	}
	return l
}

// The places of a Select's kids.
const (
	intoAt = iota
	itemsAt
	fromAt
	whereAt
	groupsAt
	havingAt
	ordersAt
	rateAt
)

// selectAll is select * from A.
func selectAll() api.Node {
	return node(api.Select, "", 1, none(), star(), list(stream("A")), none(), list(), none(), list(), none())
}

// selectWith is selectAll with another kid at a place.
func selectWith(at int, k api.Node) api.Node {
	n := selectAll()
	n.Kids[at] = k
	return n
}

// overView is a statement with one View, by which a View's form is asked.
func overView(v api.Node) api.Node {
	return selectWith(fromAt, list(stream("A", v)))
}

func partition(k api.Node) api.Node { return node(api.CreateContext, "C", 0, k) }

func keyed(kids ...api.Node) api.Node { return node(api.Keyed, "", 0, kids...) }

func categories(kids ...api.Node) api.Node { return node(api.Categories, "A", 0, kids...) }

func spans(kids ...api.Node) api.Node { return node(api.Spans, "", 0, kids...) }

// tooLong is a name with a byte more than one may have.
func tooLong() string { return strings.Repeat("a", api.MaxName+1) }

// goodIds are names that are no words.
func goodIds() []string {
	return []string{"a", "A", "_", "a1", "asc", "selects", "_select", "events2", "keepall", "length", "int", strings.Repeat("a", api.MaxName)}
}

// badIds are words, in small and in capital letters, and what is no name; "" is not among them, since some places take it.
func badIds() []string {
	return []string{"select", "SELECT", "Select", "sElEcT", "ms", "MS", "events", "count", "Null", "all", "within", "9a", "a b", " a", "a ", "a.b", "a-b", "é", "a\x00", "a\xff", "--", "/*a*/b", tooLong()}
}

// exprs are trees that are expressions, one of each kind at least.
func exprs() []api.Node {
	a, b := col("a"), colOf("t", "b")
	return []api.Node{
		node(api.Null, "", 0), node(api.Bool, "", 0), node(api.Bool, "", 1), whole(0), whole(7), node(api.Dec, "", 0), node(api.Dec, "", 12500),
		text(""), text("it's"), text("select"), a, b,
		node(api.Unary, "-", 0, a), node(api.Unary, "not", 0, b), binary("+", a, b), binary("and", binary("<=", a, whole(1)), b),
		node(api.IsNull, "", 0, a), node(api.IsNull, "", 1, b), node(api.Between, "", 0, a, whole(1), whole(2)),
		node(api.In, "", 0, a, whole(1)), node(api.In, "", 0, a, whole(1), text("x"), b),
		node(api.Case, "", 0, a, whole(1), node(api.Null, "", 0)), node(api.Case, "", 0, a, whole(1), b, whole(2), text("x")),
		node(api.Call, "f", 0), node(api.Call, "abs", 0, a), node(api.Call, "f", 0, a, b, whole(1)),
		agg("count"), agg("count", a), node(api.Agg, "count", 1, a), agg("sum", agg("max", b)), node(api.Agg, "last", 1, binary("*", a, whole(2))),
	}
}

// patterns are trees that are patterns, one of each kind at least.
func patterns() []api.Node {
	tagged := node(api.PatEvent, "B", 0, binary(">", col("a"), whole(1)), name("b"))
	return []api.Node{
		event("A"), tagged, node(api.PatEvent, "B", 0, none(), name("b")), node(api.PatEvent, "B", 0, col("a"), none()),
		node(api.PatEvery, "", 0, event("A")), node(api.PatThen, "", 0, event("A"), tagged), node(api.PatOr, "", 0, tagged, timer(5)),
		node(api.PatAnd, "", 0, event("A"), tagged), node(api.PatAnd, "", 0, event("A"), not(event("B"))),
		node(api.PatEvery, "", 0, node(api.PatAnd, "", 0, timer(1), not(node(api.PatThen, "", 0, event("A"), event("B"))))),
		timer(0), timer(api.MaxTime), node(api.PatWithin, "", 0, event("A")), node(api.PatWithin, "", 5000, node(api.PatEvery, "", 0, tagged)),
	}
}

// stmts are trees that are statements, one of each kind at least, with each part in one of them.
func stmts() []api.Node {
	s := streamAs("A", binary(">", col("a"), whole(1)), name("s"))
	w := streamAs("W", none(), name("w"))
	sets := list(set("a", col("b")), set("b", whole(1)))
	views := []api.Node{view("length", whole(2)), view("unique", col("a"), col("b")), view("sorted", whole(3), order(1, col("a"))), view("time", period(5))}
	return []api.Node{
		node(api.CreateSchema, "S", 0, column("a", 1), column("b", 2), column("c", 3), column("d", 4)),
		node(api.CreateWindow, "W", 0, name("S"), view("keepall")),
		node(api.CreateWindow, "W", 0, append([]api.Node{name("S")}, views...)...),
		partition(keyed(colOf("A", "a"), colOf("B", "b"))),
		partition(categories(item("low", binary("<", col("a"), whole(1))), item("high", col("b")))),
		partition(spans(stream("A"), stream("B"))), partition(node(api.Spans, "", 1, streamAs("A", col("a"), none()), timer(5))),
		selectAll(),
		node(api.Select, "C", 3, name("B"), list(item("x", col("a")), item("", agg("count"))), list(streamAs("A", col("a"), name("s"), views...), stream("B")),
			col("a"), list(col("a"), whole(1)), binary(">", agg("sum", col("a")), whole(1)), list(order(0, col("x")), order(1, col("a"))), rate("last", 3, "events")),
		node(api.Select, "", 2, none(), star(), node(api.Pattern, "", 0, node(api.PatEvery, "", 0, event("A")), name("p")), none(), list(), none(), list(), rate("snapshot", 1000, "ms")),
		node(api.OnDelete, "", 0, s, w, col("a")), node(api.OnDelete, "", 0, stream("A"), stream("W"), none()),
		node(api.OnUpdate, "", 0, s, w, sets, col("a")), node(api.OnUpdate, "", 0, stream("A"), stream("W"), list(set("a", whole(1))), none()),
		node(api.OnSelect, "", 0, s, w, list(item("", col("a"))), col("b")), node(api.OnSelect, "", 0, s, w, star(), none()),
		node(api.OnMerge, "", 0, s, w, col("a"), sets), node(api.OnMerge, "", 1, stream("A"), stream("W"), whole(1), sets),
	}
}

// parts are trees that stand in others alone: all of them have a place, and none has a form.
func parts() []api.Node {
	return []api.Node{
		name("a"), none(), item("a", col("a")), item("", col("a")), star(), view("keepall"), view("length", whole(1)), stream("A"), order(0, col("a")),
		rate("all", 1, "ms"), set("a", col("a")), node(api.Pattern, "", 0, event("A"), none()), column("a", 1), list(), list(col("a")), list(stream("A")),
		not(event("A")), period(5), keyed(colOf("A", "a")), categories(item("a", col("a"))), spans(stream("A"), stream("B")),
	}
}

// all are trees of all sorts.
func all() []api.Node {
	l := append(exprs(), patterns()...)
	l = append(l, stmts()...)
	l = append(l, parts()...)
	return append(l, api.Node{}, node(99, "a", -1, col("a"), api.Node{}))
}

// asked is a tree with the form that it has.
type asked struct {
	n    api.Node
	want int
}

func checkForms(t *testing.T, l []asked) {
	t.Helper()
	for i, x := range l {
		if got := tree.Form(x.n); got != x.want {
			t.Errorf("%d: Form(%#v) = %d, want %d", i, x.n, got, x.want)
		}
	}
}

// checkForm holds all of l against one form.
func checkForm(t *testing.T, want int, l ...api.Node) {
	t.Helper()
	for i, n := range l {
		if got := tree.Form(n); got != want {
			t.Errorf("%d: Form(%#v) = %d, want %d", i, n, got, want)
		}
	}
}
