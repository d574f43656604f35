package print_test

import (
	"slices"
	"strings"
	"testing"

	"marquee/api"
	"marquee/lex"
	"marquee/tree"
)

// exprs are expressions, one of each kind and each sign at least.
func exprs() []api.Node {
	a, b := col("a"), colOf("t", "b")
	l := []api.Node{
		null(), truth(0), truth(1), whole(0), whole(7), dec(0), dec(12500), text(""), text("it's"), a, b, neg(a), neg(whole(1)), not(b),
		isNull(0, a), isNull(1, b), between(a, whole(1), whole(2)), in(a, whole(1)), in(a, whole(1), text("x"), b), choice(a, whole(1), null()), choice(a, whole(1), b, whole(2), text("x")),
		call("f"), call("abs", a), call("f", a, b, whole(1)), agg("count"), agg("count", a), distinct("count", a), agg("sum", agg("max", b)), distinct("last", binary("*", a, whole(2))),
	}
	for _, s := range strings.Fields("+ - * / % = != < <= > >= and or") {
		l = append(l, binary(s, a, b))
	}
	return l
}

// patterns are patterns, one of each kind at least.
func patterns() []api.Node {
	a, b := event("A"), tagged("b", "B", binary(">", col("a"), whole(1)))
	return []api.Node{
		a, b, tagged("b", "B", none()), node(api.PatEvent, "B", 0, col("a"), none()), timer(0), timer(api.MaxTime),
		every(a), then(a, b), either(a, b), both(a, b), both(a, never(b)), within(0, a), within(5000, b),
	}
}

// statements are statements, one of each kind at least, with each part in one of them.
func statements() []api.Node {
	a := col("a")
	s, w := streamAs("A", binary(">", a, whole(1)), name("s")), streamAs("W", none(), name("w"))
	sets := list(set("a", col("b")), set("b", whole(1)))
	views := []api.Node{view("length", whole(2)), view("unique", a, col("b")), view("sorted", whole(3), order(1, a)), view("time", period(5))}
	return []api.Node{
		schema("S", column("a", 1), column("b", 2), column("c", 3), column("d", 4)), window("W", "S", view("keepall")), window("W", "S", views...),
		context("C", keyed(colOf("A", "a"), colOf("B", "b"))), context("C", categories("A", item("low", binary("<", a, whole(1))), item("high", col("b")))),
		context("C", spans(0, stream("A"), stream("B"))), context("C", spans(1, streamAs("A", a, none()), timer(5))),
		selectAll(),
		node(api.Select, "C", 3, name("B"), list(item("x", a), item("", agg("count"))), list(streamAs("A", a, name("s"), views...), stream("B")),
			a, list(a, whole(1)), binary(">", agg("sum", a), whole(1)), list(order(0, col("x")), order(1, a)), rate("last", 3, "events")),
		node(api.Select, "", 2, none(), star(), ofPattern(every(event("A")), name("p")), none(), list(), none(), list(), rate("snapshot", 1000, "ms")),
		node(api.OnDelete, "", 0, s, w, a), node(api.OnDelete, "", 0, stream("A"), stream("W"), none()),
		node(api.OnUpdate, "", 0, s, w, sets, a), node(api.OnUpdate, "", 0, stream("A"), stream("W"), list(set("a", whole(1))), none()),
		node(api.OnSelect, "", 0, s, w, list(item("", a)), col("b")), node(api.OnSelect, "", 0, s, w, star(), none()),
		node(api.OnMerge, "", 0, s, w, a, sets), node(api.OnMerge, "", 1, stream("A"), stream("W"), whole(1), sets),
	}
}

// parts stand in others alone, and have no form.
func parts() []api.Node {
	return []api.Node{
		name("a"), none(), item("a", col("a")), item("", col("a")), star(), view("keepall"), view("length", whole(1)), stream("A"), order(0, col("a")), rate("all", 1, "ms"), set("a", col("a")),
		ofPattern(event("A"), none()), column("a", 1), list(), list(col("a")), list(stream("A")), never(event("A")), period(5), keyed(colOf("A", "a")), categories("A", item("a", col("a"))), spans(0, stream("A"), stream("B")),
	}
}

// strangers are no trees at all.
func strangers() []api.Node {
	return []api.Node{{}, {At: 5}, node(99, "a", 1, col("a")), node(-1, "", 0), node(16, "a", 0), node(29, "", 0), node(49, "A", 1), node(61, "", 0), whole(-1), col("select"), neg(neg(whole(-1))), binary("==", col("a"), col("a")), every(every(timer(-1))), from(stream("from"))}
}

// all are trees of all sorts.
func all() []api.Node {
	return slices.Concat(exprs(), patterns(), statements(), parts(), strangers())
}

// places are ways to lay another tree in the place of each one within n, and of n itself.
func places(n api.Node) []func(api.Node) api.Node {
	l := []func(api.Node) api.Node{func(k api.Node) api.Node { return k }}
	for i, kid := range n.Kids {
		for _, in := range places(kid) {
			l = append(l, func(k api.Node) api.Node {
				kids := slices.Clone(n.Kids)
				kids[i] = in(k)
				return node(n.Kind, n.Text, n.N, kids...)
			})
		}
	}
	return l
}

// checkTree: what is written is the model's text, read as it was, with brackets that all must stand.
func (f face) checkTree(t *testing.T, n api.Node) {
	t.Helper()
	s := f.write(n)
	if want := model(n, 1); s != want {
		t.Fatalf("%s: %q, want %q", f.name, s, want)
	}
	m, ok := f.back(s)
	if !ok || !tree.Same(m, n) {
		t.Fatalf("%s: %q is read as %#v", f.name, s, m)
	}
	if again := f.write(m); again != s {
		t.Fatalf("%s: %q is written again as %q", f.name, s, again)
	}
	f.checkBrackets(t, n, s)
}

// checkBrackets: without two brackets that belong together another tree is read, or none. Of long texts it would take too long.
func (f face) checkBrackets(t *testing.T, n api.Node, s string) {
	t.Helper()
	const most = 1000
	if len(s) > most {
		return
	}
	l, _, _ := lex.Lex(s)
	var open []int
	for i, x := range l {
		switch {
		case x.Kind == api.TokenSign && x.Text == "(":
			open = append(open, i)
		case x.Kind == api.TokenSign && x.Text == ")":
			first := open[len(open)-1]
			open = open[:len(open)-1]
			without := slices.Concat(l[:first], l[first+1:i], l[i+1:])
			if m, ok := f.backOf(without); ok && tree.Same(m, n) {
				t.Fatalf("%s: %q without the brackets at %d and %d is the same", f.name, s, l[first].At, x.At)
			}
		}
	}
}

// Promises 9.1 and 9.2: each tree in each place of each other one. What has the form has its text; what has not has none.
func TestEachInEachPlace(t *testing.T) {
	seen := map[int]int{}
	for _, n := range all() {
		for _, in := range places(n) {
			for _, k := range all() {
				x := in(k)
				for _, f := range faces() {
					if tree.Form(x) != f.form {
						f.checkNothing(t, x)
						continue
					}
					f.checkTree(t, x)
					seen[f.form]++
				}
			}
		}
	}
	for _, f := range faces() {
		if seen[f.form] < 500 {
			t.Errorf("%s: only %d were tried", f.name, seen[f.form])
		}
	}
}

// Promises 9.1 and 9.2: three signs within one another, in all orders.
func TestThreeDeep(t *testing.T) {
	a := col("a")
	some := []func(k api.Node) api.Node{neg, not, func(k api.Node) api.Node { return isNull(1, k) }, func(k api.Node) api.Node { return in(k, a) }, func(k api.Node) api.Node { return in(a, k) },
		func(k api.Node) api.Node { return between(k, a, a) }, func(k api.Node) api.Node { return between(a, k, a) }, func(k api.Node) api.Node { return between(a, a, k) }, func(k api.Node) api.Node { return call("f", k) }, func(k api.Node) api.Node { return choice(a, k, a) }}
	for _, s := range strings.Fields("or and = < + - * %") {
		some = append(some, func(k api.Node) api.Node { return binary(s, k, a) }, func(k api.Node) api.Node { return binary(s, a, k) })
	}
	for _, x := range some {
		for _, y := range some {
			for _, z := range some {
				exprFace().checkTree(t, x(y(z(a))))
			}
		}
	}
}

// Promises 9.1 and 9.2: three patterns within one another, in all orders.
func TestThreePatternsDeep(t *testing.T) {
	a := event("A")
	some := []func(k api.Node) api.Node{every, func(k api.Node) api.Node { return within(5, k) }, func(k api.Node) api.Node { return both(k, a) }, func(k api.Node) api.Node { return both(a, k) }, func(k api.Node) api.Node { return both(a, never(k)) }, func(k api.Node) api.Node { return both(k, never(a)) },
		func(k api.Node) api.Node { return either(k, a) }, func(k api.Node) api.Node { return either(a, k) }, func(k api.Node) api.Node { return then(k, a) }, func(k api.Node) api.Node { return then(a, k) }}
	for _, x := range some {
		for _, y := range some {
			for _, z := range some {
				patternFace().checkTree(t, x(y(z(a))))
			}
		}
	}
}
