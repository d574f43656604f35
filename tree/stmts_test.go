package tree_test

import (
	"math"
	"slices"
	"testing"

	"marquee/api"
	"marquee/tree"
)

// Promise 6.1: what partitions are made by is no statement, and is one in a CreateContext.
func TestPartsOfContexts(t *testing.T) {
	for _, k := range []api.Node{keyed(colOf("A", "a")), categories(item("a", col("a"))), spans(stream("A"), timer(1))} {
		checkForm(t, api.FormNone, k, partition(partition(k)), node(api.CreateContext, "C", 0, k, k), node(api.CreateContext, "C", 1, k), node(api.CreateContext, "", 0, k))
		checkForm(t, api.FormStmt, partition(k))
	}
	checkForm(t, api.FormNone, node(api.CreateContext, "C", 0), partition(none()), partition(col("a")), partition(list(colOf("A", "a"))))
}

// Promise 6.1: each place of an Id takes the same names.
func TestIdsOfStatements(t *testing.T) {
	places := func(s string) []api.Node {
		w := stream("W")
		return []api.Node{
			node(api.CreateSchema, s, 0, column("a", 1)), node(api.CreateSchema, "S", 0, column(s, 1)),
			node(api.CreateWindow, s, 0, name("S"), view("keepall")), node(api.CreateWindow, "W", 0, name(s), view("keepall")),
			node(api.CreateContext, s, 0, keyed(colOf("A", "a"))), partition(keyed(colOf(s, "a"))), partition(keyed(colOf("A", s))),
			partition(node(api.Categories, s, 0, item("a", col("a")))), partition(categories(item(s, col("a")))), partition(spans(stream(s), timer(1))), partition(spans(stream("A"), stream(s))),
			selectWith(intoAt, name(s)), selectWith(fromAt, list(stream(s))), selectWith(fromAt, list(streamAs("A", none(), name(s)))), selectWith(fromAt, node(api.Pattern, "", 0, event("A"), name(s))),
			overView(view("unique", col(s))), overView(view("sorted", whole(1), order(0, col(s)))),
			node(api.OnDelete, "", 0, stream(s), w, none()), node(api.OnDelete, "", 0, w, stream(s), none()), node(api.OnDelete, "", 0, w, streamAs("W", none(), name(s)), none()),
			node(api.OnUpdate, "", 0, w, w, list(set(s, col("a"))), none()),
		}
	}
	orEmpty := func(s string) []api.Node {
		n := selectAll()
		n.Text = s
		return []api.Node{n, selectWith(itemsAt, list(item(s, col("a"))))}
	}
	for _, s := range goodIds() {
		checkForm(t, api.FormStmt, append(places(s), orEmpty(s)...)...)
	}
	for _, s := range badIds() {
		checkForm(t, api.FormNone, append(places(s), orEmpty(s)...)...)
	}
	checkForm(t, api.FormNone, places("")...)
	checkForm(t, api.FormStmt, orEmpty("")...)
}

// Promise 6.1: what a statement does not name is zero, and so is what its parts do not name.
func TestWhatIsNotNamed(t *testing.T) {
	w, sets := stream("W"), list(set("a", whole(1)))
	for _, x := range []struct {
		text, n bool // whether a Text, a number is named
		make    func(text string, n int) api.Node
	}{
		{true, false, func(s string, n int) api.Node { return node(api.CreateSchema, "S"+s, n, column("a", 1)) }},
		{true, false, func(s string, n int) api.Node { return node(api.CreateWindow, "W"+s, n, name("S"), view("keepall")) }},
		{true, false, func(s string, n int) api.Node { return node(api.CreateContext, "C"+s, n, keyed(colOf("A", "a"))) }},
		{false, false, func(s string, n int) api.Node { return partition(node(api.Keyed, s, n, colOf("A", "a"))) }},
		{true, false, func(s string, n int) api.Node { return partition(node(api.Categories, "A"+s, n, item("a", col("a")))) }},
		{false, true, func(s string, n int) api.Node { return partition(node(api.Spans, s, n, stream("A"), timer(1))) }},
		{false, false, func(s string, n int) api.Node { return node(api.OnDelete, s, n, w, w, none()) }},
		{false, false, func(s string, n int) api.Node { return node(api.OnUpdate, s, n, w, w, sets, none()) }},
		{false, false, func(s string, n int) api.Node { return node(api.OnSelect, s, n, w, w, star(), none()) }},
		{false, true, func(s string, n int) api.Node { return node(api.OnMerge, s, n, w, w, whole(1), sets) }},
		{false, false, func(s string, n int) api.Node { return selectWith(itemsAt, node(api.Star, s, n)) }},
		{false, false, func(s string, n int) api.Node { return selectWith(itemsAt, node(api.List, s, n, item("", col("a")))) }},
		{true, false, func(s string, n int) api.Node { return selectWith(itemsAt, list(node(api.Item, "a"+s, n, col("a")))) }},
		{false, false, func(s string, n int) api.Node { return selectWith(fromAt, node(api.List, s, n, w)) }},
		{true, false, func(s string, n int) api.Node {
			return selectWith(fromAt, list(node(api.Stream, "A"+s, n, none(), none())))
		}},
		{true, false, func(s string, n int) api.Node {
			return selectWith(fromAt, list(streamAs("A", none(), node(api.Name, "a"+s, n))))
		}},
		{false, false, func(s string, n int) api.Node { return selectWith(fromAt, node(api.Pattern, s, n, event("A"), none())) }},
		{false, false, func(s string, n int) api.Node { return selectWith(groupsAt, node(api.List, s, n)) }},
		{false, false, func(s string, n int) api.Node { return selectWith(ordersAt, node(api.List, s, n)) }},
		{false, true, func(s string, n int) api.Node { return selectWith(ordersAt, list(node(api.Order, s, n, col("a")))) }},
		{false, false, func(s string, n int) api.Node { return overView(node(api.View, "keepall"+s, n)) }},
		{true, false, func(s string, n int) api.Node { return overView(view("unique", node(api.Col, "a"+s, n))) }},
		{false, true, func(s string, n int) api.Node {
			return overView(view("sorted", whole(1), node(api.Order, s, n, col("a"))))
		}},
		{true, false, func(s string, n int) api.Node {
			return node(api.OnUpdate, "", 0, w, w, list(node(api.Set, "a"+s, n, whole(1))), none())
		}},
		{false, false, func(s string, n int) api.Node {
			return node(api.OnUpdate, "", 0, w, w, node(api.List, s, n, set("a", whole(1))), none())
		}},
	} {
		checkForms(t, []asked{{x.make("", 0), api.FormStmt}, {x.make("x", 0), formIf(x.text)}, {x.make("", 1), formIf(x.n)}, {x.make("", -1), api.FormNone}, {x.make("", 2), api.FormNone}, {x.make("", math.MinInt), api.FormNone}})
	}
}

func formIf(yes bool) int {
	if yes {
		return api.FormStmt
	}
	return api.FormNone
}

// Promise 6.1: a kid more or less is no statement, and no part of one, but where a list is asked for.
func TestKidsMoreAndLess(t *testing.T) {
	sets := list(set("a", whole(1)))
	for _, x := range []struct {
		fixed api.Node
		in    func(n api.Node) api.Node
	}{
		{selectAll(), itself}, {partition(keyed(colOf("A", "a"))), itself}, {node(api.OnDelete, "", 0, stream("A"), stream("W"), none()), itself},
		{node(api.OnUpdate, "", 0, stream("A"), stream("W"), sets, none()), itself}, {node(api.OnSelect, "", 0, stream("A"), stream("W"), star(), none()), itself},
		{node(api.OnMerge, "", 0, stream("A"), stream("W"), whole(1), sets), itself}, {spans(stream("A"), stream("B")), partition},
		{item("a", whole(1)), func(n api.Node) api.Node { return selectWith(itemsAt, list(n)) }},
		{set("a", whole(1)), func(n api.Node) api.Node {
			return node(api.OnUpdate, "", 0, stream("A"), stream("W"), list(n), none())
		}},
		{order(0, whole(1)), func(n api.Node) api.Node { return selectWith(ordersAt, list(n)) }},
		{node(api.Pattern, "", 0, event("A"), none()), func(n api.Node) api.Node { return selectWith(fromAt, n) }},
		{rate("all", 1, "events"), func(n api.Node) api.Node { return selectWith(rateAt, n) }},
		{stream("A"), func(n api.Node) api.Node { return selectWith(fromAt, list(n)) }},
		{column("a", 1), func(n api.Node) api.Node { return node(api.CreateSchema, "S", 0, n) }},
		{star(), func(n api.Node) api.Node { return selectWith(itemsAt, n) }},
	} {
		checkForm(t, api.FormStmt, x.in(x.fixed))
		for i := range x.fixed.Kids {
			less := tree.Copy(x.fixed)
			less.Kids = slices.Delete(less.Kids, i, i+1)
			checkForm(t, api.FormNone, x.in(less))
			twice := tree.Copy(x.fixed)
			twice.Kids = slices.Insert(twice.Kids, i, x.fixed.Kids[i])
			checkForm(t, api.FormNone, x.in(twice))
		}
		for _, k := range []api.Node{none(), whole(1), list()} {
			more := tree.Copy(x.fixed)
			more.Kids = append(more.Kids, k)
			checkForm(t, api.FormNone, x.in(more))
		}
	}
}

func itself(n api.Node) api.Node { return n }

// Promise 6.1: lists at their bounds, and one beyond them.
func TestLengthsOfLists(t *testing.T) {
	for _, x := range []struct {
		least, most int
		in          func(n int) api.Node
	}{
		{1, api.MaxColumns, func(n int) api.Node { return node(api.CreateSchema, "S", 0, repeat(column("a", 1), n)...) }},
		{1, api.MaxViews, func(n int) api.Node {
			return node(api.CreateWindow, "W", 0, append([]api.Node{name("S")}, repeat(view("keepall"), n)...)...)
		}},
		{0, api.MaxViews, func(n int) api.Node { return selectWith(fromAt, list(stream("A", repeat(view("keepall"), n)...))) }},
		{1, api.MaxItems, func(n int) api.Node { return partition(keyed(repeat(colOf("A", "a"), n)...)) }},
		{1, api.MaxItems, func(n int) api.Node { return partition(categories(repeat(item("a", col("a")), n)...)) }},
		{1, api.MaxItems, func(n int) api.Node { return selectWith(itemsAt, list(repeat(item("", col("a")), n)...)) }},
		{1, 2, func(n int) api.Node { return selectWith(fromAt, list(repeat(stream("A"), n)...)) }},
		{0, api.MaxItems, func(n int) api.Node { return selectWith(groupsAt, list(repeat(col("a"), n)...)) }},
		{0, api.MaxItems, func(n int) api.Node { return selectWith(ordersAt, list(repeat(order(0, col("a")), n)...)) }},
		{1, api.MaxItems, func(n int) api.Node {
			return node(api.OnUpdate, "", 0, stream("A"), stream("W"), list(repeat(set("a", col("a")), n)...), none())
		}},
		{1, api.MaxItems, func(n int) api.Node {
			return node(api.OnMerge, "", 0, stream("A"), stream("W"), col("a"), list(repeat(set("a", col("a")), n)...))
		}},
		{1, api.MaxItems, func(n int) api.Node {
			return node(api.OnSelect, "", 0, stream("A"), stream("W"), list(repeat(item("", col("a")), n)...), none())
		}},
		{1, api.MaxColumns, func(n int) api.Node { return overView(view("unique", repeat(col("a"), n)...)) }},
	} {
		for n := range api.MaxColumns + 10 {
			checkForm(t, formIf(x.least <= n && n <= x.most), x.in(n))
		}
	}
}

// Promise 6.1: each thing of a list is looked at, the first and the last.
func TestThingsOfLists(t *testing.T) {
	for _, x := range []struct {
		good, bad api.Node
		most      int
		in        func(kids ...api.Node) api.Node
	}{
		{column("a", 1), column("a", 0), api.MaxColumns, func(l ...api.Node) api.Node { return node(api.CreateSchema, "S", 0, l...) }},
		{view("keepall"), view("length"), api.MaxViews, func(l ...api.Node) api.Node {
			return node(api.CreateWindow, "W", 0, append([]api.Node{name("S")}, l...)...)
		}},
		{view("keepall"), view("length"), api.MaxViews, func(l ...api.Node) api.Node { return selectWith(fromAt, list(stream("A", l...))) }},
		{colOf("A", "a"), col("a"), api.MaxItems, func(l ...api.Node) api.Node { return partition(keyed(l...)) }},
		{item("a", col("a")), item("", col("a")), api.MaxItems, func(l ...api.Node) api.Node { return partition(categories(l...)) }},
		{item("", col("a")), star(), api.MaxItems, func(l ...api.Node) api.Node { return selectWith(itemsAt, list(l...)) }},
		{item("", col("a")), col("a"), api.MaxItems, func(l ...api.Node) api.Node { return selectWith(itemsAt, list(l...)) }},
		{stream("A"), event("A"), 2, func(l ...api.Node) api.Node { return selectWith(fromAt, list(l...)) }},
		{stream("A"), node(api.Pattern, "", 0, event("A"), none()), 2, func(l ...api.Node) api.Node { return selectWith(fromAt, list(l...)) }},
		{col("a"), none(), api.MaxItems, func(l ...api.Node) api.Node { return selectWith(groupsAt, list(l...)) }},
		{col("a"), item("a", col("a")), api.MaxItems, func(l ...api.Node) api.Node { return selectWith(groupsAt, list(l...)) }},
		{order(1, col("a")), order(2, col("a")), api.MaxItems, func(l ...api.Node) api.Node { return selectWith(ordersAt, list(l...)) }},
		{order(1, col("a")), col("a"), api.MaxItems, func(l ...api.Node) api.Node { return selectWith(ordersAt, list(l...)) }},
		{set("a", col("a")), item("a", col("a")), api.MaxItems, func(l ...api.Node) api.Node {
			return node(api.OnUpdate, "", 0, stream("A"), stream("W"), list(l...), none())
		}},
		{col("a"), colOf("t", "a"), api.MaxColumns, func(l ...api.Node) api.Node { return overView(view("unique", l...)) }},
	} {
		checkForm(t, api.FormStmt, x.in(repeat(x.good, x.most)...))
		for i := range x.most {
			l := repeat(x.good, x.most)
			l[i] = x.bad
			checkForm(t, api.FormNone, x.in(l...))
		}
	}
}

// Promise 6.1.
func TestColumnsOfSchemas(t *testing.T) {
	for _, kind := range []int{api.KindBool, api.KindInt, api.KindDec, api.KindText} {
		checkForm(t, api.FormStmt, node(api.CreateSchema, "S", 0, column("a", kind)))
	}
	for _, n := range []api.Node{column("a", 0), column("a", 5), column("a", -1), node(api.Column_, "a", 1, none()), col("a"), colOf("S", "a"), item("a", whole(1))} {
		checkForm(t, api.FormNone, node(api.CreateSchema, "S", 0, n))
	}
}

// Promise 6.1.
func TestWindows(t *testing.T) {
	create := func(kids ...api.Node) api.Node { return node(api.CreateWindow, "W", 0, kids...) }
	checkForm(t, api.FormStmt, create(name("S"), view("keepall")))
	checkForm(t, api.FormNone, create(), create(name("S")), create(view("keepall")), create(view("keepall"), name("S")), create(none(), view("keepall")), create(col("S"), view("keepall")), create(name("S"), name("S"), view("keepall")), create(name("S"), view("length")))
}

// Promise 6.1.
func TestViews(t *testing.T) {
	for _, s := range []string{"keepall", "lastevent", "firstevent"} {
		checkForm(t, api.FormStmt, overView(view(s)))
		checkForm(t, api.FormNone, overView(view(s, whole(1))), overView(view(s, none())), overView(node(api.View, s, 1)))
	}
	for _, s := range []string{"length", "length_batch"} {
		checkForm(t, api.FormStmt, overView(view(s, whole(1))), overView(view(s, whole(api.MaxSize))))
		for _, l := range [][]api.Node{nil, {whole(0)}, {whole(-1)}, {whole(api.MaxSize + 1)}, {period(1)}, {node(api.Dec, "", 1)}, {col("a")}, {whole(1), whole(1)}, {none()}, {node(api.Int, "", 1, whole(1))}, {binary("+", whole(1), whole(1))}} {
			checkForm(t, api.FormNone, overView(view(s, l...)))
		}
	}
	for _, s := range []string{"time", "time_batch"} {
		checkForm(t, api.FormStmt, overView(view(s, period(1))), overView(view(s, period(api.MaxTime))))
		for _, l := range [][]api.Node{nil, {period(0)}, {period(-1)}, {period(api.MaxTime + 1)}, {whole(1)}, {node(api.Int, "MS", 1)}, {node(api.Int, "s", 1)}, {node(api.Dec, "ms", 1)}, {timer(1)}, {period(1), period(1)}, {node(api.Int, "ms", 1, whole(1))}} {
			checkForm(t, api.FormNone, overView(view(s, l...)))
		}
	}
	for _, s := range []string{"", "Keepall", "LENGTH", "batch", "a", "time batch", "#length", "select"} {
		checkForm(t, api.FormNone, overView(view(s)), overView(view(s, whole(1))), overView(view(s, period(1))), overView(view(s, col("a"))))
	}
}

// Promise 6.1.
func TestViewsOfColumns(t *testing.T) {
	checkForm(t, api.FormStmt, overView(view("unique", col("a"))), overView(view("unique", col("a"), col("b"), col("a"))))
	for _, l := range [][]api.Node{nil, {whole(1)}, {name("a")}, {colOf("t", "a")}, {order(0, col("a"))}, {col("a"), whole(1)}, {node(api.Col, "a", 1)}, {text("a")}} {
		checkForm(t, api.FormNone, overView(view("unique", l...)))
	}
	by := order(0, col("a"))
	checkForm(t, api.FormStmt, overView(view("sorted", whole(1), by)), overView(view("sorted", whole(api.MaxSize), order(1, col("a")))))
	for _, l := range [][]api.Node{nil, {whole(1)}, {by}, {by, whole(1)}, {whole(1), by, by}, {whole(0), by}, {whole(api.MaxSize + 1), by}, {period(1), by}, {whole(1), col("a")}, {whole(1), order(0, colOf("t", "a"))}, {whole(1), order(0, whole(1))}, {whole(1), order(2, col("a"))}, {whole(1), order(0, col("by"))}, {whole(1), node(api.Order, "", 0)}, {whole(1), node(api.Order, "", 0, col("a"), col("a"))}, {whole(1), node(api.Order, "desc", 1, col("a"))}} {
		checkForm(t, api.FormNone, overView(view("sorted", l...)))
	}
}

// Promise 6.1.
func TestStreams(t *testing.T) {
	from := func(n api.Node) api.Node { return selectWith(fromAt, list(n)) }
	v := view("keepall")
	checkForm(t, api.FormStmt, from(stream("A")), from(streamAs("A", col("a"), none())), from(streamAs("A", none(), name("t"))), from(streamAs("A", col("a"), name("t"), v, v, v, v)), selectWith(fromAt, list(stream("A"), streamAs("B", col("a"), name("t"), v))))
	checkForm(t, api.FormNone, from(node(api.Stream, "A", 0)), from(node(api.Stream, "A", 0, none())), from(node(api.Stream, "A", 0, v)), from(node(api.Stream, "A", 0, none(), v)), from(streamAs("A", name("t"), none())), from(streamAs("A", none(), col("t"))), from(streamAs("A", none(), none(), none())), from(streamAs("A", none(), none(), whole(1))), from(streamAs("A", whole(-1), none())))
	checkForm(t, api.FormNone, selectWith(fromAt, stream("A")), selectWith(fromAt, list()), selectWith(fromAt, star()), selectWith(fromAt, event("A")), selectWith(fromAt, list(name("A"))))
}

// Promise 6.1.
func TestPatternsOfSelects(t *testing.T) {
	from := func(kids ...api.Node) api.Node { return selectWith(fromAt, node(api.Pattern, "", 0, kids...)) }
	for _, p := range patterns() {
		checkForm(t, api.FormStmt, from(p, none()), from(p, name("p")))
		checkForm(t, api.FormNone, from(p), from(p, p), from(none(), p), from(p, none(), none()), from(p, col("p")))
	}
	checkForm(t, api.FormNone, from(), from(none(), none()), from(col("a"), none()), from(stream("A"), none()), from(api.Node{}, none()))
}

// Promise 6.1.
func TestSelects(t *testing.T) {
	for n := -1; n <= 5; n++ {
		s := selectAll()
		s.N = n
		checkForm(t, formIf(1 <= n && n <= 3), s)
	}
	for _, e := range exprs() {
		checkForm(t, api.FormStmt, selectWith(whereAt, e), selectWith(havingAt, e), selectWith(groupsAt, list(e)), selectWith(ordersAt, list(order(0, e))), selectWith(itemsAt, list(item("", e))))
		checkForm(t, api.FormNone, selectWith(intoAt, e), selectWith(itemsAt, e), selectWith(itemsAt, list(e)), selectWith(groupsAt, e), selectWith(ordersAt, list(e)), selectWith(rateAt, e), selectWith(fromAt, list(e)))
	}
	for _, e := range []api.Node{name("a"), event("A"), api.Node{}, whole(-1), star(), list(col("a"))} {
		checkForm(t, api.FormNone, selectWith(whereAt, e), selectWith(havingAt, e), selectWith(groupsAt, list(e)), selectWith(ordersAt, list(order(0, e))), selectWith(itemsAt, list(item("", e))))
	}
	checkForm(t, api.FormNone, selectWith(itemsAt, list(star())), selectWith(itemsAt, list()), selectWith(itemsAt, list(list(item("", col("a"))))), selectWith(intoAt, text("A")))
}

// Promise 6.1.
func TestRates(t *testing.T) {
	for _, s := range []string{"all", "first", "last", "snapshot"} {
		for _, n := range []int{1, 2, api.MaxSize} {
			checkForm(t, api.FormStmt, selectWith(rateAt, rate(s, n, "events")), selectWith(rateAt, rate(s, n, "ms")))
		}
		checkForm(t, api.FormStmt, selectWith(rateAt, rate(s, api.MaxSize+1, "ms")), selectWith(rateAt, rate(s, api.MaxTime, "ms")))
		checkForm(t, api.FormNone, selectWith(rateAt, rate(s, api.MaxSize+1, "events")), selectWith(rateAt, rate(s, api.MaxTime, "events")), selectWith(rateAt, rate(s, api.MaxTime+1, "ms")))
		for _, unit := range []string{"events", "ms"} {
			checkForm(t, api.FormNone, selectWith(rateAt, rate(s, 0, unit)), selectWith(rateAt, rate(s, -1, unit)))
			for _, k := range []api.Node{col(unit), text(unit), node(api.Name, unit, 1), node(api.Name, unit, 0, none()), none()} {
				checkForm(t, api.FormNone, selectWith(rateAt, node(api.Rate, s, 1, k)))
			}
		}
		for _, unit := range []string{"", "EVENTS", "Ms", "s", "a", "event"} {
			checkForm(t, api.FormNone, selectWith(rateAt, rate(s, 1, unit)))
		}
		checkForm(t, api.FormNone, selectWith(rateAt, node(api.Rate, s, 1)), selectWith(rateAt, node(api.Rate, s, 1, name("ms"), name("ms"))), selectWith(rateAt, node(api.View, s, 1, name("ms"))))
	}
	for _, s := range []string{"", "ALL", "every", "min", "a", "count"} {
		checkForm(t, api.FormNone, selectWith(rateAt, rate(s, 1, "events")), selectWith(rateAt, rate(s, 1, "ms")))
	}
}

// Promise 6.1.
func TestKeyedAndCategories(t *testing.T) {
	checkForm(t, api.FormStmt, partition(keyed(colOf("A", "a"))), partition(keyed(colOf("A", "a"), colOf("A", "a"), colOf("B", "b"))))
	for _, k := range []api.Node{col("a"), name("a"), none(), whole(1), node(api.Col, "a", 0, name("A"), name("A"))} {
		checkForm(t, api.FormNone, partition(keyed(k)), partition(categories(k)))
	}
	checkForm(t, api.FormNone, partition(keyed(item("a", colOf("A", "a")))), partition(categories(colOf("A", "a"))))
	for _, e := range exprs() {
		checkForm(t, api.FormStmt, partition(categories(item("a", e))))
		checkForm(t, api.FormNone, partition(categories(item("", e))))
	}
	checkForm(t, api.FormNone, partition(categories(item("a", none()))), partition(categories(item("a", name("a")))), partition(categories(star())))
}

// Promise 6.1.
func TestSpans(t *testing.T) {
	a, filtered, named, viewed := stream("A"), streamAs("A", col("a"), none()), streamAs("A", none(), name("s")), stream("A", view("keepall"))
	for _, good := range []api.Node{a, filtered} {
		checkForm(t, api.FormStmt, partition(spans(good, a)), partition(spans(a, good)), partition(spans(good, timer(1))), partition(spans(good, timer(api.MaxTime))), partition(node(api.Spans, "", 1, good, good)))
	}
	for _, bad := range []api.Node{named, viewed, streamAs("A", col("a"), name("s")), event("A"), none(), name("A"), timer(0), timer(-1), timer(api.MaxTime + 1), node(api.PatTimer, "a", 1), node(api.PatTimer, "", 1, event("A")), node(api.PatWithin, "", 1, event("A")), period(1)} {
		checkForm(t, api.FormNone, partition(spans(bad, a)), partition(spans(a, bad)), partition(spans(bad, bad)))
	}
	checkForm(t, api.FormNone, partition(spans(timer(1), a)), partition(spans(timer(1), timer(1))), partition(spans(a)), partition(spans()), partition(spans(a, a, a)), partition(node(api.Spans, "", 2, a, a)), partition(node(api.Spans, "", -1, a, a)), partition(node(api.Spans, "a", 0, a, a)))
}

// Promise 6.1: a Source is a Stream without Views, a Target one without a filter, too.
func TestOnStatements(t *testing.T) {
	a, filtered, named, both, viewed := stream("A"), streamAs("A", col("a"), none()), streamAs("A", none(), name("s")), streamAs("A", col("a"), name("s")), stream("A", view("keepall"))
	sets := list(set("a", whole(1)))
	for _, on := range []func(source, target api.Node) api.Node{
		func(s, w api.Node) api.Node { return node(api.OnDelete, "", 0, s, w, none()) },
		func(s, w api.Node) api.Node { return node(api.OnUpdate, "", 0, s, w, sets, none()) },
		func(s, w api.Node) api.Node { return node(api.OnSelect, "", 0, s, w, star(), none()) },
		func(s, w api.Node) api.Node { return node(api.OnMerge, "", 1, s, w, whole(1), sets) },
	} {
		for _, n := range []api.Node{a, named, filtered, both} {
			checkForm(t, api.FormStmt, on(n, a), on(n, named))
			checkForm(t, api.FormNone, on(n, filtered), on(n, both), on(n, viewed))
		}
		for _, n := range []api.Node{viewed, none(), name("A"), event("A"), list(a), streamAs("A", none(), none(), none()), node(api.Stream, "A", 0)} {
			checkForm(t, api.FormNone, on(n, a), on(a, n))
		}
	}
}

// Promise 6.1.
func TestWheresOfOnStatements(t *testing.T) {
	s, w, sets := stream("A"), stream("W"), list(set("a", whole(1)))
	for _, e := range append(exprs(), none()) {
		merge := formIf(e.Kind != api.None)
		checkForm(t, api.FormStmt, node(api.OnDelete, "", 0, s, w, e), node(api.OnUpdate, "", 0, s, w, sets, e), node(api.OnSelect, "", 0, s, w, star(), e))
		checkForm(t, merge, node(api.OnMerge, "", 0, s, w, e, sets), node(api.OnMerge, "", 1, s, w, e, list(set("a", e))), node(api.OnUpdate, "", 0, s, w, list(set("a", e)), none()))
	}
	for _, e := range []api.Node{name("a"), star(), list(col("a")), {}, event("A"), whole(-1)} {
		checkForm(t, api.FormNone, node(api.OnDelete, "", 0, s, w, e), node(api.OnUpdate, "", 0, s, w, sets, e), node(api.OnSelect, "", 0, s, w, star(), e), node(api.OnMerge, "", 0, s, w, e, sets), node(api.OnUpdate, "", 0, s, w, list(set("a", e)), none()))
	}
	for _, l := range []api.Node{star(), list(), list(item("a", col("a"))), set("a", col("a")), none()} {
		checkForm(t, api.FormNone, node(api.OnUpdate, "", 0, s, w, l, none()), node(api.OnMerge, "", 0, s, w, col("a"), l))
	}
	for _, l := range []api.Node{list(), sets, item("a", col("a")), none(), list(star())} {
		checkForm(t, api.FormNone, node(api.OnSelect, "", 0, s, w, l, none()))
	}
	checkForm(t, api.FormStmt, node(api.OnMerge, "", 0, s, w, col("a"), sets), node(api.OnMerge, "", 1, s, w, col("a"), sets))
	checkForm(t, api.FormNone, node(api.OnMerge, "", 2, s, w, col("a"), sets), node(api.OnMerge, "", -1, s, w, col("a"), sets), node(api.OnMerge, "insert", 1, s, w, col("a"), sets))
}
