package print_test

import (
	"strings"
	"testing"

	"marquee/api"
)

// Promise 9.1: the chapter's example.
func TestExampleOfStatements(t *testing.T) {
	s := streamAs("Trade", binary(">", col("qty"), whole(1)), name("t"), view("length", whole(5)))
	stmtFace().check(t, []printed{{
		node(api.Select, "", 1, none(), list(item("", col("sym")), item("p", col("price"))), list(s), binary(">", colOf("t", "price"), whole(10)), list(), none(), list(), rate("last", 1000, "ms")),
		"select sym, price as p from Trade(qty > 1)#length(5) as t where t.price > 10 output last every 1000ms",
	}})
}

// Promise 9.1.
func TestCreateSchema(t *testing.T) {
	stmtFace().check(t, []printed{
		{schema("S", column("a", 1)), "create schema S (a bool)"},
		{schema("S", column("a", 2), column("b", 4)), "create schema S (a int, b text)"},
		{schema("int", column("bool", 1), column("int", 2), column("dec", 3), column("text", 4)), "create schema int (bool bool, int int, dec dec, text text)"},
		{schema("S", repeat(column("x", 3), api.MaxColumns)...), "create schema S (" + joined("x dec", api.MaxColumns) + ")"},
	})
	stmtFace().checkNothing(t, schema("S"), schema("", column("a", 1)), schema("S", column("a", 0)), schema("S", column("a", 5)), schema("S", column("all", 1)), schema("S", col("a")), schema("S", repeat(column("x", 3), api.MaxColumns+1)...))
}

// Promise 9.1: each view, alone and behind others.
func TestViews(t *testing.T) {
	a, b := col("a"), col("b")
	views := []printed{
		{view("keepall"), "#keepall"}, {view("lastevent"), "#lastevent"}, {view("firstevent"), "#firstevent"},
		{view("length", whole(1)), "#length(1)"}, {view("length", whole(api.MaxSize)), "#length(65536)"}, {view("length_batch", whole(2)), "#length_batch(2)"}, {view("length_batch", whole(api.MaxSize)), "#length_batch(65536)"},
		{view("time", period(1)), "#time(1ms)"}, {view("time", period(api.MaxTime)), "#time(1099511627776ms)"}, {view("time_batch", period(60000)), "#time_batch(60000ms)"},
		{view("unique", a), "#unique(a)"}, {view("unique", a, b, a), "#unique(a, b, a)"}, {view("unique", repeat(b, api.MaxColumns)...), "#unique(" + joined("b", api.MaxColumns) + ")"},
		{view("sorted", whole(3), order(0, a)), "#sorted(3, a)"}, {view("sorted", whole(api.MaxSize), order(1, col("ms2"))), "#sorted(65536, ms2 desc)"},
	}
	for _, x := range views {
		stmtFace().check(t, []printed{
			{window("W", "S", x.n), "create window W" + x.want + " as S"}, {window("W", "S", repeat(x.n, api.MaxViews)...), "create window W" + strings.Repeat(x.want, api.MaxViews) + " as S"},
			{from(stream("A", x.n)), "select * from A" + x.want}, {from(streamAs("A", a, name("x"), view("keepall"), x.n)), "select * from A(a)#keepall" + x.want + " as x"},
			{from(stream("A", x.n, view("lastevent")), streamAs("B", b, none(), x.n)), "select * from A" + x.want + "#lastevent, B(b)" + x.want},
		})
	}
	for _, v := range []api.Node{
		view(""), view("all"), view("KEEPALL"), view("keepall", whole(1)), view("length"), view("length", whole(0)), view("length", whole(-1)), view("length", whole(api.MaxSize+1)), view("length", period(1)), view("length", a), view("time", whole(1)), view("time", period(0)), view("time", period(-1)),
		view("time", period(api.MaxTime+1)), view("unique"), view("unique", whole(1)), view("unique", colOf("t", "a")), view("unique", repeat(a, api.MaxColumns+1)...), view("sorted", whole(1)), view("sorted", whole(1), a), view("sorted", order(0, a), whole(1)), view("sorted", whole(1), order(2, a)), view("sorted", whole(1), order(0, neg(a))),
	} {
		stmtFace().checkNothing(t, window("W", "S", v), from(stream("A", v)))
	}
	stmtFace().checkNothing(t, window("W", "S"), window("W", "S", repeat(view("keepall"), api.MaxViews+1)...), from(stream("A", repeat(view("keepall"), api.MaxViews+1)...)))
}

// Promise 9.1: create context in its three ways.
func TestCreateContext(t *testing.T) {
	a := col("a")
	filter := binary(">", col("x"), whole(1))
	low, high := item("low", binary("<=", a, whole(1))), item("high", binary("or", a, not(a)))
	stmtFace().check(t, []printed{
		{context("C", keyed(colOf("E", "a"))), "create context C partition by a from E"},
		{context("C", keyed(colOf("E", "a"), colOf("F", "b"), colOf("a", "a"))), "create context C partition by a from E, b from F, a from a"},
		{context("C", keyed(repeat(colOf("E", "a"), api.MaxItems)...)), "create context C partition by " + joined("a from E", api.MaxItems)},
		{context("C", categories("S", low)), "create context C when a <= 1 then low from S"},
		{context("C", categories("S", low, high, low)), "create context C when a <= 1 then low, when a or not a then high, when a <= 1 then low from S"},
		{context("C", categories("S", item("n", choice(a, a, a)))), "create context C when case when a then a else a end then n from S"},
		{context("C", categories("S", repeat(low, api.MaxItems)...)), "create context C " + joined("when a <= 1 then low", api.MaxItems) + " from S"},
		{context("C", spans(0, stream("A"), stream("B"))), "create context C start A end B"},
		{context("C", spans(1, stream("A"), stream("B"))), "create context C overlapping start A end B"},
		{context("C", spans(0, streamAs("A", filter, none()), streamAs("B", neg(a), none()))), "create context C start A(x > 1) end B(-a)"},
		{context("C", spans(0, stream("A"), timer(1))), "create context C start A within 1ms"},
		{context("C", spans(1, streamAs("A", filter, none()), timer(api.MaxTime))), "create context C overlapping start A(x > 1) within 1099511627776ms"},
	})
	stmtFace().checkNothing(t, context("", keyed(colOf("E", "a"))), context("C", keyed()), context("C", keyed(a)), context("C", keyed(repeat(colOf("E", "a"), api.MaxItems+1)...)), context("C", categories("S")), context("C", categories("", low)), context("C", categories("S", item("", a))), context("C", categories("S", repeat(low, api.MaxItems+1)...)),
		context("C", spans(2, stream("A"), stream("B"))), context("C", spans(0, stream("A"), timer(0))), context("C", spans(0, timer(1), stream("A"))), context("C", spans(0, streamAs("A", none(), name("a")), stream("B"))), context("C", spans(0, stream("A"), stream("B", view("keepall")))), context("C", none()),
		keyed(colOf("E", "a")), categories("S", low), spans(0, stream("A"), timer(1)))
}

// selected are the parts of a Select, each with what its kid (its text, its number) becomes, and what is written then.
type selected struct {
	change func(n *api.Node)
	want   string
}

func kidAt(at int, k api.Node) func(n *api.Node) {
	return func(n *api.Node) { n.Kids[at] = k }
}

// optionals are the parts of a Select in the order in which they are written, each not there ahead of how it may be there.
func optionals() [][]selected {
	a := col("a")
	nothing := selected{func(*api.Node) {}, ""}
	return [][]selected{
		{nothing, {func(n *api.Node) { n.Text = "C" }, "context C "}},
		{nothing, {kidAt(intoAt, name("O")), "insert into O "}},
		{{func(n *api.Node) { n.N = 1 }, "select "}, {func(n *api.Node) { n.N = 2 }, "select rstream "}, {func(n *api.Node) { n.N = 3 }, "select irstream "}},
		{{kidAt(itemsAt, star()), "* from "}, {kidAt(itemsAt, list(item("", a), item("x", neg(a)))), "a, -a as x from "}},
		{{kidAt(fromAt, list(stream("A"))), "A"}, {kidAt(fromAt, list(streamAs("A", a, name("x")), stream("B"))), "A(a) as x, B"}, {kidAt(fromAt, ofPattern(every(event("A")), none())), "pattern [every A]"}},
		{nothing, {kidAt(whereAt, binary("or", a, a)), " where a or a"}},
		{nothing, {kidAt(groupsAt, list(a)), " group by a"}, {kidAt(groupsAt, list(a, binary("or", a, a))), " group by a, a or a"}},
		{nothing, {kidAt(havingAt, binary("or", a, a)), " having a or a"}},
		{nothing, {kidAt(rateAt, rate("first", 3, "events")), " output first every 3 events"}},
		{nothing, {kidAt(ordersAt, list(order(0, a))), " order by a"}, {kidAt(ordersAt, list(order(1, a), order(0, neg(a)))), " order by a desc, -a"}},
	}
}

// Promise 9.1: each part there and not there, with all others.
func TestPartsOfSelect(t *testing.T) {
	all := []printed{{selectAll(), ""}}
	for _, part := range optionals() {
		var more []printed
		for _, x := range all {
			for _, way := range part {
				n := x.n
				n.Kids = append([]api.Node{}, n.Kids...)
				way.change(&n)
				more = append(more, printed{n, x.want + way.want})
			}
		}
		all = more
	}
	if len(all) != 2*2*3*2*3*2*3*2*2*3 {
		t.Fatal(len(all))
	}
	stmtFace().check(t, all)
}

// Promise 9.1.
func TestItemsAndLists(t *testing.T) {
	a := col("a")
	most := repeat(a, api.MaxItems)
	stmtFace().check(t, []printed{
		{selectWith(itemsAt, list(item("", a))), "select a from A"}, {selectWith(itemsAt, list(item("asc", col("asc")))), "select asc as asc from A"},
		{selectWith(itemsAt, list(item("n", agg("count")), item("", distinct("sum", colOf("t", "a"))), item("s", text("as")))), "select count(*) as n, sum(distinct t.a), 'as' as s from A"},
		{selectWith(itemsAt, list(repeat(item("x", a), api.MaxItems)...)), "select " + joined("a as x", api.MaxItems) + " from A"},
		{selectWith(groupsAt, list(most...)), "select * from A group by " + joined("a", api.MaxItems)},
		{selectWith(ordersAt, list(repeat(order(1, a), api.MaxItems)...)), "select * from A order by " + joined("a desc", api.MaxItems)},
		{selectWith(ordersAt, list(order(0, col("asc")), order(1, col("asc")))), "select * from A order by asc, asc desc"},
		{from(streamAs("A", none(), name("a")), streamAs("B", in(a, a), name("b"))), "select * from A as a, B(a in (a)) as b"},
		{from(streamAs("A", a, none()), stream("A")), "select * from A(a), A"},
	})
	stmtFace().checkNothing(t, selectWith(itemsAt, list()), selectWith(itemsAt, list(item("all", a))), selectWith(itemsAt, list(a)), selectWith(itemsAt, list(repeat(item("x", a), api.MaxItems+1)...)), selectWith(groupsAt, list(append(most, a)...)), selectWith(ordersAt, list(a)), selectWith(ordersAt, list(order(2, a))), selectWith(groupsAt, none()), selectWith(ordersAt, none()),
		from(), from(stream("A"), stream("B"), stream("C")), from(stream("")), from(streamAs("A", none(), a)), selectWith(fromAt, stream("A")), selectWith(whereAt, list()), selectWith(whereAt, name("a")), selectWith(intoAt, a), node(api.Select, "", 0, selectAll().Kids...), node(api.Select, "", 4, selectAll().Kids...), node(api.Select, "on", 1, selectAll().Kids...))
}

// Promise 9.1: each rate by events and by a period.
func TestRates(t *testing.T) {
	for _, s := range strings.Fields("all first last snapshot") {
		stmtFace().check(t, []printed{
			{selectWith(rateAt, rate(s, 1, "events")), "select * from A output " + s + " every 1 events"}, {selectWith(rateAt, rate(s, api.MaxSize, "events")), "select * from A output " + s + " every 65536 events"},
			{selectWith(rateAt, rate(s, 1, "ms")), "select * from A output " + s + " every 1ms"}, {selectWith(rateAt, rate(s, api.MaxTime, "ms")), "select * from A output " + s + " every 1099511627776ms"},
		})
		stmtFace().checkNothing(t, selectWith(rateAt, rate(s, 0, "events")), selectWith(rateAt, rate(s, 0, "ms")), selectWith(rateAt, rate(s, api.MaxSize+1, "events")), selectWith(rateAt, rate(s, api.MaxTime+1, "ms")), selectWith(rateAt, rate(s, 1, "s")), selectWith(rateAt, node(api.Rate, s, 1)))
	}
	stmtFace().checkNothing(t, selectWith(rateAt, rate("", 1, "ms")), selectWith(rateAt, rate("every", 1, "ms")), selectWith(rateAt, name("ms")))
}

// Promise 9.1: what is done on an event, with each part there and not there.
func TestOn(t *testing.T) {
	a := col("a")
	some := list(set("a", binary("+", a, whole(1))), set("b", text("x")))
	one := list(set("a", binary("=", a, a)))
	for _, source := range []printed{{stream("S"), "on S "}, {streamAs("S", none(), name("s")), "on S as s "}, {streamAs("S", neg(a), none()), "on S(-a) "}, {streamAs("S", binary("or", a, a), name("s")), "on S(a or a) as s "}} {
		for _, target := range []printed{{stream("W"), "W"}, {streamAs("W", none(), name("w")), "W as w"}} {
			for _, where := range []printed{{none(), ""}, {binary("or", binary("=", colOf("w", "a"), a), a), " where w.a = a or a"}} {
				stmtFace().check(t, []printed{
					{node(api.OnDelete, "", 0, source.n, target.n, where.n), source.want + "delete from " + target.want + where.want},
					{node(api.OnUpdate, "", 0, source.n, target.n, one, where.n), source.want + "update " + target.want + " set a = a = a" + where.want},
					{node(api.OnUpdate, "", 0, source.n, target.n, some, where.n), source.want + "update " + target.want + " set a = a + 1, b = 'x'" + where.want},
					{node(api.OnSelect, "", 0, source.n, target.n, star(), where.n), source.want + "select * from " + target.want + where.want},
					{node(api.OnSelect, "", 0, source.n, target.n, list(item("", a), item("x", agg("count"))), where.n), source.want + "select a, count(*) as x from " + target.want + where.want},
				})
			}
			stmtFace().check(t, []printed{
				{node(api.OnMerge, "", 0, source.n, target.n, a, one), source.want + "merge " + target.want + " where a when matched then update set a = a = a"},
				{node(api.OnMerge, "", 1, source.n, target.n, binary("or", a, a), some), source.want + "merge " + target.want + " where a or a when matched then update set a = a + 1, b = 'x' when not matched then insert"},
				{node(api.OnMerge, "", 1, source.n, target.n, choice(a, a, a), list(set("b", choice(a, a, a)))), source.want + "merge " + target.want + " where case when a then a else a end when matched then update set b = case when a then a else a end when not matched then insert"},
			})
		}
	}
	s, w := stream("S"), stream("W")
	most := repeat(set("a", a), api.MaxItems)
	stmtFace().check(t, []printed{{node(api.OnUpdate, "", 0, s, w, list(most...), none()), "on S update W set " + joined("a = a", api.MaxItems)}})
	stmtFace().checkNothing(t, node(api.OnUpdate, "", 0, s, w, list(append(most, set("a", a))...), none()), node(api.OnUpdate, "", 0, s, w, list(), none()), node(api.OnUpdate, "", 0, s, w, list(set("set", a)), none()), node(api.OnMerge, "", 0, s, w, none(), one), node(api.OnMerge, "", 2, s, w, a, one),
		node(api.OnDelete, "", 0, stream("S", view("keepall")), w, none()), node(api.OnDelete, "", 0, s, stream("W", view("keepall")), none()), node(api.OnDelete, "", 0, s, streamAs("W", a, none()), none()), node(api.OnDelete, "", 0, s, w), node(api.OnSelect, "", 0, s, w, list(), none()), node(api.OnSelect, "", 0, s, star(), w, none()))
}
