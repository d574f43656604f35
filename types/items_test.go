package types_test

import (
	"fmt"
	"math"
	"strings"
	"testing"

	"marquee/api"
	"marquee/types"
)

// The chapter's examples.
func TestExamplesOfItems(t *testing.T) {
	checkItems(t,
		asked{items: "|null as a", err: api.ErrType},
		asked{items: "i, |i", err: api.ErrName},
		asked{items: "|x, sum(i)", err: api.ErrPlace},
		asked{items: "x, sum(i)", groups: "x", want: "x:t c2:i"},
	)
}

// Promise 11.3: what items give: kinds, and names by their text, their column, their number.
func TestItems(t *testing.T) {
	for items, want := range map[string]string{
		"i": "i:i", "t.i": "i:i", "u.a": "a:t", "(i)": "i:i", "i as p": "p:i", "i as i": "i:i", "t.i as t": "t:i", "x as c1": "c1:t",
		"i + 1": "c1:i", "b, i + 1": "b:b c2:i", "1, 2, 3": "c1:i c2:i c3:i", "- i": "c1:i", "'a', true, 2.5": "c1:t c2:b c3:d", "i + 1.5 as p, x, b is null": "p:d x:t c3:b",
		"count(*)": "c1:i", "count(*) as n, sum(i) as s": "n:i s:i", "min(x)": "c1:t", "avg(i), first(b)": "c1:d c2:b",
		"t.a, u.a as a2": "a:i a2:t", "i, i as I": "i:i I:i", "1 as c2, 2 as c1": "c2:i c1:i", "1, 2 as c3, x as c4": "c1:i c3:i c4:t", "i as d, d as i": "d:i i:d",
		"1, i as c3, x as c2": "c1:i c3:i c2:t", "case when b then null else d end": "c1:d", "upper(x)": "c1:t",
	} {
		checkItems(t, asked{items: items, want: want})
	}
}

// Promise 11.3: an item has no type, if its own is KindNull; that is told at the item, not at its expression.
func TestNullItems(t *testing.T) {
	for _, s := range []string{"|null", "|null as a", "|z", "|t.z as a", "i, |- null", "|null + null as p", "i, x, |coalesce(null, null)", "|case when b then null end", "|nullif(null, i)", "|null as i, i"} {
		checkItems(t, asked{items: s, err: api.ErrType})
	}
	l := list(placed(5, item("", placed(6, col("i")))), placed(7, item("", placed(8, null()))))
	checkItemsOf(t, l, fields(), nil, true, nil, 7, api.ErrType)
}

// Promise 11.3: a kind that is none is taken as it is.
func TestOddItems(t *testing.T) {
	l := list(item("", col("o")), item("", agg("first", col("o"))))
	want := []api.Column{{Name: "o", Kind: oddKind}, {Name: "c2", Kind: oddKind}}
	checkItemsOf(t, l, fields(), []api.Node{col("o")}, true, want, 0, api.OK)
}

// Promise 11.3: a name that is there already, told at the second item that gives it.
func TestNamesTwice(t *testing.T) {
	for _, s := range []string{
		"i, |i", "i, |t.i", "i, |x as i", "x as i, |i", "i as p, |x as p", "t.a, |u.a", "i as c2, |1", "1, |i as c1", "1, x, |i as c1", "1 as c3, x, |2", "1 as c3, 2 as c2, |count(*) as c2",
		"i, x, |i, x", "i, x, y, |i + 1 as y", "1 as c2, |2, 3", "b, d, |b, b",
	} {
		checkItems(t, asked{items: s, groups: "i, x, y, t.i, t.a, u.a, b, d", err: api.ErrName})
		if !strings.Contains(s, "count") {
			checkItems(t, asked{items: s, err: api.ErrName})
		}
	}
	l := list(placed(5, item("p", placed(6, col("i")))), placed(7, item("p", placed(8, col("x")))), placed(9, item("p", placed(10, col("x")))))
	checkItemsOf(t, l, fields(), nil, true, nil, 7, api.ErrName)
}

// Promise 11.3: of the errors of each item in its order, ahead of those of the next one.
func TestOrderOfItems(t *testing.T) {
	checkItems(t,
		asked{items: "|nope, x + 1", err: api.ErrName}, asked{items: "x |+ 1, nope", err: api.ErrType}, asked{items: "i, |nope, i", err: api.ErrName}, asked{items: "|abs(x), i, i", err: api.ErrFunc},
		asked{items: "i, |i, nope + 1", err: api.ErrName}, asked{items: "i, |i, x + 1", err: api.ErrName}, asked{items: "i, |i, null", err: api.ErrName}, asked{items: "i, |null as i", err: api.ErrType}, asked{items: "i, x |+ 1 as i", err: api.ErrType},
		asked{items: "|null, nope", err: api.ErrType}, asked{items: "|null, x + 1", err: api.ErrType}, asked{items: "|null, i, i", err: api.ErrType},
		asked{items: "|i, nope, count(*)", err: api.ErrPlace}, asked{items: "|nope, i, count(*)", err: api.ErrName}, asked{items: "i + |nope, count(*)", err: api.ErrName}, asked{items: "i + |nope(1), count(*)", err: api.ErrFunc},
		asked{items: "x, |i, null, count(*)", groups: "x", err: api.ErrPlace}, asked{items: "x, |null, i, count(*)", groups: "x", err: api.ErrType}, asked{items: "x, x + |nope, i", groups: "x", err: api.ErrName}, asked{items: "x, coalesce(null, |z)", groups: "x", err: api.ErrPlace}, asked{items: "x, |x, i", groups: "x", err: api.ErrName},
		asked{items: "x, |i as x", groups: "x", err: api.ErrPlace}, asked{items: "sum(|count(*)), i", err: api.ErrPlace}, asked{items: "|i, sum(count(*))", err: api.ErrPlace},
	)
}

// Promise 11.3: grouped by groups, or by an aggregate in any item.
func TestGroupedItems(t *testing.T) {
	for _, x := range []asked{
		{"i", "i", "i:i", 0}, {"i, count(*)", "i", "i:i c2:i", 0}, {"sum(d), i", "i", "c1:d i:i", 0}, {"sum(d)", "", "c1:d", 0}, {"1, 'a'", "i", "c1:i c2:t", 0},
		{"i + 1", "i", "c1:i", 0}, {"i + 1", "i + 1", "c1:i", 0}, {"(i + 1) * 2", "i + 1", "c1:i", 0}, {"x, i, i + d", "i, d, x", "x:t i:i c3:d", 0}, {"upper(x)", "upper(x)", "c1:t", 0}, {"case when i = 1 then 2 end", "i", "c1:i", 0},
		{"sum(i + d) + j", "j", "c1:d", 0}, {"max(x), min(i) + max(j)", "", "c1:t c2:i", 0}, {"t.i", "t.i", "i:i", 0}, {"i between 1 and 2", "i between 1 and 2", "c1:b", 0}, {"abs(i + d)", "x, i + d", "c1:d", 0},
		{"count(i), i", "i", "c1:i i:i", 0}, {"i + count(i)", "i", "c1:i", 0},
		{"|i", "x", "", api.ErrPlace}, {"x, |i", "x", "", api.ErrPlace}, {"|i, count(*)", "", "", api.ErrPlace}, {"count(*), |i", "", "", api.ErrPlace}, {"count(*) + |i", "", "", api.ErrPlace}, {"|i + count(*)", "", "", api.ErrPlace},
		{"|i", "i + 1", "", api.ErrPlace}, {"|i + 2", "i + 1", "", api.ErrPlace}, {"1 + |i", "i + 1", "", api.ErrPlace}, {"|i + 1.0", "i + 1", "", api.ErrPlace}, {"|t.i", "i", "", api.ErrPlace}, {"|i", "t.i", "", api.ErrPlace}, {"|I", "i", "", api.ErrName},
		{"i + 1 + |d", "i + 1", "", api.ErrPlace}, {"i + 1 + d", "i + 1 + d", "c1:d", 0}, {"i + |d, d", "i", "", api.ErrPlace}, {"x, upper(|y)", "x", "", api.ErrPlace}, {"case when |b then i end", "x", "", api.ErrPlace}, {"case when b then |i end", "b", "", api.ErrPlace},
		{"sum(i), |d, j", "x", "", api.ErrPlace}, {"i in (1, 2, |j, d)", "i", "", api.ErrPlace}, {"|d in (i, j)", "i", "", api.ErrPlace}, {"|b is null", "i", "", api.ErrPlace}, {"not |b", "x", "", api.ErrPlace}, {"sum(i) + sum(i) * |i", "", "", api.ErrPlace},
	} {
		checkItems(t, x)
	}
}

// Promise 11.3: a tree is the same as a group wherever both begin, with all its kids and numbers.
func TestSameAsGroup(t *testing.T) {
	group := placed(3, binary("+", placed(4, col("i")), placed(5, whole(1))))
	for _, x := range []struct {
		n   api.Node
		err api.Errno
	}{
		{binary("+", col("i"), whole(1)), api.OK}, {binary("-", col("i"), whole(1)), api.ErrPlace}, {binary("+", col("i"), whole(2)), api.ErrPlace}, {binary("+", col("j"), whole(1)), api.ErrPlace},
		{unary("-", binary("+", col("i"), whole(1))), api.OK}, {binary("+", colOf("t", "i"), whole(1)), api.ErrPlace}, {binary("+", whole(1), col("i")), api.ErrPlace},
	} {
		_, _, e := types.Items(list(item("", x.n)), fields(), []api.Node{text("a"), group, null()}, true)
		if e != x.err {
			t.Errorf("%#v: %d, want %d", x.n, e, x.err)
		}
	}
}

// Promise 11.3: where no aggregates may stand, they are refused as Expr refuses them, and yet they group.
func TestItemsWithoutAggregates(t *testing.T) {
	for _, x := range []struct {
		items, groups string
		err           api.Errno
	}{
		{"|count(*)", "", api.ErrPlace}, {"1, |sum(nope)", "", api.ErrPlace}, {"i + |count(*)", "", api.ErrPlace}, {"|i, count(*)", "", api.ErrPlace}, {"i, |count(*)", "i", api.ErrPlace}, {"|nope, count(*)", "", api.ErrName}, {"|null as p, count(*)", "", api.ErrType}, {"x, |i", "x", api.ErrPlace},
	} {
		s, at := marked(ahead + x.items)
		checkItemsOf(t, readItems(t, strings.TrimPrefix(s, ahead)), fields(), readGroups(t, x.groups), false, nil, at, x.err)
	}
	checkItemsOf(t, readItems(t, "i, x as p"), fields(), nil, false, columns("i:i p:t"), 0, api.OK)
	checkItemsOf(t, readItems(t, "i, x as p"), fields(), readGroups(t, "x, i"), false, columns("i:i p:t"), 0, api.OK)
}

// unlike answers fields of so many unlike names.
func unlike(many int) []api.Field {
	var l []api.Field
	for i := range many {
		l = append(l, api.Field{Stream: "t", Column: fmt.Sprint("f", i), Kind: 1 + i%4})
	}
	return l
}

func columnsOf(fields []api.Field) []api.Column {
	var l []api.Column
	for _, f := range fields {
		l = append(l, api.Column{Name: f.Column, Kind: f.Kind})
	}
	return l
}

// Promise 11.3: a star gives all fields, by their names, also those of no kind.
func TestStar(t *testing.T) {
	odd := []api.Field{{Stream: "t", Column: "z", Kind: 0}, {Stream: "u", Column: "o", Kind: oddKind}, {Stream: "", Column: "select", Kind: -1}}
	for _, l := range [][]api.Field{nil, {}, fields()[:7], types.Fields(trade(), "t"), odd, unlike(1), unlike(api.MaxColumns - 1), unlike(api.MaxColumns)} {
		for _, aggs := range []bool{false, true} {
			checkItemsOf(t, placed(9, star()), l, nil, aggs, columnsOf(l), 0, api.OK)
			checkItemsOf(t, placed(9, star()), l, []api.Node{}, aggs, columnsOf(l), 0, api.OK)
		}
	}
}

// Promise 11.3: a star with groups, with a name twice or none, of too many fields; of two of these the first that the chapter names.
func TestStarFaults(t *testing.T) {
	twice, long := append(unlike(3), unlike(1)...), unlike(2)
	long[1].Column = strings.Repeat("a", api.MaxName+1)
	nameless, strange := unlike(2), unlike(2)
	nameless[0].Column, strange[1].Column = "", "9a"
	for _, x := range []struct {
		fields []api.Field
		groups []api.Node
		err    api.Errno
	}{
		{unlike(2), []api.Node{col("f0")}, api.ErrPlace}, {nil, []api.Node{whole(1)}, api.ErrPlace}, {twice, []api.Node{whole(1)}, api.ErrPlace}, {unlike(40), []api.Node{whole(1)}, api.ErrPlace},
		{fields(), nil, api.ErrName}, {twice, nil, api.ErrName}, {nameless, nil, api.ErrName}, {strange, nil, api.ErrName}, {long, nil, api.ErrName}, {append(unlike(40), unlike(1)...), nil, api.ErrName}, {append(unlike(40), nameless...), nil, api.ErrName},
		{unlike(api.MaxColumns + 1), nil, api.ErrTree}, {unlike(10000), nil, api.ErrTree},
	} {
		for _, at := range []int{0, 9, -9} {
			checkItemsOf(t, placed(at, star()), x.fields, x.groups, true, nil, at, x.err)
			checkItemsOf(t, placed(at, star()), x.fields, x.groups, false, nil, at, x.err)
		}
	}
	long[1].Column = strings.Repeat("a", api.MaxName)
	checkItemsOf(t, star(), long, nil, true, columnsOf(long), 0, api.OK)
}

// Promise 11.3: what is no list of items, however many there are.
func TestNoItems(t *testing.T) {
	good := item("", col("i"))
	for _, n := range []api.Node{
		{}, list(), none(), good, col("i"), whole(1), node(api.List, "a", 0, good), node(api.List, "", 1, good), node(api.Star, "a", 0), node(api.Star, "", 1), node(api.Star, "", 0, good), list(star()), list(good, star()), list(col("i")), list(good, none()),
		list(item("9", col("i"))), list(item("select", col("i"))), list(item("a b", col("i"))), list(node(api.Item, "", 1, col("i"))), list(node(api.Item, "", 0)), list(node(api.Item, "", 0, col("i"), col("x"))),
		list(item("", whole(-1))), list(item("", name("i"))), list(item("", good)), list(item("", none())), list(item("", col("nope")), item("", whole(-1))), list(good, good, api.Node{}), node(math.MaxInt, "", 0, good),
		list(item("", list(good))), list(list(good)), node(api.Select, "", 1, good), readStmt(t, "select i from T"), list(item("", agg("sum"))), node(api.None, "", 0, good),
	} {
		for _, at := range []int{0, 4, -4} {
			for _, groups := range [][]api.Node{nil, {col("i")}} {
				checkItemsOf(t, placed(at, n), fields(), groups, true, nil, 0, api.ErrTree)
				checkItemsOf(t, placed(at, n), fields(), groups, false, nil, 0, api.ErrTree)
			}
		}
	}
}

// Promise 11.3: just MaxItems, and more, which comes ahead of the items' own errors, but not of their form.
func TestManyItems(t *testing.T) {
	for _, many := range []int{1, api.MaxItems - 1, api.MaxItems, api.MaxItems + 1, 2 * api.MaxItems, 1000} {
		n := placed(5, list())
		var want []api.Column
		for i := range many {
			n.Kids = append(n.Kids, placed(6, item("", whole(i))))
			want = append(want, api.Column{Name: fmt.Sprint("c", i+1), Kind: api.KindInt})
		}
		if many <= api.MaxItems {
			checkItemsOf(t, n, fields(), nil, true, want, 0, api.OK)
			checkItemsOf(t, n, nil, []api.Node{whole(1)}, false, want, 0, api.OK)
			continue
		}
		for _, k := range []api.Node{col("nope"), null(), whole(1), agg("sum", agg("count")), col("i")} {
			n.Kids[0] = placed(8, item("c2", placed(7, k)))
			checkItemsOf(t, n, fields(), []api.Node{whole(1)}, true, nil, 5, api.ErrTree)
			checkItemsOf(t, n, fields(), nil, false, nil, 5, api.ErrTree)
		}
		for _, place := range []int{0, api.MaxItems, many - 1} {
			ill := placed(5, list(append([]api.Node{}, n.Kids...)...))
			ill.Kids[place] = placed(8, item("", whole(-1)))
			checkItemsOf(t, ill, fields(), nil, true, nil, 0, api.ErrTree)
		}
	}
}

// Promise 11.3: groups may be any, and as many as are given.
func TestManyGroups(t *testing.T) {
	var groups []api.Node
	for i := range 1000 {
		groups = append(groups, whole(i))
	}
	groups = append(groups, api.Node{}, star(), col("nope"), whole(-1), col("i"))
	checkItemsOf(t, readItems(t, "i"), fields(), groups, true, columns("i:i"), 0, api.OK)
	checkItemsOf(t, readItems(t, "i"), fields(), groups[:1004], true, nil, len(ahead), api.ErrPlace)
}
