package tree_test

import (
	"math"
	"reflect"
	"slices"
	"strings"
	"testing"

	"marquee/api"
	"marquee/tree"
)

// placed is n with an At of its own in each tree, from at on.
func placed(n api.Node, at int) api.Node {
	m := tree.Copy(n)
	place(&m, &at)
	return m
}

func place(n *api.Node, at *int) {
	n.At = *at
	*at++
	for i := range n.Kids {
		place(&n.Kids[i], at)
	}
}

// equal holds all fields against each other, At too; an empty list is the same as none.
func equal(a, b api.Node) bool {
	return a.Kind == b.Kind && a.Text == b.Text && a.N == b.N && a.At == b.At && slices.EqualFunc(a.Kids, b.Kids, equal)
}

// Promise 6.2.
func TestSame(t *testing.T) {
	l := all()
	for i, a := range l {
		for j, b := range l {
			// The samples are unlike in Kind, Text, N or kids, as DeepEqual says: all have At 0, and no empty list that is not nil.
			if got, want := tree.Same(a, b), reflect.DeepEqual(a, b); got != want {
				t.Errorf("Same of %d and %d, %#v and %#v = %v", i, j, a, b, got)
			}
		}
	}
}

// Promise 6.2: At plays no part, at the top and within.
func TestSameWhereverTheyBegin(t *testing.T) {
	for _, n := range all() {
		a, b := placed(n, 3), placed(n, -50)
		if !tree.Same(a, b) || !tree.Same(b, n) {
			t.Errorf("%#v", n)
		}
	}
}

// Promise 6.2: an empty list is the same as none.
func TestSameOfEmptyLists(t *testing.T) {
	a, b := api.Node{Kind: api.List}, api.Node{Kind: api.List, Kids: []api.Node{}}
	if !tree.Same(a, b) || !tree.Same(b, a) || tree.Same(a, list(list())) || tree.Same(list(list()), a) {
		t.Error("empty lists")
	}
}

// unlike are trees that differ from n in one thing at one place.
func unlike(n api.Node) []api.Node {
	var l []api.Node
	add := func(change func(m *api.Node)) {
		m := tree.Copy(n)
		change(&m)
		l = append(l, m)
	}
	add(func(m *api.Node) { m.Kind++ })
	add(func(m *api.Node) { m.Kind = -m.Kind - 1 })
	add(func(m *api.Node) { m.Text += " " })
	add(func(m *api.Node) { m.Text = strings.ToUpper(m.Text) + "X" })
	add(func(m *api.Node) { m.N++ })
	add(func(m *api.Node) { m.N = math.MinInt })
	add(func(m *api.Node) { m.Kids = append(m.Kids, api.Node{}) })
	add(func(m *api.Node) { m.Kids = slices.Insert(m.Kids, 0, api.Node{Kind: -7}) })
	for i, k := range n.Kids {
		add(func(m *api.Node) { m.Kids = slices.Delete(m.Kids, i, i+1) })
		for _, u := range unlike(k) {
			add(func(m *api.Node) { m.Kids[i] = u })
		}
	}
	return l
}

// Promise 6.2: one thing that is not the same, wherever it stands.
func TestNotTheSame(t *testing.T) {
	for _, n := range all() {
		for _, m := range unlike(n) {
			if tree.Same(n, m) || tree.Same(m, n) {
				t.Errorf("Same of %#v and %#v", n, m)
			}
		}
	}
	if tree.Same(binary("-", col("a"), col("b")), binary("-", col("b"), col("a"))) {
		t.Error("kids the other way round")
	}
}

// Promise 6.2.
func TestCopy(t *testing.T) {
	for _, n := range all() {
		n = placed(n, 5)
		want := placed(n, 5)
		m := tree.Copy(n)
		if !equal(m, n) || !equal(n, want) {
			t.Errorf("Copy(%#v) = %#v", n, m)
		}
	}
}

// spoil changes all that is to be reached from n, what lies behind the ends of its lists, too.
func spoil(n *api.Node) {
	for i := range n.Kids {
		spoil(&n.Kids[i])
	}
	behind := n.Kids[len(n.Kids):cap(n.Kids)]
	for i := range behind {
		behind[i] = api.Node{Kind: -9, Text: "spoilt", N: -9, At: -9}
	}
	*n = api.Node{Kind: -8, Text: "spoilt", N: -8, At: -8, Kids: n.Kids}
}

// roomy is n with room behind the ends of its lists, filled with something that may not be changed.
func roomy(n api.Node) api.Node {
	l := make([]api.Node, 0, len(n.Kids)+2)
	for _, k := range n.Kids {
		l = append(l, roomy(k))
	}
	behind := l[len(l):cap(l)]
	for i := range behind {
		behind[i] = name("behind")
	}
	n.Kids = l
	return n
}

// behindIsKept tells whether what roomy laid behind the ends is there still.
func behindIsKept(n api.Node) bool {
	for _, k := range n.Kids[len(n.Kids):cap(n.Kids)] {
		if !reflect.DeepEqual(k, name("behind")) {
			return false
		}
	}
	for _, k := range n.Kids {
		if !behindIsKept(k) {
			return false
		}
	}
	return true
}

// Promise 6.2: a copy is new memory, both ways.
func TestCopyIsNew(t *testing.T) {
	for _, n := range all() {
		want := placed(n, 1)
		a := roomy(placed(n, 1))
		m := tree.Copy(a)
		spoil(&m)
		if !equal(a, want) || !behindIsKept(a) {
			t.Errorf("the tree of which it is a copy is changed: %#v", a)
		}
		m = tree.Copy(a)
		spoil(&a)
		if !equal(m, want) {
			t.Errorf("the copy is changed: %#v", m)
		}
	}
}

// Promise 6.2: kids that are one list in the tree are lists of their own in its copy, and in the aggregates.
func TestCopyOfSharedKids(t *testing.T) {
	kids := []api.Node{col("a"), col("b")}
	sum, most := api.Node{Kind: api.Agg, Text: "sum", Kids: kids}, api.Node{Kind: api.Agg, Text: "max", Kids: kids}
	n := binary("+", sum, most)
	m := tree.Copy(n)
	m.Kids[0].Kids[0].Text = "changed"
	if m.Kids[1].Kids[0].Text != "a" || kids[0].Text != "a" {
		t.Errorf("%#v", m)
	}
	l := tree.Aggs(n)
	l[0].Kids[0].Text = "changed"
	if l[1].Kids[0].Text != "a" || kids[0].Text != "a" {
		t.Errorf("%#v", l)
	}
}

// Promises 6.1, 6.2: no call changes what it is given, behind the ends of lists, too.
func TestHandedInIsNotChanged(t *testing.T) {
	for _, n := range all() {
		a, b, want := roomy(placed(n, 1)), roomy(placed(n, 2)), placed(n, 1)
		tree.Form(a)
		tree.Same(a, b)
		tree.Size(a)
		tree.Depth(a)
		tree.Aggs(a)
		if !equal(a, want) || !equal(b, placed(n, 2)) || !behindIsKept(a) || !behindIsKept(b) {
			t.Errorf("%#v", a)
		}
	}
}

// Promise 6.2.
func TestSizeAndDepth(t *testing.T) {
	a := col("a")
	for i, x := range []struct {
		n           api.Node
		size, depth int
	}{
		{api.Node{}, 1, 1}, {a, 1, 1}, {colOf("t", "a"), 2, 2}, {api.Node{Kids: []api.Node{}}, 1, 1}, {binary("+", a, a), 3, 2},
		{binary("+", a, binary("*", a, a)), 5, 3}, {binary("+", binary("*", a, a), a), 5, 3}, {binary("+", binary("*", a, a), binary("*", a, colOf("t", "a"))), 8, 4},
		{list(repeat(a, 1000)...), 1001, 2}, {selectAll(), 12, 4}, {node(-5, "x", -1, node(99, "", 0), node(98, "", 0, node(97, "", 0, api.Node{}), a)), 6, 4},
		{agg("sum", agg("sum", a)), 3, 3}, {node(api.In, "", 0, a, colOf("t", "a"), a), 5, 3},
	} {
		if size, depth := tree.Size(x.n), tree.Depth(x.n); size != x.size || depth != x.depth {
			t.Errorf("%d: %d and %d of %#v", i, size, depth, x.n)
		}
	}
}

// Promise 6.2: the chapter's example, and where aggregates stand.
func TestAggs(t *testing.T) {
	a, b := col("a"), col("b")
	sum, most, count := agg("sum", a), agg("max", b), agg("count")
	distinct := node(api.Agg, "sum", 1, a)
	for i, x := range []struct {
		n    api.Node
		want []api.Node
	}{
		{binary("+", sum, binary("*", sum, most)), []api.Node{sum, most}},
		{api.Node{}, nil}, {a, nil}, {binary("+", a, b), nil}, {selectAll(), nil},
		{sum, []api.Node{sum}}, {count, []api.Node{count}},
		{agg("sum", most), []api.Node{agg("sum", most)}}, {agg("sum", binary("+", most, count)), []api.Node{agg("sum", binary("+", most, count))}},
		{binary("+", agg("sum", most), most), []api.Node{agg("sum", most), most}}, {binary("+", most, agg("sum", most)), []api.Node{most, agg("sum", most)}},
		{binary("+", sum, distinct), []api.Node{sum, distinct}}, {binary("+", agg("count", a), count), []api.Node{agg("count", a), count}},
		{binary("+", binary("*", count, sum), binary("*", most, count)), []api.Node{count, sum, most}},
		{binary("+", agg("sum", colOf("t", "a")), sum), []api.Node{agg("sum", colOf("t", "a")), sum}},
		{node(api.Case, "", 0, binary(">", sum, whole(1)), most, sum), []api.Node{sum, most}},
		{node(api.Call, "f", 0, most, node(api.Unary, "-", 0, sum), most, count), []api.Node{most, sum, count}},
		{list(item("x", sum), item("", count), item("y", sum)), []api.Node{sum, count}},
		{selectWith(havingAt, binary(">", sum, count)), []api.Node{sum, count}},
		{node(api.Agg, "nope", 7, none(), sum), []api.Node{node(api.Agg, "nope", 7, none(), sum)}},
		{list(node(api.Agg, "", 0), node(api.Agg, "", 0)), []api.Node{node(api.Agg, "", 0)}},
	} {
		if got := tree.Aggs(x.n); !slices.EqualFunc(got, x.want, equal) {
			t.Errorf("%d: Aggs(%#v) = %#v", i, x.n, got)
		}
	}
}

// Promise 6.2: of those that are the same the first is told, with its At.
func TestAggsAreTheFirst(t *testing.T) {
	n := placed(binary("+", agg("sum", col("a")), binary("*", agg("count"), agg("sum", col("a")))), 10)
	l := tree.Aggs(n)
	if len(l) != 2 || !equal(l[0], n.Kids[0]) || l[0].At != 11 || l[0].Kids[0].At != 12 || !equal(l[1], n.Kids[1].Kids[0]) || l[1].At != 14 {
		t.Errorf("%#v", l)
	}
}

// Promise 6.2: what Aggs answers is new memory.
func TestAggsAreNew(t *testing.T) {
	n := placed(binary("+", agg("sum", colOf("t", "a")), agg("max", binary("*", col("a"), col("b")))), 1)
	want := placed(n, 1)
	l := tree.Aggs(n)
	for i := range l {
		spoil(&l[i])
	}
	if !equal(n, want) {
		t.Errorf("the tree is changed: %#v", n)
	}
	l = tree.Aggs(n)
	spoil(&n)
	if len(l) != 2 || !equal(l[0], want.Kids[0]) || !equal(l[1], want.Kids[1]) {
		t.Errorf("the answer is changed: %#v", l)
	}
	own := agg("sum", col("a"))
	l = tree.Aggs(own)
	l[0].Kids[0].Text = "changed"
	if own.Kids[0].Text != "a" {
		t.Error("the tree itself is handed out")
	}
}
