package types_test

import (
	"fmt"
	"reflect"
	"slices"
	"testing"

	"marquee/api"
	"marquee/tree"
	"marquee/types"
)

// against holds the type of a tree against the model.
func (m model) against(t *testing.T, n api.Node, fields []api.Field, aggs bool) api.Errno {
	t.Helper()
	letter, f := m.expr(n, fields, aggs)
	kind := kindByLetter(letter)
	if k, at, e := types.Expr(n, fields, aggs); k != kind || (fault{at, e}) != f {
		t.Errorf("%s: %d, %d, %d, want %d, %v", shape(n), k, at, e, kind, f)
	}
	return f.err
}

// enough: each of the answers came often enough to say something.
func enough(t *testing.T, told map[api.Errno]int, least int, want ...api.Errno) {
	t.Helper()
	for _, e := range want {
		if told[e] < least {
			t.Errorf("%d came %d times: %v", e, told[e], told)
		}
	}
}

// Promise 11.2: trees by chance.
func TestExprAgainstModel(t *testing.T) {
	m := newModel()
	for slip, seed := range map[int]int64{0: 1, 4: 2, 12: 3, 40: 4} {
		c := newChance(seed)
		c.slip = slip
		told := map[api.Errno]int{}
		for range 6000 {
			n := c.placed(c.expr(c.kind(), c.Intn(5), c.Intn(2) == 0))
			told[m.against(t, n, c.fields, c.Intn(3) > 0)]++
		}
		enough(t, told, 1000, api.OK)
		if slip > 0 {
			enough(t, told, 100, api.ErrName, api.ErrType, api.ErrPlace, api.ErrFunc)
		}
	}
}

// samplesOfAll are one tree of each kind and text that expressions have, with kids of all types within.
func samplesOfAll() []api.Node {
	var l []api.Node
	for _, samples := range ofEachKind() {
		l = append(l, samples...)
	}
	l = append(l, col("o"), col("nope"), col("a"), colOf("u", "a"), agg("count"), agg("sum", col("i")), agg("sum", col("x")), call("upper", col("x")), call("nope"))
	for _, a := range slices.Clone(l) {
		l = append(l, unary("-", a), unary("not", a), node(api.IsNull, "", 0, a), agg("max", a), agg("first", a), call("abs", a), call("coalesce", a, null()), node(api.Case, "", 0, a, null(), whole(1)), node(api.Case, "", 0, col("b"), a, dec(1)))
	}
	return l
}

// Promise 11.2: each two of these, in each tree that has two places.
func TestPairsAgainstModel(t *testing.T) {
	m := newModel()
	c := newChance(5)
	all := samplesOfAll()
	for _, a := range all {
		for _, b := range all {
			for _, n := range []api.Node{binary("+", a, b), binary("<", a, b), binary("or", a, b), node(api.In, "", 0, a, b), node(api.Between, "", 0, null(), a, b), node(api.Case, "", 0, a, b, null()), node(api.Case, "", 0, truth(1), a, b), call("least", a, b), agg("min", binary("-", a, b))} {
				m.against(t, c.placed(n), c.fields, true)
			}
		}
	}
}

// Promise 11.3: items by chance, over groups.
func TestItemsAgainstModel(t *testing.T) {
	m := newModel()
	for slip, seed := range map[int]int64{0: 6, 8: 7, 30: 8} {
		c := newChance(seed)
		c.slip = slip
		told := map[api.Errno]int{}
		for range 6000 {
			groups, aggs := c.groups(), c.Intn(4) > 0
			items := c.placed(c.items(groups, len(groups) > 0 || c.Intn(3) == 0))
			over := c.fields[:c.Intn(len(c.fields)+1)]
			grouped := len(groups) > 0 || modelHasAgg(items)
			columns, faults := m.items(items, over, groups, aggs, grouped)
			f := first(faults)
			if f.err != api.OK {
				columns = nil
			}
			told[f.err]++
			if got, at, e := types.Items(items, over, groups, aggs); !slices.Equal(got, columns) || (fault{at, e}) != f {
				t.Errorf("%s over %s: %v, %d, %d, want %v, %v", shape(items), shapesOf(groups), got, at, e, columns, f)
			}
		}
		enough(t, told, 100, api.OK, api.ErrName, api.ErrPlace, api.ErrType)
	}
}

// Promise 11.4: selects by chance.
func TestSelectAgainstModel(t *testing.T) {
	m := newModel()
	for slip, seed := range map[int]int64{0: 9, 10: 10, 50: 11} {
		c := newChance(seed)
		c.slip = slip
		told := map[api.Errno]int{}
		for range 5000 {
			n := c.placed(c.selection())
			want, faults := m.selection(n, c.fields)
			f := first(faults)
			if f.err != api.OK {
				want = api.Typed{}
			}
			told[f.err]++
			if got, at, e := types.Select(n, c.fields); !slices.Equal(got.Out, want.Out) || got.Group != want.Group || (fault{at, e}) != f {
				t.Errorf("%s: %v, %d, %d, want %v, %v", shape(n), got, at, e, want, f)
			}
		}
		enough(t, told, 200, api.OK)
		if slip > 0 {
			enough(t, told, 100, api.ErrName, api.ErrPlace, api.ErrType, api.ErrFunc)
		}
	}
}

// Promise 11.5: fields in another order give the same types, and the same errors at the same bytes.
func TestFieldsInAnotherOrder(t *testing.T) {
	c := newChance(12)
	c.slip = 20
	for range 3000 {
		n, s := c.placed(c.expr(c.kind(), 3, true)), c.placed(c.selection())
		for s.Kids[1].Kind == api.Star {
			s = c.placed(c.selection())
		}
		other := slices.Clone(c.fields)
		c.Shuffle(len(other), func(i, j int) { other[i], other[j] = other[j], other[i] })
		k1, at1, e1 := types.Expr(n, c.fields, true)
		k2, at2, e2 := types.Expr(n, other, true)
		if k1 != k2 || at1 != at2 || e1 != e2 {
			t.Errorf("%s: %d, %d, %d, then %d, %d, %d", shape(n), k1, at1, e1, k2, at2, e2)
		}
		x1, at1, e1 := types.Select(s, c.fields)
		x2, at2, e2 := types.Select(s, other)
		if !reflect.DeepEqual(x1, x2) || at1 != at2 || e1 != e2 {
			t.Errorf("%s: %v, %d, %d, then %v, %d, %d", shape(s), x1, at1, e1, x2, at2, e2)
		}
	}
}

// Promise 11.2: a tree in the place of a column of its type leaves the type around it as it was.
func TestTypesByPlace(t *testing.T) {
	c := newChance(13)
	columnOf := map[int]api.Node{api.KindNull: null(), api.KindBool: col("b"), api.KindInt: col("i"), api.KindDec: col("d"), api.KindText: col("x")}
	for range 3000 {
		n := c.expr(c.kind(), 4, false)
		whole, _, e := types.Expr(n, c.fields, false)
		if e != api.OK {
			t.Fatalf("%s: %d", shape(n), e)
		}
		for i := range n.Kids {
			if n.Kind == api.Col {
				continue
			}
			kind, _, _ := types.Expr(n.Kids[i], c.fields, false)
			m := tree.Copy(n)
			m.Kids[i] = columnOf[kind]
			if k, _, e := types.Expr(m, c.fields, false); k != whole || e != api.OK {
				t.Errorf("%s: %d, then %d, %d", shape(n), whole, k, e)
			}
		}
	}
}

// spare answers l with something behind its end, which nobody may touch.
func spare[T any](l []T, behind T) []T {
	return append(slices.Clone(l), behind, behind)[:len(l)]
}

// wholeOf answers l with what stands behind its end.
func wholeOf[T any](l []T) []T { return l[:cap(l)] }

// spareKids lays all kids of n with something behind their end.
func spareKids(n api.Node) api.Node {
	kids := spare(n.Kids, text("behind"))
	for i, k := range kids {
		kids[i] = spareKids(k)
	}
	n.Kids = kids
	return n
}

// state answers a text of all that n has, with what lies behind the ends of its lists.
func state(n api.Node) string {
	s := fmt.Sprintf("%d %q %d %d(", n.Kind, n.Text, n.N, n.At)
	for _, k := range wholeOf(n.Kids) {
		s += state(k)
	}
	return s + ")"
}

// R4: what is handed in is as it was, what lies behind the ends of lists, too.
func TestHandedInIsNotChanged(t *testing.T) {
	c := newChance(14)
	c.slip = 30
	for range 500 {
		over := spare(c.fields, api.Field{Column: "behind"})
		groups := list(c.groups()...)
		expr, items, sel := c.expr(c.kind(), 3, true), c.items(groups.Kids, false), c.selection()
		trees := []api.Node{spareKids(c.placed(expr)), spareKids(c.placed(items)), spareKids(c.placed(sel)), spareKids(c.placed(groups))}
		schema := api.Schema{Name: "T", Columns: spare(columnsOf(over), api.Column{Name: "behind"})}
		look := func() string {
			return fmt.Sprint(state(trees[0]), state(trees[1]), state(trees[2]), state(trees[3]), wholeOf(over), wholeOf(schema.Columns))
		}
		was := look()
		types.Fields(schema, "t")
		types.Resolve(over, "t", "a")
		types.Expr(trees[0], over, true)
		types.Items(trees[1], over, trees[3].Kids, true)
		types.Select(trees[2], over)
		if now := look(); now != was {
			t.Fatalf("%s, was %s", now, was)
		}
	}
}

// R4: what is handed out is new memory, and the caller's own.
func TestHandedOutIsNew(t *testing.T) {
	over := fields()[:6]
	schema := trade()
	l := types.Fields(schema, "t")
	l[0].Column = "changed"
	if again := types.Fields(schema, "t"); again[0].Column != "sym" || schema.Columns[0].Name != "sym" {
		t.Errorf("fields: %v", again)
	}
	for _, s := range []string{"select * from T", "select i, x from T"} {
		n := readStmt(t, s)
		for range 2 {
			x, _, _ := types.Select(n, over)
			columns, _, _ := types.Items(n.Kids[1], over, nil, true)
			if x.Out[0].Name == "changed" || columns[0].Name == "changed" || over[0].Column != "b" {
				t.Errorf("%s: %v, %v", s, x, columns)
			}
			x.Out[0].Name = "changed"
			columns[0].Name = "changed"
		}
	}
}

// R3, R5: nil and empty lists are the same, and the same call answers the same.
func TestTheSameAgain(t *testing.T) {
	c := newChance(15)
	c.slip = 15
	for range 1000 {
		n := c.placed(c.selection())
		x1, at1, e1 := types.Select(n, c.fields)
		x2, at2, e2 := types.Select(n, c.fields)
		if !reflect.DeepEqual(x1, x2) || at1 != at2 || e1 != e2 {
			t.Errorf("%s: %v, %d, %d, then %v, %d, %d", shape(n), x1, at1, e1, x2, at2, e2)
		}
		c1, at1, e1 := types.Items(n.Kids[1], c.fields, nil, true)
		c2, at2, e2 := types.Items(n.Kids[1], c.fields, []api.Node{}, true)
		if !slices.Equal(c1, c2) || at1 != at2 || e1 != e2 {
			t.Errorf("%s: %v, %d, %d, then %v, %d, %d", shape(n), c1, at1, e1, c2, at2, e2)
		}
	}
}
