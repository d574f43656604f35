package machine_test

import (
	"reflect"
	"slices"
	"testing"

	"marquee/api"
	"marquee/code"
	"marquee/machine"
	"marquee/print"
	"marquee/schema"
	"marquee/tree"
	"marquee/types"
	"marquee/value"
)

// Promises 13.1, 13.2: programs by chance, of what may not go together, over values of which some may not be, held against the chapter written a second time.
func TestRunByChance(t *testing.T) {
	c := newChance(1)
	told := map[api.Errno]int{}
	kinds := map[int]int{}
	for i := range 60000 {
		ops := c.block(c.Intn(6))
		if i%5 == 0 {
			ops = c.changed(ops)
		}
		row, aggs := c.values(8-c.Intn(20)/19), c.values(8-c.Intn(20)/19)
		want, err := modelRun(ops, row, aggs)
		checkRun(t, ops, row, aggs, want, err)
		if t.Failed() {
			t.FailNow()
		}
		told[err]++
		if err == api.OK {
			kinds[want.Kind]++
		}
	}
	for _, e := range []api.Errno{api.OK, api.ErrOver, api.ErrZero, api.ErrKind, api.ErrFunc, api.ErrCode} {
		if told[e] < 50 {
			t.Errorf("too few of an error: %v", told)
		}
	}
	for kind := range 5 {
		if kinds[kind] < 500 {
			t.Errorf("too few of a kind: %v", kinds)
		}
	}
}

// Promise 13.2: All is each Run's value, or the first error.
func TestAllByChance(t *testing.T) {
	c := newChance(2)
	told := map[api.Errno]int{}
	for range 10000 {
		var l [][]api.Op
		row, aggs := c.values(8), c.values(8)
		var want []api.Value
		err := api.OK
		for range c.Intn(5) {
			ops := c.block(c.Intn(4))
			l = append(l, ops)
			v, e := machine.Run(ops, row, aggs)
			want = append(want, v)
			if err == api.OK {
				err = e
			}
		}
		if err != api.OK {
			want = nil
		}
		if got, e := machine.All(l, row, aggs); !slices.Equal(got, want) || e != err {
			t.Fatalf("%v: %v, %d, want %v, %d", l, got, e, want, err)
		}
		told[err]++
	}
	if told[api.OK] < 1000 || len(told) < 5 {
		t.Errorf("too few: %v", told)
	}
}

// overAny is what an expression by chance is over: a row that fits, and a value of its type, or null, for each aggregate of n and some more.
func overAny(c chance, n api.Node) (w world, trees []api.Node, aggs []api.Value) {
	w = world{fields: fields(), row: c.row(), aggs: map[string]api.Value{}, key: print.Expr}
	trees = append(tree.Aggs(n), c.aggregate(api.KindInt), c.aggregate(api.KindText))
	c.Shuffle(len(trees), func(i, j int) { trees[i], trees[j] = trees[j], trees[i] })
	for _, a := range trees {
		key := print.Expr(a)
		if _, ok := w.aggs[key]; !ok {
			w.aggs[key] = c.value(w.kind(a))
		}
		aggs = append(aggs, w.aggs[key])
	}
	return w, trees, aggs
}

// checkFits: a schema of the fields' kinds takes the row.
func checkFits(t *testing.T, w world) {
	t.Helper()
	s := api.Schema{Name: "S"}
	for _, f := range w.fields {
		s.Columns = append(s.Columns, api.Column{Name: f.Stream + f.Column, Kind: f.Kind})
	}
	if e, e2 := schema.Check(s), schema.Fits(s, w.row); e != api.OK || e2 != api.OK {
		t.Fatalf("%d, %d: %v", e, e2, w.row)
	}
}

// Promise 13.3: what code.Compile gives runs over rows that fit without ErrCode, with the type that types.Expr told, or null; and with the value that the tree has.
func TestCompiledRuns(t *testing.T) {
	c := newChance(3)
	told := map[api.Errno]int{}
	kinds := map[int]int{}
	mixed := 0
	for range 40000 {
		n := c.expr(1+c.Intn(4), c.Intn(5))
		w, trees, aggs := overAny(c, n)
		checkFits(t, w)
		kind, _, err := types.Expr(n, w.fields, true)
		if err != api.OK {
			t.Fatalf("%s: %d", print.Expr(n), err)
		}
		ops, err := code.Compile(n, w.fields, trees)
		if err != api.OK {
			if len(ops) == 0 && err == api.ErrCode && tree.Size(n) > 200 {
				continue // its program would be too long
			}
			t.Fatalf("%s: %d", print.Expr(n), err)
		}
		want := w.of(n)
		v, e := machine.Run(ops, w.row, aggs)
		if v != want.value || e != want.err {
			t.Fatalf("%s over %v, %v: %v, %d, want %v", print.Expr(n), w.row, w.aggs, v, e, want)
		}
		told[e]++
		if e != api.OK {
			continue
		}
		kinds[v.Kind]++
		if w.mixes(n) {
			mixed++
		}
		isTold := v.Kind == kind || v.Kind == api.KindNull
		isIntOfMixed := w.mixes(n) && kind == api.KindDec && v.Kind == api.KindInt
		if !isTold && !isIntOfMixed || value.Check(v) != api.OK {
			t.Fatalf("%s over %v, %v: %v, of the type %d", print.Expr(n), w.row, w.aggs, v, kind)
		}
	}
	// A well typed expression over what fits has no other errors than these two.
	if told[api.OK] < 5000 || told[api.ErrOver] < 100 || told[api.ErrZero] < 100 || len(told) != 3 {
		t.Errorf("too few of an error, or another one: %v", told)
	}
	for kind := range 5 {
		if kinds[kind] < 500 {
			t.Errorf("too few of a kind: %v", kinds)
		}
	}
	if mixed < 100 {
		t.Errorf("too few that mix: %d", mixed)
	}
}

// Promise 13.3: True of a condition that was compiled is what the tree says.
func TestCompiledConditions(t *testing.T) {
	c := newChance(4)
	many := map[bool]int{}
	for range 5000 {
		n := c.truth(2)
		w, trees, aggs := overAny(c, n)
		ops, err := code.Compile(n, w.fields, trees)
		if err != api.OK {
			t.Fatalf("%s: %d", print.Expr(n), err)
		}
		want := w.of(n)
		is, e := machine.True(ops, w.row, aggs)
		if is != (want.value == yes) || e != want.err {
			t.Fatalf("%s: %v, %d, want %v", print.Expr(n), is, e, want)
		}
		many[is]++
	}
	if many[true] < 500 || many[false] < 500 {
		t.Errorf("too few: %v", many)
	}
}

// Promises 13.1, 13.3: sources over a row, by hand.
func TestSources(t *testing.T) {
	over := []api.Field{{Stream: "t", Column: "sym", Kind: api.KindText}, {Stream: "t", Column: "price", Kind: api.KindInt}, {Stream: "t", Column: "rate", Kind: api.KindDec}, {Stream: "t", Column: "none", Kind: api.KindDec}}
	row := []api.Value{text("A"), whole(12), dec(25000), null}
	trees := []api.Node{readExpr(t, "count(*)"), readExpr(t, "sum(price)")}
	for _, x := range []struct {
		source, want string
		err          api.Errno
	}{
		{"price + 1", "13", api.OK}, {"price * rate", "30.0", api.OK}, {"price between 1 and 12", "true", api.OK}, {"price between 13 and 20", "false", api.OK}, {"price between none and 20", "null", api.OK}, {"price between none and 2", "false", api.OK},
		{"price in (1, 12.0, none)", "true", api.OK}, {"price in (1, none)", "null", api.OK}, {"price in (1, 2)", "false", api.OK},
		{"case when sym = 'A' then 1 else 2.5 end", "1.0", api.OK}, {"case when sym = 'B' then 1 else 2.5 end", "2.5", api.OK}, {"case when none > 1 then 1 when price > 1 then 2 else 3 end", "2", api.OK}, {"case when none > 1 then 1 end", "null", api.OK},
		{"case when sym = 'B' then price / 0 else price end", "12", api.OK}, {"case when sym = 'A' then price / 0 else price end", "null", api.ErrZero}, {"not (sym = 'A' and price < 12)", "true", api.OK},
		{"none is null and none + 1 is null", "true", api.OK}, {"price is not null", "true", api.OK}, {"- price % 5", "-2", api.OK}, {"concat(sym, totext(price))", "'A12'", api.OK}, {"coalesce(none, rate)", "2.5", api.OK},
		{"count(*) * 10 + sum(price)", "76", api.OK}, {"sum(price) / count(*)", "9", api.OK}, {"case when count(*) > 3 then sum(price) else rate end", "36.0", api.OK}, {"price = 12.0", "true", api.OK}, {"sym != 'B'", "true", api.OK}, {"none != 1", "null", api.OK},
	} {
		ops, err := code.Compile(readExpr(t, x.source), over, trees)
		if err != api.OK {
			t.Fatalf("%s: %d", x.source, err)
		}
		checkRun(t, ops, row, []api.Value{whole(4), whole(36)}, literal(x.want), x.err)
	}
}

// Promises 10.2, 13.1: a coalesce of an int and of a dec that is null sees no dec: it answers the int as it is, though the expression's type is KindDec.
func TestCoalesceOfMixed(t *testing.T) {
	ops, err := code.Compile(readExpr(t, "coalesce(i, d)"), fields(), nil)
	if err != api.OK {
		t.Fatal(err)
	}
	over := make([]api.Value, len(fields()))
	over[1] = whole(5)
	checkRun(t, ops, over, nil, whole(5), api.OK)
	over[2] = dec(1)
	checkRun(t, ops, over, nil, dec(50000), api.OK)
	over[1] = null
	checkRun(t, ops, over, nil, dec(1), api.OK)
}

// withMore is l with something behind its end.
func withMore[T any](l []T, more T) []T {
	all := make([]T, len(l)+1)
	copy(all, l)
	all[len(l)] = more
	return all[:len(l)]
}

// R4: what is handed in stays as it was, what lies behind a list's end, too; and what a call answers next is the same (R5).
func TestHandedInStays(t *testing.T) {
	c := newChance(5)
	for range 3000 {
		var l [][]api.Op
		for range 1 + c.Intn(3) {
			l = append(l, withMore(c.block(c.Intn(5)), api.Op{Kind: 77, N: -7}))
		}
		l = withMore(l, program("Push 9"))
		row, aggs := withMore(c.values(8), whole(99)), withMore(c.values(8), whole(98))
		var kept [][]api.Op
		for _, ops := range l[:cap(l)] {
			kept = append(kept, slices.Clone(ops[:cap(ops)]))
		}
		keptRow, keptAggs := slices.Clone(row[:cap(row)]), slices.Clone(aggs[:cap(aggs)])
		first, e := machine.Run(l[0], row, aggs)
		is, e2 := machine.True(l[0], row, aggs)
		all, e3 := machine.All(l, row, aggs)
		for i, ops := range l[:cap(l)] {
			if !slices.Equal(ops[:cap(ops)], kept[i]) {
				t.Fatalf("%v became %v", kept[i], ops)
			}
		}
		if !slices.Equal(row[:cap(row)], keptRow) || !slices.Equal(aggs[:cap(aggs)], keptAggs) {
			t.Fatal("the row or the aggregates were changed")
		}
		again, e4 := machine.Run(l[0], row, aggs)
		isAgain, e5 := machine.True(l[0], row, aggs)
		allAgain, e6 := machine.All(l, row, aggs)
		if again != first || is != isAgain || !reflect.DeepEqual(all, allAgain) || e != e4 || e2 != e5 || e3 != e6 {
			t.Fatalf("%v: another answer", l)
		}
	}
}

// R4: what All hands out is new memory each time.
func TestHandedOutIsNew(t *testing.T) {
	over := row()
	l := programs("Field 0", "Field 1", "Field 2", "Field 3", "Field 4")
	first, _ := machine.All(l, over, over)
	second, _ := machine.All(l, over, over)
	for i := range first {
		first[i] = whole(99)
	}
	third, _ := machine.All(l, over, over)
	for _, x := range [][]api.Value{over, second, third} {
		if !slices.Equal(x, row()) {
			t.Errorf("%v", x)
		}
	}
}
