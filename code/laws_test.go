package code_test

import (
	"math"
	"reflect"
	"slices"
	"testing"

	"marquee/api"
	"marquee/code"
	"marquee/tree"
)

// Promise 12.1: Compile of trees by chance, held against the chapter written a second time.
func TestCompileByChance(t *testing.T) {
	c := newChance(1)
	told := map[api.Errno]int{}
	for i := range 30000 {
		c.slip = []int{0, 0, 40}[i%3]
		n := c.expr(c.kind(), c.Intn(5))
		aggs := c.aggs(tree.Aggs(n), i%4 == 0)
		ops, e := code.Compile(n, fields(), aggs)
		want, e2 := modelCompile(n, fields(), aggs)
		if e != e2 || !slices.Equal(ops, want) {
			t.Fatalf("%v over %v: %v, %d, want %v, %d", n, aggs, ops, e, want, e2)
		}
		told[e]++
	}
	for _, e := range []api.Errno{api.OK, api.ErrName, api.ErrType, api.ErrFunc, api.ErrPlace, api.ErrCode} {
		if told[e] < 50 {
			t.Errorf("error %d: %d times", e, told[e])
		}
	}
}

// Promise 12.4: what Compile gives Check takes, over just as many fields and aggregates as were given; over fewer than it names it does not.
func TestCheckTakesWhatCompileGives(t *testing.T) {
	c := newChance(2)
	for range 20000 {
		n := c.expr(c.kind(), c.Intn(5))
		aggs := c.aggs(tree.Aggs(n), false)
		ops, e := code.Compile(n, fields(), aggs)
		if e != api.OK {
			if len(modelOps(n, aggs)) > api.MaxProgram {
				continue
			}
			t.Fatalf("%v over %v: %d", n, aggs, e)
		}
		checkTaken(t, ops, len(fields()), len(aggs))
		f, a := asked(ops, api.OpField), asked(ops, api.OpAgg)
		checkTaken(t, ops, f, a)
		if f > 0 {
			checkNotTaken(t, ops, f-1, a)
		}
		if a > 0 {
			checkNotTaken(t, ops, f, a-1)
		}
		if d := code.Depth(ops); d < 1 || d > len(ops) {
			t.Fatalf("%v: Depth %d", n, d)
		}
	}
}

func modelOps(n api.Node, aggs []api.Node) []api.Op {
	m := &model{fields: fields(), aggs: aggs}
	return resolved(m.lines(n))
}

// Promise 12.4: without a between, an in and a case there are as many instructions as trees, but for names and what stands within aggregates.
func TestAsManyAsTrees(t *testing.T) {
	c := newChance(3)
	for range 5000 {
		n := c.plain(c.kind(), c.Intn(6))
		ops, e := code.Compile(n, fields(), tree.Aggs(n))
		if e != api.OK || len(ops) != treesBut(n) {
			t.Fatalf("%v: %d instructions, %d", n, len(ops), e)
		}
	}
}

// treesBut is how many trees there are, but for names and what stands within aggregates.
func treesBut(n api.Node) int {
	if n.Kind == api.Name {
		return 0
	}
	many := 1
	for _, k := range n.Kids {
		if n.Kind != api.Agg {
			many += treesBut(k)
		}
	}
	return many
}

// checkAsModel: Check and Depth say what the chapter says that is written a second time; it answers whether ops may be.
func checkAsModel(t *testing.T, ops []api.Op) bool {
	t.Helper()
	for _, x := range [][2]int{{2, 2}, {2, 1}, {1, 2}, {0, 0}, {-1, math.MinInt}, {len(fields()), 4}, {math.MaxInt, math.MaxInt}} {
		if e, want := code.Check(ops, x[0], x[1]), modelCheck(ops, x[0], x[1]); e != want {
			t.Fatalf("%v over %v: %d, want %d", ops, x, e, want)
		}
	}
	d, want := code.Depth(ops), modelDepth(ops, asked(ops, api.OpField), asked(ops, api.OpAgg))
	if d != want {
		t.Fatalf("Depth of %v: %d, want %d", ops, d, want)
	}
	return d > 0
}

// Promises 12.2, 12.3: programs by chance.
func TestCheckByChance(t *testing.T) {
	c := newChance(4)
	taken, jumping := 0, 0
	for range 60000 {
		ops := c.program()
		if checkAsModel(t, ops) {
			taken++
			jumping += btoi(slices.ContainsFunc(ops, func(op api.Op) bool { return op.Kind == api.OpUnless }))
		}
	}
	if taken < 1000 || jumping < 100 {
		t.Errorf("%d are taken, %d of them with a jump", taken, jumping)
	}
}

// Promises 12.2, 12.3: programs of trees, with one place changed.
func TestCheckOfChanged(t *testing.T) {
	c := newChance(5)
	taken, refused := 0, 0
	for range 6000 {
		n := c.expr(c.kind(), 1+c.Intn(3))
		ops, e := code.Compile(n, fields(), tree.Aggs(n))
		if e != api.OK || len(ops) > 60 {
			continue
		}
		for range 5 {
			if checkAsModel(t, c.changed(ops)) {
				taken++
			} else {
				refused++
			}
		}
	}
	if taken < 1000 || refused < 1000 {
		t.Errorf("%d are taken, %d are refused", taken, refused)
	}
}

// Promises 12.2, 12.3: each program of three instructions out of few.
func TestCheckOfAllSmall(t *testing.T) {
	few := program("Push 1, Unary -, Binary +, Jump 1, Jump 2, Jump 3, Unless 2, Unless 3, Field 0, Call f 2, Dec")
	for _, a := range few {
		checkAsModel(t, []api.Op{a})
		for _, b := range few {
			checkAsModel(t, []api.Op{a, b})
			for _, c := range few {
				checkAsModel(t, []api.Op{a, b, c})
				checkAsModel(t, append(program("Push 1, Push 2"), a, b, c))
			}
		}
	}
}

// R4: what is handed in stays as it was, what lies behind a list's end, too.
func TestHandedInStays(t *testing.T) {
	c := newChance(6)
	for range 500 {
		n := c.expr(c.kind(), 3)
		n.Kids = withMore(n.Kids, node(99, "behind", 1))
		over := withMore(fields(), api.Field{Stream: "behind", Column: "i", Kind: 1})
		aggs := withMore(c.aggs(tree.Aggs(n), false), agg("behind"))
		copied := tree.Copy(api.Node{Kids: append(aggs[:cap(aggs):cap(aggs)], n, api.Node{Kids: n.Kids[:cap(n.Kids)]})})
		ops, _ := code.Compile(n, over, aggs)
		ops = withMore(ops, api.Op{Kind: 77, N: -7})
		opsCopied := slices.Clone(ops[:cap(ops)])
		code.Check(ops, 10, 10)
		code.Depth(ops)
		now := api.Node{Kids: append(aggs[:cap(aggs):cap(aggs)], n, api.Node{Kids: n.Kids[:cap(n.Kids)]})}
		if !reflect.DeepEqual(tree.Copy(now), copied) {
			t.Fatalf("%v became %v", copied, now)
		}
		if !slices.Equal(over, fields()) || over[:cap(over)][len(over)].Stream != "behind" || !slices.Equal(ops[:cap(ops)], opsCopied) {
			t.Fatal("fields or instructions were changed")
		}
	}
}

// withMore is l with something behind its end.
func withMore[T any](l []T, more T) []T {
	all := make([]T, len(l)+1)
	copy(all, l)
	all[len(l)] = more
	return all[:len(l)]
}

// R4, R5: what is handed out is new memory, and the same each time.
func TestHandedOutIsNew(t *testing.T) {
	c := newChance(7)
	for range 300 {
		n := c.expr(c.kind(), 3)
		aggs := tree.Aggs(n)
		first, _ := code.Compile(n, fields(), aggs)
		kept := slices.Clone(first)
		second, _ := code.Compile(n, fields(), aggs)
		for i := range first {
			first[i] = api.Op{Kind: 99}
		}
		third, _ := code.Compile(n, fields(), aggs)
		if !slices.Equal(second, kept) || !slices.Equal(third, kept) {
			t.Fatalf("%v: %v and %v, want %v", n, second, third, kept)
		}
	}
}

// R3: a list that is empty is the same as none; where a tree begins plays no part.
func TestEmptyLists(t *testing.T) {
	n := binary("+", whole(1), whole(2))
	placed := api.Node{Kind: api.Binary, Text: "+", At: 8, Kids: []api.Node{{Kind: api.Int, N: 1, At: 3, Kids: []api.Node{}}, {Kind: api.Int, N: 2, At: -1}}}
	for _, n := range []api.Node{n, placed} {
		a, e := code.Compile(n, nil, nil)
		b, e2 := code.Compile(n, []api.Field{}, []api.Node{})
		if e != api.OK || e2 != api.OK || !slices.Equal(a, b) || !slices.Equal(a, program("Push 1, Push 2, Binary +")) {
			t.Error(a, e, b, e2)
		}
	}
	counted := agg("count")
	counted.At, counted.Kids = 9, []api.Node{}
	checkProgram(t, counted, []api.Node{agg("count")}, program("Agg 0"))
}
