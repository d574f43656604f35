package types_test

import (
	"testing"

	"marquee/api"
	"marquee/tree"
	"marquee/types"
)

// aggRows are the types of aggregates of each kind, in the order of kindLetters; ! is ErrType.
func aggRows() map[string]string {
	return map[string]string{"count": "iiiii", "sum": "!!id!", "avg": "!!dd!", "min": "!bidt", "max": "!bidt", "first": "!bidt", "last": "!bidt"}
}

// Promise 11.2: each aggregate of each kind, distinct or not.
func TestAggregates(t *testing.T) {
	for s, row := range aggRows() {
		for i, samples := range ofEachKind() {
			for _, a := range samples {
				checkAnswer(t, row[i], node(api.Agg, s, 0, a))
				checkAnswer(t, row[i], node(api.Agg, s, 1, a))
			}
		}
	}
	checkTypes(t, 'i', "count(*)", "count(null)", "count(distinct x)", "sum(i + 1)", "sum(i) + count(*)", "min(i)")
	checkTypes(t, 'd', "avg(i)", "avg(d)", "sum(i + 1.5)", "sum(i) + avg(i)", "sum(i) * 1.5")
	checkTypes(t, 'b', "sum(i) > 5", "min(i = 1)", "count(*) > 1 and max(b)", "first(x is null)")
	checkTypes(t, 't', "upper(min(x))", "last(concat(x, y))", "case when count(*) > 1 then first(x) end")
	checkFaults(t, api.ErrType, "|sum(x)", "|sum(null)", "|avg(b)", "|min(null)", "|max(- null)", "|first(null)", "|last(z)", "|sum(distinct x)", "1 + |sum(b)", "count(*) + |avg(x)")
	checkFaults(t, api.ErrName, "sum(|nope)", "count(|nope)", "count(distinct |a)", "first(|u.i)")
}

// Promise 11.2: where none may stand, an aggregate is refused at its byte, ahead of what stands within it, behind what stands ahead of it.
func TestNoAggregates(t *testing.T) {
	for _, s := range []string{"|count(*)", "|sum(i)", "|sum(nope)", "|sum(x)", "|sum(count(*))", "|sum(null)", "1 + |count(*)", "i + |sum(nope) + nope", "not |min(b)", "x + |count(*)", "case when |min(b) then nope end", "case when b then |count(*) when 1 then 2 end", "abs(|sum(x))", "nope(|avg(i))", "i in (1, |max(i))", "x in (1, |max(i))", "|first(i) is null"} {
		s, at := marked(s)
		checkFault(t, readExpr(t, s), false, at, api.ErrPlace)
	}
	for s, err := range map[string]api.Errno{"|nope + count(*)": api.ErrName, "(x |+ 1) + count(*)": api.ErrType, "|abs(x) + count(*)": api.ErrFunc, "case when |i then count(*) end": api.ErrType} {
		s, at := marked(s)
		checkFault(t, readExpr(t, s), false, at, err)
	}
	for _, s := range []string{"i + 1", "b", "x is null", "abs(i)", "case when b then 1 end"} {
		if _, at, e := types.Expr(readExpr(t, s), fields(), false); at != 0 || e != api.OK {
			t.Errorf("%s: %d, %d", s, at, e)
		}
	}
}

// Promise 11.2: one within another, at any depth, is refused ahead of what stands within it.
func TestAggregateWithinAnother(t *testing.T) {
	checkFaults(t, api.ErrPlace,
		"sum(|sum(i))", "count(|count(*))", "sum(1 + |count(*))", "sum(abs(|sum(i)))", "sum(|sum(nope))", "sum(|sum(x))", "sum(|sum(sum(i)))", "max(case when b then |sum(i) end)", "min(i in (1, 2, |max(i)))", "first(|last(first(i)))",
		"sum(i) + sum(|count(*))", "count(distinct |count(distinct i))", "sum(x + |count(*))", "avg(|min(i) + nope)")
	checkFaults(t, api.ErrName, "sum(|nope + count(*))", "sum(|nope) + sum(count(*))")
	checkFaults(t, api.ErrType, "sum((x |+ 1) + count(*))", "|sum(x) + sum(count(*))")
	checkTypes(t, 'i', "sum(i) + sum(j)", "sum(i) + abs(sum(j) + count(*))")
}

// Promise 11.2: all aggregates of trees by chance are taken where they may stand; where none may, the first of the tree's is refused.
func TestAggregatesByChance(t *testing.T) {
	c := newChance(111)
	refused := 0
	for range 5000 {
		n := c.placed(c.expr(c.kind(), 4, true))
		_, at, e := types.Expr(n, c.fields, false)
		aggs := tree.Aggs(n)
		if len(aggs) == 0 {
			continue
		}
		if _, _, taken := types.Expr(n, c.fields, true); taken != api.OK {
			continue
		}
		refused++
		if e != api.ErrPlace || at != aggs[0].At {
			t.Errorf("%#v: %d, %d, want ErrPlace at %d", n, at, e, aggs[0].At)
		}
	}
	if refused < 1000 {
		t.Errorf("only %d of them have one", refused)
	}
}

// Promise 11.2: aggregates within other trees.
func TestAggregatesWithinOthers(t *testing.T) {
	for s := range aggRows() {
		checkTypes(t, 'b', s+"(i) = 1", s+"(distinct d) < 2.5", "not "+s+"(i) between 1 and "+s+"(d)")
		checkTypes(t, 'i', "round("+s+"(i))")
	}
}
