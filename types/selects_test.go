package types_test

import (
	"slices"
	"testing"

	"marquee/api"
	"marquee/tree"
	"marquee/types"
)

// The chapter's examples, and the document's.
func TestExamplesOfSelect(t *testing.T) {
	checkSelectFaults(t, api.ErrPlace, "select |x, sum(i) from T")
	checkSelects(t, "x:t c2:i", true, "select x, sum(i) from T group by x")
	checkSelectFaults(t, api.ErrType, "select |null as a from T", "select i from T where |j")
	checkSelectFaults(t, api.ErrName, "select i, |i from T", "select i from T order by |nope", "select |nope from T")
	checkSelects(t, "x:t a:d", true, "select x, avg(i) as a from T#length(3) group by x having count(*) > 1 order by x")
	checkSelects(t, "n:i s:i", true, "select count(*) as n, sum(i) as s from T#time(10s)")
}

// Promise 11.4: what comes out, and whether it groups: by groups, by an aggregate of an item, by a having.
func TestSelect(t *testing.T) {
	checkSelects(t, "i:i p:t c3:b", false, "select i, x as p, b is null from T", "select i, x as p, not b from T where i > 1 order by i, c3 desc, p", "select i, x as p, b and b from T where null", "context C insert into U select irstream i, x as p, b or b from T#length(2) as t, U as u output every 3 events", "select i, x as p, x = y from pattern [every a=A -> b=B]")
	checkSelects(t, "x:t", true, "select x from T group by x", "select x from T group by i, x", "select x from T group by x order by x", "select x from T where b group by x having x = 'a'", "select x from T group by x having null", "select x from T group by x having count(*) > 1", "select x from T group by x having sum(i) > 1 and x > 'a'")
	checkSelects(t, "c1:i", true, "select count(*) from T", "select sum(i) from T having true", "select max(i) from T having count(*) > 1", "select 1 from T having true", "select 1 from T having null", "select 1 from T having count(*) > 1", "select 1 from T group by x", "select sum(i) from T having min(b)", "select i + 1 from T group by i + 1", "select i + 1 from T group by i, d having d > 1")
	checkSelects(t, "c1:i", false, "select 1 from T", "select i + 1 from T where b", "select - i from T order by c1 desc")
	checkSelects(t, "i:i", true, "select i from T having true", "select i from T having null", "select i from T having 1 = 1 order by i")
}

// Promise 11.4: a star, over fields that have unlike names.
func TestSelectStar(t *testing.T) {
	over := fields()[:6]
	for s, group := range map[string]bool{"select * from T": false, "select * from T where b order by x desc, i": false, "select * from T having true": true, "select * from T having null order by z": true} {
		x, at, e := types.Select(readStmt(t, s), over)
		if !slices.Equal(x.Out, columnsOf(over)) || x.Group != group || at != 0 || e != api.OK {
			t.Errorf("%q: %v, %d, %d", s, x, at, e)
		}
	}
	for s, err := range map[string]api.Errno{
		"select |* from T group by i": api.ErrPlace, "select |* from T having count(*) > 1": api.ErrPlace, "select * from T having |i > 1": api.ErrPlace, "select * from T order by |nope": api.ErrName, "select |* from T group by i having nope": api.ErrPlace, "select |* from T having sum(nope) = nope": api.ErrPlace,
	} {
		s, want := marked(s)
		if x, at, e := types.Select(readStmt(t, s), over); len(x.Out) != 0 || x.Group || at != want || e != err {
			t.Errorf("%q: %v, %d, %d", s, x, at, e)
		}
	}
	checkSelectFaults(t, api.ErrName, "select |* from T", "select |* from T order by nope", "select |* from T having i > 1")
	n := readStmt(t, "select * from T")
	if x, at, e := types.Select(n, unlike(api.MaxColumns)); len(x.Out) != api.MaxColumns || at != 0 || e != api.OK {
		t.Errorf("MaxColumns: %v, %d, %d", x, at, e)
	}
	if x, at, e := types.Select(n, unlike(api.MaxColumns+1)); len(x.Out) != 0 || at != 7 || e != api.ErrTree {
		t.Errorf("one more: %v, %d, %d", x, at, e)
	}
}

// Promise 11.4.
func TestWhere(t *testing.T) {
	checkSelectFaults(t, api.ErrName, "select i from T where |nope", "select i from T where i > |nope", "select i from T where |a = 1")
	checkSelectFaults(t, api.ErrType, "select i from T where |i", "select i from T where |x", "select i from T where |1.5", "select i from T where i |+ 1", "select i from T where |'a'", "select i from T where x |+ 1 > 2", "select i from T where |case when b then 1 end", "select i from T where |o")
	checkSelectFaults(t, api.ErrPlace, "select i from T where |count(*) > 1", "select count(*) from T where |min(b)", "select x from T where b and |sum(nope) > 1 group by x having count(*) > 1")
	checkSelectFaults(t, api.ErrFunc, "select i from T where |abs(x) > 1")
	checkSelects(t, "i:i", false, "select i from T where b", "select i from T where null", "select i from T where z", "select i from T where - null", "select i from T where i in (1, 2)", "select i from T where coalesce(null, null)")
}

// Promise 11.4.
func TestGroupBy(t *testing.T) {
	checkSelectFaults(t, api.ErrName, "select 1 from T group by |nope", "select 1 from T group by i, |nope, x + 1", "select 1 from T group by |a", "select 1 from T group by i, x, |c1")
	checkSelectFaults(t, api.ErrType, "select 1 from T group by |null", "select 1 from T group by i, |z", "select 1 from T group by i, null |+ null", "select 1 from T group by x |+ 1", "select 1 from T group by |null, nope", "select 1 from T group by i, |coalesce(null), x + 1", "select 1 from T group by |- null")
	checkSelectFaults(t, api.ErrPlace, "select 1 from T group by |count(*)", "select 1 from T group by i, d + |sum(nope)", "select count(*) from T group by |count(*)", "select 1 from T group by x, |first(x) having count(*) > 1")
	checkSelectFaults(t, api.ErrFunc, "select 1 from T group by |nope()")
	checkSelects(t, "c1:i", true, "select 1 from T group by i, i", "select 1 from T group by 1", "select 1 from T group by b, i, d, x, y, t.a, u.a", "select 1 from T group by o", "select 1 from T group by i + d, upper(x), b is null")
}

// parts of a select, in the order in which their errors are told.
type parts [5]string

const (
	wherePart = iota
	groupPart
	itemsPart
	havingPart
	orderPart
)

// fault answers the first error of a select of these parts, and how many bytes behind the beginning of a part that is.
func (p parts) fault(t *testing.T, of int) (int, api.Errno) {
	t.Helper()
	var s string
	begin := 0
	for _, i := range []int{itemsPart, wherePart, groupPart, havingPart, orderPart} {
		if i == of {
			begin = len(s)
		}
		s += p[i] + " "
	}
	_, at, e := types.Select(readStmt(t, s), fields())
	return at - begin, e
}

// ill are texts of each part that have an error.
func ill() [5][]string {
	return [5][]string{
		{"where nope", "where x + 1 = 2", "where 1", "where i > 1 and min(b)", "where abs(x) = 1"},
		{"group by i, nope", "group by i, null", "group by i, x + 1", "group by i, count(*)"},
		{"select i, nope from T", "select i, d from T", "select i, i from T", "select i, null from T", "select i, sum(count(*)) from T", "select * from T"},
		{"having nope", "having d > 1", "having 1", "having i > 1 and b", "having sum(i)", "having x + 1", "having count(*) > 1 and nope"},
		{"order by nope", "order by i, t.i", "order by i, 1", "order by i + 1"},
	}
}

// Promise 11.4: where, then group by, then items, then having, then order by: of errors in two of them the first.
func TestOrderOfClauses(t *testing.T) {
	good := parts{"", "group by i", "select i from T", "", ""}
	for i, firsts := range ill() {
		for _, first := range firsts {
			p := good
			p[i] = first
			at, e := p.fault(t, i)
			if e == api.OK || at < 0 || at >= len(first) {
				t.Errorf("%q: %d at %d", p, e, at)
			}
			for j := i + 1; j < len(p); j++ {
				for _, second := range ill()[j] {
					q := p
					q[j] = second
					if at2, e2 := q.fault(t, i); at2 != at || e2 != e {
						t.Errorf("%q: %d at %d, want %d at %d", q, e2, at2, e, at)
					}
				}
			}
		}
	}
}

// Promise 11.4: the columns of a having stand within aggregates and groups, whatever else is grouped.
func TestHaving(t *testing.T) {
	checkSelectFaults(t, api.ErrPlace,
		"select i from T having |i > 1", "select 1 from T having |i > 1", "select count(*) from T having |b", "select x from T group by x having |i > 1", "select x from T group by x having count(*) > |i", "select x from T group by x having x = 'a' and |b", "select i + 1 from T group by i + 1 having |i > 1", "select i from T having |i",
		"select x from T group by x having |i", "select x from T group by x having |i + d", "select |i from T having count(*) > 1", "select |i from T having count(*) > 1 and i > 1", "select |i from T having count(*)", "select 1 from T having |i > 1 and x > y", "select sum(i) from T having sum(|count(*)) > nope", "select |i from T having sum(count(*)) > 1", "select |i from T having nope > count(*)")
	checkSelectFaults(t, api.ErrName, "select i from T having |nope", "select x from T group by x having |nope > i", "select x from T group by x having i > |nope", "select count(*) as n from T having |n > 1", "select 1 from T having count(|nope) > 1")
	checkSelectFaults(t, api.ErrType, "select i from T having |1", "select count(*) from T having |count(*)", "select x from T group by x having |x", "select x from T group by x having |'a'", "select x from T group by x having x |+ 1", "select x from T group by x having sum(i) |+ 1", "select 1 from T having |first(o)", "select x from T group by x having x |+ i")
	checkSelectFaults(t, api.ErrFunc, "select x from T group by x having |abs(x) > i")
	checkSelects(t, "c1:i", true, "select 1 from T group by i, d having i > 1 and d = i", "select 1 from T group by i + 1 having i + 1 > 2", "select 1 from T having sum(i) > 1", "select 1 from T group by b having b", "select 1 from T group by i having null", "select 1 from T having first(b)", "select 1 from T group by t.i having t.i > count(i)")
}

// Promise 11.4: by columns that come out alone.
func TestOrderBy(t *testing.T) {
	checkSelects(t, "i:i p:t c3:d", false, "select i, x as p, d + 1 from T order by i", "select i, x as p, d + 1 from T order by p desc, i, i, c3", "select i, x as p, d * 2 from T order by (c3)", "select t.i, x as p, - d from T order by i")
	checkSelects(t, "n:i", true, "select count(*) as n from T order by n", "select count(*) as n from T having true order by n desc")
	checkSelectFaults(t, api.ErrName,
		"select i from T order by |nope", "select i from T order by |d", "select i as p from T order by |i", "select i from T order by |t.i", "select t.i from T order by |t.i", "select i from T order by i, |d, nope", "select i + 1 from T order by |i", "select i from T order by |1", "select i from T order by |'i'", "select i from T order by |- i", "select count(*) from T order by |count(*)",
		"select i from T order by i desc, |x desc", "select i from T order by |I", "select i from T order by |upper(x)", "select i from T order by |null", "select 1 from T order by |c2", "select i from T order by i, i, i, |c1", "select x from T group by x order by |i", "select i from T order by |sum(count(*))", "select i from T order by |i(1)", "select count(i) from T order by |count(i)")
	checkSelectFaults(t, api.ErrName, "select i + 1 from T order by i |+ 1", "select i from T order by nope |+ 1", "select i from T order by i |is null")
}

// Promise 11.4: an order is refused at its expression, not at itself.
func TestByteOfOrder(t *testing.T) {
	n := readStmt(t, "select i from T order by i")
	n.Kids[6].Kids[0].At, n.Kids[6].Kids[0].Kids[0] = 500, placed(600, col("x"))
	checkSelectFault(t, n, 600, api.ErrName)
	n.Kids[6].Kids[0].Kids[0] = placed(600, text("i"))
	checkSelectFault(t, n, 600, api.ErrName)
	n.Kids[6].Kids[0].Kids[0] = placed(600, call("i"))
	checkSelectFault(t, n, 600, api.ErrName)
}

// Promise 11.4: trees that are no select, and selects that have not the form.
func TestNoSelect(t *testing.T) {
	good := readStmt(t, "select i from T")
	bad := []api.Node{{}, col("i"), whole(1), star(), list(good), node(api.Select, "", 0), node(api.Select, "", 1), none(), node(api.PatTimer, "", 5)}
	for _, s := range []string{"create schema T (a int)", "create window W#keepall as T", "create context C partition by i from T", "on T delete from W", "on T update W set a = 1", "on T select i from W", "on T merge W where b when matched then update set a = 1"} {
		bad = append(bad, readStmt(t, s))
	}
	for place := range good.Kids {
		n := tree.Copy(good)
		n.Kids[place] = api.Node{}
		less := tree.Copy(good)
		less.Kids = slices.Delete(less.Kids, place, place+1)
		bad = append(bad, n, less)
	}
	more := tree.Copy(good)
	more.Kids = append(more.Kids, none())
	worded, numbered := tree.Copy(good), tree.Copy(good)
	worded.Text, numbered.N = "select", 4
	for _, n := range append(bad, more, worded, numbered) {
		for _, at := range []int{0, 9} {
			checkSelectFault(t, placed(at, n), 0, api.ErrTree)
		}
	}
}

// Promise 11.4: just MaxItems items, groups and orders may be; one more is no form of a statement, which comes ahead of all else.
func TestSelectOfMany(t *testing.T) {
	for _, many := range []int{api.MaxItems, api.MaxItems + 1} {
		items, groups, orders := list(), list(), list()
		for range many {
			items.Kids = append(items.Kids, item("", whole(1)))
			groups.Kids = append(groups.Kids, col("i"))
			orders.Kids = append(orders.Kids, node(api.Order, "", 0, col("i")))
		}
		for place, l := range map[int]api.Node{1: items, 4: groups, 6: orders} {
			n := readStmt(t, "select i from T")
			n.Kids[place] = placed(50, l)
			if many > api.MaxItems {
				n.Kids[3] = placed(40, col("nope"))
				checkSelectFault(t, n, 0, api.ErrTree)
			} else if x, at, e := types.Select(n, fields()); len(x.Out) == 0 || at != 0 || e != api.OK {
				t.Errorf("%d at %d: %v, %d, %d", many, place, x, at, e)
			}
		}
	}
}
