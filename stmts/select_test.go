package stmts_test

import (
	"strings"
	"testing"

	"marquee/api"
)

// Promise 8.1: the chapter's and the document's examples.
func TestSelectExamples(t *testing.T) {
	f := stmtFace()
	f.checkTaken(t, []taken{
		{"select a from T#length(2)#unique(b) as t", "(select/1 _ (list (item a)) (list (stream:T _ name:t (view:length int/2) (view:unique b))) _ list _ list _)"},
		{"select a from T output every 3 events", "(select/1 _ (list (item a)) (list (stream:T _ _)) _ list _ list (rate:all/3 name:events))"},
		{"select sym, price from Trade where price > 10|;", "(select/1 _ (list (item sym) (item price)) (list (stream:Trade _ _)) (binary:> price int/10) list _ list _)"},
		{"select irstream price from Trade#length(2)|;", "(select/3 _ (list (item price)) (list (stream:Trade _ _ (view:length int/2))) _ list _ list _)"},
		{"select count(*) as n, sum(price) as s from Trade#time(10s)|;", "(select/1 _ (list (item:n agg:count) (item:s (agg:sum price))) (list (stream:Trade _ _ (view:time int:ms/10000))) _ list _ list _)"},
		{"select sym, avg(price) as a from Trade#length(3) group by sym having count(*) > 1 order by sym|;", "(select/1 _ (list (item sym) (item:a (agg:avg price))) (list (stream:Trade _ _ (view:length int/3))) _ (list sym) (binary:> agg:count int/1) (list (order sym)) _)"},
		{"select a.price, b.price as p2 from pattern [every a=Trade(sym = 'A') -> b=Trade(sym = 'B') within 5s]|;", "(select/1 _ (list (item (col:price name:a)) (item:p2 (col:price name:b))) (pattern (then (every (event:Trade (binary:= sym text:A) name:a)) (within/5000 (event:Trade (binary:= sym text:B) name:b))) _) _ list _ list _)"},
		{"insert into W select * from Trade|;", "(select/1 name:W star (list (stream:Trade _ _)) _ list _ list _)"},
		{"select sym, price from Trade#length(5) output last every 1s|;", "(select/1 _ (list (item sym) (item price)) (list (stream:Trade _ _ (view:length int/5))) _ list _ list (rate:last/1000 name:ms))"},
		{"context C select count(*) as n from Trade#keepall|;", "(select:C/1 _ (list (item:n agg:count)) (list (stream:Trade _ _ view:keepall)) _ list _ list _)"},
		{"context C insert into O select irstream a as x, count(*) from T(b)#time(5s) as t where a > 1 group by a, b having count(*) > 1 output snapshot every 5ms order by x desc, y", "(select:C/3 name:O (list (item:x a) (item agg:count)) (list (stream:T b name:t (view:time int:ms/5000))) (binary:> a int/1) (list a b) (binary:> agg:count int/1) (list (order/1 x) (order y)) (rate:snapshot/5 name:ms))"},
	})
	f.checkRefused(t, []string{"select a from T#length(|0)", "select a from A, B, |C"})
}

// Promise 8.1: what stands ahead of the items.
func TestHeadsOfSelects(t *testing.T) {
	f := stmtFace()
	rest := " _ star (list (stream:T _ _)) _ list _ list _)"
	f.checkTaken(t, []taken{
		{"select * from T", "(select/1" + rest}, {"select istream * from T", "(select/1" + rest}, {"select rstream * from T", "(select/2" + rest}, {"select irstream * from T", "(select/3" + rest}, {"context C select rstream * from T", "(select:C/2" + rest},
		{"insert into A select irstream * from T", "(select/3 name:A" + rest[2:]}, {"context C insert into C select * from T", "(select:C/1 name:C" + rest[2:]},
	})
	f.checkRefused(t, []string{
		"context |", "context |select a from T", "context |context C select a from T", "context |5 select a from T", "context C |", "context C |;", "context C |context D select a from T", "context C |create schema T (a int)", "context C |on A delete from W", "context C |into A select a from T", "context C |a from T", "context C |partition by a from T",
		"insert |", "insert |A select a from T", "insert |select a from T", "insert into |", "insert into |select a from T", "insert into |(A) select a from T", "insert into |5 select a from T", "insert into A |", "insert into A |;", "insert into A |insert into B select a from T", "insert into A |context C select a from T", "insert into A |(a) select a from T", "insert into A |as a select a from T", "insert into A |, B select a from T", "insert into A |on B delete from W", "insert into A |irstream a from T",
		"select istream |istream a from T", "select rstream |irstream a from T", "select istream |", "select irstream |from T", "select |all a from T", "select |distinct a from T", "select |snapshot a from T",
	})
}

// Promise 8.1: items, of a select and of an on select.
func TestItems(t *testing.T) {
	f := stmtFace()
	for _, x := range []taken{
		{"*", "star"}, {"a", "(list (item a))"}, {"a as b", "(list (item:b a))"}, {"a as b, c, d as a", "(list (item:b a) (item c) (item:a d))"}, {"(a)", "(list (item a))"}, {"(a + b) * c as d", "(list (item:d (binary:* (binary:+ a b) c)))"}, {"a * b", "(list (item (binary:* a b)))"}, {"t.a as a, count(*)", "(list (item:a (col:a name:t)) (item agg:count))"}, {"case when a then b end as c", "(list (item:c (case a b null)))"}, {"asc as length", "(list (item:length asc))"}, {"a as asc", "(list (item:asc a))"}, {"null, 1.5 as d, 'x'", "(list (item null) (item:d dec/15000) (item text:x))"}, {"first(a), last(distinct b) as l", "(list (item (agg:first a)) (item:l (agg:last/1 b)))"},
	} {
		f.checkTaken(t, []taken{{"select " + x.s + " from T", "(select/1 _ " + x.want + " (list (stream:T _ _)) _ list _ list _)"}, {"on A select " + x.s + " from W", "(onselect (stream:A _ _) (stream:W _ _) " + x.want + " _)"}})
	}
	for _, s := range []string{"|from T", "|;", "|", "|, a from T", "* |", "* |as a from T", "* |, a from T", "* |a from T", "* |* from T", "a |", "a |b from T", "a |;", "a |5 from T", "a as |", "a as |from T", "a as |5 from T", "a as |(b) from T", "a as |'b' from T", "a as |as from T", "a as |select from T", "a as b |as c from T", "a as b |.c from T", "a as b |+ 1 from T", "a,|", "a, |from T", "a, |* from T", "a, |, b from T", "a, b |", "|as a from T", "(a|", "(a |as b) from T", "a |not b from T", "f(a |as b) from T", "t |. from T", "|5s from T", "(|*) from T"} {
		f.checkRefused(t, []string{"select " + s, "on A select " + s})
	}
	checkList(t, list{"select ", "a", " from T", api.MaxItems})
	checkList(t, list{"select irstream ", "(a) + b as c", " from T", api.MaxItems})
	checkList(t, list{"on A select ", "t.a as c", " from W", api.MaxItems})
}

// Promise 8.1: streams.
func TestStreams(t *testing.T) {
	f := stmtFace()
	around := func(s string) string { return "(select/1 _ star " + s + " _ list _ list _)" }
	f.checkTaken(t, []taken{
		{"select * from T", around("(list (stream:T _ _))")}, {"select * from T as t", around("(list (stream:T _ name:t))")}, {"select * from T(a > 1)", around("(list (stream:T (binary:> a int/1) _))")}, {"select * from T(a) as t", around("(list (stream:T a name:t))")}, {"select * from T#keepall as t", around("(list (stream:T _ name:t view:keepall))")}, {"select * from T(a)#keepall#lastevent", around("(list (stream:T a _ view:keepall view:lastevent))")}, {"select * from A(x)#keepall as a, B(y)#length(2) as b", around("(list (stream:A x name:a view:keepall) (stream:B y name:b (view:length int/2)))")}, {"select * from A, A", around("(list (stream:A _ _) (stream:A _ _))")},
		{"select * from T as t|#keepall", around("(list (stream:T _ name:t))")}, {"select * from T as t|(a)", around("(list (stream:T _ name:t))")}, {"select * from T#keepall|(a)", around("(list (stream:T _ _ view:keepall))")}, {"select * from T as t| as u", around("(list (stream:T _ name:t))")}, {"select * from T| t", around("(list (stream:T _ _))")}, {"select * from T|.a", around("(list (stream:T _ _))")}, {"select * from T(a)|(b)", around("(list (stream:T a _))")}, {"select * from T| pattern [A]", around("(list (stream:T _ _))")}, {"select * from T| = A", around("(list (stream:T _ _))")},
	})
	f.checkRefused(t, []string{
		"select * |", "select * |T", "select * |where a", "select * from |", "select * from |;", "select * from |5", "select * from |(T)", "select * from |'T'", "select * from |#keepall", "select * from |as t", "select * from |where a", "select * from |every A", "select * from |select a from T", "select * from |*", "select * from |, T",
		"select * from T(|", "select * from T(|)", "select * from T(a|", "select * from T(a|, b)", "select * from T(a| as b)", "select * from T as |", "select * from T as |;", "select * from T as |5", "select * from T as |where a", "select * from T as |(t)", "select * from T#keepall as |", "select * from T,|", "select * from T, |;", "select * from T, |, U", "select * from T, |pattern [A]", "select * from T, |where a", "select * from A, B, |", "select * from A, B, |5", "select * from A, B as b, |C where", "select * from T, U(|)", "select * from T, U as |",
	})
	checkList(t, list{"select * from ", "T", " where a", 2})
	checkList(t, list{"select * from ", "T(a)#length(5)#keepall as t", "", 2})
}

// Promise 8.1: patterns as what is selected from.
func TestFromPatterns(t *testing.T) {
	f := stmtFace()
	around := func(s string) string { return "(select/1 _ star " + s + " _ list _ list _)" }
	f.checkTaken(t, []taken{
		{"select * from pattern [A]", around("(pattern (event:A _ _) _)")}, {"select * from pattern [every a=A -> timer(5s)] as p", around("(pattern (then (every (event:A _ name:a)) timer/5000) name:p)")}, {"select * from pattern [(A)] as p", around("(pattern (event:A _ _) name:p)")},
		{"select * from pattern [A]|, T", around("(pattern (event:A _ _) _)")}, {"select * from pattern [A]| [B]", around("(pattern (event:A _ _) _)")}, {"select * from pattern [A] as p|, T", around("(pattern (event:A _ _) name:p)")}, {"select * from pattern [A]|#keepall", around("(pattern (event:A _ _) _)")}, {"select * from pattern [A]|(a)", around("(pattern (event:A _ _) _)")}, {"select * from pattern [A]| within 5s", around("(pattern (event:A _ _) _)")}, {"select * from pattern [A] as p| as q", around("(pattern (event:A _ _) name:p)")},
		{"select * from pattern [A] as p where a group by b having c output every 1s order by d", "(select/1 _ star (pattern (event:A _ _) name:p) a (list b) c (list (order d)) (rate:all/1000 name:ms))"},
	})
	f.checkRefused(t, []string{
		"select * from pattern |", "select * from pattern |A", "select * from pattern |(A)", "select * from pattern |as p", "select * from pattern |;", "select * from pattern [|", "select * from pattern [|]", "select * from pattern [|not A]", "select * from pattern [A|", "select * from pattern [A|)", "select * from pattern [A|, B]", "select * from pattern [A| B]", "select * from pattern [A|;", "select * from pattern [A -> |]", "select * from pattern [A and |]", "select * from pattern [(A|]", "select * from pattern [A| as a]", "select * from pattern [A|[B]]", "select * from pattern [|[A]]", "select * from pattern [A within |]", "select * from pattern [timer(|5)]", "select * from pattern [A(|)]", "select * from pattern [A] as |", "select * from pattern [A] as |where", "select * from pattern [A] as |5",
	})
}

// Promise 8.1: where, group by, having, order by.
func TestClauses(t *testing.T) {
	f := stmtFace()
	around := func(s string) string { return "(select/1 _ star (list (stream:T _ _)) " + s + ")" }
	f.checkTaken(t, []taken{
		{"select * from T where a", around("a list _ list _")}, {"select * from T where (a or b) and c", around("(binary:and (binary:or a b) c) list _ list _")}, {"select * from T group by a", around("_ (list a) _ list _")}, {"select * from T group by a, t.b, a + 1", around("_ (list a (col:b name:t) (binary:+ a int/1)) _ list _")}, {"select * from T having a", around("_ list a list _")}, {"select * from T order by a", around("_ list _ (list (order a)) _")}, {"select * from T order by a desc", around("_ list _ (list (order/1 a)) _")}, {"select * from T order by a asc", around("_ list _ (list (order a)) _")},
		{"select * from T order by a, b desc, c asc, (d) desc, e", around("_ list _ (list (order a) (order/1 b) (order c) (order/1 d) (order e)) _")}, {"select * from T order by asc", around("_ list _ (list (order asc)) _")}, {"select * from T order by asc asc", around("_ list _ (list (order asc)) _")}, {"select * from T order by asc desc", around("_ list _ (list (order/1 asc)) _")}, {"select * from T where a having b order by c", around("a list b (list (order c)) _")}, {"select * from T group by a order by b", around("_ (list a) _ (list (order b)) _")},
		{"select * from T where a| where b", around("a list _ list _")}, {"select * from T group by a| where b", around("_ (list a) _ list _")}, {"select * from T group by a| group by b", around("_ (list a) _ list _")}, {"select * from T group by a| as b", around("_ (list a) _ list _")}, {"select * from T group by a| desc", around("_ (list a) _ list _")}, {"select * from T having a| group by b", around("_ list a list _")}, {"select * from T having a| where b", around("_ list a list _")}, {"select * from T having a| having b", around("_ list a list _")}, {"select * from T order by a| output every 5s", around("_ list _ (list (order a)) _")}, {"select * from T order by a| having b", around("_ list _ (list (order a)) _")}, {"select * from T order by a desc| asc", around("_ list _ (list (order/1 a)) _")}, {"select * from T order by a asc| desc", around("_ list _ (list (order a)) _")}, {"select * from T order by a asc| asc", around("_ list _ (list (order a)) _")}, {"select * from T order by a desc| desc", around("_ list _ (list (order/1 a)) _")}, {"select * from T order by a| ASC", around("_ list _ (list (order a)) _")}, {"select * from T order by a| as b", around("_ list _ (list (order a)) _")}, {"select * from T order by a| order by b", around("_ list _ (list (order a)) _")}, {"select * from T where a| as b", around("a list _ list _")}, {"select * from T where a|, b", around("a list _ list _")}, {"select * from T| by a", around("_ list _ list _")}, {"select * from T| desc", around("_ list _ list _")}, {"select * from T where a| not b", around("a list _ list _")},
	})
	f.checkRefused(t, []string{
		"select * from T where |", "select * from T where |;", "select * from T where |where a", "select * from T where |group by a", "select * from T where a + |", "select * from T where (a|", "select * from T where |*", "select * from T group |", "select * from T group |a", "select * from T group |order by a", "select * from T group by |", "select * from T group by |by a", "select * from T group by |having a", "select * from T group by a,|", "select * from T group by a, |;", "select * from T group by a, |, b", "select * from T group by |*", "select * from T having |", "select * from T having |by a", "select * from T having |order by a", "select * from T having a = |",
		"select * from T order |", "select * from T order |a", "select * from T order by |", "select * from T order by |desc", "select * from T order by |by", "select * from T order by a,|", "select * from T order by a, |desc", "select * from T order by a desc,|", "select * from T order by a asc, |;", "select * from T order by |, a", "select * from T order by |*", "select * from T group by (a |", "select * from T where a between b |or c",
	})
	checkList(t, list{"select * from T group by ", "a", " having b", api.MaxItems})
	checkList(t, list{"select * from T group by ", "(a + b)", "", api.MaxItems})
	checkList(t, list{"select * from T order by ", "a", "", api.MaxItems})
	checkList(t, list{"select * from T output every 5s order by ", "(a) desc", "", api.MaxItems})
	checkList(t, list{"select * from T order by ", "a asc", "", api.MaxItems})
}

// Promise 8.1: each rate, with its word and without one, by events and by time.
func TestRates(t *testing.T) {
	f := stmtFace()
	around := func(s string) string { return "(select/1 _ star (list (stream:T _ _)) _ list _ list " + s + ")" }
	for _, s := range []string{"", "all", "first", "last", "snapshot", "ALL", "Snapshot"} {
		want := strings.ToLower(s)
		if s == "" {
			want = "all"
		}
		f.checkTaken(t, []taken{
			{"select * from T output " + s + " every 3 events", around("(rate:" + want + "/3 name:events)")}, {"select * from T output " + s + " every 5s", around("(rate:" + want + "/5000 name:ms)")}, {"select * from T output " + s + " every 65536 events", around("(rate:" + want + "/65536 name:events)")},
			{"select * from T output " + s + " every 5s| events", around("(rate:" + want + "/5000 name:ms)")}, {"select * from T output " + s + " every 5 events| every 5 events", around("(rate:" + want + "/5 name:events)")}, {"select * from T output " + s + " every 5s| output every 5s", around("(rate:" + want + "/5000 name:ms)")}, {"select * from T output " + s + " every 5s| where a", around("(rate:" + want + "/5000 name:ms)")},
		})
		head := "select * from T output " + s + " "
		f.checkRefused(t, []string{head + "|;", head + "|", head + "|5s", head + "|3 events", head + "every |", head + "every |events", head + "every |every 5s", head + "every |a", head + "every |1.5", head + "every |(5s)", head + "every |-1 events", head + "every |0 events", head + "every |0s", head + "every |0 a", head + "every |65537 events", head + "every |65537", head + "every 3 |", head + "every 3 |ms", head + "every 3 |s", head + "every 3 |;", head + "every 3 |order by a", head + "every 3 |3 events", head + "every 3 |'events'"})
		checkRange(t, f, head+"every |3 events", 1, 1<<16)
		checkRange(t, f, head+"every |5s order by a", 1, 1<<40)
	}
	f.checkRefused(t, []string{"select * from T output |distinct every 5s", "select * from T output |istream every 5s", "select * from T output all |all every 5s", "select * from T output first |last every 5s", "select * from T output |count every 5s", "select * from T output |a every 5s", "select * from T output |output every 5s", "select * from T output |order by a"})
}

// selects are statements that select, with a | where one may end.
func selects() []string {
	return []string{
		"context C insert into A select irstream a as b , c from T|( a )| # length ( 5 )| # keepall| as t| where a| group by a| , b| having a| output snapshot every 5 events| order by a| desc| , b| asc|",
		"select rstream * from A| , B| # time ( 5s )| as b| output every 5s| order by a|", "insert into A select istream a from pattern [ every a = A ( x ) -> ( B and not timer ( 5s ) ) within 6s or C ]| as p| having a|",
	}
}

// Promise 8.1: each rule with all that it asks for, with tokens too few, with others in each place.
func TestEachSelect(t *testing.T) {
	for _, s := range selects() {
		checkEndings(t, stmtFace(), s)
		checkOthers(t, s)
	}
}
