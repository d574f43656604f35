package stmts_test

import (
	"testing"

	"marquee/api"
)

// Promise 8.1: on .. delete.
func TestOnDelete(t *testing.T) {
	f := stmtFace()
	f.checkTaken(t, []taken{
		{"on Stop as s delete from W as w where w.sym = s.sym|;", "(delete (stream:Stop _ name:s) (stream:W _ name:w) (binary:= (col:sym name:w) (col:sym name:s)))"}, {"on A delete from W", "(delete (stream:A _ _) (stream:W _ _) _)"}, {"on A(x > 1) delete from W", "(delete (stream:A (binary:> x int/1) _) (stream:W _ _) _)"}, {"on A(x) as a delete from A where b", "(delete (stream:A x name:a) (stream:A _ _) b)"},
		{"on A delete from W| set a = 1", "(delete (stream:A _ _) (stream:W _ _) _)"}, {"on A delete from W|, V", "(delete (stream:A _ _) (stream:W _ _) _)"}, {"on A delete from W|(a)", "(delete (stream:A _ _) (stream:W _ _) _)"}, {"on A delete from W|#keepall", "(delete (stream:A _ _) (stream:W _ _) _)"}, {"on A delete from W where a| where b", "(delete (stream:A _ _) (stream:W _ _) a)"}, {"on A delete from W as w|(a)", "(delete (stream:A _ _) (stream:W _ name:w) _)"}, {"on A delete from W| when matched", "(delete (stream:A _ _) (stream:W _ _) _)"},
	})
	f.checkRefused(t, []string{"on A delete |", "on A delete |W", "on A delete |where a", "on A delete from |", "on A delete from |;", "on A delete from |where a", "on A delete from |(W)", "on A delete from |5", "on A delete from |pattern [A]", "on A delete from W as |", "on A delete from W as |where a", "on A delete from W where |", "on A delete from W where |;", "on A delete |as a from W", "on A delete |* from W"})
}

// Promise 8.1: on .. update.
func TestOnUpdate(t *testing.T) {
	f := stmtFace()
	f.checkTaken(t, []taken{
		{"on A update W set a = 1", "(update (stream:A _ _) (stream:W _ _) (list (set:a int/1)) _)"}, {"on A(x) as a update W as w set b = a.b, c = w.c + 1 where w.d = a.d", "(update (stream:A x name:a) (stream:W _ name:w) (list (set:b (col:b name:a)) (set:c (binary:+ (col:c name:w) int/1))) (binary:= (col:d name:w) (col:d name:a)))"}, {"on A update W set a = b = c, a = (d)", "(update (stream:A _ _) (stream:W _ _) (list (set:a (binary:= b c)) (set:a d)) _)"},
		{"on A update W set a = 1| b = 2", "(update (stream:A _ _) (stream:W _ _) (list (set:a int/1)) _)"}, {"on A update W set a = 1| set b = 2", "(update (stream:A _ _) (stream:W _ _) (list (set:a int/1)) _)"}, {"on A update W set a = 1| as b", "(update (stream:A _ _) (stream:W _ _) (list (set:a int/1)) _)"}, {"on A update W set a = 1| when matched", "(update (stream:A _ _) (stream:W _ _) (list (set:a int/1)) _)"},
	})
	f.checkRefused(t, []string{"on A update |", "on A update |set a = 1", "on A update |from W set a = 1", "on A update |(W)", "on A update W |", "on A update W |a = 1", "on A update W |(a) set a = 1", "on A update W |#keepall set a = 1", "on A update W |where a set a = 1", "on A update W |;", "on A update W |, V set a = 1", "on A update W as |set a = 1", "on A update W as w |", "on A update W set |", "on A update W set |where a", "on A update W set |5 = a", "on A update W set |(a) = 1", "on A update W set |* ", "on A update W set a |", "on A update W set a |;", "on A update W set a |1", "on A update W set a |.b = 1", "on A update W set a |!= 1", "on A update W set a |, b = 1", "on A update W set a = |", "on A update W set a = |, b = 1", "on A update W set a = |where b", "on A update W set a = |= b", "on A update W set a = 1,|", "on A update W set a = 1, |where b", "on A update W set a = 1, |, b = 2", "on A update W set a = 1 where |", "on A update W set a = (1|"})
	checkList(t, list{"on A update W set ", "a = b", " where c", api.MaxItems})
	checkList(t, list{"on A update W set ", "a = (b) + 1", "", api.MaxItems})
}

// Promise 8.1: on .. select.
func TestOnSelect(t *testing.T) {
	f := stmtFace()
	f.checkTaken(t, []taken{
		{"on A select * from W", "(onselect (stream:A _ _) (stream:W _ _) star _)"}, {"on A(x) as a select w.b as c, a.d from W as w where w.e", "(onselect (stream:A x name:a) (stream:W _ name:w) (list (item:c (col:b name:w)) (item (col:d name:a))) (col:e name:w))"},
		{"on A select * from W|, V", "(onselect (stream:A _ _) (stream:W _ _) star _)"}, {"on A select * from W|(a)", "(onselect (stream:A _ _) (stream:W _ _) star _)"}, {"on A select * from W|#keepall", "(onselect (stream:A _ _) (stream:W _ _) star _)"}, {"on A select * from W| group by a", "(onselect (stream:A _ _) (stream:W _ _) star _)"}, {"on A select * from W where a| order by b", "(onselect (stream:A _ _) (stream:W _ _) star a)"}, {"on A select * from W| output every 5s", "(onselect (stream:A _ _) (stream:W _ _) star _)"},
	})
	f.checkRefused(t, []string{"on A select |", "on A select |irstream a from W", "on A select |istream a from W", "on A select |from W", "on A select a |", "on A select a |where b", "on A select a from |", "on A select a from |pattern [A]", "on A select a from |(W)", "on A select a from W as |", "on A select a from W where |", "on A select a from W where |;"})
}

// Promise 8.1: on .. merge.
func TestOnMerge(t *testing.T) {
	f := stmtFace()
	f.checkTaken(t, []taken{
		{"on A merge W where a when matched then update set b = 1", "(merge (stream:A _ _) (stream:W _ _) a (list (set:b int/1)))"}, {"on B as e merge W as w where w.x = e.x when matched then update set y = 1, z = e.z when not matched then insert|;", "(merge/1 (stream:B _ name:e) (stream:W _ name:w) (binary:= (col:x name:w) (col:x name:e)) (list (set:y int/1) (set:z (col:z name:e))))"}, {"on A(x) merge W where a when matched then update set b = case when c then d end when not matched then insert", "(merge/1 (stream:A x _) (stream:W _ _) a (list (set:b (case c d null))))"},
		{"on A merge W where a when matched then update set b = 1| where c", "(merge (stream:A _ _) (stream:W _ _) a (list (set:b int/1)))"}, {"on A merge W where a when matched then update set b = 1 when not matched then insert| into W", "(merge/1 (stream:A _ _) (stream:W _ _) a (list (set:b int/1)))"}, {"on A merge W where a when matched then update set b = 1 when not matched then insert| when matched", "(merge/1 (stream:A _ _) (stream:W _ _) a (list (set:b int/1)))"},
	})
	f.checkRefused(t, []string{
		"on A merge |", "on A merge |into W where a", "on A merge |where a", "on A merge W |", "on A merge W |when matched then update set a = b", "on A merge W |set a = b", "on A merge W |(x) where a", "on A merge W |#keepall where a", "on A merge W as |where a", "on A merge W where |", "on A merge W where |when matched", "on A merge W where a |", "on A merge W where a |;", "on A merge W where a |matched", "on A merge W where a when |", "on A merge W where a when |not matched then insert", "on A merge W where a when |then", "on A merge W where a when matched |", "on A merge W where a when matched |update", "on A merge W where a when matched |and b then update", "on A merge W where a when matched then |", "on A merge W where a when matched then |insert", "on A merge W where a when matched then |delete", "on A merge W where a when matched then update |", "on A merge W where a when matched then update |b = 1", "on A merge W where a when matched then update |W set b = 1", "on A merge W where a when matched then update set |", "on A merge W where a when matched then update set |when not matched", "on A merge W where a when matched then update set b |", "on A merge W where a when matched then update set b = |", "on A merge W where a when matched then update set b = 1,|",
		"on A merge W where a when matched then update set b = 1 when |", "on A merge W where a when matched then update set b = 1 when |matched then update set b = 1", "on A merge W where a when matched then update set b = 1 when |;", "on A merge W where a when matched then update set b = 1 when not |", "on A merge W where a when matched then update set b = 1 when not |then insert", "on A merge W where a when matched then update set b = 1 when not |not matched", "on A merge W where a when matched then update set b = 1 when not matched |", "on A merge W where a when matched then update set b = 1 when not matched |insert", "on A merge W where a when matched then update set b = 1 when not matched then |", "on A merge W where a when matched then update set b = 1 when not matched then |update", "on A merge W where a when matched then update set b = 1 when not matched then |;",
	})
	checkList(t, list{"on A merge W where a when matched then update set ", "a = b", "", api.MaxItems})
	checkList(t, list{"on A merge W where a when matched then update set ", "a = (b)", " when not matched then insert", api.MaxItems})
}

// Promise 8.1: what stands ahead of what is done, the same for all of them.
func TestSources(t *testing.T) {
	f := stmtFace()
	for _, done := range []string{"delete from W", "update W set a = b", "select * from W", "merge W where a when matched then update set a = b"} {
		for _, s := range []string{"|", "|(x)", "|as a", "|#keepall", "|pattern [A]", "|every A", "|5", "|on", "A |#keepall", "A |, B", "A |= B", "A(|)", "A(x|", "A(x|, y)", "A as |", "A as |(a)", "A as |as", "A as a |(x)", "A as a |as b", "A(x) |(y)", "A |where a", "A |set", "A |on", "A |a"} {
			f.checkRefused(t, []string{"on " + s + " " + done})
		}
		for _, s := range []string{"A", "A(x)", "A as a", "A(x) as a", "A((x)) as A", "time(f())"} {
			l := tokens(t, "on "+s+" "+done)
			f.checkEnd(t, l, len(l))
		}
	}
	f.checkRefused(t, []string{"on |", "on |;", "on A |", "on A |;", "on A |insert into W", "on A |create", "on A |from W", "on A |into W", "on A |context C select a from T", "on A |when matched", "on A |W", "on A as a |", "on A(x) |", "on |delete from W", "on A |on B delete from W", "on A |output every 5s"})
}

// ons are statements on an event, with a | where one may end.
func ons() []string {
	return []string{
		"on A ( x ) as a delete from W| as w| where a|", "on A ( x ) as a update W as w set a = b| , c = d| where a|", "on A ( x ) as a select a as b , c from W| as w| where a|", "on A select * from W| where a|",
		"on A ( x ) as a merge W as w where a when matched then update set a = b| , c = d| when not matched then insert|",
	}
}

// Promise 8.1: each rule with all that it asks for, with tokens too few, with others in each place.
func TestEachOn(t *testing.T) {
	for _, s := range ons() {
		checkEndings(t, stmtFace(), s)
		checkOthers(t, s)
	}
}
