package stmts_test

import (
	"testing"

	"marquee/api"
)

// Promise 8.1.
func TestCreateSchema(t *testing.T) {
	f := stmtFace()
	f.checkTaken(t, []taken{
		{"create schema T (a int, b text)", "(schema:T column:a/2 column:b/4)"}, {"create schema Trade (sym text, price int, qty int)|;", "(schema:Trade column:sym/4 column:price/2 column:qty/2)"},
		{"create schema T (a bool)", "(schema:T column:a/1)"}, {"create schema T (a int)", "(schema:T column:a/2)"}, {"create schema T (a dec)", "(schema:T column:a/3)"}, {"create schema T (a text)", "(schema:T column:a/4)"},
		{"CREATE Schema int (bool text, text bool, a dec, a int)", "(schema:int column:bool/4 column:text/1 column:a/3 column:a/2)"}, {"create schema T (a int)| (b int)", "(schema:T column:a/2)"}, {"create schema T (a int)| as t", "(schema:T column:a/2)"},
	})
	f.checkRefused(t, []string{
		"create schema |", "create schema |(a int)", "create schema |select (a int)", "create schema |5 (a int)", "create schema T |", "create schema T |a int", "create schema T |;", "create schema T |as (a int)", "create schema T (|", "create schema T (|)", "create schema T (int |", "create schema T (a |", "create schema T (a |)", "create schema T (a |, b int)", "create schema T (a |b)", "create schema T (a |INT)", "create schema T (a |Text)", "create schema T (a |null)", "create schema T (a |5)", "create schema T (a |'int')", "create schema T (a |timer)", "create schema T (a |integer)",
		"create schema T (a int |", "create schema T (a int |b int)", "create schema T (a int |;", "create schema T (a int,|", "create schema T (a int, |)", "create schema T (a int, |, b int)", "create schema T (|from int)", "create schema T (|'a' int)", "create schema T (|5 int)", "create schema T (|*)",
	})
	checkList(t, list{"create schema T (", "a int", ")", api.MaxColumns})
}

// Promise 8.1.
func TestCreateWindow(t *testing.T) {
	f := stmtFace()
	f.checkTaken(t, []taken{
		{"create window W#keepall as T", "(window:W name:T view:keepall)"}, {"create window W#unique(a)#length(2) as T", "(window:W name:T (view:unique a) (view:length int/2))"}, {"create window W #unique(sym) as Trade|;", "(window:W name:Trade (view:unique sym))"}, {"create window W#keepall#lastevent#firstevent#time(1s) as T", "(window:W name:T view:keepall view:lastevent view:firstevent (view:time int:ms/1000))"}, {"create window W#keepall as T| as U", "(window:W name:T view:keepall)"}, {"create window W#keepall as T|#keepall", "(window:W name:T view:keepall)"},
	})
	f.checkRefused(t, []string{
		"create window |", "create window |#keepall as T", "create window |window#keepall as T", "create window W |", "create window W |as T", "create window W |(a) as T", "create window W |length(5) as T", "create window W#|", "create window W#|as T", "create window W#keepall |", "create window W#keepall |T", "create window W#keepall |;", "create window W#keepall |, #keepall as T", "create window W#keepall as |", "create window W#keepall as |;", "create window W#keepall as |5", "create window W#keepall as |schema", "create window W#keepall#|#keepall as T", "create window W#keepall |(a) as T",
	})
}

// Promise 8.1: contexts by keys.
func TestCreateContextByKeys(t *testing.T) {
	f := stmtFace()
	f.checkTaken(t, []taken{
		{"create context C partition by sym from Trade", "(context:C (keyed (col:sym name:Trade)))"}, {"create context C partition by a from E, b from F, a from E", "(context:C (keyed (col:a name:E) (col:b name:F) (col:a name:E)))"}, {"create context C partition by a from E| from F", "(context:C (keyed (col:a name:E)))"}, {"create context C partition by a from E| as e", "(context:C (keyed (col:a name:E)))"},
	})
	f.checkRefused(t, []string{
		"create context |", "create context |partition by a from E", "create context |context partition by a from E", "create context C |", "create context C |;", "create context C |by a from E", "create context C |a from E", "create context C |within 5s", "create context C |end A", "create context C |select", "create context C |(partition by a from E)", "create context C |as partition",
		"create context C partition |", "create context C partition |a from E", "create context C partition by |", "create context C partition by |from E", "create context C partition by |(a) from E", "create context C partition by |5 from E", "create context C partition by a |", "create context C partition by a |, b from E", "create context C partition by a |.b from E", "create context C partition by a |;", "create context C partition by a |+ 1 from E", "create context C partition by a from |", "create context C partition by a from |by", "create context C partition by a from E,|", "create context C partition by a from E, |;", "create context C partition by a from E, b |", "create context C partition by a from |pattern [E]",
	})
	checkList(t, list{"create context C partition by ", "a from E", "", api.MaxItems})
}

// Promise 8.1: contexts by categories.
func TestCreateContextByCategories(t *testing.T) {
	f := stmtFace()
	f.checkTaken(t, []taken{
		{"create context C when x > 1 then big from A", "(context:C (categories:A (item:big (binary:> x int/1))))"}, {"create context C when x > 1 then big, when x < 1 then low, when case when a then b end then big from A", "(context:C (categories:A (item:big (binary:> x int/1)) (item:low (binary:< x int/1)) (item:big (case a b null))))"}, {"create context C when a then b from A| from B", "(context:C (categories:A (item:b a)))"}, {"create context C when a then b from A| as x", "(context:C (categories:A (item:b a)))"}, {"create context C when a then b from A|, when a then b from A", "(context:C (categories:A (item:b a)))"},
	})
	f.checkRefused(t, []string{
		"create context C when |", "create context C when |then b from A", "create context C when |;", "create context C when a |", "create context C when a |from A", "create context C when a |as b from A", "create context C when a |, when", "create context C when a then |", "create context C when a then |from A", "create context C when a then |(b) from A", "create context C when a then |5 from A", "create context C when a then |when", "create context C when a then b |", "create context C when a then b |;", "create context C when a then b |when c then d from A", "create context C when a then b |+ 1 from A", "create context C when a then b,|", "create context C when a then b, |from A", "create context C when a then b, |c then d from A", "create context C when a then b, when |", "create context C when a then b from |", "create context C when a then b from |when", "create context C when a then b from |;", "create context C when a = |then b from A", "create context C when (a|",
	})
	checkList(t, list{"create context C ", "when a then b", " from A", api.MaxItems})
	checkList(t, list{"create context C ", "when (a or b) then b", " from A", api.MaxItems})
}

// Promise 8.1: contexts that start and end.
func TestCreateContextByEvents(t *testing.T) {
	f := stmtFace()
	f.checkTaken(t, []taken{
		{"create context C start A within 10s", "(context:C (spans (stream:A _ _) timer/10000))"}, {"create context C start A end B", "(context:C (spans (stream:A _ _) (stream:B _ _)))"}, {"create context C start A(x > 1) end B(y)", "(context:C (spans (stream:A (binary:> x int/1) _) (stream:B y _)))"}, {"create context C overlapping start A(x) within 1ms", "(context:C (spans/1 (stream:A x _) timer/1))"}, {"create context C overlapping start A end A", "(context:C (spans/1 (stream:A _ _) (stream:A _ _)))"},
		{"create context C start A end B| within 5s", "(context:C (spans (stream:A _ _) (stream:B _ _)))"}, {"create context C start A within 5s| end B", "(context:C (spans (stream:A _ _) timer/5000))"}, {"create context C start A end B| as b", "(context:C (spans (stream:A _ _) (stream:B _ _)))"}, {"create context C start A end B(x)|(y)", "(context:C (spans (stream:A _ _) (stream:B x _)))"}, {"create context C start A within 5s| within 6s", "(context:C (spans (stream:A _ _) timer/5000))"}, {"create context C start A end B|#keepall", "(context:C (spans (stream:A _ _) (stream:B _ _)))"},
	})
	f.checkRefused(t, []string{
		"create context C overlapping |", "create context C overlapping |overlapping start A end B", "create context C overlapping |partition by a from E", "create context C overlapping |when a then b from A", "create context C overlapping |A end B", "create context C start |", "create context C start |end B", "create context C start |overlapping A end B", "create context C start |(A) end B", "create context C start |every A end B", "create context C start |timer(5s) end B", "create context C start A |", "create context C start A |;", "create context C start A |as a end B", "create context C start A |#keepall end B", "create context C start A |= B end C", "create context C start A |, end B", "create context C start A |B", "create context C start A(|) end B", "create context C start A(x| end B", "create context C start A(x) |(y) end B", "create context C start A end |", "create context C start A end |within 5s", "create context C start A end |5s", "create context C start A end |(B)", "create context C start A end B(|)", "create context C start A end B(x|", "create context C start A within |", "create context C start A within |5", "create context C start A within |5 ms", "create context C start A within |B", "create context C start A within |(5s)", "create context C start A within |0s",
	})
	checkRange(t, f, "create context C start A within |5s", 1, api.MaxTime)
	checkRange(t, f, "create context C overlapping start A(x) within |5s", 1, api.MaxTime)
}

// Promise 8.1: what may not stand behind a create, and what begins no statement.
func TestFirstWords(t *testing.T) {
	f := stmtFace()
	f.checkRefused(t, []string{"create |", "create |;", "create |create schema T (a int)", "create |T", "create |select", "create |pattern", "create |5", "create |(", "create |insert into A", "create |on A"})
	for _, s := range []string{"", ";", "schema T (a int)", "window W#keepall as T", "partition by a from T", "T", "5", "5s", "'a'", "(select a from T)", "*", "delete from W", "update W set a = 1", "merge W where a", "where a", "from T", "into A select a from T", "pattern [A]", "every A", "start A end B", "#keepall", "output every 5s", "order by a"} {
		f.checkRefused(t, []string{"|" + s})
	}
}

// creates are statements that create, with a | where one may end.
func creates() []string {
	return []string{
		"create schema T ( a int , b text )|", "create window W # keepall # length ( 5 ) as T|", "create window W # unique ( a , b ) # sorted ( 3 , c desc ) as T|",
		"create context C partition by a from E| , b from F|", "create context C when a then b , when c then d from A|", "create context C start A end B|( x )|", "create context C overlapping start A ( x ) within 5s|", "create context C overlapping start A ( x ) end B|",
	}
}

// Promise 8.1: each rule with all that it asks for, with tokens too few, with others in each place.
func TestEachCreate(t *testing.T) {
	for _, s := range creates() {
		checkEndings(t, stmtFace(), s)
		checkOthers(t, s)
	}
}
