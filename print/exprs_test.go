package print_test

import (
	"math"
	"strings"
	"testing"

	"marquee/api"
)

// Promise 9.1: the chapter's examples.
func TestExamplesOfExpressions(t *testing.T) {
	a, b, c := col("a"), col("b"), col("c")
	exprFace().check(t, []printed{
		{binary("*", binary("+", a, b), c), "(a + b) * c"},
		{binary("-", a, binary("-", b, c)), "a - (b - c)"},
		{not(binary("or", a, b)), "not (a or b)"},
		{neg(neg(a)), "- -a"},
		{binary("and", binary("=", a, whole(1)), isNull(1, b)), "a = 1 and b is not null"},
		{choice(a, whole(1), null()), "case when a then 1 else null end"},
		{distinct("count", a), "count(distinct a)"},
	})
}

// Promise 9.1.
func TestValues(t *testing.T) {
	exprFace().check(t, []printed{
		{null(), "null"}, {truth(0), "false"}, {truth(1), "true"},
		{whole(0), "0"}, {whole(7), "7"}, {whole(10), "10"}, {whole(math.MaxInt), "9223372036854775807"},
		{dec(0), "0.0"}, {dec(1), "0.0001"}, {dec(15000), "1.5"}, {dec(20000), "2.0"}, {dec(10), "0.001"}, {dec(123450), "12.345"}, {dec(math.MaxInt), "922337203685477.5807"},
		{text(""), "''"}, {text("a"), "'a'"}, {text("it's"), "'it''s'"}, {text("'"), "''''"}, {text("''"), "''''''"}, {text("a''b'"), "'a''''b'''"},
		{text("select"), "'select'"}, {text(" -- /* ; ( "), "' -- /* ; ( '"}, {text("\"\\"), "'\"\\'"}, {text("é\x00\n\t☃"), "'é\x00\n\t☃'"},
		{text(strings.Repeat("x", api.MaxText)), "'" + strings.Repeat("x", api.MaxText) + "'"}, {text(strings.Repeat("'", api.MaxText)), "'" + strings.Repeat("''", api.MaxText) + "'"},
	})
}

// Promise 9.1: numbers below 0 and other values that may not be are no expressions, alone and within one.
func TestValuesThatMayNotBe(t *testing.T) {
	for _, n := range []api.Node{
		whole(-1), whole(math.MinInt), dec(-1), dec(math.MinInt), truth(2), truth(-1), text("\xff"), text("a\xc3"), text(strings.Repeat("x", api.MaxText+1)),
		node(api.Null, "", 1), node(api.Null, "null", 0), node(api.Text, "a", 1), node(api.Bool, "true", 1), period(5), node(api.Dec, "ms", 5),
	} {
		exprFace().checkNothing(t, n, neg(n), binary("+", col("a"), n), binary("-", n, whole(1)), call("f", col("a"), n), agg("sum", n), choice(col("a"), n, null()))
	}
}

// Promise 9.1.
func TestColumns(t *testing.T) {
	long := strings.Repeat("x", api.MaxName)
	exprFace().check(t, []printed{
		{col("a"), "a"}, {col("A1"), "A1"}, {col("_"), "_"}, {col("asc"), "asc"}, {col("length"), "length"}, {col(long), long},
		{colOf("t", "a"), "t.a"}, {colOf("a", "a"), "a.a"}, {colOf("T", "_"), "T._"}, {colOf(long, long), long + "." + long},
		{neg(colOf("t", "a")), "-t.a"}, {binary("+", colOf("t", "a"), colOf("u", "b")), "t.a + u.b"},
	})
	for _, s := range []string{"", "select", "SELECT", "ms", "9a", "a b", "a.b", "é", long + "x"} {
		exprFace().checkNothing(t, col(s), colOf("t", s), colOf(s, "a"), call(s), call(s, col("a")), not(col(s)))
	}
}

// Promise 9.1: a minus of a minus has a blank between, and nothing else has.
func TestMinus(t *testing.T) {
	a, b := col("a"), col("b")
	exprFace().check(t, []printed{
		{neg(a), "-a"}, {neg(whole(5)), "-5"}, {neg(dec(5)), "-0.0005"}, {neg(text("-")), "-'-'"}, {neg(null()), "-null"},
		{neg(neg(whole(5))), "- -5"}, {neg(neg(neg(a))), "- - -a"}, {neg(neg(neg(neg(a)))), "- - - -a"},
		{neg(binary("+", a, b)), "-(a + b)"}, {neg(binary("+", neg(a), b)), "-(-a + b)"}, {neg(binary("-", neg(neg(a)), b)), "-(- -a - b)"},
		{neg(binary("*", neg(a), b)), "-(-a * b)"}, {binary("*", neg(neg(a)), neg(b)), "- -a * -b"},
		{binary("-", a, neg(b)), "a - -b"}, {binary("-", a, neg(neg(b))), "a - - -b"}, {binary("-", neg(a), b), "-a - b"}, {binary("-", neg(neg(a)), neg(neg(b))), "- -a - - -b"},
		{binary("<", a, neg(b)), "a < -b"}, {binary(">", neg(a), neg(b)), "-a > -b"},
		{neg(not(a)), "-(not a)"}, {not(neg(a)), "not -a"}, {not(neg(neg(a))), "not - -a"},
		{neg(call("f", neg(a), neg(neg(b)))), "-f(-a, - -b)"}, {neg(agg("sum", neg(neg(a)))), "-sum(- -a)"}, {neg(distinct("sum", neg(a))), "-sum(distinct -a)"}, {neg(agg("count")), "-count(*)"},
		{neg(choice(neg(a), neg(b), neg(whole(1)))), "-case when -a then -b else -1 end"},
		{in(neg(a), neg(b), neg(neg(b))), "-a in (-b, - -b)"}, {between(neg(a), neg(b), neg(neg(b))), "-a between -b and - -b"}, {isNull(0, neg(a)), "-a is null"},
		{neg(in(neg(a), b)), "-(-a in (b))"},
	})
}

// Promise 9.1.
func TestOtherSigns(t *testing.T) {
	a, b := col("a"), col("b")
	for _, s := range strings.Fields("+ - * / % = != < <= > >= and or") {
		exprFace().check(t, []printed{{binary(s, a, b), "a " + s + " b"}, {binary(s, whole(1), text("x")), "1 " + s + " 'x'"}, {binary(s, call("f"), agg("count")), "f() " + s + " count(*)"}})
	}
	exprFace().check(t, []printed{
		{not(a), "not a"}, {not(not(a)), "not not a"}, {not(binary("=", a, b)), "not a = b"}, {binary("=", not(a), b), "(not a) = b"}, {binary("=", a, not(b)), "a = (not b)"},
		{isNull(0, a), "a is null"}, {isNull(1, a), "a is not null"}, {isNull(0, isNull(1, a)), "(a is not null) is null"}, {not(isNull(1, a)), "not a is not null"},
		{between(a, whole(1), whole(2)), "a between 1 and 2"}, {not(between(a, whole(1), whole(2))), "not a between 1 and 2"},
		{between(between(a, a, a), between(b, b, b), between(a, b, a)), "(a between a and a) between (b between b and b) and (a between b and a)"},
		{in(a, whole(1)), "a in (1)"}, {in(a, whole(1), text("x"), b), "a in (1, 'x', b)"}, {not(in(a, b)), "not a in (b)"}, {in(in(a, b), in(b, a), binary("or", a, b)), "(a in (b)) in (b in (a), a or b)"},
		{in(append([]api.Node{a}, repeat(whole(0), 1000)...)...), "a in (" + joined("0", 1000) + ")"},
	})
}

// Promise 9.1.
func TestCallsAndAggregates(t *testing.T) {
	a, b := col("a"), col("b")
	exprFace().check(t, []printed{
		{call("f"), "f()"}, {call("f", a), "f(a)"}, {call("abs", a, b, whole(1)), "abs(a, b, 1)"}, {call("f", repeat(a, 1000)...), "f(" + joined("a", 1000) + ")"},
		{call("f", call("g"), call("h", call("f"))), "f(g(), h(f()))"}, {call("f", binary("or", a, b), not(a)), "f(a or b, not a)"},
		{agg("count"), "count(*)"}, {binary("*", agg("count"), agg("count")), "count(*) * count(*)"},
	})
	for _, s := range strings.Fields("count sum avg min max first last") {
		exprFace().check(t, []printed{
			{agg(s, a), s + "(a)"}, {distinct(s, a), s + "(distinct a)"}, {agg(s, binary("or", a, b)), s + "(a or b)"}, {distinct(s, binary("+", a, b)), s + "(distinct a + b)"},
			{distinct(s, agg(s, colOf("t", "a"))), s + "(distinct " + s + "(t.a))"}, {binary("%", agg(s, a), distinct(s, b)), s + "(a) % " + s + "(distinct b)"},
		})
		exprFace().checkNothing(t, node(api.Agg, s, 1), node(api.Agg, s, 2, a), agg(s, a, b), agg(s, none()))
	}
	exprFace().checkNothing(t, agg("sum"), agg("COUNT"), agg("median", a), agg("f", a), call("count", a))
}

// Promise 9.1: an else stands always.
func TestCases(t *testing.T) {
	a, b := col("a"), col("b")
	exprFace().check(t, []printed{
		{choice(a, whole(1), b), "case when a then 1 else b end"},
		{choice(a, whole(1), b, whole(2), text("x")), "case when a then 1 when b then 2 else 'x' end"},
		{choice(binary("or", a, b), not(a), binary("and", a, b)), "case when a or b then not a else a and b end"},
		{choice(choice(a, a, a), choice(b, b, b), choice(a, b, null())), "case when case when a then a else a end then case when b then b else b end else case when a then b else null end end"},
		{binary("*", choice(a, a, a), choice(b, b, b)), "case when a then a else a end * case when b then b else b end"},
		{choice(append(repeat(a, 400), b)...), "case" + strings.Repeat(" when a then a", 200) + " else b end"},
	})
	exprFace().checkNothing(t, choice(), choice(a), choice(a, b), choice(a, b, a, b), node(api.Case, "", 1, a, b, a))
}

// Promise 9.1: lines from the left on need no brackets, others do.
func TestLines(t *testing.T) {
	a, b, c := col("a"), col("b"), col("c")
	for _, s := range strings.Fields("+ - * / % and or") {
		exprFace().check(t, []printed{{binary(s, binary(s, a, b), c), "a " + s + " b " + s + " c"}, {binary(s, a, binary(s, b, c)), "a " + s + " (b " + s + " c)"}})
	}
	for _, s := range strings.Fields("= != < <= > >=") {
		exprFace().check(t, []printed{{binary(s, binary(s, a, b), c), "(a " + s + " b) " + s + " c"}, {binary(s, a, binary(s, b, c)), "a " + s + " (b " + s + " c)"}})
	}
	exprFace().check(t, []printed{
		{binary("+", binary("-", a, b), c), "a - b + c"}, {binary("-", a, binary("+", b, c)), "a - (b + c)"}, {binary("/", binary("%", a, b), c), "a % b / c"}, {binary("*", a, binary("/", b, c)), "a * (b / c)"},
		{binary("and", binary("or", a, b), c), "(a or b) and c"}, {binary("or", binary("and", a, b), c), "a and b or c"}, {binary("or", a, binary("and", b, c)), "a or b and c"}, {binary("and", a, binary("or", b, c)), "a and (b or c)"},
		{binary("and", between(a, b, c), a), "a between b and c and a"}, {binary("and", a, between(a, b, c)), "a and a between b and c"}, {between(binary("and", a, b), binary("or", a, b), binary("and", b, c)), "(a and b) between (a or b) and (b and c)"},
		{binary("or", not(a), not(b)), "not a or not b"}, {binary("and", not(a), not(b)), "not a and not b"}, {not(binary("and", a, b)), "not (a and b)"},
		{binary("=", binary("+", a, b), binary("*", b, c)), "a + b = b * c"}, {binary("+", binary("=", a, b), binary("<", b, c)), "(a = b) + (b < c)"},
	})
}
