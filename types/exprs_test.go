package types_test

import (
	"math"
	"strings"
	"testing"

	"marquee/api"
	"marquee/types"
)

// The chapter's examples.
func TestExamplesOfExpr(t *testing.T) {
	over := types.Fields(trade(), "t")
	for _, x := range []struct {
		source string
		kind   int
		err    api.Errno
	}{
		{"price + 1", api.KindInt, api.OK}, {"price + 1.0", api.KindDec, api.OK}, {"sym |+ 1", 0, api.ErrType}, {"t.price", api.KindInt, api.OK},
		{"|x.price", 0, api.ErrName}, {"|nope", 0, api.ErrName}, {"price = null", api.KindBool, api.OK}, {"sum(|count(*))", 0, api.ErrPlace},
	} {
		s, want := marked(x.source)
		if k, at, e := types.Expr(readExpr(t, s), over, true); k != x.kind || at != want || e != x.err {
			t.Errorf("%s: %d, %d, %d", x.source, k, at, e)
		}
	}
}

// Promise 11.2.
func TestLeaves(t *testing.T) {
	checkTypes(t, 'n', "null", "z", "t.z")
	checkTypes(t, 'b', "true", "false", "b", "t.b")
	checkTypes(t, 'i', "0", "5", "i", "t.i", "j", "u.j", "t.a")
	checkTypes(t, 'd', "0.0", "2.5", "d", "t.d")
	checkTypes(t, 't', "''", "'a'", "x", "t.x", "y", "u.a")
	checkType(t, col("o"), oddKind)
	checkType(t, colOf("t", "o"), oddKind)
	checkFaults(t, api.ErrName, "|a", "|nope", "|u.b", "|v.b", "|t.nope", "|t", "|B", "|T.b", "|b.t", "- |nope", "1 + |u.i")
}

// Promise 11.2: an expression has no byte of an error, wherever it stands.
func TestNoByteWithoutError(t *testing.T) {
	checkType(t, placed(9, whole(1)), api.KindInt)
	checkType(t, placed(9, binary("+", placed(7, col("i")), placed(11, dec(1)))), api.KindDec)
}

// literals and columns of each kind, in the order of kindLetters.
func ofEachKind() [][]api.Node {
	return [][]api.Node{
		{null(), col("z")}, {truth(0), truth(1), col("b")}, {whole(1), col("i")}, {dec(1), col("d")}, {text("a"), col("x")},
	}
}

// checkPairs: the answers of a tree of each two kinds, as rows of letters; ! is ErrType at the tree.
func checkPairs(t *testing.T, rows string, of func(a, b api.Node) api.Node) {
	t.Helper()
	samples := ofEachKind()
	for i, row := range strings.Fields(rows) {
		for j := range row {
			for _, a := range samples[i] {
				for _, b := range samples[j] {
					checkAnswer(t, row[j], of(a, b))
				}
			}
		}
	}
}

// checkAnswer: the type is that of the letter, or, of a !, there is ErrType at n.
func checkAnswer(t *testing.T, letter byte, n api.Node) {
	t.Helper()
	n.At = 77
	if letter == '!' {
		checkFault(t, n, true, 77, api.ErrType)
	} else {
		checkType(t, n, kindOf(letter))
	}
}

// Promise 11.2: each operator with each kind on each side.
func TestOperators(t *testing.T) {
	for signs, rows := range map[string]string{
		"+ - * / %":      "n!id! !!!!! i!id! d!dd! !!!!!",
		"= != < <= > >=": "bbbbb bb!!! b!bb! b!bb! b!!!b",
		"and or":         "bb!!! bb!!! !!!!! !!!!! !!!!!",
	} {
		for _, sign := range strings.Fields(signs) {
			checkPairs(t, rows, func(a, b api.Node) api.Node { return binary(sign, a, b) })
		}
	}
}

// Promise 11.2: each operator of one with each kind.
func TestUnary(t *testing.T) {
	for sign, row := range map[string]string{"-": "n!id!", "not": "bb!!!"} {
		for i, samples := range ofEachKind() {
			for _, a := range samples {
				checkAnswer(t, row[i], unary(sign, a))
			}
		}
	}
	checkTypes(t, 'i', "- - 5", "- i")
	checkTypes(t, 'b', "not not null", "not b")
	checkTypes(t, 'n', "- - null")
	checkFaults(t, api.ErrType, "|- 'a'", "|- b", "- |- x", "|not 1", "not |not x", "|- (not b)", "|not - i")
}

// Promise 11.2: a number that is no kind is of no operator.
func TestOddKinds(t *testing.T) {
	checkFaults(t, api.ErrType, "|- o", "|not o")
	for _, sign := range strings.Fields("+ - * / % = != < <= > >= and or") {
		for _, other := range []string{"o", "null", "i", "b", "x", "d"} {
			checkFaults(t, api.ErrType, "o |"+sign+" "+other, other+" |"+sign+" o")
		}
	}
	checkFaults(t, api.ErrType, "o |between o and o", "null |between null and o", "null |between o and null", "o |in (o)", "null |in (1, o)", "case when |o then 1 end", "|case when b then o else 1 end", "|sum(o)", "|avg(o)", "|min(o)", "|max(o)")
	checkFaults(t, api.ErrFunc, "|totext(o)", "|coalesce(o, null)")
	checkTypes(t, 'b', "o is null", "o is not null")
	checkTypes(t, 'i', "count(o)")
	for _, s := range []string{"case when b then o end", "case when b then null when b then o else o end", "first(o)", "last(o)"} {
		checkType(t, readExpr(t, s), oddKind)
	}
	other := append(fields(), api.Field{Stream: "v", Column: "q", Kind: -1})
	if k, at, e := types.Expr(readExpr(t, "case when b then o else q end"), other, false); k != 0 || at != 0 || e != api.ErrType {
		t.Errorf("two odd kinds: %d, %d, %d", k, at, e)
	}
}

// Promise 11.2.
func TestIsNull(t *testing.T) {
	for _, samples := range ofEachKind() {
		for _, a := range samples {
			checkAnswer(t, 'b', node(api.IsNull, "", 0, a))
			checkAnswer(t, 'b', node(api.IsNull, "", 1, a))
		}
	}
	checkTypes(t, 'b', "i + 1 is null", "count(*) is not null", "(b is null) is null")
	checkFaults(t, api.ErrName, "|nope is null")
	checkFaults(t, api.ErrType, "x |+ 1 is null")
}

// Promise 11.2: the first against the second, the first against the third; these two may be unlike.
func TestBetween(t *testing.T) {
	const compared = "bbbbb bb!!! b!bb! b!bb! b!!!b"
	samples := ofEachKind()
	for i, row := range strings.Fields(compared) {
		for j := range row {
			for k := range row {
				letter := byte('b')
				if row[j] == '!' || row[k] == '!' {
					letter = '!'
				}
				checkAnswer(t, letter, node(api.Between, "", 0, samples[i][0], samples[j][0], samples[k][1]))
				checkAnswer(t, letter, node(api.In, "", 0, samples[i][1], samples[j][1], samples[k][0]))
			}
		}
	}
	checkTypes(t, 'b', "null between 1 and 'a'", "i between 1 and 2.5", "i not between 1 and 2", "x between null and 'a'")
	checkFaults(t, api.ErrType, "'a' |between 1 and 2", "1 |between 'a' and 2", "1 |between 1 and 'a'", "1 not |between 'a' and 2")
}

// Promise 11.2: the odd one in each place.
func TestIn(t *testing.T) {
	checkPairs(t, "bbbbb bb!!! b!bb! b!bb! b!!!b", func(a, b api.Node) api.Node { return node(api.In, "", 0, a, b) })
	checkTypes(t, 'b', "i in (1)", "i in (1, 2.5, null, d, 3)", "null in (1, 'a', true)", "x in ('a', y)", "i not in (1, 2)")
	checkFaults(t, api.ErrType, "x |in (1, 2, 3)", "1 |in ('a', 2, 3)", "1 |in (2, 'a', 3)", "1 |in (2, 3, 'a')", "1 |in (null, b)", "1 not |in ('a')")
	for place := range 20 {
		l := make([]api.Node, 20)
		for i := range l {
			l[i] = whole(i)
		}
		checkAnswer(t, 'b', node(api.In, "", 0, l...))
		l[place] = text("a")
		checkAnswer(t, '!', node(api.In, "", 0, l...))
		l[place] = null()
		checkAnswer(t, 'b', node(api.In, "", 0, l...))
	}
}

// Promise 11.2.
func TestCalls(t *testing.T) {
	checkTypes(t, 'i', "length(x)", "abs(i)", "length(null)", "round(d)", "coalesce(i, null)")
	checkTypes(t, 'd', "abs(d)", "greatest(1, 2.5)", "coalesce(null, i, d)", "todec(i)")
	checkTypes(t, 't', "upper(x)", "concat(x, y, 'a')", "substr(x, 1, 2)", "totext(b)", "totext(null)")
	checkTypes(t, 'n', "abs(null)", "coalesce(null, null)", "nullif(null, 1)")
	checkTypes(t, 'b', "coalesce(b, true)", "nullif(b, null)")
	checkFaults(t, api.ErrFunc, "|nope()", "|nope(1)", "|abs()", "|abs(1, 2)", "|abs(x)", "|upper(1)", "|least(1, 'a')", "|sign()", "1 + |abs(b)", "|ABS(1)", "|i(1)")
	checkFaults(t, api.ErrName, "nope(|nope)", "abs(|nope, 2)", "upper(1, |nope)", "concat(1, |nope)")
	checkFaults(t, api.ErrType, "nope(x |+ 1)", "abs(x |+ 1)", "upper(1, |- x)")
	checkFaults(t, api.ErrFunc, "abs(|abs(b))", "nope(|abs(b), nope)", "concat(|nope(), x + 1)")
}

// Promise 11.2: trees that are no expression have no byte.
func TestNoExpression(t *testing.T) {
	for _, n := range []api.Node{
		{}, whole(-1), dec(-1), name("a"), none(), star(), list(), item("a", col("i")), col(""), col("select"), col("9"), truth(2),
		node(api.Text, "\xff", 0), node(api.Col, "i", 0, col("t")), node(api.Unary, "+", 0, whole(1)), node(api.Unary, "-", 0), binary("==", whole(1), whole(1)), node(api.Binary, "+", 0, whole(1)),
		node(api.Between, "", 0, whole(1), whole(1)), node(api.In, "", 0, whole(1)), node(api.Case, "", 0, truth(1), whole(1)), node(api.Case, "", 0, whole(1)), agg("sum"), agg("nope", whole(1)), node(api.Agg, "count", 1),
		node(api.PatTimer, "", 5), node(api.PatEvent, "A", 0, none(), none()), readStmt(t, "select i from T"), node(math.MaxInt, "", 0), node(-api.Int, "", 0),
		binary("+", col("nope"), whole(-1)), unary("not", name("b")), agg("sum", agg("sum", agg("sum"))), call("nope", none()), call("f", whole(1), whole(-1)),
	} {
		for _, at := range []int{0, 5, -5} {
			for _, aggs := range []bool{false, true} {
				checkFault(t, placed(at, n), aggs, 0, api.ErrTree)
			}
		}
	}
}

// Promise 11.2: the first from the left, what stands within ahead of what stands around.
func TestTwoErrors(t *testing.T) {
	checkFaults(t, api.ErrName,
		"|nope + nope2", "|nope + (x + 1)", "(|nope + 1) + (x + 1)", "x + |nope", "not |nope", "not (x = |nope)", "|nope between x + 1 and 2", "1 between |nope and x + 1", "1 between 'a' and |nope",
		"x in (1, 2, |nope)", "x in (|nope, x + 1)", "|nope in (x + 1)", "(x in (1, |nope)) + (y + 1)", "case when |nope then x + 1 end", "b and |nope", "x and |nope", "sum(|nope)", "sum(i + |nope)",
	)
	checkFaults(t, api.ErrType,
		"(x |+ 1) + nope", "(x |+ 1) + (y - 1)", "(|- x) + (- y)", "1 between x |+ 1 and nope", "1 in (x |+ 1, nope)", "case when x |+ 1 then nope end", "coalesce(x |+ 1, nope)",
		"x |+ 1 = nope", "not (x |= 1)", "(x |= 1) and (not 5)", "(i = 1) and (|not 5)", "abs(i) |+ upper(x)",
	)
	checkFaults(t, api.ErrPlace, "sum(|count(*)) + nope", "sum(|sum(nope))", "sum(|sum(x + 1))", "nullif(sum(|count(*)), x + 1)")
	checkFaults(t, api.ErrFunc, "|abs(x) + nope", "|abs(x) + (y - 1)", "x + |abs(x)")
}

// Promise 11.2: errors at the bytes that trees have, whatever stands around them.
func TestAnyByte(t *testing.T) {
	for _, at := range []int{0, 1, -1, 50, math.MaxInt, math.MinInt} {
		checkFault(t, placed(7, unary("-", placed(at, col("nope")))), true, at, api.ErrName)
		checkFault(t, placed(at, unary("-", placed(7, text("a")))), true, at, api.ErrType)
		checkFault(t, placed(at, call("nope")), true, at, api.ErrFunc)
		checkFault(t, placed(7, unary("-", placed(at, agg("count")))), false, at, api.ErrPlace)
		checkFault(t, placed(7, node(api.Case, "", 0, placed(at, whole(1)), placed(5, whole(1)), placed(6, whole(1)))), true, at, api.ErrType)
	}
}

// R1: trees as deep as they may be, and wide ones.
func TestDeepAndWide(t *testing.T) {
	deep, line := col("i"), col("i")
	for range 1<<16 - 2 {
		deep = unary("-", deep)
		line = binary("+", line, whole(1))
	}
	checkType(t, deep, api.KindInt)
	checkType(t, line, api.KindInt)
	checkType(t, agg("sum", line), api.KindInt)
	wide := node(api.In, "", 0)
	for range 100000 {
		wide.Kids = append(wide.Kids, col("i"))
	}
	checkType(t, wide, api.KindBool)
	wide.Kids[99999] = col("x")
	checkFault(t, placed(3, wide), true, 3, api.ErrType)
}
