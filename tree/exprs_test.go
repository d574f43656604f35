package tree_test

import (
	"math"
	"strings"
	"testing"

	"marquee/api"
	"marquee/tree"
)

// Promise 6.1: the chapter's examples.
func TestExamples(t *testing.T) {
	checkForms(t, []asked{
		{whole(5), api.FormExpr}, {whole(-1), api.FormNone}, {col("select"), api.FormNone}, {name("a"), api.FormNone},
		{agg("sum"), api.FormNone}, {agg("count"), api.FormExpr},
		{node(api.PatAnd, "", 0, event("A"), not(event("B"))), api.FormPattern},
		{node(api.PatOr, "", 0, event("A"), not(event("B"))), api.FormNone},
		{overView(view("length", whole(0))), api.FormNone}, {overView(view("length", whole(1))), api.FormStmt},
	})
}

// Promise 6.1.
func TestEachSort(t *testing.T) {
	checkForm(t, api.FormExpr, exprs()...)
	checkForm(t, api.FormPattern, patterns()...)
	checkForm(t, api.FormStmt, stmts()...)
	checkForm(t, api.FormNone, parts()...)
}

// Promise 6.1.
func TestKindsThatAreNone(t *testing.T) {
	checkForm(t, api.FormNone, api.Node{}, api.Node{At: 5})
	for _, kind := range []int{0, -1, -api.Int, 16, 19, 29, 40, 49, 61, 1000, math.MaxInt, math.MinInt} {
		checkForm(t, api.FormNone, node(kind, "", 0), node(kind, "a", 0), node(kind, "", 1), node(kind, "", 0, col("a")), node(kind, "", 0, event("A")))
		checkForm(t, api.FormNone, node(api.Unary, "-", 0, node(kind, "", 0)), node(api.PatEvery, "", 0, node(kind, "", 0)), selectWith(intoAt, node(kind, "", 0)))
	}
}

// Promise 6.1.
func TestNumbersOfValues(t *testing.T) {
	checkForm(t, api.FormExpr, whole(0), whole(1), whole(math.MaxInt), node(api.Dec, "", 0), node(api.Dec, "", math.MaxInt), node(api.Bool, "", 0), node(api.Bool, "", 1))
	checkForm(t, api.FormNone, whole(-1), whole(math.MinInt), node(api.Dec, "", -1), node(api.Dec, "", math.MinInt), node(api.Bool, "", -1), node(api.Bool, "", 2), node(api.Null, "", 1), node(api.Null, "", -1))
	checkForm(t, api.FormNone, period(5), node(api.Dec, "ms", 5), node(api.Bool, "true", 1), node(api.Null, "null", 0))
	for _, kind := range []int{api.Null, api.Bool, api.Int, api.Dec, api.Text} {
		checkForm(t, api.FormExpr, node(kind, "", 0))
		checkForm(t, api.FormNone, node(kind, "", 0, col("a")), node(kind, "", 0, none()))
	}
}

// Promise 6.1.
func TestTexts(t *testing.T) {
	checkForm(t, api.FormExpr, text(""), text("'"), text("é\x00\n"), text(strings.Repeat("x", api.MaxText)), text(strings.Repeat("é", api.MaxText/2)))
	checkForm(t, api.FormNone, text(strings.Repeat("x", api.MaxText+1)), text(strings.Repeat("é", api.MaxText/2+1)), text("\xff"), text("a\xc3"), node(api.Text, "a", 1), node(api.Text, "a", -1))
}

// Promise 6.1.
func TestColumnsAndNames(t *testing.T) {
	for _, s := range goodIds() {
		checkForm(t, api.FormExpr, col(s), colOf(s, "a"), colOf("a", s), node(api.Call, s, 0))
	}
	for _, s := range append(badIds(), "") {
		checkForm(t, api.FormNone, col(s), colOf(s, "a"), colOf("a", s), node(api.Call, s, 0))
	}
	checkForm(t, api.FormNone, node(api.Col, "a", 1), node(api.Col, "a", -1), node(api.Col, "a", 0, name("t"), name("u")), node(api.Col, "a", 0, col("t")), node(api.Col, "a", 0, none()))
	checkForm(t, api.FormNone, node(api.Col, "a", 0, node(api.Name, "t", 1)), node(api.Col, "a", 0, node(api.Name, "t", 0, name("u"))), node(api.Col, "a", 1, name("t")))
}

// Promise 6.1.
func TestSigns(t *testing.T) {
	a := col("a")
	for _, s := range []string{"+", "-", "*", "/", "%", "=", "!=", "<", "<=", ">", ">=", "and", "or"} {
		checkForm(t, api.FormExpr, binary(s, a, a))
		checkForm(t, api.FormNone, node(api.Binary, s, 0, a), node(api.Binary, s, 0, a, a, a), node(api.Binary, s, 0), node(api.Binary, s, 1, a, a))
	}
	for _, s := range []string{"", "not", "AND", "Or", "==", "<>", "->", " +", "+ ", "a", "++", "between", "is"} {
		checkForm(t, api.FormNone, binary(s, a, a))
	}
	for _, s := range []string{"-", "not"} {
		checkForm(t, api.FormExpr, node(api.Unary, s, 0, a))
		checkForm(t, api.FormNone, node(api.Unary, s, 0), node(api.Unary, s, 0, a, a), node(api.Unary, s, 1, a), node(api.Unary, s, 0, none()))
	}
	for _, s := range []string{"", "+", "NOT", "and", "--", "!", "is"} {
		checkForm(t, api.FormNone, node(api.Unary, s, 0, a))
	}
}

// kidsOf is a kind of expression with how many kids it may have, of the first numbers.
type kidsOf struct {
	n   api.Node
	may []int
}

// Promise 6.1.
func TestHowManyKids(t *testing.T) {
	for _, x := range []kidsOf{
		{node(api.Null, "", 0), []int{0}}, {whole(1), []int{0}}, {text("a"), []int{0}}, {col("a"), []int{0}},
		{node(api.Unary, "-", 0), []int{1}}, {node(api.Binary, "+", 0), []int{2}}, {node(api.IsNull, "", 0), []int{1}}, {node(api.Between, "", 0), []int{3}},
		{node(api.In, "", 0), []int{2, 3, 4, 5, 6, 7, 8, 9}}, {node(api.Case, "", 0), []int{3, 5, 7, 9}}, {node(api.Call, "f", 0), []int{0, 1, 2, 3, 4, 5, 6, 7, 8, 9}},
		{agg("count"), []int{0, 1}}, {agg("sum"), []int{1}}, {node(api.Agg, "count", 1), []int{1}},
	} {
		want := make([]int, 10)
		for _, many := range x.may {
			want[many] = api.FormExpr
		}
		for many, form := range want {
			n := x.n
			n.Kids = repeat(col("a"), many)
			checkForm(t, form, n)
		}
	}
	for _, n := range []api.Node{node(api.In, "", 0), node(api.Call, "f", 0)} {
		n.Kids = repeat(whole(1), 1000)
		checkForm(t, api.FormExpr, n)
	}
	many := node(api.Case, "", 0, repeat(whole(1), 1001)...)
	checkForm(t, api.FormExpr, many)
	many.Kids = many.Kids[1:]
	checkForm(t, api.FormNone, many)
}

// Promise 6.1: in the place of each kid of an expression there may be any expression, and nothing else.
func TestKidsOfExpressions(t *testing.T) {
	for _, n := range exprs() {
		for i, k := range n.Kids {
			if k.Kind == api.Name {
				continue
			}
			m := tree.Copy(n)
			for _, e := range exprs() {
				m.Kids[i] = e
				checkForm(t, api.FormExpr, m)
			}
			for _, e := range append(append(parts(), patterns()...), whole(-1), api.Node{}, selectAll()) {
				m.Kids[i] = e
				checkForm(t, api.FormNone, m)
			}
		}
	}
}

// Promise 6.1.
func TestFlagsOfExpressions(t *testing.T) {
	a := col("a")
	checkForm(t, api.FormExpr, node(api.IsNull, "", 0, a), node(api.IsNull, "", 1, a))
	checkForm(t, api.FormNone, node(api.IsNull, "", 2, a), node(api.IsNull, "", -1, a), node(api.IsNull, "not", 1, a))
	checkForm(t, api.FormNone, node(api.Between, "", 1, a, a, a), node(api.Between, "not", 0, a, a, a), node(api.In, "", 1, a, a), node(api.In, "not", 0, a, a), node(api.Case, "", 1, a, a, a), node(api.Case, "case", 0, a, a, a), node(api.Call, "f", 1, a), node(api.Call, "f", -1))
}

// Promise 6.1.
func TestAggregates(t *testing.T) {
	a := col("a")
	for _, s := range []string{"count", "sum", "avg", "min", "max", "first", "last"} {
		checkForm(t, api.FormExpr, agg(s, a), node(api.Agg, s, 1, a), agg(s, agg(s, a)))
		checkForm(t, api.FormNone, node(api.Agg, s, 2, a), node(api.Agg, s, -1, a), agg(s, a, a), node(api.Agg, s, 1), node(api.Agg, s, 2), node(api.Agg, s, 1, a, a), agg(s, none()), agg(s, star()))
	}
	for _, s := range []string{"sum", "avg", "min", "max", "first", "last"} {
		checkForm(t, api.FormNone, agg(s))
	}
	for _, s := range []string{"", "COUNT", "Sum", "median", "a", "all", "snapshot", "count "} {
		checkForm(t, api.FormNone, agg(s, a), agg(s))
	}
}
