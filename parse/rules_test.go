package parse_test

import (
	"math"
	"slices"
	"strings"
	"testing"

	"marquee/api"
	"marquee/parse"
	"marquee/tree"
)

// Promise 7.1: the chapter's examples.
func TestExamples(t *testing.T) {
	checkTaken(t, []taken{
		{"a + b * c", "(+ a (* b c))", 5},
		{"not a = b", "(not (= a b))", 4},
		{"a not in (1, 2)", "(not (in a 1 2))", 8},
		{"a between 1 and 2 and b", "(and (between a 1 2) b)", 7},
		{"count(*)", "(agg0 count)", 4},
		{"count(distinct a)", "(agg1 count a)", 5},
		{"t.a", "t.a", 3},
		{"case when a then 1 end", "(case a 1 null)", 6},
		{"a = b = c", "(= a b)", 3},
	})
	checkRefused(t, api.ErrSyntax, []refused{{"f(1,)", 4}, {"case end", 1}})
}

// Promise 7.1: all of a statement's expression, and not what stands behind it.
func TestOrdinary(t *testing.T) {
	checkTaken(t, []taken{
		{"price > 10;", "(> price 10)", 3},
		{"w.sym = s.sym", "(= w.sym s.sym)", 7},
		{"avg(price) as a", "(agg0 avg price)", 4},
		{"count(*) > 1 order by sym", "(> (agg0 count) 1)", 6},
		{"sum(price * qty) / sum(qty), 1", "(/ (agg0 sum (* price qty)) (agg0 sum qty))", 11},
		{"sym in ('A', 'B') and not price is null or qty = -1", `(or (and (in sym "A" "B") (not (is0 price))) (= qty (- 1)))`, 17},
		{"case when a > 1 then 'x' when a is not null then 'y' else 'z' end = f(b, 1.5)", `(= (case (> a 1) "x" (is1 a) "y" "z") (call f b 15000d))`, 24},
	})
}

// Promise 7.1.
func TestPrims(t *testing.T) {
	checkTaken(t, []taken{
		{"0", "0", 1}, {"7", "7", 1}, {"9223372036854775807", "9223372036854775807", 1},
		{"1.25", "12500d", 1}, {"0.0", "0d", 1}, {"922337203685477.5807", "9223372036854775807d", 1},
		{"''", `""`, 1}, {"'it''s'", `"it's"`, 1}, {"'" + strings.Repeat("x", api.MaxText) + "'", `"` + strings.Repeat("x", api.MaxText) + `"`, 1},
		{"true", "true", 1}, {"false", "false", 1}, {"null", "null", 1}, {"TRUE", "true", 1}, {"Null", "null", 1},
		{"a", "a", 1}, {"_9", "_9", 1}, {"Trade", "Trade", 1}, {"asc", "asc", 1},
		{"(a)", "a", 3}, {"((1))", "1", 5}, {"(a + b) * c", "(* (+ a b) c)", 7}, {"(null)", "null", 3},
		{"1 2", "1", 1}, {"a b", "a", 1}, {"a 1", "a", 1}, {"'a' 'b'", `"a"`, 1}, {"1(2)", "1", 1}, {"1.a", "1", 1}, {"null(a)", "null", 1}, {"(a)(b)", "a", 3}, {"(a).b", "a", 3},
	})
}

// Promise 7.1: a name of a stream has a name behind its point; any other point ends the expression.
func TestColumnsOfStreams(t *testing.T) {
	checkTaken(t, []taken{
		{"t.a", "t.a", 3}, {"T . A", "T.A", 3}, {"a.a", "a.a", 3}, {"t.a + u.b", "(+ t.a u.b)", 7}, {"-t.a", "(- t.a)", 4},
		{"t.", "t", 1}, {"t..a", "t", 1}, {"t.5", "t", 1}, {"t.1.5", "t", 1}, {"t.'a'", "t", 1}, {"t.null", "t", 1}, {"t.count", "t", 1}, {"t.count(a)", "t", 1}, {"t.(a)", "t", 1}, {"t.*", "t", 1}, {"t.5s", "t", 1},
		{"t.a.b", "t.a", 3}, {"t.a(b)", "t.a", 3}, {"t.a()", "t.a", 3}, {"f(a).b", "(call f a)", 4}, {"f().b", "(call f)", 3},
	})
	checkRefused(t, api.ErrSyntax, []refused{{"(t.)", 2}, {"(t.5)", 2}, {"f(t., a)", 3}, {"t.a + .b", 4}, {".a", 0}, {"(t.a.b)", 4}})
}

// Promise 7.1.
func TestCalls(t *testing.T) {
	checkTaken(t, []taken{
		{"f()", "(call f)", 3}, {"f(a)", "(call f a)", 4}, {"f(a, 1, 'x')", `(call f a 1 "x")`, 8}, {"f(g(), h(a))", "(call f (call g) (call h a))", 11},
		{"f(a or b, not c, a = b)", "(call f (or a b) (not c) (= a b))", 13}, {"f((a))", "(call f a)", 6}, {"f()()", "(call f)", 3}, {"f(t.a)", "(call f t.a)", 6}, {"F (a)", "(call F a)", 4},
	})
	checkRefused(t, api.ErrSyntax, []refused{
		{"f(", 2}, {"f(a", 3}, {"f(,)", 2}, {"f(,a)", 2}, {"f(a,)", 4}, {"f(a,,b)", 4}, {"f(a b)", 3}, {"f(a;", 3}, {"f(*)", 2}, {"f(distinct a)", 2}, {"f(a,", 4}, {"f(a.)", 3}, {"f(())", 3},
	})
}

// Promise 7.1: a list has one thing at least, and as many , as things but one.
func TestLists(t *testing.T) {
	checkTaken(t, []taken{
		{"a in (1)", "(in a 1)", 5}, {"a in (1, 2, 3)", "(in a 1 2 3)", 9}, {"a in (b or c, (d))", "(in a (or b c) d)", 11}, {"a + 1 in (2) and b", "(and (in (+ a 1) 2) b)", 9}, {"a in (b in (c))", "(in a (in b c))", 9},
		{"a not in (1)", "(not (in a 1))", 6}, {"a not in (b, c)", "(not (in a b c))", 8}, {"a, b", "a", 1}, {"not a not in (1)", "(not (not (in a 1)))", 7},
	})
	checkRefused(t, api.ErrSyntax, []refused{
		{"a in", 2}, {"a in 1", 2}, {"a in (", 3}, {"a in ()", 3}, {"a in (,)", 3}, {"a in (,1)", 3}, {"a in (1", 4}, {"a in (1,)", 5}, {"a in (1,,2)", 5}, {"a in (1 2)", 4}, {"a in (*)", 3}, {"a in [1]", 2},
		{"a not in", 3}, {"a not in 1", 3}, {"a not in ()", 4}, {"a not in (1,)", 6},
	})
}

// Promise 7.1.
func TestAggregates(t *testing.T) {
	checkTaken(t, []taken{{"count(*)", "(agg0 count)", 4}, {"count ( * ) + 1", "(+ (agg0 count) 1)", 6}, {"COUNT(*)", "(agg0 count)", 4}})
	for _, s := range []string{"count", "sum", "avg", "min", "max", "first", "last"} {
		checkTaken(t, []taken{
			{s + "(a)", "(agg0 " + s + " a)", 4}, {s + "(distinct a)", "(agg1 " + s + " a)", 5}, {s + "(a or not b)", "(agg0 " + s + " (or a (not b)))", 7}, {s + "(distinct (a))", "(agg1 " + s + " a)", 7},
			{s + "(a) " + s + "(b)", "(agg0 " + s + " a)", 4}, {s + "(" + s + "(a))", "(agg0 " + s + " (agg0 " + s + " a))", 7}, {s + "(f())", "(agg0 " + s + " (call f))", 6},
		})
		checkRefused(t, api.ErrSyntax, []refused{
			{s, 1}, {s + " a", 1}, {s + ".a", 1}, {s + "(", 2}, {s + "()", 2}, {s + "(,)", 2}, {s + "(a", 3}, {s + "(a, b)", 3}, {s + "(distinct", 3}, {s + "(distinct)", 3}, {s + "(distinct *)", 3}, {s + "(distinct distinct a)", 3}, {s + "(distinct a", 4}, {s + "(distinct a, b)", 4}, {s + "(a distinct)", 3}, {s + " distinct a", 1}, {"a + " + s, 3},
		})
	}
	for _, s := range []string{"sum", "avg", "min", "max", "first", "last"} {
		checkRefused(t, api.ErrSyntax, []refused{{s + "(*)", 2}})
	}
	checkRefused(t, api.ErrSyntax, []refused{{"count(*", 3}, {"count(* a)", 3}, {"count(*, a)", 3}, {"count(**)", 3}, {"count*", 1}})
}

// Promise 7.1.
func TestCases(t *testing.T) {
	checkTaken(t, []taken{
		{"case when a then 1 end", "(case a 1 null)", 6}, {"case when a then 1 else 2 end", "(case a 1 2)", 8}, {"case when a then 1 when b then 2 end", "(case a 1 b 2 null)", 10}, {"case when a then 1 when b then 2 when c then 3 else 4 end", "(case a 1 b 2 c 3 4)", 16},
		{"case when a or b then not c else d = e end + 1", "(+ (case (or a b) (not c) (= d e)) 1)", 15}, {"case when case when a then b end then c end", "(case (case a b null) c null)", 11}, {"case when a then b end end", "(case a b null)", 6}, {"case when a then null else null end", "(case a null null)", 8},
	})
	checkRefused(t, api.ErrSyntax, []refused{
		{"case", 1}, {"case end", 1}, {"case else 1 end", 1}, {"case a when b then c end", 1}, {"case when", 2}, {"case when then b end", 2}, {"case when a", 3}, {"case when a end", 3}, {"case when a, b then c end", 3}, {"case when a else b end", 3}, {"case when a when b then c end", 3},
		{"case when a then", 4}, {"case when a then end", 4}, {"case when a then b", 5}, {"case when a then b;", 5}, {"case when a then b then c end", 5}, {"case when a then b, c end", 5}, {"case when a then b else", 6}, {"case when a then b else end", 6}, {"case when a then b else c", 7}, {"case when a then b else c else d end", 7}, {"case when a then b else c when d then e end", 7}, {"case when a then b when", 6}, {"case when a then b when end", 6}, {"(case when a then b)", 6},
	})
}

// Promise 7.1: the signs and words of one line, from the left on.
func TestLines(t *testing.T) {
	checkTaken(t, []taken{
		{"a or b or c or d", "(or (or (or a b) c) d)", 7}, {"a and b and c and d", "(and (and (and a b) c) d)", 7}, {"a - b - c", "(- (- a b) c)", 5}, {"a - b + c - d", "(- (+ (- a b) c) d)", 7}, {"a / b / c", "(/ (/ a b) c)", 5}, {"a * b / c % d", "(% (/ (* a b) c) d)", 7}, {"a % b * c", "(* (% a b) c)", 5},
		{"a - (b - c)", "(- a (- b c))", 7}, {"a or (b or c)", "(or a (or b c))", 7}, {"a / (b * c)", "(/ a (* b c))", 7}, {"a and (b and c)", "(and a (and b c))", 7},
	})
}

// Promise 7.1: which rule holds faster than which.
func TestRanks(t *testing.T) {
	checkTaken(t, []taken{
		{"a or b and c or d", "(or (or a (and b c)) d)", 7}, {"a and b or c and d", "(or (and a b) (and c d))", 7}, {"a and (b or c)", "(and a (or b c))", 7},
		{"not a and b", "(and (not a) b)", 4}, {"not a or b", "(or (not a) b)", 4}, {"a and not b", "(and a (not b))", 4}, {"a or not b and c", "(or a (and (not b) c))", 6}, {"not not a", "(not (not a))", 3}, {"not (a and b)", "(not (and a b))", 6},
		{"not a is null", "(not (is0 a))", 4}, {"not a between 1 and 2", "(not (between a 1 2))", 6}, {"not a in (1)", "(not (in a 1))", 6}, {"not a + b", "(not (+ a b))", 4}, {"not -a", "(not (- a))", 3},
		{"a + b = c - d", "(= (+ a b) (- c d))", 7}, {"a = b and c = d", "(and (= a b) (= c d))", 7}, {"a + b is null", "(is0 (+ a b))", 5}, {"a * b between c + d and e - 1", "(between (* a b) (+ c d) (- e 1))", 11}, {"a between 1 and 2 or b", "(or (between a 1 2) b)", 7}, {"a between 1 and b and c and d", "(and (and (between a 1 b) c) d)", 9},
		{"a + b * c - d", "(- (+ a (* b c)) d)", 7}, {"a * b + c * d", "(+ (* a b) (* c d))", 7}, {"a % b - c", "(- (% a b) c)", 5},
		{"-a * b", "(* (- a) b)", 4}, {"a * -b", "(* a (- b))", 4}, {"a - -b", "(- a (- b))", 4}, {"- -a", "(- (- a))", 3}, {"-a + b", "(+ (- a) b)", 4}, {"-(a + b)", "(- (+ a b))", 6}, {"-f(a)", "(- (call f a))", 5}, {"-1", "(- 1)", 2}, {"a = -1", "(= a (- 1))", 4}, {"- - - a - - b", "(- (- (- (- a))) (- b))", 7}, {"-count(*)", "(- (agg0 count))", 5}, {"-null", "(- null)", 2},
		{"(a = b) = c", "(= (= a b) c)", 7}, {"a = (b = c)", "(= a (= b c))", 7}, {"(a is null) is null", "(is0 (is0 a))", 7}, {"(not a) = b", "(= (not a) b)", 6}, {"a + (b or c)", "(+ a (or b c))", 7}, {"a = (not b)", "(= a (not b))", 6},
	})
}

// Promise 7.1: each sign of two operands.
func TestSigns(t *testing.T) {
	for _, s := range strings.Fields("+ - * / % = != < <= > >= and or") {
		checkTaken(t, []taken{{"a " + s + " b", "(" + s + " a b)", 3}, {"a " + s + " (b)", "(" + s + " a b)", 5}, {"a " + s + " b;", "(" + s + " a b)", 3}})
		checkRefused(t, api.ErrSyntax, []refused{{"a " + s, 2}, {"a " + s + ";", 2}, {"a " + s + " * b", 2}, {"a " + s + " and b", 2}, {"(a " + s + " b", 4}, {"(a " + s + ")", 3}, {"f(a " + s + " , b)", 4}})
	}
}

// Promise 7.1: a test goes on once; what could go on a second time ends the expression.
func TestTestsGoOnOnce(t *testing.T) {
	ways := []struct {
		s, want string
		many    int
	}{
		{"a = b", "(= a b)", 3}, {"a != b", "(!= a b)", 3}, {"a < b", "(< a b)", 3}, {"a <= b", "(<= a b)", 3}, {"a > b", "(> a b)", 3}, {"a >= b", "(>= a b)", 3},
		{"a is null", "(is0 a)", 3}, {"a is not null", "(is1 a)", 4}, {"a between b and c", "(between a b c)", 5}, {"a in (b)", "(in a b)", 5},
		{"a not between b and c", "(not (between a b c))", 6}, {"a not in (b)", "(not (in a b))", 6},
	}
	for _, x := range ways {
		checkTaken(t, []taken{{x.s, x.want, x.many}, {x.s + " and d", "(and " + x.want + " d)", x.many + 2}})
		for _, more := range []string{"= c", "!= c", "< c", "<= c", "> c", ">= c", "is null", "is not null", "between c and d", "in (c)", "not between c and d", "not in (c)", "is", "not", "="} {
			checkTaken(t, []taken{{x.s + " " + more, x.want, x.many}})
			checkRefused(t, api.ErrSyntax, []refused{{"(" + x.s + " " + more + ")", x.many + 1}, {"f(" + x.s + " " + more + ")", x.many + 2}})
		}
	}
}

// Promise 7.1: a not behind a sum goes on with between and in alone; any other one ends the expression.
func TestNotBehindASum(t *testing.T) {
	checkTaken(t, []taken{
		{"a not between 1 and 2", "(not (between a 1 2))", 6}, {"a not in (1)", "(not (in a 1))", 6}, {"a + b not in (1)", "(not (in (+ a b) 1))", 8}, {"a not between 1 and 2 and b", "(and (not (between a 1 2)) b)", 8}, {"a not between b * c and d + e", "(not (between a (* b c) (+ d e)))", 10},
		{"a not", "a", 1}, {"a not null", "a", 1}, {"a not b", "a", 1}, {"a not not in (1)", "a", 1}, {"a not = b", "a", 1}, {"a not is null", "a", 1}, {"a not;", "a", 1}, {"a not (in)", "a", 1}, {"a + b not c", "(+ a b)", 3}, {"a and b not c", "(and a b)", 3},
	})
	checkRefused(t, api.ErrSyntax, []refused{{"(a not)", 2}, {"(a not b)", 2}, {"f(a not null)", 3}, {"a in (b not c)", 4}, {"a between b not c and d", 3}, {"a between b not in (c) and d", 3}, {"case when a not then b end", 3}, {"not between 1 and 2", 1}, {"not in (1)", 1}})
}

// Promise 7.1: is, between, in and their likes have what they ask for.
func TestWordsOfTests(t *testing.T) {
	checkTaken(t, []taken{{"a is null", "(is0 a)", 3}, {"a is not null", "(is1 a)", 4}, {"a is null and b", "(and (is0 a) b)", 5}, {"a between b and c", "(between a b c)", 5}, {"a between (b or c) and -d", "(between a (or b c) (- d))", 10}, {"A IS NOT NULL", "(is1 A)", 4}})
	checkRefused(t, api.ErrSyntax, []refused{
		{"a is", 2}, {"a is 5", 2}, {"a is true", 2}, {"a is in (1)", 2}, {"a is (null)", 2}, {"a is not", 3}, {"a is not 5", 3}, {"a is not not null", 3}, {"a is not (null)", 3}, {"is null", 0}, {"a = is null", 2},
		{"a between", 2}, {"a between and b", 2}, {"a between not b and c", 2}, {"a between b", 3}, {"a between b or c", 3}, {"a between b, c", 3}, {"a between b and", 4}, {"a between b and not c", 4}, {"a between b and and c", 4}, {"a between b = c and d", 3}, {"a between b is null and c", 3}, {"a between b between c and d and e", 3}, {"between a and b", 0}, {"in (a)", 0},
		{"a not between", 3}, {"a not between b", 4}, {"a not between b and", 5}, {"a = not b", 2}, {"a + not b", 2}, {"- not a", 1}, {"a < < b", 2}, {"not", 1}, {"not and b", 1}, {"not not", 2}, {"-", 1}, {"- -", 2}, {"-)", 1}, {"(-)", 2},
	})
}

// Promise 7.1: what begins no expression.
func TestNoBeginning(t *testing.T) {
	for _, s := range append(append(signsOfOthers(), wordsOfOthers()...), strings.Fields(") , . + * / % = != < <= > >= and or is in between distinct when then else end")...) {
		checkRefused(t, api.ErrSyntax, []refused{{s, 0}, {s + " a", 0}, {"(" + s + " a)", 1}, {"a + " + s, 2}, {"not " + s + " a", 1}, {"f(a, " + s, 4}})
	}
	checkRefused(t, api.ErrSyntax, []refused{{"", 0}, {"5s", 0}, {"5ms + 1", 0}, {"a + 5s", 2}, {"(", 1}, {"()", 1}, {"(a", 2}, {"(a b)", 2}, {"(a, b)", 2}, {"(a;", 2}, {"(a]", 2}, {"((a)", 4}, {"((a", 3}, {")a(", 0}})
}

// prefixes is a source with what its first tokens alone give: of none, of one, and so on, where the expression ends, or no, if there is none.
type prefixes struct {
	s    string
	ends []int
}

// no: there is no expression, as a token lacks.
const no = -1

// eachRule has all that the chapter's rules ask for at least once.
func eachRule() []prefixes {
	return []prefixes{
		{"a or b or c", []int{no, 1, no, 3, no, 5}}, {"a and b and c", []int{no, 1, no, 3, no, 5}}, {"not not a", []int{no, no, no, 3}}, {"a or not b", []int{no, 1, no, no, 4}},
		{"a = b", []int{no, 1, no, 3}}, {"a != b", []int{no, 1, no, 3}}, {"a < b", []int{no, 1, no, 3}}, {"a <= b", []int{no, 1, no, 3}}, {"a > b", []int{no, 1, no, 3}}, {"a >= b", []int{no, 1, no, 3}},
		{"a is null", []int{no, 1, no, 3}}, {"a is not null", []int{no, 1, no, no, 4}}, {"a between b and c", []int{no, 1, no, no, no, 5}}, {"a in (b, c, d)", []int{no, 1, no, no, no, no, no, no, no, 9}},
		{"a not between b and c", []int{no, 1, 1, no, no, no, 6}}, {"a not in (b, c)", []int{no, 1, 1, no, no, no, no, no, 8}},
		{"a + b - c", []int{no, 1, no, 3, no, 5}}, {"a * b / c % d", []int{no, 1, no, 3, no, 5, no, 7}}, {"- - a", []int{no, no, no, 3}}, {"a - - b", []int{no, 1, no, no, 4}}, {"a + b * c = d", []int{no, 1, no, 3, no, 5, no, 7}},
		{"5", []int{no, 1}}, {"1.5", []int{no, 1}}, {"'x'", []int{no, 1}}, {"true", []int{no, 1}}, {"false", []int{no, 1}}, {"null", []int{no, 1}}, {"a", []int{no, 1}}, {"t.a", []int{no, 1, 1, 3}},
		{"f()", []int{no, 1, no, 3}}, {"f(a)", []int{no, 1, no, no, 4}}, {"f(a, b)", []int{no, 1, no, no, no, no, 6}},
		{"count(*)", []int{no, no, no, no, 4}}, {"count(a)", []int{no, no, no, no, 4}}, {"max(distinct a)", []int{no, no, no, no, no, 5}},
		{"case when a then b end", []int{no, no, no, no, no, no, 6}}, {"case when a then b when c then d else e end", []int{no, no, no, no, no, no, no, no, no, no, no, no, 12}},
		{"(a)", []int{no, no, no, 3}}, {"(a or b) and c", []int{no, no, no, no, no, 5, no, 7}},
	}
}

// Promise 7.1: each rule with all that it asks for, with tokens too few, and with one in each place that may stand nowhere.
func TestEachRule(t *testing.T) {
	for _, x := range eachRule() {
		l := tokens(t, x.s)
		if len(x.ends) != len(l)+1 {
			t.Fatalf("%q: %d tokens, %d ends", x.s, len(l), len(x.ends))
		}
		for many, end := range x.ends {
			checkEnd(t, l[:many], many, end)
			for _, s := range strangers() {
				checkEnd(t, append(slices.Clone(l[:many]), s), many, end)
				checkEnd(t, slices.Concat(l[:many], []api.Token{s}, l[min(many+1, len(l)):]), many, end)
			}
		}
	}
}

// checkEnd: the expression of l ends there; or there is none, which is seen at the token at.
func checkEnd(t *testing.T, l []api.Token, at, end int) {
	t.Helper()
	n, got, e := parse.Expr(l, 0)
	if end == no {
		if !isZero(n) || got != at || e != api.ErrSyntax {
			t.Errorf("Expr of %s: %#v, %d, %d, want ErrSyntax at %d", brief(l), n, got, e, at)
		}
		return
	}
	if tree.Form(n) != api.FormExpr || got != end || e != api.OK {
		t.Errorf("Expr of %s: %#v, %d, %d, want %d", brief(l), n, got, e, end)
	}
}

// Promise 7.1: an at that is none.
func TestWhereItBegins(t *testing.T) {
	for _, s := range []string{"", "a", "a + b", ")", "(", "f(a, b)"} {
		l := tokens(t, s)
		for _, at := range []int{-1, -2, -1 - len(l), math.MinInt, math.MinInt + 1} {
			checkError(t, l, at, 0, api.ErrSyntax)
		}
		for _, at := range []int{len(l), len(l) + 1, len(l) + 2, 1000, math.MaxInt - 1, math.MaxInt} {
			checkError(t, l, at, len(l), api.ErrSyntax)
		}
	}
	checkError(t, nil, 0, 0, api.ErrSyntax)
	checkError(t, []api.Token{}, 0, 0, api.ErrSyntax)
	checkError(t, nil, 1, 0, api.ErrSyntax)
	checkError(t, nil, -1, 0, api.ErrSyntax)
}

// Promise 7.1: in the middle of tokens the places are those of the whole list, and what stands ahead plays no part.
func TestInTheMiddle(t *testing.T) {
	l := tokens(t, "select a + b, f(c) from T where not d.e = (1 +")
	for _, x := range []struct {
		at, end int
		want    string
	}{{1, 4, "(+ a b)"}, {3, 4, "b"}, {5, 9, "(call f c)"}, {6, 9, "c"}, {7, 8, "c"}, {10, 11, "T"}} {
		n, end, e := parse.Expr(l, x.at)
		if e != api.OK || end != x.end || shape(n) != x.want || n.At < l[x.at].At {
			t.Errorf("at %d: %#v, %d, %d, want %s, %d", x.at, n, end, e, x.want, x.end)
		}
	}
	for _, x := range [][2]int{{0, 0}, {2, 2}, {4, 4}, {8, 8}, {9, 9}, {11, 11}, {12, 20}, {13, 20}, {14, 14}, {15, 20}, {16, 16}, {17, 20}, {18, 20}, {19, 19}, {20, 20}} {
		checkError(t, l, x[0], x[1], api.ErrSyntax)
	}
}
