package parse_test

import (
	"math/rand"
	"slices"
	"strings"
	"testing"

	"marquee/api"
	"marquee/parse"
	"marquee/tree"
)

// nest is a way to open one more: what stands ahead of that, how far behind its first token the first thing that it opens begins, and what stands behind.
type nest struct {
	head   string
	begins int
	tail   string
}

// prims are those that may stand wherever a Prim may.
func prims() []nest {
	return []nest{
		{"(", 1, ")"}, {"f(", 2, ")"}, {"f(a,", 2, ")"}, {"f(", 2, ", a)"}, {"count(", 2, ")"}, {"sum(", 2, ")"}, {"max(distinct", 3, ")"},
		{"case when", 2, "then a end"}, {"case when a then", 2, "end"}, {"case when a then b when", 2, "then c else d end"}, {"case when a then b else", 2, "end"},
	}
}

// tests are those that may stand where a Not may.
func tests() []nest {
	return []nest{{"a in (", 3, ")"}, {"a in (b,", 3, ")"}, {"a not in (", 4, ")"}, {"a between (", 3, ") and b"}, {"a not between b and (", 6, ")"}, {"a = (", 3, ")"}, {"a + (", 3, ") is null"}, {"a - b * f(", 6, ") * c"}}
}

// lines are those that may stand where an Expr begins; behind a not they would end it.
func lines() []nest {
	return []nest{{"a or (", 3, ")"}, {"a and b - f(", 6, ") * c"}, {"a or b = c and (", 7, ") or d"}}
}

// minus and not open at their own token.
func minus() nest { return nest{"-", 0, ""} }

func not() nest { return nest{"not", 0, ""} }

// around are the tokens of what stands within nests, and where the last of the nests would begin.
func around(t *testing.T, nests []nest, inner string) ([]api.Token, int) {
	t.Helper()
	var heads, tails []string
	begins := 0
	for i, x := range nests {
		heads = append(heads, x.head)
		tails = append(tails, x.tail)
		if i < len(nests)-1 {
			begins += len(tokens(t, x.head))
		}
	}
	slices.Reverse(tails)
	return tokens(t, strings.Join(heads, " ")+" "+inner+" "+strings.Join(tails, " ")), begins + nests[len(nests)-1].begins
}

// checkDeep: these nests but the last one may be, and with it there are too many.
func checkDeep(t *testing.T, nests []nest) {
	t.Helper()
	l, _ := around(t, nests[:len(nests)-1], "x")
	if n, end, e := parse.Expr(l, 0); e != api.OK || end != len(l) || tree.Form(n) != api.FormExpr {
		t.Errorf("%d, %d with just as many as may be: %v", end, e, nests)
	}
	l, begins := around(t, nests, "x")
	checkError(t, l, 0, begins, api.ErrDeep)
	checkError(t, l[:begins+1], 0, begins, api.ErrDeep)
}

// checkAheadOfAll: there are too many, whatever stands where the last one would begin, and if nothing does.
func checkAheadOfAll(t *testing.T, nests []nest) {
	t.Helper()
	l, begins := around(t, nests, "x")
	for _, s := range append(strangers(), sign("("), sign(","), word("and"), word("end"), word("null"), word("not"), whole(1)) {
		checkError(t, append(slices.Clone(l[:begins]), s), 0, begins, api.ErrDeep)
	}
	checkError(t, l[:begins], 0, begins, api.ErrDeep)
}

// Promise 7.1: as many as may be open, and one more, by each way to open one.
func TestJustDeepEnough(t *testing.T) {
	for _, x := range slices.Concat(prims(), tests(), lines()) {
		checkDeep(t, slices.Repeat([]nest{x}, api.MaxNest))
		checkAheadOfAll(t, slices.Repeat([]nest{x}, api.MaxNest))
	}
	checkDeep(t, slices.Repeat([]nest{minus()}, api.MaxNest))
	checkDeep(t, slices.Repeat([]nest{not()}, api.MaxNest))
	checkDeep(t, slices.Repeat([]nest{not(), minus(), prims()[0], prims()[7]}, api.MaxNest/4))
	checkDeep(t, slices.Repeat([]nest{tests()[0], not(), not(), minus(), prims()[1]}, api.MaxNest/5))
}

// Promise 7.1: the same mixed by chance.
func TestMixedDeep(t *testing.T) {
	chance := rand.New(rand.NewSource(71))
	for range 1000 {
		may := slices.Concat(prims(), tests(), lines())
		var l []nest
		for len(l) < api.MaxNest {
			switch pick := chance.Intn(6); {
			case pick == 0:
				l = append(l, minus())
				may = prims()
			case pick == 1 && len(may) > len(prims()):
				l = append(l, not())
				may = append(prims(), tests()...)
			default:
				l = append(l, may[chance.Intn(len(may))])
				may = slices.Concat(prims(), tests(), lines())
			}
		}
		checkDeep(t, l)
	}
}

// atTheBottom lays a source where as many are open as may be, and tells where it begins.
func atTheBottom(t *testing.T, s string) ([]api.Token, int) {
	t.Helper()
	return tokens(t, strings.Repeat("(", api.MaxNest-1)+s+strings.Repeat(")", api.MaxNest-1)), api.MaxNest - 1
}

// Promise 7.1: what opens nothing may stand where as many are open as may be.
func TestWhatOpensNothing(t *testing.T) {
	for _, s := range []string{"a", "1", "null", "t.a", "f()", "count(*)", "a - b", "a - b - c", "a = b", "a is null", "a is not null", "a between b and c", "a not between b and c", "a or b and c", "a + b * c - d / e % f() - count(*)"} {
		l, _ := atTheBottom(t, s)
		if n, end, e := parse.Expr(l, 0); e != api.OK || end != len(l) || tree.Form(n) != api.FormExpr {
			t.Errorf("%q: %d, %d", s, end, e)
		}
	}
}

// Promise 7.1: where one too many begins, and which errors are seen ahead of that.
func TestWhatIsSeenFirst(t *testing.T) {
	for _, x := range []struct {
		s    string
		at   int
		want api.Errno
	}{
		{"(a)", 1, api.ErrDeep}, {"()", 1, api.ErrDeep}, {"(", 1, api.ErrDeep}, {"f(a)", 2, api.ErrDeep}, {"f(,)", 2, api.ErrDeep}, {"f(;", 2, api.ErrDeep}, {"f(*)", 2, api.ErrDeep},
		{"not a", 0, api.ErrDeep}, {"not", 0, api.ErrDeep}, {"-a", 0, api.ErrDeep}, {"-;", 0, api.ErrDeep}, {"a - -b", 2, api.ErrDeep}, {"a and not b", 2, api.ErrDeep}, {"a and b or not c", 4, api.ErrDeep}, {"a = -b", 2, api.ErrDeep}, {"a between -b and c", 2, api.ErrDeep}, {"a * -b", 2, api.ErrDeep},
		{"a in (b)", 3, api.ErrDeep}, {"a in ()", 3, api.ErrDeep}, {"a not in (b)", 4, api.ErrDeep}, {"a not in (,", 4, api.ErrDeep}, {"sum(a)", 2, api.ErrDeep}, {"sum(*)", 2, api.ErrDeep}, {"sum()", 2, api.ErrDeep}, {"count(a)", 2, api.ErrDeep}, {"count()", 2, api.ErrDeep}, {"count(distinct a)", 3, api.ErrDeep}, {"count(distinct *)", 3, api.ErrDeep}, {"case when a then b end", 2, api.ErrDeep}, {"case when then", 2, api.ErrDeep},
		{"", 0, api.ErrSyntax}, {"a +", 2, api.ErrSyntax}, {"a = not b", 2, api.ErrSyntax}, {"a * not b", 2, api.ErrSyntax}, {"a in b", 2, api.ErrSyntax}, {"a in", 2, api.ErrSyntax}, {"a is (b)", 2, api.ErrSyntax}, {"sum a", 1, api.ErrSyntax}, {"sum", 1, api.ErrSyntax}, {"case end", 1, api.ErrSyntax}, {"case a", 1, api.ErrSyntax}, {"count(* a)", 3, api.ErrSyntax}, {"a not b", 1, api.ErrSyntax}, {"a (b)", 2, api.ErrDeep}, {"1 (b)", 1, api.ErrSyntax}, {"a, (b)", 1, api.ErrSyntax}, {"a not (b)", 1, api.ErrSyntax}, {"a = b = (c)", 3, api.ErrSyntax}, {"t.a (b)", 3, api.ErrSyntax}, {"a is not not null", 3, api.ErrSyntax}, {"a between b or (c)", 3, api.ErrSyntax},
	} {
		l, bottom := atTheBottom(t, x.s)
		checkError(t, l, 0, bottom+x.at, x.want)
	}
	checkError(t, tokens(t, strings.Repeat("(", api.MaxNest)), 0, api.MaxNest, api.ErrDeep)
	checkError(t, tokens(t, strings.Repeat("(", api.MaxNest-1)), 0, api.MaxNest-1, api.ErrSyntax)
	checkError(t, tokens(t, strings.Repeat("(", 3*api.MaxNest)), 0, api.MaxNest, api.ErrDeep)
	checkError(t, tokens(t, strings.Repeat("not ", api.MaxNest-1)), 0, api.MaxNest-1, api.ErrSyntax)
	checkError(t, tokens(t, ") "+strings.Repeat("(", 2*api.MaxNest)), 0, 0, api.ErrSyntax)
	checkError(t, tokens(t, "a "+strings.Repeat("(", 2*api.MaxNest)), 1, 1+api.MaxNest, api.ErrDeep)
}

// frame is what lays five things one behind another.
type frame struct {
	head    string
	between [4]string
	tail    string
}

// Promise 7.1: what has ended is open no more, so one behind another may each be as deep as may be.
func TestWhatHasEnded(t *testing.T) {
	for _, f := range []frame{
		{"(", [4]string{"and", "and", "and", "and"}, ")"}, {"(", [4]string{"or", "and", "or", "and"}, ")"}, {"f(", [4]string{",", ",", ",", ","}, ")"}, {"a in (", [4]string{",", ",", ",", ","}, ")"},
		{"case when", [4]string{"then", "when", "then", "else"}, "end"},
	} {
		for _, x := range slices.Concat(prims(), []nest{minus(), not()}) {
			one, _ := around(t, slices.Repeat([]nest{x}, api.MaxNest-2), "x")
			l := append(tokens(t, f.head), one...)
			for _, s := range f.between {
				l = slices.Concat(l, tokens(t, s), one)
			}
			l = append(l, tokens(t, f.tail)...)
			if n, end, e := parse.Expr(l, 0); e != api.OK || end != len(l) || tree.Form(n) != api.FormExpr {
				t.Errorf("%v in %v: %d, %d of %d", x, f, end, e, len(l))
			}
		}
	}
	for _, s := range []string{"-a + -a - -a * -a", "a in (b) and c in (d, e)", "not a and not b or not c", "(a) + (b) - (c)", "f(a, b) + f(c)", "sum(a) / sum(b)", "case when a then b end + case when c then d else e end", "a not in (b) or a not in (c, d)", "a between -b and -c and d = -e"} {
		l := tokens(t, strings.Repeat("(", api.MaxNest-2)+s+strings.Repeat(")", api.MaxNest-2))
		if n, end, e := parse.Expr(l, 0); e != api.OK || end != len(l) || tree.Form(n) != api.FormExpr {
			t.Errorf("%q: %d, %d of %d", s, end, e, len(l))
		}
	}
}

// Promise 7.1: nothing but what is nested is counted.
func TestLongLinesAndLists(t *testing.T) {
	const many = 1 << 15
	for _, x := range []struct {
		head, part, between, tail string
		kind, depth               int
	}{
		{"", "a", " + ", "", api.Binary, many}, {"", "a", " or ", "", api.Binary, many}, {"", "not a", " and ", "", api.Binary, many + 1}, {"", "-a", " * ", "", api.Binary, many + 1}, {"", "(a)", " - ", "", api.Binary, many},
		{"f(", "a", ", ", ")", api.Call, 2}, {"f(", "not -a", ", ", ")", api.Call, 4}, {"b in (", "(a)", ", ", ")", api.In, 2}, {"case ", "when a then -b", " ", " end", api.Case, 3},
	} {
		l := tokens(t, x.head+strings.Repeat(x.part+x.between, many-1)+x.part+x.tail)
		n, end, e := parse.Expr(l, 0)
		if e != api.OK || end != len(l) || n.Kind != x.kind || tree.Depth(n) != x.depth {
			t.Errorf("%v: %d, %d of %d, depth %d", x, end, e, len(l), tree.Depth(n))
		}
	}
}
