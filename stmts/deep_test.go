package stmts_test

import (
	"math/rand"
	"slices"
	"strings"
	"testing"

	"marquee/api"
)

// nest is a way to open one more pattern: what stands ahead of that, how far behind its first token what it opens begins, and what stands behind.
type nest struct {
	head   string
	begins int
	tail   string
}

func bracket() nest { return nest{"(", 1, ")"} }

func every() nest { return nest{"every", 0, ""} }

// tight are those that may stand wherever an Un may; wide are those that may stand where a P may.
func tight() []nest {
	return []nest{bracket(), {"(", 1, ") within 5s"}, {"(", 1, ") within 5s within 6s"}}
}

func wide() []nest {
	return []nest{{"A -> (", 3, ")"}, {"A or (", 3, ")"}, {"A and (", 3, ")"}, {"A and not (", 4, ")"}, {"a = A ( x ) or B and (", 10, ") -> C"}, {"timer ( 5s ) -> (", 6, ") or A"}}
}

// ends are those within which none of the wide ones may stand.
func ends() []nest {
	return []nest{every(), {"A -> every", 2, ""}, {"A and not every", 3, ""}, {"A or B and every", 4, ""}}
}

// around are the tokens of what stands within nests, and where the last of the nests would begin.
func around(t *testing.T, nests []nest, inner string) ([]api.Token, int) {
	t.Helper()
	var heads, tails []string
	begins := 0
	for i, x := range nests {
		heads = append(heads, x.head)
		tails = append(tails, x.tail)
		if i < len(nests)-1 {
			begins += len(tokens(t, x.head))
		}
	}
	slices.Reverse(tails)
	return tokens(t, strings.Join(heads, " ")+" "+inner+" "+strings.Join(tails, " ")), begins + nests[len(nests)-1].begins
}

// checkDeep: these nests but the last one may be, and with it there are too many, alone and in a statement; whatever stands where it would begin, and if nothing does.
func checkDeep(t *testing.T, nests []nest) {
	t.Helper()
	f, ahead := patternFace(), tokens(t, "context C select a from pattern [")
	l, _ := around(t, nests[:len(nests)-1], "x")
	f.checkEnd(t, l, len(l))
	stmtFace().checkEnd(t, slices.Concat(ahead, l, tokens(t, "]")), len(ahead)+len(l)+1)
	l, begins := around(t, nests, "x")
	f.checkError(t, l, 0, begins, api.ErrDeep)
	f.checkError(t, append(slices.Clone(ahead), l...), len(ahead), len(ahead)+begins, api.ErrDeep)
	stmtFace().checkError(t, append(slices.Clone(ahead), l...), 0, len(ahead)+begins, api.ErrDeep)
	f.checkError(t, l[:begins+1], 0, begins, api.ErrDeep)
	if l[begins].Text == "every" {
		return // it is what would begin
	}
	for _, s := range append(strangers(), sign(")"), sign("->"), word("and"), word("not"), word("within"), whole(1), period(5)) {
		f.checkError(t, append(slices.Clone(l[:begins]), s), 0, begins, api.ErrDeep)
	}
	f.checkError(t, l[:begins], 0, begins, api.ErrDeep)
}

// Promise 8.1: as many patterns as may be open, and one more, by brackets, by every, and mixed.
func TestJustDeepEnough(t *testing.T) {
	for _, x := range slices.Concat(tight(), wide(), []nest{every()}) {
		checkDeep(t, slices.Repeat([]nest{x}, api.MaxNest))
	}
	checkDeep(t, slices.Repeat([]nest{every(), bracket()}, api.MaxNest/2))
	checkDeep(t, slices.Repeat([]nest{bracket(), every()}, api.MaxNest/2))
	checkDeep(t, append(slices.Repeat([]nest{every()}, api.MaxNest-1), bracket()))
	for _, x := range ends() {
		checkDeep(t, append(slices.Repeat([]nest{bracket()}, api.MaxNest-1), x))
		checkDeep(t, append(slices.Repeat([]nest{x, bracket()}, api.MaxNest/2-1), x, every()))
	}
	checkDeep(t, append(slices.Repeat([]nest{every()}, api.MaxNest/2), slices.Repeat([]nest{bracket()}, api.MaxNest/2)...))
	checkDeep(t, slices.Repeat([]nest{bracket(), wide()[3], every(), tight()[1]}, api.MaxNest/4))
}

// Promise 8.1: the same mixed by chance.
func TestMixedDeep(t *testing.T) {
	chance := rand.New(rand.NewSource(81))
	for range 300 {
		may := slices.Concat(tight(), wide(), ends())
		var l []nest
		for len(l) < api.MaxNest {
			next := may[chance.Intn(len(may))]
			l = append(l, next)
			may = slices.Concat(tight(), wide(), ends())
			if strings.HasSuffix(next.head, "every") {
				may = append(tight(), every())
			}
		}
		checkDeep(t, l)
	}
}

// atTheBottom lays a source where as many patterns are open as may be, and tells where it begins.
func atTheBottom(t *testing.T, s string) ([]api.Token, int) {
	t.Helper()
	return tokens(t, strings.Repeat("(", api.MaxNest-1)+s+strings.Repeat(")", api.MaxNest-1)), api.MaxNest - 1
}

// Promise 8.1: what opens nothing may stand where as many are open as may be; an Expr there begins to count from none.
func TestWhatOpensNothing(t *testing.T) {
	deep := strings.Repeat("(", api.MaxNest-1) + "x" + strings.Repeat(")", api.MaxNest-1)
	for _, s := range []string{"A", "a=A", "A(x)", "timer(5s)", "A within 5s within 6s", "A -> B -> C", "A or B or C", "A and B and not C", "A and not B within 5s", "a=A(x) -> timer(1s) or B and not C", "A(" + deep + ")", "A(" + strings.Repeat("not ", api.MaxNest-1) + "x) and B(" + deep + ")"} {
		l, _ := atTheBottom(t, s)
		patternFace().checkEnd(t, l, len(l))
		l = tokens(t, strings.Repeat("every ", api.MaxNest-1)+s)
		patternFace().checkEnd(t, l, len(l))
	}
	l, bottom := atTheBottom(t, "A(("+deep+"))")
	patternFace().checkError(t, l, 0, bottom+2+api.MaxNest, api.ErrDeep)
	for _, s := range []string{"select * from T where |", "select * from T(|", "select |", "select * from T group by |", "select * from T having |", "select * from T order by |", "on A update W set a = |", "on A(|", "create context C when |", "create context C start A(|", "on A merge W where |"} {
		ahead := tokens(t, strings.TrimSuffix(s, "|"))
		stmtFace().checkError(t, append(slices.Clone(ahead), tokens(t, "("+deep+")")...), 0, len(ahead)+api.MaxNest, api.ErrDeep)
		if !strings.HasSuffix(s, "(|") {
			rule := append(slices.Clone(ahead), tokens(t, deep)...)
			if n, end, e := stmtFace().read(rule, 0); e == api.ErrDeep || end != len(rule) {
				t.Errorf("%q: %s, %d, %d", s, shape(n), end, e)
			}
		}
	}
}

// Promise 8.1: where one too many begins, and which errors are seen ahead of that.
func TestWhatIsSeenFirst(t *testing.T) {
	for _, x := range []struct {
		s    string
		at   int
		want api.Errno
	}{
		{"(A)", 1, api.ErrDeep}, {"()", 1, api.ErrDeep}, {"(", 1, api.ErrDeep}, {"(5", 1, api.ErrDeep}, {"(not", 1, api.ErrDeep}, {"every A", 0, api.ErrDeep}, {"every", 0, api.ErrDeep}, {"every )", 0, api.ErrDeep}, {"every every A", 0, api.ErrDeep}, {"A -> every B", 2, api.ErrDeep}, {"A -> (B)", 3, api.ErrDeep}, {"A or every B", 2, api.ErrDeep}, {"A and every B", 2, api.ErrDeep}, {"A and not every B", 3, api.ErrDeep}, {"A and not (B)", 4, api.ErrDeep}, {"A within 5s and (B)", 5, api.ErrDeep}, {"A(x) -> (B)", 6, api.ErrDeep},
		{"", 0, api.ErrSyntax}, {"not every A", 0, api.ErrSyntax}, {"not (A)", 0, api.ErrSyntax}, {"A every B", 1, api.ErrSyntax}, {"A ->", 2, api.ErrSyntax}, {"A -> not (B)", 2, api.ErrSyntax}, {"A and not not (B)", 3, api.ErrSyntax}, {"A within (B)", 2, api.ErrSyntax}, {"a = (A)", 2, api.ErrSyntax}, {"a = every A", 2, api.ErrSyntax}, {"timer (A)", 2, api.ErrSyntax}, {"timer every A", 1, api.ErrSyntax}, {"A()", 2, api.ErrSyntax}, {"A(every B)", 2, api.ErrSyntax}, {"A(x) (B)", 4, api.ErrSyntax}, {"A, (B)", 1, api.ErrSyntax},
	} {
		l, bottom := atTheBottom(t, x.s)
		patternFace().checkError(t, l, 0, bottom+x.at, x.want)
	}
	f := patternFace()
	f.checkError(t, tokens(t, strings.Repeat("(", api.MaxNest)), 0, api.MaxNest, api.ErrDeep)
	f.checkError(t, tokens(t, strings.Repeat("(", api.MaxNest-1)), 0, api.MaxNest-1, api.ErrSyntax)
	f.checkError(t, tokens(t, strings.Repeat("(", 3*api.MaxNest)), 0, api.MaxNest, api.ErrDeep)
	f.checkError(t, tokens(t, strings.Repeat("every ", api.MaxNest)), 0, api.MaxNest-1, api.ErrDeep)
	f.checkError(t, tokens(t, strings.Repeat("every ", api.MaxNest-1)), 0, api.MaxNest-1, api.ErrSyntax)
	f.checkError(t, tokens(t, ") "+strings.Repeat("(", 2*api.MaxNest)), 0, 0, api.ErrSyntax)
}

// Promise 8.1: what has ended is open no more, so one behind another may each be as deep as may be.
func TestWhatHasEnded(t *testing.T) {
	for _, s := range [][4]string{{"->", "->", "->", "->"}, {"or", "and", "or", "and"}, {"and not", "->", "and", "and not"}, {"and", "and", "or", "->"}} {
		for _, x := range append(tight(), every()) {
			one, _ := around(t, slices.Repeat([]nest{x}, api.MaxNest-1), "x")
			l := slices.Clone(one)
			for _, joined := range s {
				l = slices.Concat(l, tokens(t, joined), one)
			}
			patternFace().checkEnd(t, l, len(l))
		}
	}
	for _, s := range []string{"(A) -> (B) -> (C)", "every A and every B", "every A -> (B) or every C", "(A) and not (B) or (C) within 5s", "every A within 5s -> every B"} {
		l := tokens(t, strings.Repeat("(", api.MaxNest-2)+s+strings.Repeat(")", api.MaxNest-2))
		patternFace().checkEnd(t, l, len(l))
	}
}

// Promise 8.1: nothing but what is nested is counted.
func TestLongLines(t *testing.T) {
	const many = 1 << 12
	for _, x := range [][2]string{{"A", " -> "}, {"A", " or "}, {"A", " and "}, {"(A)", " and not "}, {"every A", " -> "}, {"A within 5s", " or "}, {"A", " within 5s -> "}, {"every (A)", " and every "}} {
		s := strings.Repeat(x[0]+x[1], many-1) + x[0]
		l := tokens(t, s)
		patternFace().checkEnd(t, l, len(l))
	}
	l := tokens(t, "A"+strings.Repeat(" within 5s", many))
	patternFace().checkEnd(t, l, len(l))
}
