package stmts_test

import (
	"strings"
	"testing"

	"marquee/api"
	"marquee/lex"
	"marquee/stmts"
	"marquee/tree"
)

// checkSource: the statements of s have these shapes, and the form.
func checkSource(t *testing.T, s string, want ...string) {
	t.Helper()
	l, at, e := stmts.Source(s)
	if len(l) != len(want) || at != 0 || e != api.OK {
		t.Errorf("Source(%q): %d, %d, %d, want %d", s, len(l), at, e, len(want))
		return
	}
	for i, n := range l {
		if shape(n) != want[i] || tree.Form(n) != api.FormStmt {
			t.Errorf("Source(%q): %s, want %s", s, shape(n), want[i])
		}
	}
}

func checkSourceError(t *testing.T, s string, wantAt int, want api.Errno) {
	t.Helper()
	if l, at, e := stmts.Source(s); len(l) != 0 || at != wantAt || e != want {
		t.Errorf("Source of %d bytes, %q: %d, %d, %d, want %d, %d", len(s), s[:min(len(s), 200)], len(l), at, e, wantAt, want)
	}
}

const (
	deleteShape = "(delete (stream:A _ _) (stream:W _ _) _)"
	schemaShape = "(schema:T column:a/2)"
)

// Promise 8.2: no statement, one, several.
func TestSource(t *testing.T) {
	for _, s := range []string{"", " ", "\n\t\r ", "-- a", "-- a\n", "/* ; */", " -- ;\n /* x */ "} {
		checkSource(t, s)
	}
	checkSource(t, "on A delete from W;", deleteShape)
	checkSource(t, " on A delete from W ; ", deleteShape)
	checkSource(t, "create schema T (a int);on A delete from W;", schemaShape, deleteShape)
	checkSource(t, "on A delete from W;\n-- ;\ncreate schema T (a int); /* ; */ on A delete from W; -- ;", deleteShape, schemaShape, deleteShape)
	checkSource(t, strings.Repeat("on A delete from W;", 1000), strings.Split(strings.Repeat(deleteShape+"|", 999)+deleteShape, "|")...)
	checkSource(t, "create window W#unique(sym) as Trade; insert into W select * from Trade; on Stop as s delete from W as w where w.sym = s.sym;", "(window:W name:Trade (view:unique sym))", "(select/1 name:W star (list (stream:Trade _ _)) _ list _ list _)", "(delete (stream:Stop _ name:s) (stream:W _ name:w) (binary:= (col:sym name:w) (col:sym name:s)))")
	checkSource(t, "create context C partition by sym from Trade; context C select count(*) as n from Trade#keepall;", "(context:C (keyed (col:sym name:Trade)))", "(select:C/1 _ (list (item:n agg:count)) (list (stream:Trade _ _ view:keepall)) _ list _ list _)")
	checkSource(t, "select price from Trade where qty;", "(select/1 _ (list (item price)) (list (stream:Trade _ _)) qty list _ list _)")
}

// Promise 8.2: each error with its byte, the | in the source being ahead of it.
func TestSourceErrors(t *testing.T) {
	for _, x := range []string{
		"|;", " |;", "on A delete from W;|;", "on A delete from W|", "on A delete from W |", "on A delete from W -- ;|", "select a from T|", "select a from T \n|", "select a from T /* ; */|", "on A delete from W |on A delete from W;", "on A delete from W |create", "on A delete from W |. ;", "on A delete from W |, V;", "|A;", "|every A;", "|5;", "|(on A delete from W);", "on A delete from W; |W;", "on A delete from W; on A delete from W|", "on A delete from W; on |", "on A delete from W; on |;", "  create |;", "create schema T (|);", "create schema T (a int, |);", "select a from T#length(|0);", "select a from A, B, |C;", "select a from T#|nope(1);", "select a from T where |;", "select a from T where a |b;", "select a from T where a |not b;", "select a from T where a not in |b;", "select a from T output every |0 events;", "select a from T order by a |ASC;", "select a from T#time(|5 ms);", "create context C start A within |0ms;", "select * from pattern [A |B];", "select * from pattern [|not A];", "select a from T; select |;; create", "on A delete from W where (a|;", "select a from T#keepall#keepall#keepall#keepall |#keepall;",
	} {
		ahead, behind, found := strings.Cut(x, "|")
		if !found {
			t.Fatalf("%q has no |", x)
		}
		checkSourceError(t, ahead+behind, len(ahead), api.ErrSyntax)
		checkSourceError(t, "create schema T (a int); "+ahead+behind, len("create schema T (a int); "+ahead), api.ErrSyntax)
	}
}

// Promise 8.2: what is nested too deep is seen at its byte.
func TestSourceTooDeep(t *testing.T) {
	ahead := "on A delete from W;  select a from T where "
	checkSourceError(t, ahead+strings.Repeat("( ", api.MaxNest)+"a"+strings.Repeat(")", api.MaxNest)+";", len(ahead)+2*api.MaxNest, api.ErrDeep)
	ahead = "select * from pattern [ "
	checkSourceError(t, ahead+strings.Repeat("every ", api.MaxNest)+"A];", len(ahead)+6*(api.MaxNest-1), api.ErrDeep)
	checkSourceError(t, ahead+strings.Repeat("( ", api.MaxNest), len(ahead)+2*api.MaxNest, api.ErrDeep)
}

// Promise 8.2: Lex's errors are seen ahead of all that the statements have.
func TestSourceErrorsOfLex(t *testing.T) {
	for _, x := range []struct {
		s    string
		want api.Errno
	}{
		{"|!", api.ErrSign}, {"select |1a from T;", api.ErrSign}, {"select a from T; |!", api.ErrSign}, {"create create; select |'a", api.ErrText}, {"; ; |007", api.ErrSign}, {"select |9223372036854775808 from T;", api.ErrNumber}, {"select a from T#time(|12726000d);", api.ErrNumber}, {"on A delete from W |/* ;", api.ErrSign}, {"select a |\x00 from T;", api.ErrSign}, {"select |'" + strings.Repeat("x", api.MaxText+1) + "' from T;", api.ErrText},
	} {
		ahead, behind, _ := strings.Cut(x.s, "|")
		s := ahead + behind
		checkSourceError(t, s, len(ahead), x.want)
		if l, at, e := lex.Lex(s); len(l) != 0 || at != len(ahead) || e != x.want {
			t.Errorf("Lex(%q): %d, %d", s, at, e)
		}
	}
}

// Promise 8.2: sources of just as many bytes as may be, and one more.
func TestLongSources(t *testing.T) {
	const one = "on A delete from W;"
	for _, fill := range []string{" ", "\n", "-", "on A delete from W;"} {
		s := one
		if fill == "-" {
			s += "--"
		}
		s += strings.Repeat(fill, (api.MaxSource-len(s))/len(fill))
		s += strings.Repeat(" ", api.MaxSource-len(s))
		l, at, e := stmts.Source(s)
		if want := strings.Count(s, ";"); len(s) != 1<<16 || len(l) != want || at != 0 || e != api.OK {
			t.Errorf("%d bytes of %q: %d, %d, %d, want %d", len(s), fill, len(l), at, e, want)
		}
		checkSourceError(t, s+" ", 0, api.ErrArg)
		checkSourceError(t, s+s, 0, api.ErrArg)
	}
	checkSource(t, strings.Repeat(" ", api.MaxSource))
	checkSourceError(t, strings.Repeat(" ", api.MaxSource+1), 0, api.ErrArg)
	checkSourceError(t, strings.Repeat(" ", api.MaxSource-1)+"!", api.MaxSource-1, api.ErrSign)
	checkSourceError(t, strings.Repeat(" ", api.MaxSource)+"!", 0, api.ErrArg)
	checkSourceError(t, "!"+strings.Repeat(" ", api.MaxSource), 0, api.ErrArg)
	checkSourceError(t, ";"+strings.Repeat(" ", api.MaxSource), 0, api.ErrArg)
	checkSourceError(t, strings.Repeat("a", 1<<20), 0, api.ErrArg)
	checkSourceError(t, "on A delete from W"+strings.Repeat(" ", api.MaxSource-18), api.MaxSource, api.ErrSyntax)
	checkSourceError(t, "select a from T where "+strings.Repeat("a+", (api.MaxSource-22)/2), api.MaxSource, api.ErrSyntax)
}

// Promise 8.2: statements by chance, whole and spoilt: Source answers what Lex and Stmt do, one statement behind another.
func TestSourceByChance(t *testing.T) {
	c := newChance(82)
	seen := map[api.Errno]int{}
	for range 3000 {
		var s string
		for range c.Intn(5) {
			l := c.make("Stmt", c.Intn(60))
			if c.Intn(6) == 0 {
				l = c.spoil(l)
			}
			s += " " + lex.Show(append(l, sign(";")))
		}
		wantAt, want := checkStatements(t, s)
		seen[want]++
		if want != api.OK {
			checkSourceError(t, s, wantAt, want)
		}
	}
	if seen[api.OK] < 500 || seen[api.ErrSyntax] < 500 {
		t.Error(seen)
	}
}

// checkStatements holds Source of s against the statements that Stmt reads of its tokens, and answers what the error and its byte should be.
func checkStatements(t *testing.T, s string) (int, api.Errno) {
	t.Helper()
	l := append(tokens(t, s), api.Token{At: len(s)})
	last := len(l) - 1
	got, _, _ := stmts.Source(s)
	many := 0
	for at := 0; at < last; {
		n, end, e := stmts.Stmt(l[:last], at)
		if e != api.OK {
			return l[end].At, e
		}
		if l[end].Kind != api.TokenSign || l[end].Text != ";" {
			return l[end].At, api.ErrSyntax
		}
		if len(got) > 0 && !equal(got[many], n) {
			t.Fatalf("Source(%q): %s, want %s", s, inShort(got[many]), inShort(n))
		}
		many++
		at = end + 1
	}
	if len(got) != many {
		t.Fatalf("Source(%q): %d statements, want %d", s, len(got), many)
	}
	return 0, api.OK
}
