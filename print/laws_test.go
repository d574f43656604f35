package print_test

import (
	"math"
	"slices"
	"strings"
	"testing"

	"marquee/api"
	"marquee/lex"
	"marquee/parse"
	"marquee/print"
	"marquee/stmts"
	"marquee/tree"
)

// Promises 9.1 and 9.2: trees by chance.
func TestTreesByChance(t *testing.T) {
	c := newChance(9)
	for _, f := range faces() {
		for range 5000 {
			n := c.tree(f.form)
			if tree.Form(n) != f.form {
				t.Fatalf("%#v has another form", n)
			}
			f.checkTree(t, n)
		}
	}
}

// Promise 9.1: one change at one place of a tree by chance; what has then another form, or none, has no text.
func TestChangedTrees(t *testing.T) {
	c := newChance(91)
	none := 0
	for _, f := range faces() {
		for range 5000 {
			n := tree.Copy(c.tree(f.form))
			c.change(&n)
			for _, g := range faces() {
				if tree.Form(n) != g.form {
					none++
					g.checkNothing(t, n)
				} else {
					g.checkTree(t, n)
				}
			}
		}
	}
	if none < 20000 {
		t.Errorf("only %d had no text", none)
	}
}

// change changes the kind, the text, the number or the kids of one tree within n.
func (c chance) change(n *api.Node) {
	for len(n.Kids) > 0 && c.Intn(3) > 0 {
		n = &n.Kids[c.Intn(len(n.Kids))]
	}
	switch c.Intn(5) {
	case 0:
		n.Kind = c.Intn(api.Spans+3) - 1
	case 1:
		n.Text = c.pick("a select + - not ms events all length time \xff")
	case 2:
		n.N = []int{0, 1, 2, 3, 5, -1, math.MinInt, math.MaxInt}[c.Intn(8)]
	case 3:
		n.Kids = n.Kids[:c.Intn(len(n.Kids)+1)]
	case 4:
		n.Kids = append(n.Kids, all()[c.Intn(len(all()))])
	}
}

// Promise 9.2: whole sources by chance are read as they were.
func TestSourcesByChance(t *testing.T) {
	c := newChance(92)
	for range 1000 {
		l := c.things(0, 12, c.stmt)
		s := print.Source(l)
		var want strings.Builder
		for _, n := range l {
			want.WriteString(model(n, 1) + ";\n")
		}
		if s != want.String() {
			t.Fatalf("%q, want %q", s, want.String())
		}
		if len(s) > api.MaxSource {
			continue
		}
		m, at, e := stmts.Source(s)
		if at != 0 || e != api.OK || !slices.EqualFunc(l, m, tree.Same) || print.Source(m) != s {
			t.Fatalf("%q: %d, %d", s, at, e)
		}
	}
}

// Promise 9.1: sources of no, of one, of several statements.
func TestSource(t *testing.T) {
	one, other := selectAll(), schema("S", column("a", 2))
	for _, x := range []struct {
		l    []api.Node
		want string
	}{
		{nil, ""}, {[]api.Node{}, ""}, {[]api.Node{one}, "select * from A;\n"}, {[]api.Node{other, one}, "create schema S (a int);\nselect * from A;\n"}, {[]api.Node{one, one, other}, "select * from A;\nselect * from A;\ncreate schema S (a int);\n"},
		{repeat(one, 300), strings.Repeat("select * from A;\n", 300)},
	} {
		if got := print.Source(x.l); got != x.want {
			t.Errorf("%q, want %q", got, x.want)
		}
	}
}

// Promise 9.1: there is no text of a source with one that is no statement, wherever it stands.
func TestSourceWithOneThatIsNone(t *testing.T) {
	l := statements()
	for _, n := range slices.Concat(exprs(), patterns(), parts(), strangers(), []api.Node{selectWith(whereAt, whole(-1)), from(stream("A", view("length", whole(0))))}) {
		for i := 0; i <= len(l); i += 3 {
			if got := print.Source(slices.Insert(slices.Clone(l), i, n)); got != "" {
				t.Fatalf("%q with %#v at %d", got, n, i)
			}
		}
		if got := print.Source([]api.Node{n}); got != "" {
			t.Errorf("%q of %#v alone", got, n)
		}
	}
}

// Promise 9.1: trees of another form than is asked for have no text.
func TestOtherForms(t *testing.T) {
	exprFace().checkNothing(t, slices.Concat(patterns(), statements(), parts(), strangers())...)
	patternFace().checkNothing(t, slices.Concat(exprs(), statements(), parts(), strangers())...)
	stmtFace().checkNothing(t, slices.Concat(exprs(), patterns(), parts(), strangers())...)
}

// Promise 9.1: where a tree begins plays no part, and an empty list may be nil or not.
func TestWhereverTheyBegin(t *testing.T) {
	c := newChance(93)
	for _, f := range faces() {
		for range 1000 {
			n := c.tree(f.form)
			want := f.write(n)
			for _, at := range []int{1, -1000, math.MaxInt} {
				if got := f.write(moved(n, at)); got != want {
					t.Fatalf("%q, want %q", got, want)
				}
			}
		}
	}
}

// moved is a tree that begins elsewhere, and whose empty lists are none.
func moved(n api.Node, at int) api.Node {
	n.At = at
	kids := []api.Node{}
	for i, k := range n.Kids {
		kids = append(kids, moved(k, at-i))
	}
	n.Kids = kids
	return n
}

// Promise 9.2: what was read is written as it is told by the readers, with blanks, notes, capital letters and units of other forms in the source.
func TestWhatWasRead(t *testing.T) {
	for _, x := range []struct{ s, want string }{
		{"SELECT a /* b */ AS x FROM T # length ( 5 ) AS t WHERE ((t . a)) > (10);", "select a as x from T#length(5) as t where t.a > 10;\n"},
		{"select istream * from T output every 2s order by a asc, b desc;", "select * from T output all every 2000ms order by a, b desc;\n"},
		{"select a not in (1, 2), b not between 1 and 2, case when a then 1 end from T;", "select not a in (1, 2), not b between 1 and 2, case when a then 1 else null end from T;\n"},
		{"select - ( - 1 ), -(5) from pattern[(every(a = A)) -> ((B)within 1m)];", "select - -1, -5 from pattern [every a=A -> B within 60000ms];\n"},
		{"create schema S(a int);\n-- note\non S merge W where a=1 when matched then update set a=2;", "create schema S (a int);\non S merge W where a = 1 when matched then update set a = 2;\n"},
	} {
		l, at, e := stmts.Source(x.s)
		if e != api.OK || print.Source(l) != x.want {
			t.Errorf("%q: %d, %d, %q, want %q", x.s, at, e, print.Source(l), x.want)
		}
	}
}

// deep is a tree with that many others around it.
func deep(inner api.Node, many int, around func(api.Node) api.Node) api.Node {
	for range many {
		inner = around(inner)
	}
	return inner
}

// Promise 9.2: as deep as may be read, and a step deeper, which has its text, too.
func TestAsDeepAsIsRead(t *testing.T) {
	a, e := col("a"), event("A")
	right := func(k api.Node) api.Node { return binary("-", a, k) }
	later := func(k api.Node) api.Node { return then(e, k) }
	exprFace().checkTree(t, deep(a, api.MaxNest-1, neg))
	exprFace().checkTree(t, deep(a, api.MaxNest, right))
	exprFace().checkTree(t, deep(a, 3000, func(k api.Node) api.Node { return binary("-", k, a) }))
	patternFace().checkTree(t, deep(e, api.MaxNest-1, every))
	patternFace().checkTree(t, deep(e, api.MaxNest, later))
	for _, n := range []api.Node{deep(a, api.MaxNest, neg), deep(a, api.MaxNest+1, right)} {
		l, _, _ := lex.Lex(print.Expr(n))
		if _, _, err := parse.Expr(l, 0); print.Expr(n) != model(n, 1) || err != api.ErrDeep {
			t.Errorf("%q: %d", print.Expr(n), err)
		}
	}
	for _, n := range []api.Node{deep(e, api.MaxNest, every), deep(e, api.MaxNest+1, later)} {
		l, _, _ := lex.Lex(print.Pattern(n))
		if _, _, err := stmts.Pattern(l, 0); print.Pattern(n) != model(n, 1) || err != api.ErrDeep {
			t.Errorf("%q: %d", print.Pattern(n), err)
		}
	}
}

// Rule R1: trees that are nested as deep as the document's bound lets them be.
func TestDeepTrees(t *testing.T) {
	const most = 1<<16 - 2
	a, e := col("a"), event("A")
	for _, x := range []struct{ got, want string }{
		{print.Expr(deep(a, most, neg)), strings.Repeat("- ", most-1) + "-a"},
		{print.Expr(deep(a, most, func(k api.Node) api.Node { return binary("-", k, a) })), "a" + strings.Repeat(" - a", most)},
		{print.Expr(deep(a, most, func(k api.Node) api.Node { return binary("-", a, k) })), strings.Repeat("a - (", most-1) + "a - a" + strings.Repeat(")", most-1)},
		{print.Expr(deep(whole(-1), most, neg)), ""},
		{print.Pattern(deep(e, most-1, every)), strings.Repeat("every ", most-1) + "A"},
		{print.Pattern(deep(e, most-1, func(k api.Node) api.Node { return then(e, k) })), strings.Repeat("A -> (", most-2) + "A -> A" + strings.Repeat(")", most-2)},
		{print.Stmt(selectWith(whereAt, deep(a, most-1, not))), "select * from A where " + strings.Repeat("not ", most-1) + "a"},
	} {
		if x.got != x.want {
			t.Errorf("%d bytes, want %d: %.60q, want %.60q", len(x.got), len(x.want), x.got, x.want)
		}
	}
}

// Rule R4: trees that are handed in stay as they were, behind the ends of their lists, too, and what stands there is not written.
func TestTreesStay(t *testing.T) {
	c := newChance(94)
	for _, f := range faces() {
		for range 1000 {
			n := roomy(c.tree(f.form))
			kept, want := roomy(n), f.write(tree.Copy(n))
			got := f.write(n)
			if !equal(n, kept) {
				t.Fatalf("%q is changed", want)
			}
			source := print.Source([]api.Node{n, n})
			if got != want || !equal(n, kept) || f.form == api.FormStmt && source != want+";\n"+want+";\n" {
				t.Fatalf("%q and %q, want %q", got, source, want)
			}
		}
	}
}

// roomy is a tree in new memory with a tree behind the end of each list.
func roomy(n api.Node) api.Node {
	kids := make([]api.Node, 0, len(n.Kids)+1)
	for _, k := range n.Kids {
		kids = append(kids, roomy(k))
	}
	kids = append(kids, col("behind"))
	n.Kids = kids[:len(n.Kids)]
	return n
}

// equal holds all fields against each other, and what stands behind the ends of lists.
func equal(a, b api.Node) bool {
	return a.At == b.At && tree.Same(a, b) && cap(a.Kids) == cap(b.Kids) && slices.EqualFunc(a.Kids[:cap(a.Kids)], b.Kids[:cap(b.Kids)], equal)
}

// Rule R5: the same is answered over again, whatever was asked between.
func TestTwice(t *testing.T) {
	c := newChance(95)
	for _, f := range faces() {
		for range 1000 {
			n := c.tree(f.form)
			first := f.write(n)
			for _, g := range faces() {
				g.write(c.tree(g.form))
			}
			print.Source(strangers())
			if again := f.write(n); again != first {
				t.Fatalf("%q and %q", first, again)
			}
		}
	}
}
