package parse_test

import (
	"math/rand"
	"slices"
	"strings"
	"testing"

	"marquee/api"
	"marquee/lex"
	"marquee/parse"
	"marquee/tree"
)

// writer writes trees as tokens, with brackets around all that is no Prim, and notes where each tree stands.
type writer struct {
	*rand.Rand
	l  []api.Token
	at int
}

// put writes a token and answers its At.
func (w *writer) put(t api.Token) int {
	w.at += 1 + w.Intn(5)
	t.At = w.at
	w.l = append(w.l, t)
	return t.At
}

func (w *writer) sign(s string) int { return w.put(sign(s)) }

func (w *writer) word(s string) int { return w.put(word(s)) }

// expr writes a tree by chance where an Expr may stand.
func (w *writer) expr(depth int) api.Node {
	if w.Intn(4) == 0 {
		return w.prim(depth)
	}
	return w.any(depth)
}

// prim writes one where a Prim may stand.
func (w *writer) prim(depth int) api.Node {
	if depth > 0 && w.Intn(3) > 0 {
		w.sign("(")
		n := w.any(depth - 1)
		w.sign(")")
		return n
	}
	switch w.Intn(8) {
	case 0:
		return api.Node{Kind: api.Null, At: w.word("null")}
	case 1:
		return api.Node{Kind: api.Bool, N: 1, At: w.word("true")}
	case 2:
		return api.Node{Kind: api.Bool, At: w.word("false")}
	case 3:
		n := w.Intn(1000)
		return api.Node{Kind: api.Int, N: n, At: w.put(whole(n))}
	case 4:
		n := w.Intn(100000)
		return api.Node{Kind: api.Dec, N: n, At: w.put(api.Token{Kind: api.TokenDec, N: n})}
	case 5:
		s := strings.Repeat("x'", w.Intn(3))
		return api.Node{Kind: api.Text, Text: s, At: w.put(api.Token{Kind: api.TokenText, Text: s})}
	case 6:
		at := w.put(name("t"))
		w.sign(".")
		w.put(name("b"))
		return api.Node{Kind: api.Col, Text: "b", At: at, Kids: []api.Node{{Kind: api.Name, Text: "t", At: at}}}
	}
	return api.Node{Kind: api.Col, Text: "a", At: w.put(name("a"))}
}

// pick answers one of the words or signs of s.
func (w *writer) pick(s string) string {
	l := strings.Fields(s)
	return l[w.Intn(len(l))]
}

// any writes a tree of any kind.
func (w *writer) any(depth int) api.Node {
	if depth <= 0 {
		return w.prim(0)
	}
	switch w.Intn(9) {
	case 0:
		return w.unary(depth)
	case 1:
		return w.binary(depth)
	case 2:
		return w.isNull(depth)
	case 3:
		return w.between(depth)
	case 4:
		return w.in(depth)
	case 5:
		return w.choice(depth)
	case 6:
		return w.call(depth)
	case 7:
		return w.agg(depth)
	}
	return w.prim(depth)
}

func (w *writer) unary(depth int) api.Node {
	if w.Intn(2) == 0 {
		at := w.sign("-")
		return api.Node{Kind: api.Unary, Text: "-", At: at, Kids: []api.Node{w.prim(depth - 1)}}
	}
	at := w.word("not")
	return api.Node{Kind: api.Unary, Text: "not", At: at, Kids: []api.Node{w.prim(depth - 1)}}
}

func (w *writer) binary(depth int) api.Node {
	left := w.prim(depth - 1)
	s := w.pick("+ - * / % = != < <= > >= and or")
	put := w.sign
	if s == "and" || s == "or" {
		put = w.word
	}
	at := put(s)
	return api.Node{Kind: api.Binary, Text: s, At: at, Kids: []api.Node{left, w.prim(depth - 1)}}
}

func (w *writer) isNull(depth int) api.Node {
	what := w.prim(depth - 1)
	n := api.Node{Kind: api.IsNull, At: w.word("is"), N: w.Intn(2), Kids: []api.Node{what}}
	if n.N == 1 {
		w.word("not")
	}
	w.word("null")
	return n
}

// denied writes a not ahead, or none, and answers what makes it a tree.
func (w *writer) denied() func(api.Node) api.Node {
	if w.Intn(2) == 0 {
		return func(n api.Node) api.Node { return n }
	}
	at := w.word("not")
	return func(n api.Node) api.Node {
		return api.Node{Kind: api.Unary, Text: "not", At: at, Kids: []api.Node{n}}
	}
}

func (w *writer) between(depth int) api.Node {
	what := w.prim(depth - 1)
	around := w.denied()
	at := w.word("between")
	low := w.prim(depth - 1)
	w.word("and")
	return around(api.Node{Kind: api.Between, At: at, Kids: []api.Node{what, low, w.prim(depth - 1)}})
}

// list writes expressions with a , between any two.
func (w *writer) list(least, depth int) []api.Node {
	var l []api.Node
	for i := range least + w.Intn(3) {
		if i > 0 {
			w.sign(",")
		}
		l = append(l, w.expr(depth-1))
	}
	return l
}

func (w *writer) in(depth int) api.Node {
	what := w.prim(depth - 1)
	around := w.denied()
	n := api.Node{Kind: api.In, At: w.word("in")}
	w.sign("(")
	n.Kids = append([]api.Node{what}, w.list(1, depth)...)
	w.sign(")")
	return around(n)
}

func (w *writer) call(depth int) api.Node {
	n := api.Node{Kind: api.Call, Text: "f", At: w.put(name("f"))}
	w.sign("(")
	n.Kids = w.list(0, depth)
	w.sign(")")
	return n
}

func (w *writer) agg(depth int) api.Node {
	n := api.Node{Kind: api.Agg, Text: w.pick("count sum avg min max first last"), N: w.Intn(2)}
	n.At = w.word(n.Text)
	w.sign("(")
	if n.Text == "count" && n.N == 0 && w.Intn(2) == 0 {
		w.sign("*")
	} else {
		if n.N == 1 {
			w.word("distinct")
		}
		n.Kids = []api.Node{w.expr(depth - 1)}
	}
	w.sign(")")
	return n
}

func (w *writer) choice(depth int) api.Node {
	n := api.Node{Kind: api.Case, At: w.word("case")}
	for range 1 + w.Intn(3) {
		w.word("when")
		n.Kids = append(n.Kids, w.expr(depth-1))
		w.word("then")
		n.Kids = append(n.Kids, w.expr(depth-1))
	}
	if w.Intn(2) == 0 {
		w.word("else")
		n.Kids = append(n.Kids, w.expr(depth-1))
		w.word("end")
		return n
	}
	n.Kids = append(n.Kids, api.Node{Kind: api.Null, At: w.word("end")})
	return n
}

// Promise 7.1: trees by chance, written as tokens, are read as they were, At, too.
func TestWrittenAndRead(t *testing.T) {
	for i := range 5000 {
		w := &writer{Rand: rand.New(rand.NewSource(int64(i)))}
		want := w.expr(1 + w.Intn(6))
		l := w.l
		if n, end, e := parse.Expr(l, 0); e != api.OK || end != len(l) || !equal(n, want) {
			t.Fatalf("Expr of %s: %s, %d, %d, want %s", brief(l), shape(n), end, e, shape(want))
		}
		ahead := append(tokens(t, "select f ( ("), l...)
		if n, end, e := parse.Expr(append(ahead, sign(";")), 4); e != api.OK || end != len(ahead) || !equal(n, want) {
			t.Fatalf("Expr of %s in the middle: %s, %d, %d, want %s", brief(l), shape(n), end, e, shape(want))
		}
	}
}

// Promise 7.2: what is read of a source has the form of an expression; blanks and notes change nothing but At.
func TestForms(t *testing.T) {
	c := newChance(72)
	for range 5000 {
		l := c.expr(c.Intn(100))
		s := lex.Show(l)
		n, end, e := parse.Expr(tokens(t, s), 0)
		if e != api.OK || tree.Form(n) != api.FormExpr {
			t.Fatalf("%q: %#v, %d, %d", s, n, end, e)
		}
		wide := strings.ReplaceAll(s, " ", " /* ( */\n-- )\n\t")
		if m, end2, e2 := parse.Expr(tokens(t, wide), 0); e2 != api.OK || end2 != end || !tree.Same(n, m) {
			t.Fatalf("%q: %#v, %d, %d", wide, m, end2, e2)
		}
	}
}

// Promise 7.2: brackets around an expression change nothing but At.
func TestBrackets(t *testing.T) {
	c := newChance(73)
	for range 3000 {
		l := numbered(c.expr(c.Intn(60)))
		n, end, e := parse.Expr(l, 0)
		if e != api.OK || end != len(l) {
			t.Fatalf("Expr of %s: %d, %d", brief(l), end, e)
		}
		for range 3 {
			l = slices.Concat([]api.Token{sign("(")}, l, []api.Token{sign(")")})
			if m, end, e := parse.Expr(l, 0); e != api.OK || end != len(l) || !equal(m, n) {
				t.Fatalf("Expr of %s: %#v, %d, %d, want %#v", brief(l), m, end, e, n)
			}
		}
		source := "(" + lex.Show(l) + ")"
		if m, end, e := parse.Expr(tokens(t, source), 0); e != api.OK || end != len(l)+2 || !tree.Same(m, n) {
			t.Fatalf("%q: %#v, %d, %d", source, m, end, e)
		}
	}
}

// Rule R4: tokens that are handed in stay as they were, behind the end of their list, too, and none of those is read.
func TestTokensStay(t *testing.T) {
	c := newChance(74)
	for range 3000 {
		whole := numbered(c.spoil(c.expr(c.Intn(40))))
		kept := slices.Clone(whole)
		end := c.Intn(len(whole) + 1)
		n, at, e := parse.Expr(whole[:end], 0)
		if !slices.Equal(whole, kept) {
			t.Fatalf("%s were %s", brief(whole), brief(kept))
		}
		m, at2, e2 := parse.Expr(slices.Clone(kept[:end]), 0)
		if at != at2 || e != e2 || !equal(n, m) {
			t.Fatalf("%s: %d, %d and %d, %d", brief(kept[:end]), at, e, at2, e2)
		}
	}
}

// Rule R4: an answer shares no memory with the tokens, with another answer, or between its own lists.
func TestAnswersAreNew(t *testing.T) {
	c := newChance(75)
	for range 2000 {
		l := numbered(c.expr(c.Intn(80)))
		n, _, _ := parse.Expr(l, 0)
		want := tree.Copy(n)
		m, _, _ := parse.Expr(l, 0)
		kept := slices.Clone(l)
		seen := map[*api.Node]int{}
		count(n, seen)
		for at, many := range seen {
			if many != 1 {
				t.Fatalf("%s: %#v stands in %d lists", brief(l), *at, many)
			}
		}
		for at := range seen {
			*at = api.Node{Kind: -1, Text: "changed", N: -1, At: -1}
		}
		if !equal(m, want) || !slices.Equal(l, kept) {
			t.Fatalf("%s: %#v is changed with another answer", brief(l), m)
		}
		for i := range l {
			l[i] = api.Token{Kind: -1, Text: "changed", N: -1, At: -1}
		}
		if !equal(m, want) {
			t.Fatalf("%s: %#v is changed with the tokens", brief(kept), m)
		}
	}
}

// count tells how many lists each piece of memory stands in, what lies behind the lists' ends, too.
func count(n api.Node, seen map[*api.Node]int) {
	l := n.Kids[:cap(n.Kids)]
	for i := range l {
		seen[&l[i]]++
	}
	for _, k := range n.Kids {
		count(k, seen)
	}
}

// Rule R5: the same is answered over again, whatever was asked between.
func TestTwice(t *testing.T) {
	c := newChance(76)
	for range 2000 {
		l := numbered(c.spoil(c.expr(c.Intn(60))))
		at := c.Intn(len(l)+3) - 1
		n, end, e := parse.Expr(l, at)
		parse.Expr(tokens(t, strings.Repeat("(", 200)), 0)
		parse.Expr(nil, 0)
		if m, end2, e2 := parse.Expr(l, at); end != end2 || e != e2 || !equal(n, m) {
			t.Fatalf("%s at %d: %d, %d and %d, %d", brief(l), at, end, e, end2, e2)
		}
	}
}
