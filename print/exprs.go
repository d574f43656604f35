package print

import (
	"marquee/api"
	"marquee/value"
)

// The ranks of expressions: the greater, the closer their parts hold together.
const (
	rankOr    = 1
	rankAnd   = 2
	rankNot   = 3
	rankTest  = 4
	rankSum   = 5
	rankProd  = 6
	rankMinus = 7
	rankPrim  = 8
)

func exprRank(n api.Node) int {
	switch n.Kind {
	case api.Unary:
		if n.Text == "not" {
			return rankNot
		}
		return rankMinus
	case api.Binary:
		return signRank(n.Text)
	case api.IsNull, api.Between, api.In:
		return rankTest
	}
	return rankPrim
}

func signRank(sign string) int {
	switch sign {
	case "or":
		return rankOr
	case "and":
		return rankAnd
	case "+", "-":
		return rankSum
	case "*", "/", "%":
		return rankProd
	}
	return rankTest
}

func (w *writer) operand(n api.Node, least int) {
	w.ranked(n, w.expr, exprRank(n), least)
}

// expr writes an expression where a place asks for no rank.
func (w *writer) expr(n api.Node) {
	switch n.Kind {
	case api.Col:
		w.col(n)
	case api.Unary:
		w.unary(n)
	case api.Binary:
		w.binary(n)
	case api.IsNull:
		w.isNull(n)
	case api.Between:
		w.between(n)
	case api.In:
		w.in(n)
	case api.Case:
		w.choices(n)
	case api.Call:
		w.call(n.Text, n.Kids)
	case api.Agg:
		w.agg(n)
	default:
		w.put(plain(value.Show(valueOf(n))))
	}
}

func valueOf(n api.Node) api.Value {
	switch n.Kind {
	case api.Bool:
		return api.Value{Kind: api.KindBool, N: n.N}
	case api.Int:
		return api.Value{Kind: api.KindInt, N: n.N}
	case api.Dec:
		return api.Value{Kind: api.KindDec, N: n.N}
	case api.Text:
		return api.Value{Kind: api.KindText, Text: n.Text}
	}
	return api.Value{}
}

func (w *writer) col(n api.Node) {
	for _, of := range n.Kids {
		w.words(of.Text)
		w.put(joint("."))
	}
	w.words(n.Text)
}

func (w *writer) unary(n api.Node) {
	if n.Text == "not" {
		w.words("not")
	} else {
		w.put(minus("-"))
	}
	w.operand(n.Kids[0], exprRank(n))
}

// binary: lines are read from the left on, but of comparisons there are no lines.
func (w *writer) binary(n api.Node) {
	rank := signRank(n.Text)
	left := rank
	if rank == rankTest {
		left = rankSum
	}
	w.operand(n.Kids[0], left)
	w.words(n.Text)
	w.operand(n.Kids[1], rank+1)
}

func (w *writer) isNull(n api.Node) {
	w.operand(n.Kids[0], rankSum)
	w.words("is")
	if n.N == 1 {
		w.words("not")
	}
	w.words("null")
}

func (w *writer) between(n api.Node) {
	w.operand(n.Kids[0], rankSum)
	w.words("between")
	w.operand(n.Kids[1], rankSum)
	w.words("and")
	w.operand(n.Kids[2], rankSum)
}

func (w *writer) in(n api.Node) {
	w.operand(n.Kids[0], rankSum)
	w.words("in")
	w.within(opening("("), func() { w.list(n.Kids[1:], w.expr) }, ")")
}

// choices writes a Case, whose last kid is the else.
func (w *writer) choices(n api.Node) {
	last := len(n.Kids) - 1
	w.words("case")
	for i := 0; i < last; i += 2 {
		w.words("when")
		w.expr(n.Kids[i])
		w.words("then")
		w.expr(n.Kids[i+1])
	}
	w.words("else")
	w.expr(n.Kids[last])
	w.words("end")
}

func (w *writer) call(name string, arguments []api.Node) {
	w.words(name)
	w.within(joint("("), func() { w.list(arguments, w.expr) }, ")")
}

func (w *writer) agg(n api.Node) {
	w.words(n.Text)
	w.within(joint("("), func() { w.aggregated(n) }, ")")
}

// aggregated writes what is counted: without kids all rows are.
func (w *writer) aggregated(n api.Node) {
	if len(n.Kids) == 0 {
		w.words("*")
	}
	if n.N == 1 {
		w.words("distinct")
	}
	w.list(n.Kids, w.expr)
}
