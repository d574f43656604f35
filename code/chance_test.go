package code_test

import (
	"math"
	"math/rand"
	"strings"

	"marquee/api"
)

// chance makes trees over fields, and programs, by chance; most of them may be.
type chance struct {
	*rand.Rand
	slip int // one of so many places has a tree of any kind; 0: none
}

func newChance(seed int64) *chance {
	return &chance{Rand: rand.New(rand.NewSource(seed))}
}

func (c *chance) pick(words string) string {
	l := strings.Fields(words)
	return l[c.Intn(len(l))]
}

func (c *chance) kind() int { return 1 + c.Intn(4) }

func (c *chance) number() int { return api.KindInt + c.Intn(2) }

// expr makes a tree that may be of a kind.
func (c *chance) expr(kind, depth int) api.Node {
	if c.slip > 0 && c.Intn(c.slip) == 0 {
		return c.stranger()
	}
	if depth <= 0 || c.Intn(6) == 0 {
		return c.leaf(kind)
	}
	depth--
	switch c.Intn(7) {
	case 0, 1:
		return c.choice(kind, depth)
	case 2:
		return c.called(kind, depth)
	case 3:
		return c.aggregate(kind)
	}
	switch kind {
	case api.KindBool:
		return c.truth(depth)
	case api.KindText:
		return call("concat", c.expr(kind, depth), c.expr(kind, depth))
	}
	if c.Intn(4) == 0 {
		return unary("-", c.expr(kind, depth))
	}
	return binary(c.pick("+ - * / %"), c.expr(kind, depth), c.expr(api.KindInt, depth))
}

// stranger makes what most often may not stand there.
func (c *chance) stranger() api.Node {
	switch c.Intn(5) {
	case 0:
		return col(c.pick("nope a o z"))
	case 1:
		return colOf(c.pick("t u v"), c.pick("a b i o"))
	case 2:
		return call(c.pick("nope abs"))
	case 3:
		return agg("sum", agg("count"))
	}
	return c.leaf(c.Intn(5))
}

func (c *chance) leaf(kind int) api.Node {
	if c.Intn(8) == 0 || kind == api.KindNull {
		return null()
	}
	l := [][]api.Node{
		api.KindBool: {truth(c.Intn(2)), col("b"), colOf("t", "b")},
		api.KindInt:  {whole(c.Intn(9)), col("i"), colOf("u", "j"), colOf("t", "a")},
		api.KindDec:  {dec(c.Intn(30000)), col("d"), colOf("t", "d")},
		api.KindText: {text(c.pick("a B '' é")), col("x"), colOf("u", "a"), col("y")},
	}[kind]
	return l[c.Intn(len(l))]
}

func (c *chance) choice(kind, depth int) api.Node {
	n := choice()
	for range 1 + c.Intn(3) {
		n.Kids = append(n.Kids, c.expr(api.KindBool, depth), c.value(kind, depth))
	}
	n.Kids = append(n.Kids, c.value(kind, depth))
	return n
}

// value is one of a kind, or an int among decs.
func (c *chance) value(kind, depth int) api.Node {
	if kind == api.KindDec && c.Intn(2) == 0 {
		kind = api.KindInt
	}
	return c.expr(kind, depth)
}

func (c *chance) called(kind, depth int) api.Node {
	if c.Intn(3) == 0 {
		switch kind {
		case api.KindInt:
			return call(c.pick("round toint sign"), c.expr(c.number(), depth))
		case api.KindDec:
			return call("todec", c.expr(c.number(), depth))
		case api.KindText:
			return call("totext", c.expr(c.kind(), depth))
		}
	}
	return call(c.pick("coalesce greatest least nullif"), c.expr(kind, depth), c.expr(kind, depth))
}

// aggregate is one of few, so that some come again.
func (c *chance) aggregate(kind int) api.Node {
	n := node(api.Agg, c.pick("min max"), c.Intn(2), c.leaf(kind))
	switch {
	case kind == api.KindInt && c.Intn(3) == 0:
		n.Text = "count"
	case kind == api.KindInt && c.Intn(3) == 0:
		return agg("count")
	case kind == api.KindDec && c.Intn(3) == 0:
		n.Text = "avg"
	}
	for n.Kids[0].Kind == api.Null {
		n.Kids[0] = c.leaf(kind)
	}
	return n
}

// truth makes an expression of KindBool.
func (c *chance) truth(depth int) api.Node {
	kind := c.kind()
	e := func(kind int) api.Node {
		if kind == api.KindInt || kind == api.KindDec {
			kind = c.number()
		}
		return c.expr(kind, depth)
	}
	switch c.Intn(6) {
	case 0:
		return unary("not", e(api.KindBool))
	case 1:
		return binary(c.pick("and or"), e(api.KindBool), e(api.KindBool))
	case 2:
		return node(api.IsNull, "", c.Intn(2), e(kind))
	case 3:
		return between(e(kind), e(kind), e(kind))
	case 4:
		n := in(e(kind), e(kind))
		for range c.Intn(3) {
			n.Kids = append(n.Kids, e(kind))
		}
		return n
	}
	return binary(c.pick("= != < <= > >="), e(kind), e(kind))
}

// plain makes an expression without a between, an in or a case.
func (c *chance) plain(kind, depth int) api.Node {
	if depth <= 0 || c.Intn(6) == 0 {
		if c.Intn(4) == 0 {
			return c.aggregate(kind)
		}
		return c.leaf(kind)
	}
	depth--
	switch {
	case c.Intn(4) == 0:
		return call(c.pick("coalesce greatest least"), c.plain(kind, depth), c.plain(kind, depth), c.plain(kind, depth))
	case kind == api.KindText:
		return call("concat", c.plain(kind, depth))
	case kind != api.KindBool:
		return binary(c.pick("+ - * / %"), c.plain(kind, depth), unary("-", c.plain(kind, depth)))
	}
	switch c.Intn(3) {
	case 0:
		return binary(c.pick("and or"), unary("not", c.plain(kind, depth)), c.plain(kind, depth))
	case 1:
		return node(api.IsNull, "", c.Intn(2), c.plain(c.kind(), depth))
	}
	kind = c.kind()
	return binary(c.pick("= != < <= > >="), c.plain(kind, depth), c.plain(kind, depth))
}

// aggs are some of l, in another order, some of them twice, and others between them.
func (c *chance) aggs(l []api.Node, lacking bool) []api.Node {
	var all []api.Node
	for _, n := range l {
		if lacking && c.Intn(4) == 0 {
			continue
		}
		all = append(all, n)
		for c.Intn(4) == 0 {
			all = append(all, n)
		}
	}
	for c.Intn(2) == 0 {
		all = append(all, c.aggregate(c.kind()))
	}
	c.Shuffle(len(all), func(i, j int) { all[i], all[j] = all[j], all[i] })
	return all
}

// op makes an instruction that stands at a place; most often what it names may be.
func (c *chance) op(place, many int) api.Op {
	op := api.Op{Kind: 1 + c.Intn(10)}
	switch op.Kind {
	case api.OpField, api.OpAgg, api.OpIsNull:
		op.N = c.Intn(2)
	case api.OpUnary:
		op.Text = c.pick("- not")
	case api.OpBinary:
		op.Text = c.pick("+ - * / % = != < <= > >= and or")
	case api.OpCall:
		op.N = c.Intn(4)
	case api.OpJump, api.OpUnless:
		op.N = place + 1 + c.Intn(max(many-place, 1))
	}
	if c.Intn(12) == 0 {
		return c.odd(op, many)
	}
	return op
}

// odd makes another instruction of one, which most often may not be.
func (c *chance) odd(op api.Op, many int) api.Op {
	numbers := []int{math.MinInt, -1, 0, 1, 2, 3, many - 1, many, many + 1, api.MaxStack, api.MaxStack + 1, math.MaxInt - 1, math.MaxInt}
	switch c.Intn(4) {
	case 0:
		op.Kind = c.Intn(13) - 1
	case 1:
		op.Text = c.pick("- not + and or xor & <> abs")
	case 2:
		op.Value = api.Value{Kind: c.Intn(7) - 1, N: c.Intn(5)}
	default:
		op.N = numbers[c.Intn(len(numbers))]
	}
	return op
}

// program makes a program of few instructions, which keeps in mind how high the stack is where it goes straight on.
func (c *chance) program() []api.Op {
	many := 1 + c.Intn(9)
	l := make([]api.Op, 0, many)
	height := 0
	for i := range many {
		op := c.op(i, many)
		for range 4 {
			asks, leaves := asksAndLeaves(op)
			if height >= asks && (i < many-1 || height-asks+leaves == 1) {
				height += leaves - asks
				break
			}
			op = c.op(i, many)
		}
		l = append(l, op)
	}
	return l
}

// changed is a program with one place changed: another instruction, one more, one less, two in the other order.
func (c *chance) changed(ops []api.Op) []api.Op {
	l := append([]api.Op{}, ops...)
	i := c.Intn(len(l))
	switch c.Intn(5) {
	case 0:
		return append(l[:i], l[i+1:]...)
	case 1:
		return append(l[:i], append([]api.Op{c.op(i, len(ops))}, ops[i:]...)...)
	case 2:
		l[i] = c.op(i, len(l))
	case 3:
		j := c.Intn(len(l))
		l[i], l[j] = l[j], l[i]
	default:
		l[i] = c.odd(l[i], len(l))
	}
	return l
}
