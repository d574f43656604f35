package machine_test

import (
	"math/rand"
	"slices"
	"strings"

	"marquee/api"
)

// chance makes expressions, programs and values by chance.
type chance struct{ *rand.Rand }

func newChance(seed int64) chance { return chance{rand.New(rand.NewSource(seed))} }

func (c chance) pick(words string) string {
	l := strings.Fields(words)
	return l[c.Intn(len(l))]
}

func (c chance) number() int { return api.KindInt + c.Intn(2) }

// kind is any, most often that of a number.
func (c chance) kind() int {
	if c.Intn(2) == 0 {
		return c.number()
	}
	return c.Intn(5)
}

// value is one of a kind, seldom one of the farthest; null now and then.
func (c chance) value(kind int) api.Value {
	v := api.Value{Kind: kind}
	switch kind {
	case api.KindBool:
		v.N = c.Intn(2)
	case api.KindInt:
		v.N = c.Intn(9) - 3
	case api.KindDec:
		v.N = (c.Intn(9) - 3) * []int{1, 2500, 5000, api.Scale}[c.Intn(4)]
	case api.KindText:
		v.Text = c.pick("a b ab A é it's 1")
	}
	if (kind == api.KindInt || kind == api.KindDec) && c.Intn(30) == 0 {
		v.N = []int{leastInt, leastInt + 1, leastInt/api.Scale - 1, greatestInt/api.Scale + 1, greatestInt}[c.Intn(5)]
	}
	if c.Intn(7) == 0 {
		return null
	}
	return v
}

// fields are those of two streams, both of which have an a.
func fields() []api.Field {
	return []api.Field{
		{Stream: "t", Column: "b", Kind: api.KindBool}, {Stream: "t", Column: "i", Kind: api.KindInt}, {Stream: "t", Column: "d", Kind: api.KindDec}, {Stream: "t", Column: "x", Kind: api.KindText},
		{Stream: "t", Column: "a", Kind: api.KindInt}, {Stream: "u", Column: "a", Kind: api.KindText}, {Stream: "u", Column: "j", Kind: api.KindInt}, {Stream: "u", Column: "e", Kind: api.KindDec}, {Stream: "u", Column: "c", Kind: api.KindBool},
	}
}

// row is one that fits the fields.
func (c chance) row() []api.Value {
	var l []api.Value
	for _, f := range fields() {
		l = append(l, c.value(f.Kind))
	}
	return l
}

func node(kind int, text string, n int, kids ...api.Node) api.Node {
	return api.Node{Kind: kind, Text: text, N: n, Kids: kids}
}

func col(s string) api.Node {
	if stream, column, ok := strings.Cut(s, "."); ok {
		return node(api.Col, column, 0, node(api.Name, stream, 0))
	}
	return node(api.Col, s, 0)
}

// expr makes an expression of a kind: what is typed as an int may stand for a dec.
func (c chance) expr(kind, depth int) api.Node {
	if kind == api.KindDec && c.Intn(4) == 0 {
		kind = api.KindInt
	}
	if depth <= 0 || c.Intn(5) == 0 {
		return c.leaf(kind)
	}
	depth--
	switch c.Intn(5) {
	case 0:
		n := node(api.Case, "", 0)
		for range 1 + c.Intn(2) {
			n.Kids = append(n.Kids, c.truth(depth), c.expr(kind, depth))
		}
		n.Kids = append(n.Kids, c.expr(kind, depth))
		return n
	case 1:
		return node(api.Call, c.pick("coalesce greatest least nullif"), 0, c.expr(kind, depth), c.expr(kind, depth))
	}
	switch kind {
	case api.KindBool:
		return c.truth(depth)
	case api.KindText:
		return c.word(depth)
	}
	return c.sum(kind, depth)
}

func (c chance) leaf(kind int) api.Node {
	if c.Intn(8) == 0 {
		return node(api.Null, "", 0)
	}
	if c.Intn(4) == 0 {
		return c.aggregate(kind)
	}
	v := c.value(kind)
	columns := []string{api.KindBool: "b c t.b", api.KindInt: "i j t.a", api.KindDec: "d e u.e", api.KindText: "x u.a"}[kind]
	if c.Intn(2) == 0 || v.N < 0 {
		return col(c.pick(columns))
	}
	return node(api.Null+v.Kind, v.Text, v.N)
}

// aggregate is one of few, so that some come again.
func (c chance) aggregate(kind int) api.Node {
	columns := []string{api.KindBool: "b c", api.KindInt: "i j", api.KindDec: "d e", api.KindText: "x"}[kind]
	n := node(api.Agg, c.pick("min max first last"), c.Intn(2), col(c.pick(columns)))
	switch {
	case kind == api.KindInt && c.Intn(3) == 0:
		return node(api.Agg, "count", 0)
	case kind == api.KindInt && c.Intn(2) == 0:
		n.Text = "sum"
	case kind == api.KindDec && c.Intn(2) == 0:
		n.Text = "avg"
	}
	return n
}

func (c chance) truth(depth int) api.Node {
	kind := 1 + c.Intn(4)
	e := func() api.Node { return c.expr(kind, depth) }
	switch c.Intn(7) {
	case 0:
		return node(api.Unary, "not", 0, c.expr(api.KindBool, depth))
	case 1, 2:
		return node(api.Binary, c.pick("and or"), 0, c.expr(api.KindBool, depth), c.expr(api.KindBool, depth))
	case 3:
		return node(api.IsNull, "", c.Intn(2), e())
	case 4:
		return node(api.Between, "", 0, e(), e(), e())
	case 5:
		n := node(api.In, "", 0, e(), e())
		for range c.Intn(3) {
			n.Kids = append(n.Kids, e())
		}
		return n
	}
	return node(api.Binary, c.pick("= != < <= > >="), 0, e(), e())
}

func (c chance) word(depth int) api.Node {
	e := func(kind int) api.Node { return c.expr(kind, depth) }
	switch c.Intn(4) {
	case 0:
		return node(api.Call, "substr", 0, e(api.KindText), e(api.KindInt), e(api.KindInt))
	case 1:
		return node(api.Call, "totext", 0, e(1+c.Intn(4)))
	case 2:
		return node(api.Call, c.pick("lower upper trim"), 0, e(api.KindText))
	}
	return node(api.Call, "concat", 0, e(api.KindText), e(api.KindText))
}

func (c chance) sum(kind, depth int) api.Node {
	e := func(kind int) api.Node { return c.expr(kind, depth) }
	switch c.Intn(6) {
	case 0:
		return node(api.Unary, "-", 0, e(kind))
	case 1:
		return node(api.Call, "abs", 0, e(kind))
	case 2:
		if kind == api.KindDec {
			return node(api.Call, "todec", 0, e(c.number()))
		}
		return node(api.Call, c.pick("round floor ceil toint sign"), 0, e(c.number()))
	}
	return node(api.Binary, c.pick("+ - * / %"), 0, e(kind), e(kind))
}

// joined is parts one behind the other: where a part jumps to is told from its own beginning on.
func joined(parts ...[]api.Op) []api.Op {
	var all []api.Op
	for _, part := range parts {
		ahead := len(all)
		for _, op := range part {
			if op.Kind == api.OpJump || op.Kind == api.OpUnless {
				op.N += ahead
			}
			all = append(all, op)
		}
	}
	return all
}

// brought lays one value of any kind, seldom one that may not be.
func (c chance) brought() []api.Op {
	op := api.Op{Kind: []int{api.OpPush, api.OpField, api.OpAgg}[c.Intn(3)], N: c.Intn(8)}
	if op.Kind == api.OpPush {
		op.Value = c.value(c.kind())
	}
	if c.Intn(100) == 0 {
		return []api.Op{{Kind: api.OpPush, Value: badValues()[c.Intn(len(badValues()))]}}
	}
	return []api.Op{op}
}

// block makes a program, untyped: what its pieces make may be of another kind than what is made of them takes.
func (c chance) block(depth int) []api.Op {
	if depth <= 0 || c.Intn(6) == 0 {
		return c.brought()
	}
	depth--
	b := func() []api.Op { return c.block(depth) }
	one := func(kind, n int, text string) []api.Op { return []api.Op{{Kind: kind, N: n, Text: text}} }
	switch c.Intn(10) {
	case 0:
		return joined(b(), one(api.OpUnary, 0, c.pick("- not")))
	case 1:
		return joined(b(), one(api.OpIsNull, c.Intn(2), ""))
	case 2:
		return joined(b(), one(api.OpDec, 0, ""))
	case 3:
		many := c.Intn(4)
		var args []api.Op
		for range many {
			args = append(args, c.brought()...)
		}
		return append(args, one(api.OpCall, many, c.pick("coalesce greatest least concat nullif totext round nope"))...)
	case 4:
		return joined(b(), one(api.OpJump, 1, ""))
	case 5:
		// What is laid upon is taken away again.
		return joined(b(), c.condition(depth), one(api.OpUnless, 1, ""))
	case 6, 7:
		then, other := b(), b()
		ahead := joined(c.condition(depth), one(api.OpUnless, len(then)+2, ""), then, one(api.OpJump, len(other)+1, ""))
		return joined(ahead, other)
	}
	return joined(b(), b(), one(api.OpBinary, 0, c.pick("+ - * / % = != < <= > >= and or")))
}

// condition makes a truth, most often.
func (c chance) condition(depth int) []api.Op {
	switch c.Intn(3) {
	case 0:
		return []api.Op{{Kind: api.OpPush, Value: c.value(api.KindBool)}}
	case 1:
		return joined(c.block(depth), []api.Op{{Kind: api.OpIsNull, N: c.Intn(2)}})
	}
	return joined(c.brought(), c.brought(), []api.Op{{Kind: api.OpBinary, Text: c.pick("= != < <= > >=")}})
}

// values are such as a row and aggregates may have, seldom one that may not be.
func (c chance) values(many int) []api.Value {
	var l []api.Value
	for range many {
		v := c.value(c.kind())
		if c.Intn(40) == 0 {
			v = badValues()[c.Intn(len(badValues()))]
		}
		l = append(l, v)
	}
	return l
}

// changed is a program with one place changed.
func (c chance) changed(ops []api.Op) []api.Op {
	l := slices.Clone(ops)
	i := c.Intn(len(l))
	switch c.Intn(4) {
	case 0:
		return slices.Delete(l, i, i+1)
	case 1:
		return slices.Insert(l, i, c.brought()...)
	case 2:
		l[i].N += c.Intn(5) - 2
	default:
		l[i].Text = c.pick("- + and not abs <")
	}
	return l
}
