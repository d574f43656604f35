package machine_test

import (
	"slices"

	"marquee/api"
	"marquee/arith"
	"marquee/code"
	"marquee/funcs"
	"marquee/types"
	"marquee/value"
)

// The chapter a second time: a program as what each place makes of all that is laid ahead of it; and an expression by its tree, without a program.

// made is a value, or the error that ends it.
type made struct {
	value api.Value
	err   api.Errno
}

// pile is a stack that is never changed: the top, and the pile below it.
type pile struct {
	top   api.Value
	below *pile
}

// model is a program with what it is over.
type model struct {
	ops       []api.Op
	row, aggs []api.Value
}

func modelRun(ops []api.Op, row, aggs []api.Value) (api.Value, api.Errno) {
	if code.Check(ops, len(row), len(aggs)) != api.OK {
		return null, api.ErrCode
	}
	m := model{ops, row, aggs}.from(0, nil)
	return m.value, m.err
}

// from is what the program makes from a place on.
func (m model) from(place int, p *pile) made {
	if place == len(m.ops) {
		return made{value: p.top}
	}
	op := m.ops[place]
	laid := func(v api.Value, err api.Errno, below *pile) made {
		if err != api.OK {
			return made{err: err}
		}
		return m.from(place+1, &pile{v, below})
	}
	switch op.Kind {
	case api.OpPush:
		return laid(op.Value, kindError(op.Value), p)
	case api.OpField:
		return laid(m.row[op.N], kindError(m.row[op.N]), p)
	case api.OpAgg:
		return laid(m.aggs[op.N], kindError(m.aggs[op.N]), p)
	case api.OpJump:
		return m.from(op.N, p)
	case api.OpUnless:
		if p.top == yes {
			return m.from(place+1, p.below)
		}
		return m.from(op.N, p.below)
	case api.OpCall:
		var args []api.Value
		for range op.N {
			args = append([]api.Value{p.top}, args...)
			p = p.below
		}
		v, err := funcs.Call(op.Text, args)
		return laid(v, err, p)
	case api.OpBinary:
		x := signs()[op.Text](p.below.top, p.top)
		return laid(x.value, x.err, p.below.below)
	}
	x := ones()[[2]any{op.Kind, oneOf(op)}](p.top)
	return laid(x.value, x.err, p.below)
}

func kindError(v api.Value) api.Errno {
	if value.Check(v) != api.OK {
		return api.ErrKind
	}
	return api.OK
}

// oneOf is what an instruction of one value names.
func oneOf(op api.Op) any {
	switch op.Kind {
	case api.OpUnary:
		return op.Text
	case api.OpIsNull:
		return op.N
	}
	return nil
}

func isTrue(is bool) made { return made{value: map[bool]api.Value{true: yes, false: no}[is]} }

func ones() map[[2]any]func(a api.Value) made {
	return map[[2]any]func(a api.Value) made{
		{api.OpUnary, "-"}:   func(a api.Value) made { return both(arith.Neg(a)) },
		{api.OpUnary, "not"}: func(a api.Value) made { return made{value: value.Not(a)} },
		{api.OpIsNull, 0}:    func(a api.Value) made { return isTrue(a.Kind == api.KindNull) },
		{api.OpIsNull, 1}:    func(a api.Value) made { return isTrue(a.Kind != api.KindNull) },
		{api.OpDec, nil}:     func(a api.Value) made { return both(arith.Dec(a)) },
	}
}

func both(v api.Value, err api.Errno) made { return made{v, err} }

// signs are the operators of two. A comparison holds of some of what Compare says.
func signs() map[string]func(a, b api.Value) made {
	of := func(f func(a, b api.Value) (api.Value, api.Errno)) func(a, b api.Value) made {
		return func(a, b api.Value) made { return both(f(a, b)) }
	}
	sure := func(f func(a, b api.Value) api.Value) func(a, b api.Value) made {
		return func(a, b api.Value) made { return made{value: f(a, b)} }
	}
	holds := func(of ...int) func(a, b api.Value) made {
		return func(a, b api.Value) made {
			c, ok := value.Compare(a, b)
			if !ok {
				return made{}
			}
			return isTrue(slices.Contains(of, c))
		}
	}
	return map[string]func(a, b api.Value) made{
		"+": of(arith.Add), "-": of(arith.Sub), "*": of(arith.Mul), "/": of(arith.Div), "%": of(arith.Mod),
		"and": sure(value.And), "or": sure(value.Or), "=": sure(value.Equal),
		"!=": sure(func(a, b api.Value) api.Value { return value.Not(value.Equal(a, b)) }),
		"<":  holds(-1), "<=": holds(-1, 0), ">": holds(1), ">=": holds(0, 1),
	}
}

// world is what expressions have values over: a row of fields, and the value of each aggregate.
type world struct {
	fields []api.Field
	row    []api.Value
	aggs   map[string]api.Value // by print.Expr
	key    func(n api.Node) string
}

// of is the value of a tree: what it is made of from the left on, up to the first error; of a case no more than is asked for.
func (w world) of(n api.Node) made {
	switch n.Kind {
	case api.Null, api.Bool, api.Int, api.Dec, api.Text:
		return made{value: api.Value{Kind: n.Kind - api.Null, N: n.N, Text: n.Text}}
	case api.Col:
		return made{value: w.column(n)}
	case api.Agg:
		return made{value: w.aggs[w.key(n)]}
	case api.Case:
		return w.choice(n)
	}
	var l []api.Value
	for _, k := range n.Kids {
		x := w.of(k)
		if x.err != api.OK {
			return x
		}
		l = append(l, x.value)
	}
	switch n.Kind {
	case api.Call:
		return both(funcs.Call(n.Text, l))
	case api.Unary:
		return ones()[[2]any{api.OpUnary, n.Text}](l[0])
	case api.IsNull:
		return ones()[[2]any{api.OpIsNull, n.N}](l[0])
	case api.Between:
		return made{value: value.And(signs()[">="](l[0], l[1]).value, signs()["<="](l[0], l[2]).value)}
	case api.In:
		any := no
		for _, v := range l[1:] {
			any = value.Or(any, value.Equal(l[0], v))
		}
		return made{value: any}
	}
	return signs()[n.Text](l[0], l[1])
}

func (w world) kind(n api.Node) int {
	kind, _, _ := types.Expr(n, w.fields, true)
	return kind
}

func (w world) column(n api.Node) api.Value {
	return w.row[slices.IndexFunc(w.fields, func(f api.Field) bool {
		return f.Column == n.Text && (len(n.Kids) == 0 || n.Kids[0].Text == f.Stream)
	})]
}

// choice: a value that is an int is taken as a dec, if the type of the whole is that.
func (w world) choice(n api.Node) made {
	chosen := n.Kids[len(n.Kids)-1]
	for i := 0; i+1 < len(n.Kids); i += 2 {
		x := w.of(n.Kids[i])
		if x.err != api.OK {
			return x
		}
		if x.value == yes {
			chosen = n.Kids[i+1]
			break
		}
	}
	x := w.of(chosen)
	if x.err == api.OK && w.kind(n) == api.KindDec && w.kind(chosen) == api.KindInt {
		return both(arith.Dec(x.value))
	}
	return x
}

// mixes tells whether n has a coalesce of ints and decs. Where its decs are null, chapter 10 answers an int as it is, since a null says no kind.
func (w world) mixes(n api.Node) bool {
	if n.Kind == api.Call && n.Text == "coalesce" {
		kinds := map[int]int{}
		for _, k := range n.Kids {
			kinds[w.kind(k)]++
		}
		if kinds[api.KindInt] > 0 && kinds[api.KindDec] > 0 {
			return true
		}
	}
	return slices.ContainsFunc(n.Kids, w.mixes)
}
