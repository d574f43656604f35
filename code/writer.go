package code

import (
	"slices"

	"marquee/api"
	"marquee/tree"
	"marquee/types"
)

// fewest answers how many instructions a program of n has at the least: one for each tree, but for names and what stands within an aggregate.
func fewest(n api.Node) int {
	count := 1
	if n.Kind == api.Col || n.Kind == api.Agg {
		return count
	}
	for _, k := range n.Kids {
		count += fewest(k)
	}
	return count
}

// writer writes the program of a tree that is well typed over fields, one instruction behind the other.
type writer struct {
	fields []api.Field
	aggs   []api.Node
	ops    []api.Op
}

// write writes the instructions of n, unless there are too many already: what stands within betweens is written twice by each of them.
func (w *writer) write(n api.Node) {
	if len(w.ops) > api.MaxProgram {
		return
	}
	switch n.Kind {
	case api.Col:
		w.add(api.Op{Kind: api.OpField, N: w.place(n)})
	case api.Agg:
		w.add(api.Op{Kind: api.OpAgg, N: w.aggregate(n)})
	case api.Unary:
		w.over(api.Op{Kind: api.OpUnary, Text: n.Text}, n.Kids...)
	case api.Binary:
		w.binary(n.Text, n.Kids...)
	case api.IsNull:
		w.over(api.Op{Kind: api.OpIsNull, N: n.N}, n.Kids...)
	case api.Call:
		w.over(api.Op{Kind: api.OpCall, Text: n.Text, N: len(n.Kids)}, n.Kids...)
	case api.Between:
		w.between(n.Kids[0], n.Kids[1], n.Kids[2])
	case api.In:
		w.in(n.Kids[0], n.Kids[1:])
	case api.Case:
		w.choice(n)
	default:
		w.add(api.Op{Kind: api.OpPush, Value: api.Value{Kind: w.kind(n), N: n.N, Text: n.Text}})
	}
}

// add writes one instruction, and answers its place.
func (w *writer) add(op api.Op) int {
	w.ops = append(w.ops, op)
	return len(w.ops) - 1
}

// over writes the operands, then what is done to them.
func (w *writer) over(op api.Op, operands ...api.Node) {
	for _, k := range operands {
		w.write(k)
	}
	w.add(op)
}

func (w *writer) binary(sign string, operands ...api.Node) {
	w.over(api.Op{Kind: api.OpBinary, Text: sign}, operands...)
}

func (w *writer) between(a, least, most api.Node) {
	w.binary(">=", a, least)
	w.binary("<=", a, most)
	w.binary("and")
}

func (w *writer) in(a api.Node, others []api.Node) {
	for i, k := range others {
		w.binary("=", a, k)
		if i > 0 {
			w.binary("or")
		}
	}
}

// choice writes a case. Where its jumps go to is set when that place is come to.
func (w *writer) choice(n api.Node) {
	isDec := w.kind(n) == api.KindDec
	last := len(n.Kids) - 1
	var jumps []int
	for i := 0; i < last; i += 2 {
		w.write(n.Kids[i])
		unless := w.add(api.Op{Kind: api.OpUnless})
		w.value(n.Kids[i+1], isDec)
		jumps = append(jumps, w.add(api.Op{Kind: api.OpJump}))
		w.landHere(unless)
	}
	w.value(n.Kids[last], isDec)
	w.landHere(jumps...)
}

// value writes a value of a case, which is a dec where the case is one.
func (w *writer) value(n api.Node, isDec bool) {
	w.write(n)
	if isDec && w.kind(n) == api.KindInt {
		w.add(api.Op{Kind: api.OpDec})
	}
}

// landHere lets the jumps at these places go to what is written next.
func (w *writer) landHere(jumps ...int) {
	for _, j := range jumps {
		w.ops[j].N = len(w.ops)
	}
}

func (w *writer) kind(n api.Node) int {
	kind, _, _ := types.Expr(n, w.fields, true)
	return kind
}

func (w *writer) place(n api.Node) int {
	stream := ""
	for _, name := range n.Kids {
		stream = name.Text
	}
	place, _ := types.Resolve(w.fields, stream, n.Text)
	return place
}

// aggregate answers -1 of an aggregate that is not there, as no program may name it.
func (w *writer) aggregate(n api.Node) int {
	return slices.IndexFunc(w.aggs, func(k api.Node) bool { return tree.Same(k, n) })
}
