package types_test

import (
	"slices"
	"testing"

	"marquee/api"
	"marquee/arith"
	"marquee/funcs"
	"marquee/types"
	"marquee/value"
)

// world is what expressions have values over: rows, the last of which is the one that is looked at.
type world struct {
	fields []api.Field
	rows   [][]api.Value
}

// failed is what an expression gives up with that has no value.
type failed struct{ err api.Errno }

func must(v api.Value, err api.Errno) api.Value {
	if err != api.OK {
		panic(failed{err})
	}
	return v
}

// value answers the value of n, as chapters 12, 13 and 17 have it, and whether it has one.
func (w world) value(n api.Node) (v api.Value, ok bool) {
	defer func() {
		if gave := recover(); gave != nil {
			_, ok = gave.(failed)
			if !ok {
				panic(gave)
			}
			v, ok = api.Value{}, false
		}
	}()
	return w.of(n), true
}

func (w world) each(l []api.Node) []api.Value {
	var values []api.Value
	for _, n := range l {
		values = append(values, w.of(n))
	}
	return values
}

func (w world) of(n api.Node) api.Value {
	switch n.Kind {
	case api.Null, api.Bool, api.Int, api.Dec, api.Text:
		return api.Value{Kind: n.Kind - api.Null, N: n.N, Text: n.Text}
	case api.Col:
		return w.column(n)
	case api.Agg:
		return w.aggregate(n)
	case api.Case:
		return w.choice(n)
	case api.Call:
		return must(funcs.Call(n.Text, w.each(n.Kids)))
	}
	l := w.each(n.Kids)
	switch n.Kind {
	case api.Unary:
		if n.Text == "not" {
			return value.Not(l[0])
		}
		return must(arith.Neg(l[0]))
	case api.IsNull:
		return truthOf((l[0].Kind == api.KindNull) != (n.N == 1))
	case api.Between:
		return value.And(compared(">=", l[0], l[1]), compared("<=", l[0], l[2]))
	case api.In:
		any := compared("=", l[0], l[1])
		for _, v := range l[2:] {
			any = value.Or(any, compared("=", l[0], v))
		}
		return any
	}
	return operated(n.Text, l[0], l[1])
}

func truthOf(is bool) api.Value {
	v := api.Value{Kind: api.KindBool}
	if is {
		v.N = 1
	}
	return v
}

func operated(sign string, a, b api.Value) api.Value {
	switch sign {
	case "+":
		return must(arith.Add(a, b))
	case "-":
		return must(arith.Sub(a, b))
	case "*":
		return must(arith.Mul(a, b))
	case "/":
		return must(arith.Div(a, b))
	case "%":
		return must(arith.Mod(a, b))
	case "and":
		return value.And(a, b)
	case "or":
		return value.Or(a, b)
	}
	return compared(sign, a, b)
}

func compared(sign string, a, b api.Value) api.Value {
	c, ok := value.Compare(a, b)
	switch {
	case sign == "=":
		return value.Equal(a, b)
	case sign == "!=":
		return value.Not(value.Equal(a, b))
	case !ok:
		return api.Value{}
	}
	return truthOf(map[string]bool{"<": c < 0, "<=": c <= 0, ">": c > 0, ">=": c >= 0}[sign])
}

func (w world) column(n api.Node) api.Value {
	stream := ""
	if len(n.Kids) > 0 {
		stream = n.Kids[0].Text
	}
	place, err := types.Resolve(w.fields, stream, n.Text)
	return must(w.rows[len(w.rows)-1][place], err)
}

// choice: a value that is an int is taken as a dec, if the type of the whole is that.
func (w world) choice(n api.Node) api.Value {
	i := 0
	for i < len(n.Kids)-1 && !value.True(w.of(n.Kids[i])) {
		i += 2
	}
	chosen := n.Kids[min(i+1, len(n.Kids)-1)]
	v := w.of(chosen)
	all, _, _ := types.Expr(n, w.fields, true)
	own, _, _ := types.Expr(chosen, w.fields, true)
	if all == api.KindDec && own == api.KindInt {
		return must(arith.Dec(v))
	}
	return v
}

func (w world) aggregate(n api.Node) api.Value {
	var l []api.Value
	for i := range w.rows {
		if len(n.Kids) > 0 {
			v := world{w.fields, w.rows[:i+1]}.of(n.Kids[0])
			if v.Kind != api.KindNull {
				l = append(l, v)
			}
		}
	}
	if n.Text == "count" {
		return api.Value{Kind: api.KindInt, N: len(l)}
	}
	if len(l) == 0 {
		return api.Value{}
	}
	switch n.Text {
	case "first":
		return l[0]
	case "last":
		return l[len(l)-1]
	case "min":
		return must(funcs.Call("least", l))
	case "max":
		return must(funcs.Call("greatest", l))
	}
	sum := l[0]
	for _, v := range l[1:] {
		sum = must(arith.Add(sum, v))
	}
	if n.Text == "avg" {
		many := api.Value{Kind: api.KindInt, N: len(l)}
		return must(arith.Div(must(arith.Dec(sum)), must(arith.Dec(many))))
	}
	return sum
}

// row draws values that fit the fields.
func (c *chance) row() []api.Value {
	var row []api.Value
	for _, f := range c.fields {
		v := api.Value{Kind: f.Kind}
		switch f.Kind {
		case api.KindBool:
			v.N = c.Intn(2)
		case api.KindInt, api.KindDec:
			v.N = c.Intn(50000) - 20000
		case api.KindText:
			v.Text = c.pick("a b c é")
		}
		if f.Kind < api.KindNull || f.Kind > api.KindText || c.Intn(4) == 0 {
			v = api.Value{}
		}
		row = append(row, v)
	}
	return row
}

// mixes tells whether n has a coalesce of ints and decs. Where its decs are null, chapter 10 answers an int as it is, since a null says no kind.
func (w world) mixes(n api.Node) bool {
	if n.Kind == api.Call && n.Text == "coalesce" {
		many := map[int]int{}
		for _, k := range n.Kids {
			kind, _, _ := types.Expr(k, w.fields, true)
			many[kind]++
		}
		if many[api.KindInt] > 0 && many[api.KindDec] > 0 {
			return true
		}
	}
	return slices.ContainsFunc(n.Kids, w.mixes)
}

// Promise 11.5: the type that is told is that of the value, or that is null.
func TestValuesHaveTheirTypes(t *testing.T) {
	for slip, seed := range map[int]int64{0: 16, 10: 17} {
		c := newChance(seed)
		c.slip = slip
		seen := map[int]int{}
		for range 20000 {
			n := c.expr(c.kind(), c.Intn(5), c.Intn(2) == 0)
			kind, _, e := types.Expr(n, c.fields, true)
			w := world{c.fields, [][]api.Value{c.row(), c.row(), c.row()}}
			if e != api.OK || w.mixes(n) {
				continue
			}
			v, ok := w.value(n)
			if !ok {
				continue
			}
			seen[v.Kind]++
			if value.Check(v) != api.OK || v.Kind != api.KindNull && v.Kind != kind {
				t.Errorf("%s: %#v, of the type %d", shape(n), v, kind)
			}
		}
		for kind := range 5 {
			if seen[kind] < 500 {
				t.Errorf("too few of a kind: %v", seen)
			}
		}
	}
}
