package types

import (
	"marquee/api"
	"marquee/funcs"
)

// fault is an error with its byte; without an error it is zero.
type fault struct {
	at  int
	err api.Errno
}

func faultAt(n api.Node, err api.Errno) fault {
	return fault{n.At, err}
}

func (f fault) isThere() bool {
	return f.err != api.OK
}

// scope is what an expression is typed over: the fields, and whether aggregates may stand in it.
type scope struct {
	fields []api.Field
	aggs   bool
}

// kind answers the type of n, or the first fault. All that stands within n is asked ahead of n itself, but for the place of an aggregate.
func (s scope) kind(n api.Node) (int, fault) {
	if n.Kind == api.Agg {
		if !s.aggs {
			return api.KindNull, faultAt(n, api.ErrPlace)
		}
		s.aggs = false
	}
	kinds, f := s.kindsWithin(n)
	if f.isThere() {
		return api.KindNull, f
	}
	kind, err := s.kindOver(n, kinds)
	if err != api.OK {
		return api.KindNull, faultAt(n, err)
	}
	return kind, fault{}
}

// kindsWithin answers the types of the trees that n is made of.
func (s scope) kindsWithin(n api.Node) ([]int, fault) {
	kinds := make([]int, len(n.Kids))
	for i, k := range n.Kids {
		ask := s.kind
		if isCondition(n, i) {
			ask = s.condition
		}
		kind, f := ask(k)
		if f.isThere() {
			return nil, f
		}
		kinds[i] = kind
	}
	return kinds, fault{}
}

// condition answers the type of n, which must be one of what is true or not.
func (s scope) condition(n api.Node) (int, fault) {
	kind, f := s.kind(n)
	if !f.isThere() && !may(isBool, kind) {
		return api.KindNull, faultAt(n, api.ErrType)
	}
	return kind, f
}

// isCondition tells whether the kid at a place is a condition of a case: of each pair the first, while the else has a place of that sort, too.
func isCondition(n api.Node, place int) bool {
	return n.Kind == api.Case && place%2 == 0 && place != len(n.Kids)-1
}

// kindOver answers the type of n, which is made of trees of these types.
func (s scope) kindOver(n api.Node, kinds []int) (int, api.Errno) {
	switch n.Kind {
	case api.Bool, api.IsNull:
		return api.KindBool, api.OK
	case api.Int:
		return api.KindInt, api.OK
	case api.Dec:
		return api.KindDec, api.OK
	case api.Text:
		return api.KindText, api.OK
	case api.Col:
		return s.column(n)
	case api.Unary:
		return typed(unary(n.Text, kinds[0]))
	case api.Binary:
		return typed(binary(n.Text, kinds[0], kinds[1]))
	case api.Between, api.In:
		return typed(api.KindBool, comparesAll(kinds[0], kinds[1:]...))
	case api.Case:
		return typed(common(valuesOf(kinds)...))
	case api.Call:
		return funcs.Kind(n.Text, kinds)
	case api.Agg:
		return typed(aggregate(n.Text, kinds...))
	}
	// Null has this type; so have the Name of a column and a None, of which nobody makes anything.
	return api.KindNull, api.OK
}

// typed answers ErrType, if what a type was asked for has none.
func typed(kind int, ok bool) (int, api.Errno) {
	if !ok {
		return api.KindNull, api.ErrType
	}
	return kind, api.OK
}

func (s scope) column(n api.Node) (int, api.Errno) {
	stream := ""
	for _, name := range n.Kids {
		stream = name.Text
	}
	place, err := Resolve(s.fields, stream, n.Text)
	if err != api.OK {
		return api.KindNull, err
	}
	return s.fields[place].Kind, api.OK
}
