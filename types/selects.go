package types

import (
	"slices"

	"marquee/api"
)

// selected takes a select that has the form, so that none of its groups is too many, and goes over its parts in the order in which their errors are told. A where or having that is not there is a None, which has the type of null and breaks nothing.
func selected(n api.Node, fields []api.Field) (api.Typed, fault) {
	items, where, groups, having, orders := n.Kids[1], n.Kids[3], n.Kids[4].Kids, n.Kids[5], n.Kids[6].Kids
	ofRows, ofGroups := scope{fields, false}, scope{fields, true}
	if _, f := ofRows.condition(where); f.isThere() {
		return api.Typed{}, f
	}
	if f := ofRows.keys(groups); f.isThere() {
		return api.Typed{}, f
	}
	grouped := len(groups) > 0 || hasAgg(items) || hasAgg(having)
	out, f := grouping{groups, grouped}.columns(items, ofGroups)
	if f.isThere() {
		return api.Typed{}, f
	}
	if f := ofGroups.having(having, groups); f.isThere() {
		return api.Typed{}, f
	}
	if f := ordered(orders, out); f.isThere() {
		return api.Typed{}, f
	}
	return api.Typed{Out: out, Group: grouped || having.Kind != api.None}, fault{}
}

// keys asks for groups that have a type.
func (s scope) keys(groups []api.Node) fault {
	for _, n := range groups {
		kind, f := s.kind(n)
		if f.isThere() {
			return f
		}
		if kind == api.KindNull {
			return faultAt(n, api.ErrType)
		}
	}
	return fault{}
}

// having asks for columns as if it were grouped, also where nothing else is: what a having looks at is a group.
func (s scope) having(n api.Node, groups []api.Node) fault {
	kind, f := grouping{groups, true}.kind(n, s)
	if !f.isThere() && !may(isBool, kind) {
		return faultAt(n, api.ErrType)
	}
	return f
}

// ordered asks for orders by names of columns that come out.
func ordered(orders []api.Node, out []api.Column) fault {
	for _, o := range orders {
		by := o.Kids[0]
		comesOut := slices.ContainsFunc(out, func(c api.Column) bool { return c.Name == by.Text })
		if by.Kind != api.Col || len(by.Kids) > 0 || !comesOut {
			return faultAt(by, api.ErrName)
		}
	}
	return fault{}
}
