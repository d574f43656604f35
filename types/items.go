package types

import (
	"slices"
	"strconv"

	"marquee/api"
	"marquee/schema"
	"marquee/tree"
)

// isStarOrList tells whether items are a Star, or a List of one or more Items; how many there may be plays no part.
func isStarOrList(items api.Node) bool {
	if items.Kind != api.List {
		return mayBeItems(items)
	}
	for i := range items.Kids {
		one := items
		one.Kids = items.Kids[i : i+1]
		if !mayBeItems(one) {
			return false
		}
	}
	return len(items.Kids) > 0
}

// mayBeItems asks for the form of a statement that has these items, since a part has no form of its own.
func mayBeItems(items api.Node) bool {
	none := api.Node{Kind: api.None}
	stream := api.Node{Kind: api.Stream, Text: "a", Kids: []api.Node{none, none}}
	return tree.Form(api.Node{Kind: api.OnSelect, Kids: []api.Node{stream, stream, items, none}}) == api.FormStmt
}

func hasAgg(n api.Node) bool {
	return n.Kind == api.Agg || slices.ContainsFunc(n.Kids, hasAgg)
}

// grouping is what columns may stand in: where it is grouped, the groups and aggregates alone.
type grouping struct {
	groups  []api.Node
	grouped bool
}

// columns answers what items give.
func (g grouping) columns(items api.Node, s scope) ([]api.Column, fault) {
	if items.Kind == api.Star {
		return g.ofStar(items, s.fields)
	}
	if len(items.Kids) > api.MaxItems {
		return nil, faultAt(items, api.ErrTree)
	}
	var columns []api.Column
	isFree := freeNames()
	for i, item := range items.Kids {
		kind, f := g.ofItem(item, s)
		if f.isThere() {
			return nil, f
		}
		name := nameOf(item, i+1)
		if !isFree(name) {
			return nil, faultAt(item, api.ErrName)
		}
		columns = append(columns, api.Column{Name: name, Kind: kind})
	}
	return columns, fault{}
}

func (g grouping) ofStar(star api.Node, fields []api.Field) ([]api.Column, fault) {
	if g.grouped {
		return nil, faultAt(star, api.ErrPlace)
	}
	var columns []api.Column
	isFree := freeNames()
	for _, f := range fields {
		if !isFree(f.Column) {
			return nil, faultAt(star, api.ErrName)
		}
		columns = append(columns, api.Column{Name: f.Column, Kind: f.Kind})
	}
	if len(columns) > api.MaxColumns {
		return nil, faultAt(star, api.ErrTree)
	}
	return columns, fault{}
}

// freeNames answers a function that tells of each name whether it is one, and was not asked ahead.
func freeNames() func(name string) bool {
	asked := map[string]int{}
	return func(name string) bool {
		asked[name]++
		return asked[name] == 1 && schema.Name(name)
	}
}

// ofItem answers the type of an item.
func (g grouping) ofItem(item api.Node, s scope) (int, fault) {
	kind, f := g.kind(item.Kids[0], s)
	if !f.isThere() && kind == api.KindNull {
		f = faultAt(item, api.ErrType)
	}
	return kind, f
}

// kind answers the type of n, whose columns stand where they may.
func (g grouping) kind(n api.Node, s scope) (int, fault) {
	kind, f := s.kind(n)
	if f.isThere() || !g.grouped {
		return kind, f
	}
	if col, ok := g.stray(n); ok {
		return api.KindNull, faultAt(col, api.ErrPlace)
	}
	return kind, fault{}
}

// stray answers the first column in n that stands neither within an aggregate nor within a group, and whether there is one.
func (g grouping) stray(n api.Node) (api.Node, bool) {
	isGroup := slices.ContainsFunc(g.groups, func(group api.Node) bool { return tree.Same(group, n) })
	if isGroup || n.Kind == api.Agg {
		return api.Node{}, false
	}
	if n.Kind == api.Col {
		return n, true
	}
	for _, k := range n.Kids {
		if col, ok := g.stray(k); ok {
			return col, true
		}
	}
	return api.Node{}, false
}

// nameOf answers the name of the column that an item gives.
func nameOf(item api.Node, number int) string {
	expr := item.Kids[0]
	switch {
	case item.Text != "":
		return item.Text
	case expr.Kind == api.Col:
		return expr.Text
	}
	return "c" + strconv.Itoa(number)
}
