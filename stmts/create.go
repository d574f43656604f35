package stmts

import "marquee/api"

func (r *reader) create() api.Node {
	first := r.take()
	n := r.choose(api.TokenWord,
		choice{"schema", r.schema},
		choice{"window", r.window},
		choice{"context", r.context})
	n.At = first.At
	return n
}

func (r *reader) schema() api.Node {
	r.take()
	n := textNode(api.CreateSchema, r.id())
	n.Kids = r.listed(api.MaxColumns, r.column)
	return n
}

func (r *reader) column() api.Node {
	n := textNode(api.Column_, r.id())
	n.N = kindOf(r.next())
	r.must(n.N != api.KindNull)
	r.take()
	return n
}

// kindOf answers which kind of values a name says; KindNull, which no column is of, if it says none.
func kindOf(t api.Token) int {
	if t.Kind != api.TokenName {
		return api.KindNull
	}
	switch t.Text {
	case "bool":
		return api.KindBool
	case "int":
		return api.KindInt
	case "dec":
		return api.KindDec
	case "text":
		return api.KindText
	}
	return api.KindNull
}

// window reads the schema behind the views, but its tree has it ahead of them.
func (r *reader) window() api.Node {
	r.take()
	n := textNode(api.CreateWindow, r.id())
	r.must(r.seesSign("#"))
	views := r.views()
	r.needWord("as")
	n.Kids = append([]api.Node{r.name()}, views...)
	return n
}

func (r *reader) context() api.Node {
	r.take()
	n := textNode(api.CreateContext, r.id())
	n.Kids = []api.Node{r.choose(api.TokenWord,
		choice{"partition", r.keyed},
		choice{"when", r.categories},
		choice{"overlapping", r.spans},
		choice{"start", r.spans})}
	return n
}

func (r *reader) keyed() api.Node {
	n := node(api.Keyed, r.take())
	r.needWord("by")
	n.Kids = r.list(api.MaxItems, r.keyColumn)
	return n
}

func (r *reader) keyColumn() api.Node {
	n := r.col()
	r.needWord("from")
	n.Kids = []api.Node{r.name()}
	return n
}

func (r *reader) categories() api.Node {
	n := node(api.Categories, r.next(), r.list(api.MaxItems, r.category)...)
	r.needWord("from")
	n.Text = r.id().Text
	return n
}

// category begins at its when.
func (r *reader) category() api.Node {
	n := node(api.Item, r.needWord("when"), r.expr())
	r.needWord("then")
	n.Text = r.id().Text
	return n
}

func (r *reader) spans() api.Node {
	n := node(api.Spans, r.next())
	if r.passesWord("overlapping") {
		n.N = 1
	}
	r.needWord("start")
	start := r.spanEvent()
	end := r.choose(api.TokenWord,
		choice{"end", r.spanEnd},
		choice{"within", r.spanTime})
	n.Kids = []api.Node{start, end}
	return n
}

// spanEvent reads a stream that is given no name.
func (r *reader) spanEvent() api.Node {
	return textNode(api.Stream, r.id(), r.filter(), none())
}

func (r *reader) spanEnd() api.Node {
	r.take()
	return r.spanEvent()
}

// spanTime begins at its within. A span that ends as it begins would be none.
func (r *reader) spanTime() api.Node {
	n := node(api.PatTimer, r.take())
	n.N = r.period(1).N
	return n
}
