package stmts

import "marquee/api"

// name reads an Id as a tree.
func (r *reader) name() api.Node {
	return textNode(api.Name, r.id())
}

// as reads the name that something is given, if it is given one.
func (r *reader) as() api.Node {
	if r.passesWord("as") {
		return r.name()
	}
	return none()
}

// filter reads which events are taken, if not all of them are.
func (r *reader) filter() api.Node {
	if !r.passesSign("(") {
		return none()
	}
	n := r.expr()
	r.needSign(")")
	return n
}

// clause reads the expression behind a word, if that stands there.
func (r *reader) clause(word string) api.Node {
	if r.passesWord(word) {
		return r.expr()
	}
	return none()
}

// source reads a stream that has no views.
func (r *reader) source() api.Node {
	of := r.id()
	return textNode(api.Stream, of, r.filter(), r.as())
}

// target reads the named window that a statement works on.
func (r *reader) target() api.Node {
	of := r.id()
	return textNode(api.Stream, of, none(), r.as())
}

func (r *reader) stream() api.Node {
	n := textNode(api.Stream, r.id(), r.filter())
	views := r.views()
	n.Kids = append(n.Kids, r.as())
	n.Kids = append(n.Kids, views...)
	return n
}

// views reads as many as stand there; that one is too many is seen at its #.
func (r *reader) views() []api.Node {
	var l []api.Node
	for r.seesSign("#") {
		r.must(len(l) < api.MaxViews)
		l = append(l, r.view())
	}
	return l
}

// view begins at its #, but is told by the name behind that; no view's name is a word of the language.
func (r *reader) view() api.Node {
	first := r.needSign("#")
	n := r.choose(api.TokenName,
		choice{"keepall", r.plainView},
		choice{"lastevent", r.plainView},
		choice{"firstevent", r.plainView},
		choice{"length", r.lengthView},
		choice{"length_batch", r.lengthView},
		choice{"time", r.timeView},
		choice{"time_batch", r.timeView},
		choice{"unique", r.uniqueView},
		choice{"sorted", r.sortedView})
	n.At = first.At
	return n
}

func (r *reader) plainView() api.Node {
	return textNode(api.View, r.take())
}

func (r *reader) lengthView() api.Node {
	n := r.plainView()
	r.needSign("(")
	n.Kids = []api.Node{numberNode(api.Int, r.size())}
	r.needSign(")")
	return n
}

func (r *reader) timeView() api.Node {
	n := r.plainView()
	r.needSign("(")
	time := numberNode(api.Int, r.period(1))
	time.Text = "ms"
	n.Kids = []api.Node{time}
	r.needSign(")")
	return n
}

func (r *reader) uniqueView() api.Node {
	n := r.plainView()
	n.Kids = r.listed(api.MaxColumns, r.col)
	return n
}

func (r *reader) sortedView() api.Node {
	n := r.plainView()
	r.needSign("(")
	size := numberNode(api.Int, r.size())
	r.needSign(",")
	order := node(api.Order, r.next(), r.col())
	if r.passesWord("desc") {
		order.N = 1
	}
	n.Kids = []api.Node{size, order}
	r.needSign(")")
	return n
}

// col reads a column that is a name alone.
func (r *reader) col() api.Node {
	return textNode(api.Col, r.id())
}

// listNode reads a list as a tree that begins where its first thing does.
func (r *reader) listNode(most int, thing func() api.Node) api.Node {
	return node(api.List, r.next(), r.list(most, thing)...)
}

func (r *reader) items() api.Node {
	if r.seesSign("*") {
		return node(api.Star, r.take())
	}
	return r.listNode(api.MaxItems, r.item)
}

// item begins at its first token, which need not be where its expression's tree does.
func (r *reader) item() api.Node {
	n := node(api.Item, r.next(), r.expr())
	if r.passesWord("as") {
		n.Text = r.id().Text
	}
	return n
}

func (r *reader) sets() api.Node {
	return r.listNode(api.MaxItems, r.set)
}

func (r *reader) set() api.Node {
	n := textNode(api.Set, r.id())
	r.needSign("=")
	n.Kids = []api.Node{r.expr()}
	return n
}
