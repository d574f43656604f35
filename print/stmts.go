package print

import "marquee/api"

func (w *writer) stmt(n api.Node) {
	switch n.Kind {
	case api.CreateSchema:
		w.createSchema(n)
	case api.CreateWindow:
		w.createWindow(n)
	case api.CreateContext:
		w.createContext(n)
	case api.Select:
		w.selection(n)
	case api.OnDelete:
		w.onDelete(n.Kids)
	case api.OnUpdate:
		w.onUpdate(n.Kids)
	case api.OnSelect:
		w.onSelect(n.Kids)
	case api.OnMerge:
		w.onMerge(n)
	}
}

func (w *writer) createSchema(n api.Node) {
	w.words("create", "schema", n.Text)
	w.within(opening("("), func() { w.list(n.Kids, w.column) }, ")")
}

func (w *writer) column(n api.Node) {
	w.words(n.Text, kindName(n.N))
}

func kindName(kind int) string {
	switch kind {
	case api.KindBool:
		return "bool"
	case api.KindInt:
		return "int"
	case api.KindDec:
		return "dec"
	}
	return "text"
}

// createWindow writes the schema behind the views, but its tree has it ahead of them.
func (w *writer) createWindow(n api.Node) {
	w.words("create", "window", n.Text)
	w.views(n.Kids[1:])
	w.as(n.Kids[0])
}

func (w *writer) createContext(n api.Node) {
	w.words("create", "context", n.Text)
	switch way := n.Kids[0]; way.Kind {
	case api.Keyed:
		w.words("partition", "by")
		w.list(way.Kids, w.keyColumn)
	case api.Categories:
		w.list(way.Kids, w.category)
		w.words("from", way.Text)
	case api.Spans:
		w.spans(way)
	}
}

func (w *writer) keyColumn(n api.Node) {
	w.words(n.Text, "from", n.Kids[0].Text)
}

func (w *writer) category(n api.Node) {
	w.words("when")
	w.expr(n.Kids[0])
	w.words("then", n.Text)
}

func (w *writer) spans(n api.Node) {
	if n.N == 1 {
		w.words("overlapping")
	}
	w.words("start")
	w.stream(n.Kids[0])
	end := n.Kids[1]
	if end.Kind == api.PatTimer {
		w.words("within", period(end.N))
		return
	}
	w.words("end")
	w.stream(end)
}

// selection writes the rate ahead of the order, but its tree has it behind that.
func (w *writer) selection(n api.Node) {
	into, items, from, where, group, having, order, rate := n.Kids[0], n.Kids[1], n.Kids[2], n.Kids[3], n.Kids[4], n.Kids[5], n.Kids[6], n.Kids[7]
	if n.Text != "" {
		w.words("context", n.Text)
	}
	if into.Kind != api.None {
		w.words("insert", "into", into.Text)
	}
	w.words("select")
	w.told(n.N)
	w.items(items)
	w.words("from")
	w.from(from)
	w.clause("where", where)
	w.by("group", group, w.expr)
	w.clause("having", having)
	w.rate(rate)
	w.by("order", order, w.order)
}

// told writes which rows are told, if it is not those that came alone.
func (w *writer) told(n int) {
	const went, both = 2, 3
	switch n {
	case went:
		w.words("rstream")
	case both:
		w.words("irstream")
	}
}

func (w *writer) from(n api.Node) {
	if n.Kind == api.List {
		w.list(n.Kids, w.stream)
		return
	}
	w.words("pattern")
	w.within(opening("["), func() { w.pattern(n.Kids[0]) }, "]")
	w.as(n.Kids[1])
}

// by writes the list behind group by or order by, if there is something in it.
func (w *writer) by(word string, n api.Node, thing func(api.Node)) {
	if len(n.Kids) > 0 {
		w.words(word, "by")
		w.list(n.Kids, thing)
	}
}

func (w *writer) onDelete(l []api.Node) {
	source, target, where := l[0], l[1], l[2]
	w.on(source)
	w.words("delete", "from")
	w.stream(target)
	w.clause("where", where)
}

func (w *writer) onUpdate(l []api.Node) {
	source, target, sets, where := l[0], l[1], l[2], l[3]
	w.on(source)
	w.words("update")
	w.stream(target)
	w.sets(sets)
	w.clause("where", where)
}

func (w *writer) onSelect(l []api.Node) {
	source, target, items, where := l[0], l[1], l[2], l[3]
	w.on(source)
	w.words("select")
	w.items(items)
	w.words("from")
	w.stream(target)
	w.clause("where", where)
}

func (w *writer) onMerge(n api.Node) {
	source, target, where, sets := n.Kids[0], n.Kids[1], n.Kids[2], n.Kids[3]
	w.on(source)
	w.words("merge")
	w.stream(target)
	w.clause("where", where)
	w.words("when", "matched", "then", "update")
	w.sets(sets)
	if n.N == 1 {
		w.words("when", "not", "matched", "then", "insert")
	}
}

func (w *writer) on(source api.Node) {
	w.words("on")
	w.stream(source)
}
