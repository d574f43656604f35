package print

import "marquee/api"

// as writes the name that something is given, if it is given one.
func (w *writer) as(n api.Node) {
	if n.Kind != api.None {
		w.words("as", n.Text)
	}
}

// filter writes which events are taken, if not all of them are.
func (w *writer) filter(n api.Node) {
	if n.Kind != api.None {
		w.within(joint("("), func() { w.expr(n) }, ")")
	}
}

// clause writes an expression behind its word, if there is one.
func (w *writer) clause(word string, n api.Node) {
	if n.Kind != api.None {
		w.words(word)
		w.expr(n)
	}
}

// stream writes the views ahead of the name that it is given, but its tree has them behind that.
func (w *writer) stream(n api.Node) {
	w.words(n.Text)
	w.filter(n.Kids[0])
	w.views(n.Kids[2:])
	w.as(n.Kids[1])
}

func (w *writer) views(l []api.Node) {
	for _, n := range l {
		w.view(n)
	}
}

func (w *writer) view(n api.Node) {
	w.put(joint("#"))
	w.words(n.Text)
	if len(n.Kids) > 0 {
		w.within(joint("("), func() { w.list(n.Kids, w.argument) }, ")")
	}
}

// argument writes what a view is given. A number with a unit is no expression; the unit is a word, so no column has its name.
func (w *writer) argument(n api.Node) {
	switch {
	case n.Kind == api.Order:
		w.order(n)
	case n.Text == "ms":
		w.words(period(n.N))
	default:
		w.expr(n)
	}
}

func (w *writer) order(n api.Node) {
	w.expr(n.Kids[0])
	if n.N == 1 {
		w.words("desc")
	}
}

func (w *writer) items(n api.Node) {
	if n.Kind == api.Star {
		w.words("*")
		return
	}
	w.list(n.Kids, w.item)
}

func (w *writer) item(n api.Node) {
	w.expr(n.Kids[0])
	if n.Text != "" {
		w.words("as", n.Text)
	}
}

// sets writes a list of what is set.
func (w *writer) sets(n api.Node) {
	w.words("set")
	w.list(n.Kids, w.set)
}

func (w *writer) set(n api.Node) {
	w.words(n.Text, "=")
	w.expr(n.Kids[0])
}

// rate writes how often is told, if it is not at once.
func (w *writer) rate(n api.Node) {
	if n.Kind == api.None {
		return
	}
	w.words("output", n.Text, "every")
	if n.Kids[0].Text == "ms" {
		w.words(period(n.N))
		return
	}
	w.words(number(n.N), "events")
}
