package stmts

import "marquee/api"

// pattern is begun once for each P of the rules, so that begin counts them all.
func (r *reader) pattern() api.Node {
	r.begin()
	n := r.line(api.PatThen, r.seesThen, r.or, r.or)
	r.end()
	return n
}

func (r *reader) or() api.Node {
	return r.line(api.PatOr, r.seesOr, r.and, r.and)
}

func (r *reader) and() api.Node {
	return r.line(api.PatAnd, r.seesAnd, r.un, r.unOrNot)
}

func (r *reader) seesThen() bool {
	return r.seesSign("->")
}

func (r *reader) seesOr() bool {
	return r.seesWord("or")
}

func (r *reader) seesAnd() bool {
	return r.seesWord("and")
}

// line reads parts from the left on, as long as what joins them is seen.
func (r *reader) line(kind int, joined func() bool, first, other func() api.Node) api.Node {
	n := first()
	for joined() {
		n = node(kind, r.take(), n, other())
	}
	return n
}

// unOrNot reads what may stand behind an and; a not stands nowhere else.
func (r *reader) unOrNot() api.Node {
	if r.seesWord("not") {
		return node(api.PatNot, r.take(), r.un())
	}
	return r.un()
}

// un begins an every ahead of taking it, since it is there that one too many is seen.
func (r *reader) un() api.Node {
	if r.seesWord("every") {
		r.begin()
		n := node(api.PatEvery, r.take(), r.un())
		r.end()
		return n
	}
	n := r.atom()
	for r.seesWord("within") {
		n = node(api.PatWithin, r.take(), n)
		n.N = r.period(0).N
	}
	return n
}

func (r *reader) atom() api.Node {
	switch {
	case r.seesWord("timer"):
		return r.timer()
	case r.passesSign("("):
		n := r.pattern()
		r.needSign(")")
		return n
	}
	return r.event()
}

func (r *reader) timer() api.Node {
	n := node(api.PatTimer, r.take())
	r.needSign("(")
	n.N = r.period(0).N
	r.needSign(")")
	return n
}

// event begins at its tag, if it has one, but has the text of what it is of.
func (r *reader) event() api.Node {
	first := r.id()
	of, tag := first, none()
	if r.passesSign("=") {
		of, tag = r.id(), textNode(api.Name, first)
	}
	n := node(api.PatEvent, first, r.filter(), tag)
	n.Text = of.Text
	return n
}
