package stmts

import "marquee/api"

// selection begins at the first of context, insert and select. Its tree has the order ahead of the rate, which is read first.
func (r *reader) selection() api.Node {
	n := node(api.Select, r.next())
	if r.passesWord("context") {
		n.Text = r.id().Text
	}
	into := r.into()
	r.needWord("select")
	n.N = r.told()
	items := r.items()
	r.needWord("from")
	from := r.from()
	where := r.clause("where")
	group := r.by("group", r.expr)
	having := r.clause("having")
	rate := r.rate()
	order := r.by("order", r.order)
	n.Kids = []api.Node{into, items, from, where, group, having, order, rate}
	return n
}

// into reads the name that is fed, if one is.
func (r *reader) into() api.Node {
	if !r.passesWord("insert") {
		return none()
	}
	r.needWord("into")
	return r.name()
}

// told reads which rows are told: those that came, those that went, or both.
func (r *reader) told() int {
	const came, went, both = 1, 2, 3
	switch {
	case r.passesWord("rstream"):
		return went
	case r.passesWord("irstream"):
		return both
	}
	r.passesWord("istream")
	return came
}

func (r *reader) from() api.Node {
	const mostStreams = 2
	if r.seesWord("pattern") {
		return r.fromPattern()
	}
	return r.listNode(mostStreams, r.stream)
}

func (r *reader) fromPattern() api.Node {
	n := node(api.Pattern, r.take())
	r.needSign("[")
	pattern := r.pattern()
	r.needSign("]")
	n.Kids = []api.Node{pattern, r.as()}
	return n
}

// by reads the list behind group by or order by; without one it is empty, and begins nowhere.
func (r *reader) by(word string, thing func() api.Node) api.Node {
	if !r.passesWord(word) {
		return api.Node{Kind: api.List}
	}
	r.needWord("by")
	return r.listNode(api.MaxItems, thing)
}

// order may say asc, which changes nothing; as it is no word of the language, it is a name there.
func (r *reader) order() api.Node {
	n := node(api.Order, r.next(), r.expr())
	if r.passesWord("desc") {
		n.N = 1
	} else {
		r.passes(api.TokenName, "asc")
	}
	return n
}

func (r *reader) rate() api.Node {
	if !r.seesWord("output") {
		return none()
	}
	n := node(api.Rate, r.take())
	n.Text = r.rateWord()
	r.needWord("every")
	if r.next().Kind == api.TokenPeriod {
		period := r.period(1)
		n.N = period.N
		n.Kids = []api.Node{unit("ms", period)}
		return n
	}
	n.N = r.size().N
	n.Kids = []api.Node{unit("events", r.needWord("events"))}
	return n
}

func (r *reader) rateWord() string {
	for _, s := range []string{"all", "first", "last", "snapshot"} {
		if r.passesWord(s) {
			return s
		}
	}
	return "all"
}

// unit is what a rate counts, as a tree that stands where its token does.
func unit(text string, first api.Token) api.Node {
	n := node(api.Name, first)
	n.Text = text
	return n
}
