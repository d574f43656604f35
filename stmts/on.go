package stmts

import "marquee/api"

// on reads what happens; the choices read what is then done, whose kids are those behind the source.
func (r *reader) on() api.Node {
	first := r.take()
	source := r.source()
	n := r.choose(api.TokenWord,
		choice{"delete", r.onDelete},
		choice{"update", r.onUpdate},
		choice{"select", r.onSelect},
		choice{"merge", r.onMerge})
	n.At = first.At
	n.Kids = append([]api.Node{source}, n.Kids...)
	return n
}

func (r *reader) onDelete() api.Node {
	first := r.take()
	r.needWord("from")
	return node(api.OnDelete, first, r.target(), r.clause("where"))
}

func (r *reader) onUpdate() api.Node {
	first := r.take()
	target := r.target()
	r.needWord("set")
	return node(api.OnUpdate, first, target, r.sets(), r.clause("where"))
}

// onSelect reads the items ahead of the target, but its tree has them behind it.
func (r *reader) onSelect() api.Node {
	first := r.take()
	items := r.items()
	r.needWord("from")
	return node(api.OnSelect, first, r.target(), items, r.clause("where"))
}

func (r *reader) onMerge() api.Node {
	first := r.take()
	target := r.target()
	r.needWord("where")
	where := r.expr()
	r.needWords("when", "matched", "then", "update", "set")
	n := node(api.OnMerge, first, target, where, r.sets())
	if r.passesWord("when") {
		r.needWords("not", "matched", "then", "insert")
		n.N = 1
	}
	return n
}
