package print

import "marquee/api"

// The ranks of patterns: the greater, the closer their parts hold together.
const (
	patRankThen   = 1
	patRankOr     = 2
	patRankAnd    = 3
	patRankSign   = 4
	patRankWithin = 5
	patRankAtom   = 6
)

func patternRank(n api.Node) int {
	switch n.Kind {
	case api.PatThen:
		return patRankThen
	case api.PatOr:
		return patRankOr
	case api.PatAnd:
		return patRankAnd
	case api.PatEvery, api.PatNot:
		return patRankSign
	case api.PatWithin:
		return patRankWithin
	}
	return patRankAtom
}

func (w *writer) part(n api.Node, least int) {
	w.ranked(n, w.pattern, patternRank(n), least)
}

// pattern writes a pattern where a place asks for no rank.
func (w *writer) pattern(n api.Node) {
	switch n.Kind {
	case api.PatThen:
		w.line(n, "->")
	case api.PatOr:
		w.line(n, "or")
	case api.PatAnd:
		w.line(n, "and")
	case api.PatEvery:
		w.signed("every", n)
	case api.PatNot:
		w.signed("not", n)
	case api.PatWithin:
		w.part(n.Kids[0], patRankWithin)
		w.words("within", period(n.N))
	case api.PatTimer:
		w.words("timer")
		w.within(joint("("), func() { w.words(period(n.N)) }, ")")
	default:
		w.event(n)
	}
}

// line writes two parts with what joins them; lines are read from the left on.
func (w *writer) line(n api.Node, joined string) {
	rank := patternRank(n)
	w.part(n.Kids[0], rank)
	w.words(joined)
	w.part(n.Kids[1], rank+1)
}

// signed writes a part with a word ahead.
func (w *writer) signed(word string, n api.Node) {
	w.words(word)
	w.part(n.Kids[0], patRankSign)
}

// event writes the tag ahead of what it is of, but its tree has it behind the filter.
func (w *writer) event(n api.Node) {
	if tag := n.Kids[1]; tag.Kind != api.None {
		w.words(tag.Text)
		w.put(joint("="))
	}
	w.words(n.Text)
	w.filter(n.Kids[0])
}
