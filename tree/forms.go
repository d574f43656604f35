package tree

import (
	"slices"

	"marquee/api"
	"marquee/lex"
	"marquee/schema"
	"marquee/value"
)

// A place tells which trees may stand in it.
type place func(n api.Node) bool

// are tells whether l is one tree for each of the places, and none more.
func are(l []api.Node, places ...place) bool {
	return slices.EqualFunc(l, places, func(n api.Node, may place) bool { return may(n) })
}

// many tells whether l is least to most trees that may each stand there.
func many(l []api.Node, least, most int, may place) bool {
	return within(len(l), least, most) && !slices.ContainsFunc(l, func(n api.Node) bool { return !may(n) })
}

// split parts l ahead of its rest; of a short l the rest is empty.
func split(l []api.Node, head int) ([]api.Node, []api.Node) {
	head = min(head, len(l))
	return l[:head], l[head:]
}

func either(a, b place) place {
	return func(n api.Node) bool { return a(n) || b(n) }
}

func optional(may place) place {
	return either(may, isNone)
}

// listOf is the place of a List of least to most trees that may each stand in it.
func listOf(least, most int, may place) place {
	return func(n api.Node) bool {
		return n.Kind == api.List && isPlain(n) && many(n.Kids, least, most, may)
	}
}

func within(n, least, most int) bool {
	return least <= n && n <= most
}

func isFlag(n int) bool {
	return within(n, 0, 1)
}

// isPlain tells whether n has neither a text nor a number.
func isPlain(n api.Node) bool {
	return n.Text == "" && n.N == 0
}

// hasId tells whether n has an Id and no number.
func hasId(n api.Node) bool {
	return isId(n.Text) && n.N == 0
}

// isId asks Lex, which knows the words in small and capital letters alike.
func isId(s string) bool {
	if !schema.Name(s) {
		return false
	}
	tokens, _, _ := lex.Lex(s)
	return len(tokens) == 1 && tokens[0].Kind == api.TokenName
}

func isIdOrEmpty(s string) bool {
	return s == "" || isId(s)
}

func isNone(n api.Node) bool {
	return n.Kind == api.None && isPlain(n) && are(n.Kids)
}

func isName(n api.Node) bool {
	return n.Kind == api.Name && hasId(n) && are(n.Kids)
}

// isExpr is false of a Name, which stands beside expressions, but in no place of one.
func isExpr(n api.Node) bool {
	switch n.Kind {
	case api.Null:
		return isPlain(n) && are(n.Kids)
	case api.Bool:
		return n.Text == "" && isFlag(n.N) && are(n.Kids)
	case api.Int, api.Dec:
		return n.Text == "" && n.N >= 0 && are(n.Kids)
	case api.Text:
		return isText(n.Text) && n.N == 0 && are(n.Kids)
	case api.Col:
		return isOwnCol(n) || isColOf(n)
	case api.Unary:
		return isPrefix(n.Text) && n.N == 0 && are(n.Kids, isExpr)
	case api.Binary:
		return isInfix(n.Text) && n.N == 0 && are(n.Kids, isExpr, isExpr)
	case api.IsNull:
		return n.Text == "" && isFlag(n.N) && are(n.Kids, isExpr)
	case api.Between:
		return isPlain(n) && are(n.Kids, isExpr, isExpr, isExpr)
	case api.In:
		return isPlain(n) && many(n.Kids, 2, len(n.Kids), isExpr)
	case api.Case:
		return isPlain(n) && len(n.Kids)%2 == 1 && many(n.Kids, 3, len(n.Kids), isExpr)
	case api.Call:
		return hasId(n) && many(n.Kids, 0, len(n.Kids), isExpr)
	case api.Agg:
		return isAgg(n)
	}
	return false
}

func isText(s string) bool {
	return value.Check(api.Value{Kind: api.KindText, Text: s}) == api.OK
}

// isOwnCol is of a column that does not say of which stream.
func isOwnCol(n api.Node) bool {
	return n.Kind == api.Col && hasId(n) && are(n.Kids)
}

func isColOf(n api.Node) bool {
	return n.Kind == api.Col && hasId(n) && are(n.Kids, isName)
}

func isPrefix(s string) bool {
	return s == "-" || s == "not"
}

func isInfix(s string) bool {
	switch s {
	case "+", "-", "*", "/", "%", "=", "!=", "<", "<=", ">", ">=", "and", "or":
		return true
	}
	return false
}

func isAgg(n api.Node) bool {
	switch n.Text {
	case "count", "sum", "avg", "min", "max", "first", "last":
		return isFlag(n.N) && are(n.Kids, isExpr) || isCountOfAll(n)
	}
	return false
}

func isCountOfAll(n api.Node) bool {
	return n.Text == "count" && n.N == 0 && are(n.Kids)
}

// isPattern is false of a PatNot, which isNot takes in the one place that it has.
func isPattern(n api.Node) bool {
	switch n.Kind {
	case api.PatEvent:
		return hasId(n) && are(n.Kids, optional(isExpr), optional(isName))
	case api.PatEvery:
		return isPlain(n) && are(n.Kids, isPattern)
	case api.PatThen, api.PatOr:
		return isPlain(n) && are(n.Kids, isPattern, isPattern)
	case api.PatAnd:
		return isPlain(n) && are(n.Kids, isPattern, either(isPattern, isNot))
	case api.PatTimer:
		return n.Text == "" && within(n.N, 0, api.MaxTime) && are(n.Kids)
	case api.PatWithin:
		return n.Text == "" && within(n.N, 0, api.MaxTime) && are(n.Kids, isPattern)
	}
	return false
}

func isNot(n api.Node) bool {
	return n.Kind == api.PatNot && isPlain(n) && are(n.Kids, isPattern)
}
