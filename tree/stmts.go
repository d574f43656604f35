package tree

import "marquee/api"

// isStmt is false of what partitions are made by (Keyed, Categories, Spans): these stand in a CreateContext alone.
func isStmt(n api.Node) bool {
	switch n.Kind {
	case api.CreateSchema:
		return hasId(n) && many(n.Kids, 1, api.MaxColumns, isColumn)
	case api.CreateWindow:
		name, views := split(n.Kids, 1)
		return hasId(n) && are(name, isName) && many(views, 1, api.MaxViews, isView)
	case api.CreateContext:
		return hasId(n) && are(n.Kids, isPartition)
	case api.Select:
		return isSelect(n)
	case api.OnDelete:
		return isPlain(n) && are(n.Kids, isSource, isTarget, optional(isExpr))
	case api.OnUpdate:
		return isPlain(n) && are(n.Kids, isSource, isTarget, isSets, optional(isExpr))
	case api.OnSelect:
		return isPlain(n) && are(n.Kids, isSource, isTarget, isItems, optional(isExpr))
	case api.OnMerge:
		return n.Text == "" && isFlag(n.N) && are(n.Kids, isSource, isTarget, isExpr, isSets)
	}
	return false
}

func isColumn(n api.Node) bool {
	return n.Kind == api.Column_ && isId(n.Text) && within(n.N, api.KindBool, api.KindText) && are(n.Kids)
}

func isPartition(n api.Node) bool {
	switch n.Kind {
	case api.Keyed:
		return isPlain(n) && many(n.Kids, 1, api.MaxItems, isColOf)
	case api.Categories:
		return hasId(n) && many(n.Kids, 1, api.MaxItems, isNamedItem)
	case api.Spans:
		return n.Text == "" && isFlag(n.N) && are(n.Kids, isNamelessSource, either(isNamelessSource, isEndByTime))
	}
	return false
}

// isEndByTime is of a timer that takes some time: a span that ends as it begins is none.
func isEndByTime(n api.Node) bool {
	return n.Kind == api.PatTimer && n.N > 0 && isPattern(n)
}

func isSelect(n api.Node) bool {
	const istream, both = 1, 3
	return isIdOrEmpty(n.Text) && within(n.N, istream, both) && are(n.Kids,
		optional(isName),
		isItems,
		either(listOf(1, 2, isStream), isFromPattern),
		optional(isExpr),
		listOf(0, api.MaxItems, isExpr),
		optional(isExpr),
		listOf(0, api.MaxItems, isOrder),
		optional(isRate))
}

func isItems(n api.Node) bool {
	return either(isStar, listOf(1, api.MaxItems, isItem))(n)
}

func isStar(n api.Node) bool {
	return n.Kind == api.Star && isPlain(n) && are(n.Kids)
}

func isItem(n api.Node) bool {
	return n.Kind == api.Item && isIdOrEmpty(n.Text) && n.N == 0 && are(n.Kids, isExpr)
}

func isNamedItem(n api.Node) bool {
	return isItem(n) && n.Text != ""
}

func isSets(n api.Node) bool {
	return listOf(1, api.MaxItems, isSet)(n)
}

func isSet(n api.Node) bool {
	return n.Kind == api.Set && hasId(n) && are(n.Kids, isExpr)
}

func isFromPattern(n api.Node) bool {
	return n.Kind == api.Pattern && isPlain(n) && are(n.Kids, isPattern, optional(isName))
}

func isOrder(n api.Node) bool {
	return isOrderOf(n, isExpr)
}

func isOrderOf(n api.Node, may place) bool {
	return n.Kind == api.Order && n.Text == "" && isFlag(n.N) && are(n.Kids, may)
}

func isRate(n api.Node) bool {
	if n.Kind != api.Rate {
		return false
	}
	switch n.Text {
	case "all", "first", "last", "snapshot":
		return within(n.N, 1, api.MaxSize) && are(n.Kids, unit("events")) || within(n.N, 1, api.MaxTime) && are(n.Kids, unit("ms"))
	}
	return false
}

// unit is the place of a Name that is no Id, but the word by which a rate counts.
func unit(word string) place {
	return func(n api.Node) bool {
		return n.Kind == api.Name && n.Text == word && n.N == 0 && are(n.Kids)
	}
}

func isStream(n api.Node) bool {
	head, views := split(n.Kids, 2)
	return n.Kind == api.Stream && hasId(n) && are(head, optional(isExpr), optional(isName)) && many(views, 0, api.MaxViews, isView)
}

func isSource(n api.Node) bool {
	return isStream(n) && len(n.Kids) == 2
}

func isNamelessSource(n api.Node) bool {
	return isSource(n) && isNone(n.Kids[1])
}

func isTarget(n api.Node) bool {
	return isSource(n) && isNone(n.Kids[0])
}

func isView(n api.Node) bool {
	if n.Kind != api.View || n.N != 0 {
		return false
	}
	switch n.Text {
	case "keepall", "lastevent", "firstevent":
		return are(n.Kids)
	case "length", "length_batch":
		return are(n.Kids, isSize)
	case "time", "time_batch":
		return are(n.Kids, isPeriod)
	case "unique":
		return many(n.Kids, 1, api.MaxColumns, isOwnCol)
	case "sorted":
		return are(n.Kids, isSize, isOrderOfOwnCol)
	}
	return false
}

func isSize(n api.Node) bool {
	return n.Kind == api.Int && n.Text == "" && within(n.N, 1, api.MaxSize) && are(n.Kids)
}

func isPeriod(n api.Node) bool {
	return n.Kind == api.Int && n.Text == "ms" && within(n.N, 1, api.MaxTime) && are(n.Kids)
}

func isOrderOfOwnCol(n api.Node) bool {
	return isOrderOf(n, isOwnCol)
}
