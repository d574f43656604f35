package print_test

import (
	"math"
	"math/rand"
	"strings"

	"marquee/api"
)

// chance makes trees that have a form, by chance.
type chance struct{ *rand.Rand }

func newChance(seed int64) chance { return chance{rand.New(rand.NewSource(seed))} }

func (c chance) coin() bool { return c.Intn(2) == 0 }

// pick answers one of the words of s.
func (c chance) pick(s string) string {
	l := strings.Fields(s)
	return l[c.Intn(len(l))]
}

// id answers a name; some are those of views and kinds, which are no words.
func (c chance) id() string { return c.pick("a b T x1 _ asc length time int text keepall Z9") }

func (c chance) name() api.Node { return name(c.id()) }

// number answers one of any size up to a greatest.
func (c chance) number(least, most int) int {
	n := int(c.Int63() >> c.Intn(63))
	if c.Intn(20) == 0 || n > most {
		n = most
	}
	return max(n, least)
}

// text answers some that have a ', and some that look like other things.
func (c chance) text() string {
	l := []string{"", "a", "'", "''", "it's", "é", "☃\n", " ", "--", "/*", ";", "(", ")", "select", "- -", "{0}", "«", "\x00"}
	var s strings.Builder
	for range c.Intn(4) {
		s.WriteString(l[c.Intn(len(l))])
	}
	return s.String()
}

func (c chance) exprs(many, depth int) []api.Node {
	var l []api.Node
	for range many {
		l = append(l, c.expr(depth))
	}
	return l
}

func (c chance) expr(depth int) api.Node {
	if depth <= 0 {
		return c.leaf()
	}
	depth--
	switch c.Intn(12) {
	case 0:
		return neg(c.expr(depth))
	case 1:
		return not(c.expr(depth))
	case 2, 3, 4, 5:
		return binary(c.pick("+ - * / % = != < <= > >= and or and or"), c.expr(depth), c.expr(depth))
	case 6:
		return isNull(c.Intn(2), c.expr(depth))
	case 7:
		return between(c.expr(depth), c.expr(depth), c.expr(depth))
	case 8:
		return in(c.exprs(2+c.Intn(3), depth)...)
	case 9:
		return choice(c.exprs(3+2*c.Intn(3), depth)...)
	case 10:
		return call(c.id(), c.exprs(c.Intn(4), depth)...)
	}
	return node(api.Agg, c.pick("count sum avg min max first last"), c.Intn(2), c.expr(depth))
}

func (c chance) leaf() api.Node {
	switch c.Intn(10) {
	case 0:
		return null()
	case 1:
		return truth(c.Intn(2))
	case 2:
		return whole(c.number(0, math.MaxInt))
	case 3:
		return dec(c.number(0, math.MaxInt))
	case 4:
		return text(c.text())
	case 5:
		return agg("count")
	case 6:
		return call(c.id())
	case 7:
		return colOf(c.id(), c.id())
	}
	return col(c.id())
}

// perhaps answers a tree, or a None.
func (c chance) perhaps(n api.Node) api.Node {
	if c.coin() {
		return none()
	}
	return n
}

func (c chance) some() api.Node { return c.expr(c.Intn(4)) }

func (c chance) time(least int) int { return c.number(least, api.MaxTime) }

func (c chance) size() int { return c.number(1, api.MaxSize) }

func (c chance) pattern(depth int) api.Node {
	if depth <= 0 {
		return c.atom()
	}
	depth--
	switch c.Intn(7) {
	case 0:
		return every(c.pattern(depth))
	case 1:
		return within(c.time(0), c.pattern(depth))
	case 2:
		return then(c.pattern(depth), c.pattern(depth))
	case 3:
		return either(c.pattern(depth), c.pattern(depth))
	case 4:
		return both(c.pattern(depth), c.pattern(depth))
	case 5:
		return both(c.pattern(depth), never(c.pattern(depth)))
	}
	return c.atom()
}

func (c chance) atom() api.Node {
	if c.Intn(4) == 0 {
		return timer(c.time(0))
	}
	return node(api.PatEvent, c.id(), 0, c.perhaps(c.some()), c.perhaps(c.name()))
}

// things answers least things or more, now and then as many as may be.
func (c chance) things(least, most int, thing func() api.Node) []api.Node {
	many := min(most, least+c.Intn(3))
	if c.Intn(30) == 0 {
		many = most
	}
	var l []api.Node
	for range many {
		l = append(l, thing())
	}
	return l
}

func (c chance) view() api.Node {
	switch s := c.pick("keepall lastevent firstevent length length_batch time time_batch unique sorted"); s {
	case "length", "length_batch":
		return view(s, whole(c.size()))
	case "time", "time_batch":
		return view(s, period(c.time(1)))
	case "unique":
		return view(s, c.things(1, api.MaxColumns, func() api.Node { return col(c.id()) })...)
	case "sorted":
		return view(s, whole(c.size()), order(c.Intn(2), col(c.id())))
	default:
		return view(s)
	}
}

func (c chance) stream() api.Node {
	return streamAs(c.id(), c.perhaps(c.some()), c.perhaps(c.name()), c.things(0, api.MaxViews, c.view)...)
}

func (c chance) source() api.Node {
	return streamAs(c.id(), c.perhaps(c.some()), c.perhaps(c.name()))
}

func (c chance) target() api.Node { return streamAs(c.id(), none(), c.perhaps(c.name())) }

func (c chance) spanEvent() api.Node { return streamAs(c.id(), c.perhaps(c.some()), none()) }

func (c chance) item() api.Node {
	if c.coin() {
		return item("", c.some())
	}
	return item(c.id(), c.some())
}

func (c chance) items() api.Node {
	if c.Intn(3) == 0 {
		return star()
	}
	return list(c.things(1, api.MaxItems, c.item)...)
}

func (c chance) sets() api.Node {
	return list(c.things(1, api.MaxItems, func() api.Node { return set(c.id(), c.some()) })...)
}

func (c chance) context() api.Node {
	switch c.Intn(4) {
	case 0:
		return keyed(c.things(1, api.MaxItems, func() api.Node { return colOf(c.id(), c.id()) })...)
	case 1:
		return categories(c.id(), c.things(1, api.MaxItems, func() api.Node { return item(c.id(), c.some()) })...)
	case 2:
		return spans(c.Intn(2), c.spanEvent(), timer(c.time(1)))
	}
	return spans(c.Intn(2), c.spanEvent(), c.spanEvent())
}

func (c chance) selection() api.Node {
	n := selectAll()
	if c.coin() {
		n.Text = c.id()
	}
	n.N = 1 + c.Intn(3)
	n.Kids[intoAt] = c.perhaps(c.name())
	n.Kids[itemsAt] = c.items()
	n.Kids[fromAt] = list(c.things(1, 2, c.stream)...)
	if c.coin() {
		n.Kids[fromAt] = ofPattern(c.pattern(c.Intn(4)), c.perhaps(c.name()))
	}
	n.Kids[whereAt] = c.perhaps(c.some())
	n.Kids[groupsAt] = list(c.things(0, api.MaxItems, c.some)...)
	n.Kids[havingAt] = c.perhaps(c.some())
	n.Kids[ordersAt] = list(c.things(0, api.MaxItems, func() api.Node { return order(c.Intn(2), c.some()) })...)
	switch c.Intn(3) {
	case 0:
		n.Kids[rateAt] = rate(c.pick("all first last snapshot"), c.size(), "events")
	case 1:
		n.Kids[rateAt] = rate(c.pick("all first last snapshot"), c.time(1), "ms")
	}
	return n
}

func (c chance) stmt() api.Node {
	switch c.Intn(9) {
	case 0:
		return schema(c.id(), c.things(1, api.MaxColumns, func() api.Node { return column(c.id(), 1+c.Intn(4)) })...)
	case 1:
		return window(c.id(), c.id(), c.things(1, api.MaxViews, c.view)...)
	case 2:
		return context(c.id(), c.context())
	case 3:
		return node(api.OnDelete, "", 0, c.source(), c.target(), c.perhaps(c.some()))
	case 4:
		return node(api.OnUpdate, "", 0, c.source(), c.target(), c.sets(), c.perhaps(c.some()))
	case 5:
		return node(api.OnSelect, "", 0, c.source(), c.target(), c.items(), c.perhaps(c.some()))
	case 6:
		return node(api.OnMerge, "", c.Intn(2), c.source(), c.target(), c.some(), c.sets())
	}
	return c.selection()
}

// tree makes one of a form.
func (c chance) tree(form int) api.Node {
	switch form {
	case api.FormExpr:
		return c.expr(c.Intn(6))
	case api.FormPattern:
		return c.pattern(c.Intn(7))
	}
	return c.stmt()
}
