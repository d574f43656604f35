package types_test

import (
	"math/rand"
	"strings"

	"marquee/api"
)

// chance makes trees over fields by chance, most of them well typed.
type chance struct {
	*rand.Rand
	fields []api.Field
	slip   int // one of so many places has a tree of any kind; 0: none
}

func newChance(seed int64) *chance {
	return &chance{Rand: rand.New(rand.NewSource(seed)), fields: fields()}
}

func (c *chance) pick(words string) string {
	l := strings.Fields(words)
	return l[c.Intn(len(l))]
}

func (c *chance) kind() int { return 1 + c.Intn(4) }

func (c *chance) number() int { return []int{api.KindInt, api.KindDec}[c.Intn(2)] }

// placed gives each tree within n a byte of its own, in no order.
func (c *chance) placed(n api.Node) api.Node {
	at := 0
	var place func(n api.Node) api.Node
	place = func(n api.Node) api.Node {
		at++
		n.At = 1 + at*7919%100003
		kids := make([]api.Node, len(n.Kids))
		for i, k := range n.Kids {
			kids[i] = place(k)
		}
		n.Kids = kids
		return n
	}
	return place(n)
}

// expr makes a tree that may be of a kind.
func (c *chance) expr(kind, depth int, aggs bool) api.Node {
	if c.slip > 0 && c.Intn(c.slip) == 0 {
		return c.stranger(depth)
	}
	if depth <= 0 || c.Intn(6) == 0 {
		return c.leaf(kind)
	}
	depth--
	switch c.Intn(8) {
	case 0:
		return c.choice(kind, depth, aggs)
	case 1:
		return c.called(kind, depth, aggs)
	case 2:
		if aggs {
			return c.aggregate(kind, depth)
		}
	}
	switch kind {
	case api.KindBool:
		return c.truth(depth, aggs)
	case api.KindText:
		return call("concat", c.expr(kind, depth, aggs), c.expr(kind, depth, aggs))
	}
	if c.Intn(4) == 0 {
		return unary("-", c.expr(kind, depth, aggs))
	}
	return binary(c.pick("+ - * / %"), c.expr(kind, depth, aggs), c.expr(api.KindInt, depth, aggs))
}

// stranger makes what most often may not stand there.
func (c *chance) stranger(depth int) api.Node {
	switch c.Intn(6) {
	case 0:
		return col(c.pick("nope a o z"))
	case 1:
		return colOf(c.pick("t u v"), c.pick("a b i o"))
	case 2:
		return call(c.pick("nope abs"))
	case 3:
		return agg("count")
	case 4:
		return c.aggregate(c.kind(), depth-1)
	}
	return c.leaf(c.Intn(5))
}

func (c *chance) leaf(kind int) api.Node {
	if c.Intn(8) == 0 || kind == api.KindNull {
		return null()
	}
	l := [][]api.Node{
		api.KindBool: {truth(c.Intn(2)), col("b"), colOf("t", "b")},
		api.KindInt:  {whole(c.Intn(9)), col("i"), colOf("u", "j"), colOf("t", "a")},
		api.KindDec:  {dec(c.Intn(30000)), col("d"), colOf("t", "d")},
		api.KindText: {text(c.pick("a B '' é")), col("x"), colOf("u", "a"), col("y")},
	}[kind]
	return l[c.Intn(len(l))]
}

func (c *chance) choice(kind, depth int, aggs bool) api.Node {
	n := node(api.Case, "", 0)
	for range 1 + c.Intn(3) {
		n.Kids = append(n.Kids, c.expr(api.KindBool, depth, aggs), c.value(kind, depth, aggs))
	}
	n.Kids = append(n.Kids, c.value(kind, depth, aggs))
	return n
}

// value is one of a kind, or an int among decs.
func (c *chance) value(kind, depth int, aggs bool) api.Node {
	if kind == api.KindDec && c.Intn(2) == 0 {
		kind = api.KindInt
	}
	return c.expr(kind, depth, aggs)
}

func (c *chance) called(kind, depth int, aggs bool) api.Node {
	s := c.pick("coalesce greatest least nullif")
	if c.Intn(3) == 0 {
		switch kind {
		case api.KindInt:
			return call(c.pick("round toint sign"), c.expr(c.number(), depth, aggs))
		case api.KindDec:
			return call("todec", c.expr(c.number(), depth, aggs))
		case api.KindText:
			return call("totext", c.expr(c.kind(), depth, aggs))
		}
	}
	return call(s, c.expr(kind, depth, aggs), c.expr(kind, depth, aggs))
}

func (c *chance) aggregate(kind, depth int) api.Node {
	n := node(api.Agg, c.pick("min max first last"), c.Intn(2))
	switch {
	case kind == api.KindInt && c.Intn(3) == 0:
		n.Text, kind = "count", c.kind()
	case kind == api.KindDec && c.Intn(3) == 0:
		n.Text, kind = "avg", c.number()
	case (kind == api.KindInt || kind == api.KindDec) && c.Intn(2) == 0:
		n.Text = "sum"
	}
	n.Kids = []api.Node{c.expr(kind, depth, false)}
	return n
}

// truth makes an expression of KindBool.
func (c *chance) truth(depth int, aggs bool) api.Node {
	kind := c.kind()
	e := func(kind int) api.Node {
		if kind == api.KindInt || kind == api.KindDec {
			kind = c.number()
		}
		return c.expr(kind, depth, aggs)
	}
	switch c.Intn(6) {
	case 0:
		return unary("not", e(api.KindBool))
	case 1:
		return binary(c.pick("and or"), e(api.KindBool), e(api.KindBool))
	case 2:
		return node(api.IsNull, "", c.Intn(2), e(kind))
	case 3:
		return node(api.Between, "", 0, e(kind), e(kind), e(kind))
	case 4:
		n := node(api.In, "", 0, e(kind), e(kind))
		for range c.Intn(3) {
			n.Kids = append(n.Kids, e(kind))
		}
		return n
	}
	return binary(c.pick("= != < <= > >="), e(kind), e(kind))
}

// groups makes expressions to group by.
func (c *chance) groups() []api.Node {
	var l []api.Node
	for range c.Intn(4) {
		l = append(l, c.expr(c.kind(), c.Intn(2), false))
	}
	return l
}

// within makes an expression that most often has no column outside of aggregates and groups: trees of these, put together.
func (c *chance) within(kind int, groups []api.Node, depth int) api.Node {
	if c.slip > 0 && c.Intn(c.slip) == 0 {
		return c.expr(kind, depth, true)
	}
	switch c.Intn(4) {
	case 0:
		if len(groups) > 0 {
			return node(api.Case, "", 0, node(api.IsNull, "", c.Intn(2), groups[c.Intn(len(groups))]), null(), c.aggregate(kind, depth))
		}
	case 1:
		return c.aggregate(kind, depth)
	case 2:
		return call("coalesce", c.within(kind, groups, depth-1), c.within(kind, groups, depth-1))
	}
	if kind == api.KindBool {
		return binary(c.pick("= < >"), agg("count"), whole(c.Intn(3)))
	}
	return agg(c.pick("min max"), c.leaf(kind))
}

func (c *chance) item(groups []api.Node, grouped bool) api.Node {
	n := item("", c.expr(c.kind(), 2, false))
	if grouped {
		n.Kids[0] = c.within(c.kind(), groups, 2)
	}
	if len(groups) > 0 && c.Intn(3) == 0 {
		n.Kids[0] = groups[c.Intn(len(groups))]
	}
	if c.Intn(2) == 0 {
		n.Text = c.pick("i d p q r s c1 c2 c3")
	}
	return n
}

func (c *chance) items(groups []api.Node, grouped bool) api.Node {
	if c.Intn(6) == 0 && !grouped {
		return star()
	}
	n := list()
	for range 1 + c.Intn(4) {
		n.Kids = append(n.Kids, c.item(groups, grouped))
	}
	return n
}

// perhaps answers one of a tree and a None.
func (c *chance) perhaps(n api.Node) api.Node {
	if c.Intn(2) == 0 {
		return none()
	}
	return n
}

// selection makes a select, most of whose parts are well typed.
func (c *chance) selection() api.Node {
	groups := c.groups()
	grouped := len(groups) > 0 || c.Intn(3) == 0
	orders := list()
	for range c.Intn(3) {
		by := col(c.pick("i d p q r s c1 c2 c3"))
		if c.Intn(8) == 0 {
			by = c.expr(c.kind(), 1, false)
		}
		orders.Kids = append(orders.Kids, node(api.Order, "", c.Intn(2), by))
	}
	having := none()
	if grouped || c.Intn(8) == 0 {
		having = c.perhaps(c.within(api.KindBool, groups, 2))
	}
	stream := node(api.Stream, "T", 0, none(), none())
	return node(api.Select, "", 1, none(), c.items(groups, grouped), list(stream), c.perhaps(c.expr(api.KindBool, 2, false)), list(groups...), having, orders, none())
}
