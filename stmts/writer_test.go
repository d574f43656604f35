package stmts_test

import (
	"math/rand"
	"strings"
	"testing"

	"marquee/api"
	"marquee/lex"
	"marquee/parse"
)

// writer writes trees as tokens by chance, and notes where each tree stands.
type writer struct {
	*rand.Rand
	l  []api.Token
	at int
}

// put writes a token and answers its At.
func (w *writer) put(t api.Token) int {
	w.at += 1 + w.Intn(5)
	t.At = w.at
	w.l = append(w.l, t)
	return t.At
}

func (w *writer) sign(s string) int { return w.put(sign(s)) }

// words writes them and answers the At of the first.
func (w *writer) words(s string) int {
	first := -1
	for _, x := range strings.Fields(s) {
		if at := w.put(word(x)); first < 0 {
			first = at
		}
	}
	return first
}

func (w *writer) coin() bool { return w.Intn(2) == 0 }

// pick answers one of the words of s.
func (w *writer) pick(s string) string {
	l := strings.Fields(s)
	return l[w.Intn(len(l))]
}

// id writes a name.
func (w *writer) id() (string, int) {
	s := w.pick("a b T asc length time int x1 _")
	return s, w.put(name(s))
}

func (w *writer) name() api.Node {
	s, at := w.id()
	return api.Node{Kind: api.Name, Text: s, At: at}
}

// named is a tree that has a name's text, and begins there.
func (w *writer) named(kind int) api.Node {
	s, at := w.id()
	return api.Node{Kind: kind, Text: s, At: at}
}

// expr writes an expression and answers its tree, and where its first token stands.
func (w *writer) expr() (api.Node, int) {
	some := exprs()
	l, _, _ := lex.Lex(some[w.Intn(len(some))])
	begin := len(w.l)
	for _, t := range l {
		w.put(t)
	}
	n, _, _ := parse.Expr(w.l, begin)
	return n, w.l[begin].At
}

func (w *writer) tree() api.Node {
	n, _ := w.expr()
	return n
}

func nothing() api.Node { return api.Node{Kind: api.None} }

// perhaps writes what stands behind a word, or nothing.
func (w *writer) perhaps(words string, what func() api.Node) api.Node {
	if w.coin() {
		return nothing()
	}
	w.words(words)
	return what()
}

func (w *writer) filter() api.Node {
	if w.coin() {
		return nothing()
	}
	w.sign("(")
	n := w.tree()
	w.sign(")")
	return n
}

// things writes a list and answers its things.
func (w *writer) things(most int, thing func() api.Node) []api.Node {
	var l []api.Node
	many := 1 + w.Intn(min(most, 4))
	if w.Intn(20) == 0 {
		many = most
	}
	for i := range many {
		if i > 0 {
			w.sign(",")
		}
		l = append(l, thing())
	}
	return l
}

// list writes a list as a tree, which begins with the token that is next.
func (w *writer) list(most int, thing func() api.Node) api.Node {
	begin := len(w.l)
	n := api.Node{Kind: api.List, Kids: w.things(most, thing)}
	n.At = w.l[begin].At
	return n
}

func (w *writer) size() int { return 1 + w.Intn(1<<w.Intn(17)) }

func (w *writer) time(least int) int { return least + w.Intn(1<<w.Intn(40)) }

// pattern writes one with brackets around all that is no Atom.
func (w *writer) pattern(depth int) api.Node {
	if depth <= 0 {
		return w.atom()
	}
	switch w.Intn(6) {
	case 0:
		return api.Node{Kind: api.PatEvery, At: w.words("every"), Kids: []api.Node{w.inBrackets(depth - 1)}}
	case 1:
		first := w.inBrackets(depth - 1)
		n := api.Node{Kind: api.PatWithin, At: w.words("within"), N: w.time(0), Kids: []api.Node{first}}
		w.put(period(n.N))
		return n
	case 2:
		first := w.inBrackets(depth - 1)
		return api.Node{Kind: api.PatThen, At: w.sign("->"), Kids: []api.Node{first, w.inBrackets(depth - 1)}}
	case 3:
		first := w.inBrackets(depth - 1)
		return api.Node{Kind: api.PatOr, At: w.words("or"), Kids: []api.Node{first, w.inBrackets(depth - 1)}}
	case 4:
		first := w.inBrackets(depth - 1)
		n := api.Node{Kind: api.PatAnd, At: w.words("and")}
		if w.coin() {
			n.Kids = []api.Node{first, {Kind: api.PatNot, At: w.words("not"), Kids: []api.Node{w.inBrackets(depth - 1)}}}
		} else {
			n.Kids = []api.Node{first, w.inBrackets(depth - 1)}
		}
		return n
	}
	return w.atom()
}

func (w *writer) inBrackets(depth int) api.Node {
	if w.Intn(4) == 0 {
		return w.atom()
	}
	w.sign("(")
	n := w.pattern(depth)
	w.sign(")")
	return n
}

func (w *writer) atom() api.Node {
	if w.Intn(4) == 0 {
		n := api.Node{Kind: api.PatTimer, At: w.words("timer"), N: w.time(0)}
		w.sign("(")
		w.put(period(n.N))
		w.sign(")")
		return n
	}
	n, tag := w.named(api.PatEvent), nothing()
	if w.coin() {
		tag = api.Node{Kind: api.Name, Text: n.Text, At: n.At}
		w.sign("=")
		n.Text, _ = w.id()
	}
	n.Kids = []api.Node{w.filter(), tag}
	return n
}

func (w *writer) view() api.Node {
	n := api.Node{Kind: api.View, At: w.sign("#"), Text: w.pick("keepall lastevent firstevent length length_batch time time_batch unique sorted")}
	w.put(name(n.Text))
	if strings.HasSuffix(n.Text, "event") || n.Text == "keepall" {
		return n
	}
	w.sign("(")
	switch n.Text {
	case "length", "length_batch":
		n.Kids = []api.Node{w.whole()}
	case "time", "time_batch":
		many := w.time(1)
		n.Kids = []api.Node{{Kind: api.Int, Text: "ms", N: many, At: w.put(period(many))}}
	case "unique":
		n.Kids = w.things(api.MaxColumns, func() api.Node { return w.named(api.Col) })
	case "sorted":
		many := w.whole()
		w.sign(",")
		col := w.named(api.Col)
		n.Kids = []api.Node{many, {Kind: api.Order, At: col.At, N: w.desc(), Kids: []api.Node{col}}}
	}
	w.sign(")")
	return n
}

func (w *writer) whole() api.Node {
	many := w.size()
	return api.Node{Kind: api.Int, N: many, At: w.put(whole(many))}
}

func (w *writer) desc() int {
	if w.coin() {
		return 0
	}
	w.words("desc")
	return 1
}

func (w *writer) views(least int) []api.Node {
	var l []api.Node
	for range least + w.Intn(api.MaxViews+1-least) {
		l = append(l, w.view())
	}
	return l
}

func (w *writer) stream() api.Node {
	n := w.named(api.Stream)
	filter := w.filter()
	views := w.views(0)
	n.Kids = append([]api.Node{filter, w.perhaps("as", w.name)}, views...)
	return n
}

func (w *writer) source() api.Node {
	n := w.named(api.Stream)
	n.Kids = []api.Node{w.filter()}
	n.Kids = append(n.Kids, w.perhaps("as", w.name))
	return n
}

func (w *writer) target() api.Node {
	n := w.named(api.Stream)
	n.Kids = []api.Node{nothing(), w.perhaps("as", w.name)}
	return n
}

func (w *writer) items() api.Node {
	if w.Intn(3) == 0 {
		return api.Node{Kind: api.Star, At: w.sign("*")}
	}
	return w.list(api.MaxItems, func() api.Node {
		e, at := w.expr()
		n := api.Node{Kind: api.Item, At: at, Kids: []api.Node{e}}
		if w.coin() {
			w.words("as")
			n.Text, _ = w.id()
		}
		return n
	})
}

func (w *writer) sets() api.Node {
	return w.list(api.MaxItems, func() api.Node {
		n := w.named(api.Set)
		w.sign("=")
		n.Kids = []api.Node{w.tree()}
		return n
	})
}

func (w *writer) stmt() api.Node {
	switch w.Intn(10) {
	case 0:
		return w.schema()
	case 1:
		return w.window()
	case 2:
		return w.context()
	case 3:
		return w.onDelete()
	case 4:
		return w.onUpdate()
	case 5:
		return w.onSelect()
	case 6:
		return w.onMerge()
	}
	return w.selection()
}

func (w *writer) schema() api.Node {
	n := api.Node{Kind: api.CreateSchema, At: w.words("create schema")}
	n.Text, _ = w.id()
	w.sign("(")
	n.Kids = w.things(api.MaxColumns, func() api.Node {
		column := w.named(api.Column_)
		column.N = 1 + w.Intn(4)
		w.put(name(strings.Fields("bool int dec text")[column.N-1]))
		return column
	})
	w.sign(")")
	return n
}

func (w *writer) window() api.Node {
	n := api.Node{Kind: api.CreateWindow, At: w.words("create window")}
	n.Text, _ = w.id()
	views := w.views(1)
	w.words("as")
	n.Kids = append([]api.Node{w.name()}, views...)
	return n
}

func (w *writer) context() api.Node {
	n := api.Node{Kind: api.CreateContext, At: w.words("create context")}
	n.Text, _ = w.id()
	begin := len(w.l)
	var kid api.Node
	switch w.Intn(3) {
	case 0:
		w.words("partition by")
		kid = api.Node{Kind: api.Keyed, Kids: w.things(api.MaxItems, func() api.Node {
			col := w.named(api.Col)
			w.words("from")
			col.Kids = []api.Node{w.name()}
			return col
		})}
	case 1:
		kid = api.Node{Kind: api.Categories, Kids: w.things(api.MaxItems, func() api.Node {
			item := api.Node{Kind: api.Item, At: w.words("when"), Kids: []api.Node{w.tree()}}
			w.words("then")
			item.Text, _ = w.id()
			return item
		})}
		w.words("from")
		kid.Text, _ = w.id()
	case 2:
		kid = w.spans()
	}
	kid.At = w.l[begin].At
	n.Kids = []api.Node{kid}
	return n
}

func (w *writer) spans() api.Node {
	n := api.Node{Kind: api.Spans}
	if w.coin() {
		w.words("overlapping")
		n.N = 1
	}
	event := func() api.Node {
		x := w.named(api.Stream)
		x.Kids = []api.Node{w.filter(), nothing()}
		return x
	}
	w.words("start")
	n.Kids = []api.Node{event()}
	if w.coin() {
		w.words("end")
		n.Kids = append(n.Kids, event())
		return n
	}
	end := api.Node{Kind: api.PatTimer, At: w.words("within"), N: w.time(1)}
	w.put(period(end.N))
	n.Kids = append(n.Kids, end)
	return n
}

func (w *writer) selection() api.Node {
	begin := len(w.l)
	n := api.Node{Kind: api.Select, N: 1}
	if w.coin() {
		w.words("context")
		n.Text, _ = w.id()
	}
	into := w.perhaps("insert into", w.name)
	w.words("select")
	if s := w.Intn(4); s > 0 {
		w.words(strings.Fields("istream rstream irstream")[s-1])
		n.N = s
	}
	items := w.items()
	w.words("from")
	from := w.from()
	where := w.perhaps("where", w.tree)
	group := w.by("group by", w.tree)
	having := w.perhaps("having", w.tree)
	rate := w.rate()
	order := w.by("order by", func() api.Node {
		e, at := w.expr()
		x := api.Node{Kind: api.Order, At: at, Kids: []api.Node{e}}
		if x.N = w.desc(); x.N == 0 && w.coin() {
			w.put(name("asc"))
		}
		return x
	})
	n.At = w.l[begin].At
	n.Kids = []api.Node{into, items, from, where, group, having, order, rate}
	return n
}

func (w *writer) by(words string, thing func() api.Node) api.Node {
	if w.coin() {
		return api.Node{Kind: api.List}
	}
	w.words(words)
	return w.list(api.MaxItems, thing)
}

func (w *writer) from() api.Node {
	if w.coin() {
		return w.list(2, w.stream)
	}
	n := api.Node{Kind: api.Pattern, At: w.words("pattern")}
	w.sign("[")
	n.Kids = []api.Node{w.pattern(1 + w.Intn(4))}
	w.sign("]")
	n.Kids = append(n.Kids, w.perhaps("as", w.name))
	return n
}

func (w *writer) rate() api.Node {
	if w.coin() {
		return nothing()
	}
	n := api.Node{Kind: api.Rate, At: w.words("output"), Text: "all"}
	if w.Intn(3) > 0 {
		n.Text = w.pick("all first last snapshot")
		w.words(n.Text)
	}
	w.words("every")
	if w.coin() {
		n.N = w.time(1)
		n.Kids = []api.Node{{Kind: api.Name, Text: "ms", At: w.put(period(n.N))}}
		return n
	}
	n.N = w.size()
	w.put(whole(n.N))
	n.Kids = []api.Node{{Kind: api.Name, Text: "events", At: w.words("events")}}
	return n
}

func (w *writer) onDelete() api.Node {
	n := api.Node{Kind: api.OnDelete, At: w.words("on"), Kids: []api.Node{w.source()}}
	w.words("delete from")
	n.Kids = append(n.Kids, w.target())
	n.Kids = append(n.Kids, w.perhaps("where", w.tree))
	return n
}

func (w *writer) onUpdate() api.Node {
	n := api.Node{Kind: api.OnUpdate, At: w.words("on"), Kids: []api.Node{w.source()}}
	w.words("update")
	n.Kids = append(n.Kids, w.target())
	w.words("set")
	n.Kids = append(n.Kids, w.sets())
	n.Kids = append(n.Kids, w.perhaps("where", w.tree))
	return n
}

func (w *writer) onSelect() api.Node {
	n := api.Node{Kind: api.OnSelect, At: w.words("on"), Kids: []api.Node{w.source()}}
	w.words("select")
	items := w.items()
	w.words("from")
	n.Kids = append(n.Kids, w.target(), items)
	n.Kids = append(n.Kids, w.perhaps("where", w.tree))
	return n
}

func (w *writer) onMerge() api.Node {
	n := api.Node{Kind: api.OnMerge, At: w.words("on"), Kids: []api.Node{w.source()}}
	w.words("merge")
	n.Kids = append(n.Kids, w.target())
	w.words("where")
	n.Kids = append(n.Kids, w.tree())
	w.words("when matched then update set")
	n.Kids = append(n.Kids, w.sets())
	if w.coin() {
		w.words("when not matched then insert")
		n.N = 1
	}
	return n
}

// Promise 8.1: trees by chance, written as tokens, are read as they were, At, too.
func TestWrittenAndRead(t *testing.T) {
	for i := range 10000 {
		w := &writer{Rand: rand.New(rand.NewSource(int64(i)))}
		checkWritten(t, patternFace(), w, w.pattern(1+w.Intn(6)))
		w = &writer{Rand: rand.New(rand.NewSource(int64(i)))}
		checkWritten(t, stmtFace(), w, w.stmt())
	}
}

func checkWritten(t *testing.T, f face, w *writer, want api.Node) {
	t.Helper()
	l := w.l
	if n, end, e := f.read(l, 0); e != api.OK || end != len(l) || !equal(n, want) {
		t.Fatalf("%s of %s: %s, %d, %d, want %s", f.name, brief(l), inShort(n), end, e, inShort(want))
	}
	ahead := append(tokens(t, "select ( every ("), l...)
	if n, end, e := f.read(append(ahead, sign(";")), 4); e != api.OK || end != len(ahead) || !equal(n, want) {
		t.Fatalf("%s of %s in the middle: %s, %d, %d, want %s", f.name, brief(l), inShort(n), end, e, inShort(want))
	}
}
