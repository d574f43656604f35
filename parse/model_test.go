package parse_test

import (
	"math/rand"
	"slices"
	"strings"
	"testing"

	"marquee/api"
	"marquee/parse"
)

// way is one of the ways in which a thing of the grammar may stand: it is taken, if the tokens of when stand there; then is what it is made of.
//
// A word or a sign stands for itself, NAME, INT, DEC and TEXT for a token of that kind; with a ^ ahead the token is marked. What has ways is a thing.
// open and close count; from and back begin a list of kids, behind the last tree and ahead of it. All others make a tree of the last mark and the last list.
type way struct{ when, then []string }

// written is a way as grammar has it.
type written struct{ when, then string }

// grammar is the chapter's; of a thing's ways the first that may be is taken.
func grammar() map[string][]way {
	g := map[string][]written{
		"Expr": {{"", "open Or close"}},
		"Or":   {{"", "And Or.."}}, "Or..": {{"or", "^or back And Binary Or.."}, {"", ""}},
		"And": {{"", "Not And.."}}, "And..": {{"and", "^and back Not Binary And.."}, {"", ""}},
		"Not":  {{"not", "open ^not from Not Unary close"}, {"", "Test"}},
		"Test": {{"", "Sum Test.."}}, "Test..": {
			{"is not", "^is back not null IsNotNull"}, {"is", "^is back null IsNull"},
			{"between", "Between.."}, {"in", "In.."}, {"not between", "^not Between.. back Unary"}, {"not in", "^not In.. back Unary"},
		},
		"Between..": {{"", "^between back Sum and Sum Between"}},
		"In..":      {{"", "^in back ( List ) In"}},
		"List":      {{"", "Expr List.."}}, "List..": {{",", ", Expr List.."}, {"", ""}},
		"Sum": {{"", "Prod Sum.."}}, "Sum..": {{"+", "^+ back Prod Binary Sum.."}, {"-", "^- back Prod Binary Sum.."}, {"", ""}},
		"Prod": {{"", "Minus Prod.."}}, "Prod..": {{"*", "^* back Minus Binary Prod.."}, {"/", "^/ back Minus Binary Prod.."}, {"%", "^% back Minus Binary Prod.."}, {"", ""}},
		"Minus": {{"-", "open ^- from Minus Unary close"}, {"", "Prim"}},
		"Prim": {
			{"INT", "^INT from Int"}, {"DEC", "^DEC from Dec"}, {"TEXT", "^TEXT from Text"}, {"true", "^true from True"}, {"false", "^false from False"}, {"null", "^null from Null"},
			{"NAME (", "^NAME from ( Args ) Call"}, {"NAME . NAME", "^NAME . ^NAME ColOf"}, {"NAME", "^NAME from Col"}, {"count ( *", "^count from ( * ) Agg"},
			{"case", "^case from When When.. Else Case"}, {"(", "( Expr )"},
		},
		"Args": {{")", ""}, {"", "List"}},
		"When": {{"", "when Expr then Expr"}}, "When..": {{"when", "When When.."}, {"", ""}},
		"Else": {{"else", "else Expr end"}, {"", "^end from Null"}},
	}
	for _, s := range []string{"=", "!=", "<", "<=", ">", ">="} {
		g["Test.."] = append(g["Test.."], written{s, "^" + s + " back Sum Binary"})
	}
	g["Test.."] = append(g["Test.."], written{"", ""})
	for _, s := range []string{"count", "sum", "avg", "min", "max", "first", "last"} {
		g["Prim"] = append(g["Prim"], written{s + " ( distinct", "^" + s + " ( distinct from Expr ) AggDistinct"}, written{s, "^" + s + " from ( Expr ) Agg"})
	}
	ways := map[string][]way{}
	for thing, l := range g {
		for _, w := range l {
			ways[thing] = append(ways[thing], way{strings.Fields(w.when), strings.Fields(w.then)})
		}
	}
	return ways
}

// kinds are those of the tokens that stand for a kind, and of the trees that are made.
var kinds = map[string]int{
	"INT": api.TokenInt, "DEC": api.TokenDec, "TEXT": api.TokenText, "NAME": api.TokenName,
	"Binary": api.Binary, "Unary": api.Unary, "IsNull": api.IsNull, "IsNotNull": api.IsNull, "Between": api.Between, "In": api.In, "Int": api.Int, "Dec": api.Dec, "Text": api.Text, "True": api.Bool, "False": api.Bool, "Null": api.Null, "Call": api.Call, "Col": api.Col, "ColOf": api.Col, "Agg": api.Agg, "AggDistinct": api.Agg, "Case": api.Case,
}

// model reads by the grammar with a list of what is still to stand there: no rule calls another one.
type model struct {
	ways  map[string][]way
	l     []api.Token
	at    int
	open  int
	todo  []string // the next one last
	marks []api.Token
	lists []int
	trees []api.Node
}

func (m *model) is(at int, s string) bool {
	if at >= len(m.l) {
		return false
	}
	t := m.l[at]
	switch s {
	case "INT", "DEC", "TEXT", "NAME":
		return t.Kind == kinds[s]
	}
	if s[0] >= 'a' && s[0] <= 'z' {
		return t.Kind == api.TokenWord && t.Text == s
	}
	return t.Kind == api.TokenSign && t.Text == s
}

func (m *model) stand(when []string) bool {
	for i, s := range when {
		if !m.is(m.at+i, s) {
			return false
		}
	}
	return true
}

// enter lays the ways of a thing on the list; false, if none may be.
func (m *model) enter(s string) bool {
	for _, w := range m.ways[s] {
		if m.stand(w.when) {
			for _, s := range slices.Backward(w.then) {
				m.todo = append(m.todo, s)
			}
			return true
		}
	}
	return false
}

func pop[T any](l *[]T) T {
	x := (*l)[len(*l)-1]
	*l = (*l)[:len(*l)-1]
	return x
}

// make makes a tree; false, if s makes none.
func (m *model) make(s string) bool {
	if kinds[s] == 0 || s == strings.ToUpper(s) {
		return false
	}
	mark := pop(&m.marks)
	n := api.Node{Kind: kinds[s], At: mark.At}
	switch s {
	case "Binary", "Unary", "Text", "Call", "Col", "ColOf", "Agg", "AggDistinct":
		n.Text = mark.Text
	case "Int", "Dec":
		n.N = mark.N
	}
	switch s {
	case "True", "IsNotNull", "AggDistinct":
		n.N = 1
	}
	if s == "ColOf" {
		of := pop(&m.marks)
		n.At = of.At
		n.Kids = []api.Node{{Kind: api.Name, Text: of.Text, At: of.At}}
	} else {
		first := pop(&m.lists)
		n.Kids = slices.Clone(m.trees[first:])
		m.trees = m.trees[:first]
	}
	m.trees = append(m.trees, n)
	return true
}

// step does the next thing on the list.
func (m *model) step() api.Errno {
	s := pop(&m.todo)
	switch {
	case s == "open" && m.open == api.MaxNest:
		return api.ErrDeep
	case s == "open":
		m.open++
	case s == "close":
		m.open--
	case s == "from":
		m.lists = append(m.lists, len(m.trees))
	case s == "back":
		m.lists = append(m.lists, len(m.trees)-1)
	case m.ways[s] != nil:
		if !m.enter(s) {
			return api.ErrSyntax
		}
	case m.make(s):
	case !m.is(m.at, strings.TrimPrefix(s, "^")):
		return api.ErrSyntax
	default:
		if s[0] == '^' {
			m.marks = append(m.marks, m.l[m.at])
		}
		m.at++
	}
	return api.OK
}

// modelExpr is Expr by the model.
func modelExpr(ways map[string][]way, l []api.Token, at int) (api.Node, int, api.Errno) {
	m := model{ways: ways, l: l, at: at, todo: []string{"Expr"}}
	for len(m.todo) > 0 {
		if e := m.step(); e != api.OK {
			return api.Node{}, m.at, e
		}
	}
	return m.trees[0], m.at, api.OK
}

func checkModel(t *testing.T, ways map[string][]way, l []api.Token, at int) api.Errno {
	t.Helper()
	want, wantEnd, wantE := modelExpr(ways, l, at)
	if n, end, e := parse.Expr(l, at); e != wantE || end != wantEnd || !equal(n, want) {
		t.Fatalf("Expr of %s at %d: %#v, %d, %d, want %#v, %d, %d", brief(l), at, n, end, e, want, wantEnd, wantE)
	}
	return wantE
}

// some are tokens of all sorts that rules take, and one that none takes; their At do not rise, so that none is taken for another.
func some() []api.Token {
	l := []api.Token{name("a"), name("f"), whole(1), {Kind: api.TokenDec, N: 15000}, {Kind: api.TokenText, Text: "x"}, sign(";")}
	for _, s := range strings.Fields("( ) , . + - * / % = != < <= > >=") {
		l = append(l, sign(s))
	}
	for _, s := range strings.Fields("and or not is null between in true false count sum avg min max first last distinct case when then else end") {
		l = append(l, word(s))
	}
	return l
}

// few are so few of them that all short lists of them can be tried.
func few() []api.Token {
	l := []api.Token{name("a"), whole(1)}
	for _, s := range strings.Fields("( ) , . - * =") {
		l = append(l, sign(s))
	}
	for _, s := range strings.Fields("and or not is null between in count sum distinct case when then else end") {
		l = append(l, word(s))
	}
	return l
}

// Promise 7.1: all lists of at most four tokens out of some.
func TestAllShort(t *testing.T) {
	ways := grammar()
	vocabulary := few()
	seen := map[api.Errno]int{}
	var all func(l []api.Token)
	all = func(l []api.Token) {
		seen[checkModel(t, ways, l, 0)]++
		if len(l) == 4 {
			return
		}
		for _, s := range vocabulary {
			s.At = 10 * (len(l) + 1)
			all(append(slices.Clone(l), s))
		}
	}
	all(nil)
	if seen[api.OK] < 10000 || seen[api.ErrSyntax] < 10000 {
		t.Error(seen)
	}
}

// chance makes lists of tokens by chance.
type chance struct {
	*rand.Rand
	ways      map[string][]way
	good, bad []api.Token
}

func newChance(seed int64) chance {
	return chance{rand.New(rand.NewSource(seed)), grammar(), some(), strangers()}
}

// derive answers tokens that a thing of the grammar may be; once it has gone through that many things, all that is left is as short as may be.
func (c chance) derive(s string, things *int) []api.Token {
	ways := c.ways[s]
	if ways == nil {
		return c.terminal(s)
	}
	w := ways[c.Intn(len(ways))]
	if *things--; *things < 0 {
		w = slices.MinFunc(ways, func(a, b way) int { return len(a.then) - len(b.then) })
	}
	var l []api.Token
	for _, s := range w.then {
		l = append(l, c.derive(s, things)...)
	}
	return l
}

func (c chance) expr(things int) []api.Token {
	return c.derive("Expr", &things)
}

// terminal answers a token that s stands for; none of what is only done.
func (c chance) terminal(s string) []api.Token {
	m := model{l: c.good}
	var l []api.Token
	for at, t := range m.l {
		if m.is(at, strings.TrimPrefix(s, "^")) {
			l = append(l, t)
		}
	}
	if len(l) == 0 {
		return nil
	}
	return []api.Token{l[c.Intn(len(l))]}
}

// spoil changes up to three tokens, takes some away, lays others between.
func (c chance) spoil(l []api.Token) []api.Token {
	for range c.Intn(4) {
		at, s := c.Intn(len(l)+1), c.good[c.Intn(len(c.good))]
		if c.Intn(10) == 0 {
			s = c.bad[c.Intn(len(c.bad))]
		}
		switch {
		case c.Intn(3) == 0 || at == len(l):
			l = slices.Insert(l, at, s)
		case c.Intn(2) == 0:
			l = slices.Delete(l, at, at+1)
		default:
			l[at] = s
		}
	}
	return l
}

// numbered gives each token an At of its own.
func numbered(l []api.Token) []api.Token {
	l = slices.Clone(l)
	for i := range l {
		l[i].At = 7*i + 3
	}
	return l
}

// Promise 7.1: expressions of all sorts, whole and spoilt, from every token on, held against a reader that is written otherwise.
func TestModel(t *testing.T) {
	c := newChance(7)
	seen := map[api.Errno]int{}
	for i := range 8000 {
		l := c.expr(c.Intn(150))
		if i%2 == 1 {
			l = c.spoil(slices.Clone(l))
		}
		l = numbered(l)
		seen[checkModel(t, c.ways, l, 0)]++
		checkModel(t, c.ways, l, c.Intn(len(l)+1))
	}
	if seen[api.OK] < 4000 || seen[api.ErrSyntax] < 1000 {
		t.Error(seen)
	}
}

// Promise 7.1: the same where as many are open as may be, or nearly so.
func TestModelDeep(t *testing.T) {
	c := newChance(8)
	seen := map[api.Errno]int{}
	heads := [][]api.Token{tokens(t, "("), tokens(t, "not"), tokens(t, "-"), tokens(t, "f("), tokens(t, "f(a,"), tokens(t, "a in ("), tokens(t, "a not in (b,"), tokens(t, "case when"), tokens(t, "case when a then"), tokens(t, "sum(distinct"), tokens(t, "a +"), tokens(t, "a and not"), tokens(t, "a between (")}
	for range 4000 {
		var l []api.Token
		one := heads[c.Intn(len(heads))]
		for range 94 + c.Intn(10) {
			if c.Intn(30) == 0 {
				one = heads[c.Intn(len(heads))]
			}
			l = append(l, one...)
		}
		l = append(l, c.spoil(c.expr(30))...)
		seen[checkModel(t, c.ways, numbered(l), 0)]++
	}
	if seen[api.ErrDeep] < 1000 || seen[api.ErrSyntax] < 500 {
		t.Error(seen)
	}
}

// Promise 7.1: tokens by chance.
func TestModelOfTokensByChance(t *testing.T) {
	c := newChance(9)
	vocabulary := append(c.good, c.bad[:10]...)
	for range 50000 {
		var l []api.Token
		for range c.Intn(12) {
			l = append(l, vocabulary[c.Intn(len(vocabulary))])
		}
		l = numbered(l)
		for at := range len(l) + 1 {
			checkModel(t, c.ways, l, at)
		}
	}
}
