package stmts_test

import (
	"math/rand"
	"slices"
	"strconv"
	"strings"
	"testing"

	"marquee/api"
	"marquee/lex"
	"marquee/parse"
)

// chapter are the chapter's rules, one a line: { } as often as it stands there, < > or nothing, | or.
//
// A word or a sign stands for itself, with a ' ahead for a name of that text; NAME is any name, SIZE and PERIOD.. numbers in their ranges, EXPR layer 7's.
// X,5 is a list of at most five X; X..5 is at most five X one behind another; open and close count. What else begins with a capital letter is a rule.
const chapter = `
P: open Or { -> Or } close
Or: And { or And }
And: Un { and Other }
Other: not Un | Un
Un: open every Un close | Atom { within PERIOD0 }
Atom: timer ( PERIOD0 ) | ( P ) | NAME < = NAME > Filter
Filter: < ( EXPR ) >
As: < as NAME >
Where: < where EXPR >
Source: NAME Filter As
Target: NAME As
View: # Kept
Kept: 'keepall | 'lastevent | 'firstevent | 'length ( SIZE ) | 'length_batch ( SIZE ) | 'time ( PERIOD1 ) | 'time_batch ( PERIOD1 ) | 'unique ( NAME,32 ) | 'sorted ( SIZE , NAME < desc > )
Stream: NAME Filter View..4 As
Items: * | Item,32
Item: EXPR As
Set: NAME = EXPR
Stmt: create Made | Select | on Source Done
Made: schema NAME ( Column,32 ) | window NAME View View..3 as NAME | context NAME Parts
Column: NAME Kind
Kind: 'bool | 'int | 'dec | 'text
Parts: partition by Key,32 | Category,32 from NAME | < overlapping > start NAME Filter End
Key: NAME from NAME
Category: when EXPR then NAME
End: end NAME Filter | within PERIOD1
Select: < context NAME > < insert into NAME > select Told Items from From Where < group by EXPR,32 > < having EXPR > < output Rate every Many > < order by Order,32 >
Told: < istream | rstream | irstream >
From: pattern [ P ] As | Stream,2
Rate: < all | first | last | snapshot >
Many: SIZE events | PERIOD1
Order: EXPR < desc | 'asc >
Done: delete from Target Where | update Target set Set,32 Where | select Items from Target Where | merge Target where EXPR when matched then update set Set,32 < when not matched then insert >
`

// ways are those in which a rule may stand, each a row of parts.
type ways [][]part

// part is one of: a text; ways of its own, at most as many one behind another as most says, or (none) with nothing instead.
type part struct {
	text string
	ways ways
	most int
	none bool
}

const anyNumber = 1 << 30

// rulesOf makes the ways of each rule out of its line.
func rulesOf(s string) map[string]ways {
	rules := map[string]ways{}
	for line := range strings.Lines(strings.TrimSpace(s)) {
		rule, text, _ := strings.Cut(line, ":")
		fields := strings.Fields(text)
		rules[rule] = waysOf(&fields)
	}
	return rules
}

// waysOf takes fields up to the end, or up to a > or } that ends it.
func waysOf(fields *[]string) ways {
	w := ways{nil}
	for len(*fields) > 0 {
		s := (*fields)[0]
		*fields = (*fields)[1:]
		last := &w[len(w)-1]
		switch s {
		case ">", "}":
			return w
		case "|":
			w = append(w, nil)
		case "<":
			*last = append(*last, part{ways: waysOf(fields), most: 1, none: true})
		case "{":
			*last = append(*last, part{ways: waysOf(fields), most: anyNumber, none: true})
		default:
			*last = append(*last, partOf(s))
		}
	}
	return w
}

func partOf(s string) part {
	if thing, most, found := strings.Cut(s, ".."); found {
		many, _ := strconv.Atoi(most)
		return part{ways: ways{{{text: thing}}}, most: many, none: true}
	}
	return part{text: s}
}

// listOf answers the thing and the greatest length of a list.
func listOf(s string) (string, int) {
	thing, most, _ := strings.Cut(s, ",")
	many, _ := strconv.Atoi(most)
	return thing, many
}

// model reads by the rules as they are written in a table.
type model struct {
	rules map[string]ways
	l     []api.Token
	at    int
	open  int
	err   api.Errno
}

func is(t api.Token, s string) bool {
	inRange := func(kind, least, most int) bool { return t.Kind == kind && t.N >= least && t.N <= most }
	switch {
	case s == "NAME":
		return t.Kind == api.TokenName
	case s == "SIZE":
		return inRange(api.TokenInt, 1, 65536)
	case s == "PERIOD0":
		return inRange(api.TokenPeriod, 0, 1099511627776)
	case s == "PERIOD1":
		return inRange(api.TokenPeriod, 1, 1099511627776)
	case s[0] == '\'':
		return t.Kind == api.TokenName && t.Text == s[1:]
	case s[0] >= 'a' && s[0] <= 'z':
		return t.Kind == api.TokenWord && t.Text == s
	}
	return t.Kind == api.TokenSign && t.Text == s
}

// begins tells whether the next token may begin what has these ways; an EXPR is asked for only where it must stand.
func (m *model) begins(w ways) bool {
	return slices.ContainsFunc(w, m.beginsRow)
}

func (m *model) beginsRow(row []part) bool {
	for _, p := range row {
		switch {
		case p.text == "open":
		case p.ways != nil:
			if m.begins(p.ways) {
				return true
			}
		case p.text == "EXPR":
			return true
		case strings.Contains(p.text, ",") && p.text != ",":
			thing, _ := listOf(p.text)
			return m.beginsRow([]part{{text: thing}})
		case m.rules[p.text] != nil:
			if m.begins(m.rules[p.text]) {
				return true
			}
			if !m.mayBeNothing(m.rules[p.text]) {
				return false
			}
		default:
			return m.at < len(m.l) && is(m.l[m.at], p.text)
		}
	}
	return false
}

func (m *model) mayBeNothing(w ways) bool {
	return slices.ContainsFunc(w, func(row []part) bool {
		return !slices.ContainsFunc(row, func(p part) bool { return !p.none })
	})
}

func (m *model) fail(e api.Errno) {
	if m.err == api.OK {
		m.err = e
	}
}

// read reads the first of the ways that the next token may begin; the last one, if it begins none.
func (m *model) read(w ways) {
	row := w[len(w)-1]
	for _, other := range slices.Backward(w) {
		if m.beginsRow(other) {
			row = other
		}
	}
	for _, p := range row {
		if m.err == api.OK {
			m.readPart(p)
		}
	}
}

func (m *model) readPart(p part) {
	switch {
	case p.ways != nil:
		for many := 0; m.err == api.OK && m.begins(p.ways); many++ {
			if many == p.most && p.most > 1 {
				m.fail(api.ErrSyntax)
				return
			}
			if many == p.most {
				return
			}
			m.read(p.ways)
		}
	case p.text == "open":
		if m.open++; m.open > 100 {
			m.fail(api.ErrDeep)
		}
	case p.text == "close":
		m.open--
	case p.text == "EXPR":
		_, at, e := parse.Expr(m.l, m.at)
		m.at = at
		m.fail(e)
	case strings.Contains(p.text, ",") && p.text != ",":
		m.readList(listOf(p.text))
	case m.rules[p.text] != nil:
		m.read(m.rules[p.text])
	case m.at < len(m.l) && is(m.l[m.at], p.text):
		m.at++
	default:
		m.fail(api.ErrSyntax)
	}
}

func (m *model) readList(thing string, most int) {
	m.readPart(part{text: thing})
	for many := 1; m.err == api.OK && m.at < len(m.l) && is(m.l[m.at], ","); many++ {
		m.at++
		if many == most {
			m.fail(api.ErrSyntax)
			return
		}
		m.readPart(part{text: thing})
	}
}

// modelOf answers where the model ends, and its error.
func modelOf(rules map[string]ways, rule string, l []api.Token, at int) (int, api.Errno) {
	m := model{rules: rules, l: l, at: at}
	m.read(rules[rule])
	return m.at, m.err
}

// checkModel: where the call ends, and its error, are the model's.
func checkModel(t *testing.T, rules map[string]ways, f face, l []api.Token, at int) api.Errno {
	t.Helper()
	rule := "Stmt"
	if f.form == api.FormPattern {
		rule = "P"
	}
	want, wantE := modelOf(rules, rule, l, at)
	n, end, e := f.read(l, at)
	if end != want || e != wantE || isZero(n) != (e != api.OK) {
		t.Fatalf("%s of %s at %d: %s, %d, %d, want %d, %d", f.name, brief(l), at, inShort(n), end, e, want, wantE)
	}
	return e
}

// chance makes lists of tokens by chance.
type chance struct {
	*rand.Rand
	rules      map[string]ways
	vocabulary []api.Token
	bad        []api.Token
}

func newChance(seed int64) chance {
	return chance{rand.New(rand.NewSource(seed)), rulesOf(chapter), vocabulary(), strangers()}
}

// vocabulary are tokens of all sorts that sources give.
func vocabulary() []api.Token {
	l := []api.Token{whole(0), whole(1), whole(2), whole(api.MaxSize), whole(api.MaxSize + 1), period(0), period(1), period(5000), period(api.MaxTime), {Kind: api.TokenDec, N: 15000}, {Kind: api.TokenText, Text: "x"}}
	for _, s := range strings.Fields("a b T asc ASC keepall lastevent firstevent length length_batch time time_batch unique sorted bool int dec text Length INT") {
		l = append(l, name(s))
	}
	for _, s := range strings.Fields("<= >= != -> < > = + - * / % ( ) , . ; [ ] #") {
		l = append(l, sign(s))
	}
	for _, s := range lex.Words() {
		l = append(l, word(s))
	}
	return l
}

// exprs are expressions of all sorts.
func exprs() []string {
	return strings.Split("a; 1; 1.5; 'x'; null; t.a; (a); a + b * -c; not a; a = b; a is not null; a between b and c; a not in (b, c); f(); f(a, b); count(*); sum(distinct a); case when a then b end; case when a then b else c end; (a or b) and not (c); a or b; asc; length; ((a + b)) * 2", ";")
}

// derive answers tokens that one of these ways may be; once that many are made, all that is left is as short as may be.
func (c chance) derive(w ways, many *int) []api.Token {
	row := w[c.Intn(len(w))]
	if *many--; *many < 0 {
		row = slices.MinFunc(w, func(a, b []part) int { return len(a) - len(b) })
		if slices.ContainsFunc(row, func(p part) bool { return p.text == "P" || p.text == "Un" }) {
			row = w[len(w)-1]
		}
	}
	var l []api.Token
	for _, p := range row {
		l = append(l, c.derivePart(p, many)...)
	}
	return l
}

func (c chance) derivePart(p part, many *int) []api.Token {
	var l []api.Token
	switch {
	case p.ways != nil:
		for range c.times(min(p.most, 4), many) {
			l = append(l, c.derive(p.ways, many)...)
		}
	case p.text == "open" || p.text == "close":
	case p.text == "EXPR":
		some := exprs()
		l, _, _ = lex.Lex(some[c.Intn(len(some))])
	case strings.Contains(p.text, ",") && p.text != ",":
		thing, most := listOf(p.text)
		l = c.derivePart(part{text: thing}, many)
		for range c.times(min(most-1, 3), many) {
			l = append(l, sign(","))
			l = append(l, c.derivePart(part{text: thing}, many)...)
		}
	case c.rules[p.text] != nil:
		l = c.derive(c.rules[p.text], many)
	default:
		l = append(l, c.terminal(p.text))
	}
	return l
}

// times answers how often what need not stand there does.
func (c chance) times(most int, many *int) int {
	if *many < 0 {
		return 0
	}
	return c.Intn(most + 1)
}

func (c chance) terminal(s string) api.Token {
	var l []api.Token
	for _, t := range c.vocabulary {
		if is(t, s) {
			l = append(l, t)
		}
	}
	return l[c.Intn(len(l))]
}

// make answers tokens of a rule, each with an At of its own.
func (c chance) make(rule string, many int) []api.Token {
	return numbered(c.derive(c.rules[rule], &many))
}

// spoil changes up to three tokens, takes some away, lays others between.
func (c chance) spoil(l []api.Token) []api.Token {
	l = slices.Clone(l)
	for range c.Intn(4) {
		at, s := c.Intn(len(l)+1), c.vocabulary[c.Intn(len(c.vocabulary))]
		if c.Intn(10) == 0 {
			s = c.bad[c.Intn(len(c.bad))]
		}
		switch {
		case c.Intn(3) == 0 || at == len(l):
			l = slices.Insert(l, at, s)
		case c.Intn(2) == 0:
			l = slices.Delete(l, at, at+1)
		default:
			l[at] = s
		}
	}
	return numbered(l)
}

// Promise 8.1: patterns and statements of all sorts, whole and spoilt, from every token on, held against a reader that is written otherwise.
func TestModel(t *testing.T) {
	c := newChance(8)
	for _, f := range both() {
		seen := map[api.Errno]int{}
		for i := range 10000 {
			l := c.make(f.rule, c.Intn(120))
			if end, e := modelOf(c.rules, f.rule, l, 0); end != len(l) || e != api.OK {
				t.Fatalf("the model reads %s up to %d, %d", brief(l), end, e)
			}
			if i%2 == 1 {
				l = c.spoil(l)
			}
			seen[checkModel(t, c.rules, f.face, l, 0)]++
			checkModel(t, c.rules, f.face, l, c.Intn(len(l)+1))
		}
		if seen[api.OK] < 5000 || seen[api.ErrSyntax] < 1500 {
			t.Error(f.rule, seen)
		}
	}
}

// Promise 8.1: all lists of so few tokens that all can be tried.
func TestAllShortPatterns(t *testing.T) {
	few := []api.Token{name("a"), sign("->"), sign("("), sign(")"), sign("="), word("and"), word("or"), word("not"), word("every"), word("within"), word("timer"), period(5), whole(1)}
	rules := rulesOf(chapter)
	seen := map[api.Errno]int{}
	var all func(l []api.Token)
	all = func(l []api.Token) {
		seen[checkModel(t, rules, patternFace(), l, 0)]++
		if len(l) == 5 {
			return
		}
		for _, s := range few {
			all(append(slices.Clone(l), s))
		}
	}
	all(nil)
	if seen[api.OK] < 10000 || seen[api.ErrSyntax] < 10000 {
		t.Error(seen)
	}
}

// heads are statements that are not at their end, or need not be.
func heads() []string {
	return []string{
		"", "create", "create schema", "create schema T", "create schema T (", "create schema T (a", "create schema T (a int", "create window", "create window W", "create window W#", "create window W#keepall", "create window W#keepall as",
		"create context", "create context C", "create context C partition", "create context C partition by", "create context C partition by a", "create context C partition by a from", "create context C partition by a from T",
		"create context C when", "create context C when a", "create context C when a then", "create context C when a then b", "create context C when a then b from", "create context C when a then b,",
		"create context C overlapping", "create context C start", "create context C start A", "create context C start A(", "create context C start A end", "create context C start A end B", "create context C start A within",
		"context", "context C", "context C insert", "insert", "insert into", "insert into B", "select", "select istream", "select rstream", "select irstream", "select *", "select a", "select a as", "select a as b", "select a,", "select a from", "select a from T", "select a from T(b", "select a from T#", "select a from T as", "select a from T as t", "select a from T#keepall", "select a from T,", "select a from T, U",
		"select a from T#length", "select a from T#length(", "select a from T#length_batch(5", "select a from T#time(", "select a from T#time_batch(5s", "select a from T#unique(", "select a from T#unique(a", "select a from T#sorted(", "select a from T#sorted(5", "select a from T#sorted(5,", "select a from T#sorted(5, a", "select a from T#sorted(5, a desc",
		"select a from pattern", "select a from pattern [", "select a from pattern [A", "select a from pattern [A]", "select a from pattern [A] as", "select a from pattern [A] as p", "select a from T where", "select a from T where a", "select a from T group", "select a from T group by", "select a from T group by a", "select a from T having", "select a from T having a",
		"select a from T output", "select a from T output all", "select a from T output every", "select a from T output first every 5", "select a from T output last every 5s", "select a from T output snapshot every 5 events", "select a from T order", "select a from T order by", "select a from T order by a", "select a from T order by a desc", "select a from T order by a asc",
		"on", "on A", "on A(", "on A(a", "on A(a)", "on A as", "on A as a", "on A delete", "on A delete from", "on A delete from W", "on A delete from W as", "on A delete from W as w", "on A delete from W where", "on A delete from W where a",
		"on A update", "on A update W", "on A update W as w", "on A update W set", "on A update W set a", "on A update W set a =", "on A update W set a = b", "on A update W set a = b where", "on A select", "on A select *", "on A select a", "on A select a as", "on A select a from", "on A select a from W", "on A select a from W where",
		"on A merge", "on A merge W", "on A merge W as w", "on A merge W where", "on A merge W where a", "on A merge W where a when", "on A merge W where a when matched", "on A merge W where a when matched then", "on A merge W where a when matched then update", "on A merge W where a when matched then update set", "on A merge W where a when matched then update set a = b",
		"on A merge W where a when matched then update set a = b when", "on A merge W where a when matched then update set a = b when not", "on A merge W where a when matched then update set a = b when not matched", "on A merge W where a when matched then update set a = b when not matched then", "on A merge W where a when matched then update set a = b when not matched then insert",
	}
}

// Promise 8.1: behind each of the heads each token, and behind that each other one.
func TestAllBehindHeads(t *testing.T) {
	rules := rulesOf(chapter)
	vocabulary := vocabulary()
	seen := map[api.Errno]int{}
	for _, s := range heads() {
		l := tokens(t, s)
		seen[checkModel(t, rules, stmtFace(), l, 0)]++
		for _, a := range strangers() {
			seen[checkModel(t, rules, stmtFace(), append(slices.Clip(l), a), 0)]++
		}
		for _, a := range vocabulary {
			one := append(slices.Clip(l), a)
			seen[checkModel(t, rules, stmtFace(), one, 0)]++
			if end, e := modelOf(rules, "Stmt", one, 0); e != api.OK && end < len(one) {
				continue // what stands behind is not come to
			}
			for _, b := range vocabulary {
				seen[checkModel(t, rules, stmtFace(), append(slices.Clip(one), b), 0)]++
			}
		}
	}
	if seen[api.OK] < 10000 || seen[api.ErrSyntax] < 10000 {
		t.Error(seen)
	}
}

// Promise 8.1: the same where as many patterns are open as may be, or nearly so.
func TestModelDeep(t *testing.T) {
	c := newChance(9)
	seen := map[api.Errno]int{}
	heads := [][]api.Token{tokens(t, "("), tokens(t, "every"), tokens(t, "every ("), tokens(t, "A -> ("), tokens(t, "A and not ("), tokens(t, "A or every"), tokens(t, "a=A(x) and (")}
	for range 3000 {
		var l []api.Token
		one := heads[c.Intn(len(heads))]
		for range 94 + c.Intn(10) {
			if c.Intn(30) == 0 {
				one = heads[c.Intn(len(heads))]
			}
			l = append(l, one...)
		}
		l = append(l, c.spoil(c.make("P", 20))...)
		seen[checkModel(t, c.rules, patternFace(), numbered(l), 0)]++
		checkModel(t, c.rules, stmtFace(), numbered(append(tokens(t, "select * from pattern ["), l...)), 0)
	}
	if seen[api.ErrDeep] < 500 || seen[api.ErrSyntax] < 500 {
		t.Error(seen)
	}
}

// Promise 8.1: tokens by chance.
func TestModelOfTokensByChance(t *testing.T) {
	c := newChance(10)
	all := append(slices.Clone(c.vocabulary), c.bad[:10]...)
	for range 20000 {
		var l []api.Token
		for range c.Intn(12) {
			l = append(l, all[c.Intn(len(all))])
		}
		l = numbered(l)
		for at := range len(l) + 1 {
			checkModel(t, c.rules, patternFace(), l, at)
			checkModel(t, c.rules, stmtFace(), l, at)
		}
	}
}
