package tree_test

import (
	"math"
	"regexp"
	"slices"
	"strings"
	"unicode/utf8"

	"marquee/api"
	"marquee/lex"
)

// modelRule says of which kind, text and number a tree is, and by a pattern over the letters of its kids what they are; it has the letter then. The first rule that fits counts.
type modelRule struct {
	letter      string
	kind        int
	text        string // a pattern of the whole text; ID and RUNES stand for more
	least, most int
	kids        string // E, P and the like stand for the letters of all that may be there
}

// modelSorts are short for letters: expressions, patterns, streams of one sort and another.
func modelSorts() *strings.Replacer {
	return strings.NewReplacer("<E>", "[ecks]", "<E?>", "[ecks-]", "<N?>", "[n-]", "<P>", "[pt]", "<S>", "[1234]", "<T>", "[12]", "<B>", "[13]", "<F>", "[12345]")
}

// modelRules are the chapter's, each kind once for each sort of tree that some place asks for.
func modelRules() []modelRule {
	return []modelRule{
		{"-", api.None, "", 0, 0, ""}, {"n", api.Name, "ID", 0, 0, ""}, {"v", api.Name, "events", 0, 0, ""}, {"m", api.Name, "ms", 0, 0, ""},
		{"e", api.Null, "", 0, 0, ""}, {"e", api.Bool, "", 0, 1, ""}, {"e", api.Dec, "", 0, math.MaxInt, ""}, {"e", api.Text, "RUNES", 0, 0, ""},
		{"s", api.Int, "", 1, api.MaxSize, ""}, {"e", api.Int, "", 0, math.MaxInt, ""}, {"d", api.Int, "ms", 1, api.MaxTime, ""},
		{"c", api.Col, "ID", 0, 0, ""}, {"k", api.Col, "ID", 0, 0, "n"},
		{"e", api.Unary, "-|not", 0, 0, "<E>"}, {"e", api.Binary, `[-+*/%=<>]|[!<>]=|and|or`, 0, 0, "<E><E>"}, {"e", api.IsNull, "", 0, 1, "<E>"},
		{"e", api.Between, "", 0, 0, "<E><E><E>"}, {"e", api.In, "", 0, 0, "<E><E>+"}, {"e", api.Case, "", 0, 0, "<E>(<E><E>)+"}, {"e", api.Call, "ID", 0, 0, "<E>*"},
		{"e", api.Agg, "count|sum|avg|min|max|first|last", 0, 1, "<E>"}, {"e", api.Agg, "count", 0, 0, ""},
		{"p", api.PatEvent, "ID", 0, 0, "<E?><N?>"}, {"p", api.PatEvery, "", 0, 0, "<P>"}, {"p", api.PatThen, "", 0, 0, "<P><P>"}, {"p", api.PatOr, "", 0, 0, "<P><P>"},
		{"p", api.PatAnd, "", 0, 0, "<P>(<P>|x)"}, {"x", api.PatNot, "", 0, 0, "<P>"}, {"t", api.PatTimer, "", 1, api.MaxTime, ""}, {"p", api.PatTimer, "", 0, 0, ""}, {"p", api.PatWithin, "", 0, api.MaxTime, "<P>"},
		{"i", api.Item, "ID", 0, 0, "<E>"}, {"j", api.Item, "", 0, 0, "<E>"}, {"*", api.Star, "", 0, 0, ""}, {"a", api.Set, "ID", 0, 0, "<E>"},
		{"o", api.Order, "", 0, 1, "c"}, {"O", api.Order, "", 0, 1, "<E>"},
		{"r", api.Rate, "all|first|last|snapshot", 1, api.MaxSize, "v"}, {"r", api.Rate, "all|first|last|snapshot", 1, api.MaxTime, "m"},
		{"w", api.View, "keepall|lastevent|firstevent", 0, 0, ""}, {"w", api.View, "length|length_batch", 0, 0, "s"}, {"w", api.View, "time|time_batch", 0, 0, "d"},
		{"w", api.View, "unique", 0, 0, "c{1,32}"}, {"w", api.View, "sorted", 0, 0, "so"},
		{"1", api.Stream, "ID", 0, 0, "--"}, {"2", api.Stream, "ID", 0, 0, "-n"}, {"3", api.Stream, "ID", 0, 0, "<E>-"}, {"4", api.Stream, "ID", 0, 0, "<E>n"}, {"5", api.Stream, "ID", 0, 0, "<E?><N?>w{1,4}"},
		{"q", api.Pattern, "", 0, 0, "<P><N?>"}, {"l", api.Column_, "ID", 1, 4, ""},
		{"Z", api.List, "", 0, 0, ""}, {"I", api.List, "", 0, 0, "[ij]{1,32}"}, {"A", api.List, "", 0, 0, "a{1,32}"}, {"F", api.List, "", 0, 0, "<F>{1,2}"}, {"G", api.List, "", 0, 0, "<E>{1,32}"}, {"H", api.List, "", 0, 0, "[oO]{1,32}"},
		{"K", api.Keyed, "", 0, 0, "k{1,32}"}, {"K", api.Categories, "ID", 0, 0, "i{1,32}"}, {"K", api.Spans, "", 0, 1, "<B>(<B>|t)"},
		{"Y", api.CreateSchema, "ID", 0, 0, "l{1,32}"}, {"Y", api.CreateWindow, "ID", 0, 0, "nw{1,4}"}, {"Y", api.CreateContext, "ID", 0, 0, "K"},
		{"Y", api.Select, "ID|", 1, 3, "<N?>[*I][Fq]<E?>[GZ]<E?>[HZ][r-]"},
		{"Y", api.OnDelete, "", 0, 0, "<S><T><E?>"}, {"Y", api.OnUpdate, "", 0, 0, "<S><T>A<E?>"}, {"Y", api.OnSelect, "", 0, 0, "<S><T>[*I]<E?>"}, {"Y", api.OnMerge, "", 0, 1, "<S><T><E>A"},
	}
}

// model tells forms by the rules; its patterns are made once.
type model struct {
	rules []modelRule
	texts []*regexp.Regexp
	kids  []*regexp.Regexp
	words []string
}

func newModel() model {
	m := model{rules: modelRules(), words: lex.Words()}
	for _, r := range m.rules {
		m.texts = append(m.texts, regexp.MustCompile("^(?:"+r.text+")$"))
		m.kids = append(m.kids, regexp.MustCompile("^(?:"+modelSorts().Replace(r.kids)+")$"))
	}
	return m
}

var modelId = regexp.MustCompile(`^[a-zA-Z_][a-zA-Z_0-9]{0,63}$`)

func (m model) text(rule int, s string) bool {
	switch m.rules[rule].text {
	case "RUNES":
		return utf8.ValidString(s) && len(s) <= 1024
	case "ID|":
		return s == "" || m.id(s)
	case "ID":
		return m.id(s)
	}
	return m.texts[rule].MatchString(s)
}

func (m model) id(s string) bool {
	return modelId.MatchString(s) && !slices.Contains(m.words, strings.ToLower(s))
}

// letter is ? of a tree that fits no rule.
func (m model) letter(n api.Node) string {
	var kids strings.Builder
	for _, k := range n.Kids {
		kids.WriteString(m.letter(k))
	}
	for i, r := range m.rules {
		if n.Kind == r.kind && r.least <= n.N && n.N <= r.most && m.text(i, n.Text) && m.kids[i].MatchString(kids.String()) {
			return r.letter
		}
	}
	return "?"
}

func (m model) form(n api.Node) int {
	switch m.letter(n) {
	case "e", "c", "k", "s":
		return api.FormExpr
	case "p", "t":
		return api.FormPattern
	case "Y":
		return api.FormStmt
	}
	return api.FormNone
}
