package print_test

import (
	"strconv"
	"strings"

	"marquee/api"
)

// A rule says how a kind of tree is written: its rank, and its text, in which {text} and {n} are its own; {i}, {i:r} its kid i, in a place that asks for nothing, for the rank r; {i,} and {i;} its kids from i on, with a , and with nothing between. What stands between « and » is left out, if one of the things within has no text. A ~ is a blank, if a - follows it.
type rule struct {
	rank int
	text string
}

// signs are those of Binary trees with their rules.
func signs() map[string]rule {
	m := map[string]rule{"or": {1, "{0:1} or {1:2}"}, "and": {2, "{0:2} and {1:3}"}}
	for _, s := range strings.Fields("= != < <= > >=") {
		m[s] = rule{4, "{0:5} " + s + " {1:5}"}
	}
	for _, s := range strings.Fields("+ -") {
		m[s] = rule{5, "{0:5} " + s + " {1:6}"}
	}
	for _, s := range strings.Fields("* / %") {
		m[s] = rule{6, "{0:6} " + s + " {1:7}"}
	}
	return m
}

// flagged are the rules of kinds whose N changes words.
func flagged(kind int) []string {
	return map[int][]string{
		api.Bool:    {"false", "true"},
		api.IsNull:  {"{0:5} is null", "{0:5} is not null"},
		api.Agg:     {"{text}({0,})", "{text}(distinct {0})"},
		api.Order:   {"{0}", "{0} desc"},
		api.Column_: {"", "{text} bool", "{text} int", "{text} dec", "{text} text"},
		api.OnMerge: {"on {0} merge {1} where {2} when matched then update set {3}", "on {0} merge {1} where {2} when matched then update set {3} when not matched then insert"},
		api.Select:  {"", selectRule(""), selectRule("rstream "), selectRule("irstream ")},
	}[kind]
}

func selectRule(told string) string {
	return "«context {text} »«insert into {0} »select " + told + "{1} from {2}« where {3}»« group by {4}»« having {5}»« {7}»« order by {6}»"
}

// plainRules are those of all other kinds, but for Unary.
func plainRules() map[int]rule {
	return map[int]rule{
		api.Null: {8, "null"}, api.Int: {8, "{n}{text}"}, api.Dec: {8, "{dec}"}, api.Text: {8, "{quoted}"}, api.Col: {8, "«{0}.»{text}"}, api.Name: {8, "{text}"},
		api.Between: {4, "{0:5} between {1:5} and {2:5}"}, api.In: {4, "{0:5} in ({1,})"}, api.Call: {8, "{text}({0,})"},
		api.None: {8, ""}, api.Star: {8, "*"}, api.List: {8, "{0,}"}, api.Item: {8, "{0}« as {text}»"}, api.Set: {8, "{text} = {0}"},
		api.View: {8, "#{text}«({0,})»"}, api.Stream: {8, "{text}«({0})»{2;}« as {1}»"}, api.Pattern: {8, "pattern [{0}]« as {1}»"},
		api.PatThen: {1, "{0:1} -> {1:2}"}, api.PatOr: {2, "{0:2} or {1:3}"}, api.PatAnd: {3, "{0:3} and {1:4}"}, api.PatEvery: {4, "every {0:4}"}, api.PatNot: {4, "not {0:4}"}, api.PatWithin: {5, "{0:5} within {n}ms"},
		api.PatTimer: {6, "timer({n}ms)"}, api.PatEvent: {6, "«{1}=»{text}«({0})»"},
		api.CreateSchema: {8, "create schema {text} ({0,})"}, api.CreateWindow: {8, "create window {text}{1;} as {0}"}, api.CreateContext: {8, "create context {text} {0}"},
		api.OnDelete: {8, "on {0} delete from {1}« where {2}»"}, api.OnUpdate: {8, "on {0} update {1} set {2}« where {3}»"}, api.OnSelect: {8, "on {0} select {2} from {1}« where {3}»"},
	}
}

// ruleOf answers the rule of a tree that has a form, or of a part of one.
func ruleOf(n api.Node) rule {
	switch n.Kind {
	case api.Unary:
		return map[string]rule{"-": {7, "-~{0:7}"}, "not": {3, "not {0:3}"}}[n.Text]
	case api.Binary:
		return signs()[n.Text]
	case api.Case:
		return caseRule(len(n.Kids))
	case api.Rate:
		return map[string]rule{"ms": {8, "output {text} every {n}ms"}, "events": {8, "output {text} every {n} events"}}[n.Kids[0].Text]
	case api.Keyed:
		return rule{8, "partition by " + eachOf(n, "{0:from}")}
	case api.Categories:
		return rule{8, eachOf(n, "{0:when}") + " from {text}"}
	case api.Spans:
		end := map[int]string{api.Stream: "end {1}", api.PatTimer: "within {1:time}"}[n.Kids[1].Kind]
		return rule{8, []string{"", "overlapping "}[n.N] + "start {0} " + end}
	case api.IsNull:
		return rule{4, flagged(n.Kind)[n.N]}
	}
	if n.Kind == api.Agg && len(n.Kids) == 0 {
		return rule{8, "count(*)"}
	}
	if l := flagged(n.Kind); l != nil {
		return rule{8, l[n.N]}
	}
	return plainRules()[n.Kind]
}

func caseRule(kids int) rule {
	s := "case"
	for i := 0; i+1 < kids; i += 2 {
		s += " when {" + strconv.Itoa(i) + "} then {" + strconv.Itoa(i+1) + "}"
	}
	return rule{8, s + " else {" + strconv.Itoa(kids-1) + "} end"}
}

// eachOf is the same thing for each kid, with , between.
func eachOf(n api.Node, thing string) string {
	var l []string
	for i := range n.Kids {
		l = append(l, strings.ReplaceAll(thing, "0", strconv.Itoa(i)))
	}
	return strings.Join(l, ", ")
}

// model answers the text of a tree in a place that asks for a rank, by the rules above.
func model(n api.Node, least int) string {
	r := ruleOf(n)
	s := filled(r.text, n)
	if r.rank < least {
		return "(" + s + ")"
	}
	return s
}

// filled lays what is named in {} into a text.
func filled(s string, n api.Node) string {
	head, rest, found := strings.Cut(s, "«")
	if !found {
		return things(s, n)
	}
	optional, tail, _ := strings.Cut(rest, "»")
	if missing(optional, n) {
		optional = ""
	}
	return things(head, n) + things(optional, n) + filled(tail, n)
}

// missing tells whether something that is named in s has no text.
func missing(s string, n api.Node) bool {
	for {
		_, rest, found := strings.Cut(s, "{")
		if !found {
			return false
		}
		what, tail, _ := strings.Cut(rest, "}")
		if thing(what, n) == "" {
			return true
		}
		s = tail
	}
}

func things(s string, n api.Node) string {
	var out strings.Builder
	for {
		head, rest, found := strings.Cut(s, "{")
		out.WriteString(strings.TrimSuffix(head, "~"))
		if !found {
			return out.String()
		}
		what, tail, _ := strings.Cut(rest, "}")
		x := thing(what, n)
		if strings.HasSuffix(head, "~") && strings.HasPrefix(x, "-") {
			out.WriteString(" ")
		}
		out.WriteString(x)
		s = tail
	}
}

// thing answers the text of what is named.
func thing(what string, n api.Node) string {
	switch what {
	case "text":
		return n.Text
	case "n":
		return strconv.Itoa(n.N)
	case "quoted":
		return "'" + strings.Join(strings.Split(n.Text, "'"), "''") + "'"
	case "dec":
		return decimal(n.N)
	}
	if from, ok := strings.CutSuffix(what, ","); ok {
		return kidsFrom(n, from, ", ")
	}
	if from, ok := strings.CutSuffix(what, ";"); ok {
		return kidsFrom(n, from, "")
	}
	at, place, _ := strings.Cut(what, ":")
	i, _ := strconv.Atoi(at)
	if i >= len(n.Kids) {
		return ""
	}
	return placed(n.Kids[i], place)
}

// placed answers the text of a kid whose place may say more than a rank.
func placed(k api.Node, place string) string {
	switch place {
	case "from":
		return k.Text + " from " + k.Kids[0].Text
	case "when":
		return "when " + model(k.Kids[0], 1) + " then " + k.Text
	case "time":
		return strconv.Itoa(k.N) + "ms"
	}
	least, _ := strconv.Atoi(place)
	return model(k, least)
}

func kidsFrom(n api.Node, from, between string) string {
	i, _ := strconv.Atoi(from)
	var l []string
	for _, k := range n.Kids[min(i, len(n.Kids)):] {
		l = append(l, model(k, 1))
	}
	return strings.Join(l, between)
}

// decimal writes ten-thousandths with four digits, and then takes noughts away.
func decimal(n int) string {
	s := strconv.Itoa(n)
	for len(s) < 5 {
		s = "0" + s
	}
	s = s[:len(s)-4] + "." + s[len(s)-4:]
	for strings.HasSuffix(s, "0") && !strings.HasSuffix(s, ".0") {
		s = s[:len(s)-1]
	}
	return s
}
