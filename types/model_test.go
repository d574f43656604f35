package types_test

import (
	"fmt"
	"regexp"
	"slices"
	"strings"

	"marquee/api"
	"marquee/funcs"
)

// The chapter once more: an expression is laid out flat, as what is asked in its order, and a list of letters is what is open; what a tree takes is an expression over these letters.

// letterOf answers the letter of a kind; of a number that is none an o of its own, or a p.
func letterOf(kind int) byte {
	switch {
	case kind >= 0 && kind < len(kindLetters):
		return kindLetters[kind]
	case kind == oddKind:
		return 'o'
	}
	return 'p'
}

type modelRule struct {
	takes   *regexp.Regexp
	answers string // a letter; "first": the first one's; "most": the last of n, b, i, t, d, o, p that is there
}

const (
	alike    = "([nb]*|[nid]*|[nt]*)"
	likeOne  = "([nb]{2,}|[nid]{2,}|[nt]{2,}|n[nbidt]+)"
	together = "([nb]*|[nid]*|[nt]*|[no]*|[np]*)"
)

// model has the rules of trees by their kind, and their text, where several have one kind.
type model map[string]modelRule

func newModel() model {
	m := model{}
	for _, r := range []struct{ keys, takes, answers string }{
		{"1", "", "n"}, {"2", "", "b"}, {"3", "", "i"}, {"4", "", "d"}, {"5", "", "t"},
		{"7-", "[nid]", "first"}, {"7not", "[nb]", "b"},
		{"8+ 8- 8* 8/ 8%", "[nid][nid]", "most"}, {"8= 8!= 8< 8<= 8> 8>=", alike, "b"}, {"8and 8or", "[nb][nb]", "b"},
		{"9", ".", "b"}, {"10 11", likeOne, "b"}, {"12", together, "most"},
		{"14count", ".?", "i"}, {"14sum", "[id]", "first"}, {"14avg", "[id]", "d"}, {"14min 14max", "[bidt]", "first"}, {"14first 14last", "[bidtop]", "first"},
	} {
		for _, key := range strings.Fields(r.keys) {
			m[key] = modelRule{regexp.MustCompile("^" + r.takes + "$"), r.answers}
		}
	}
	return m
}

// fault is an error with its byte.
type fault struct {
	at  int
	err api.Errno
}

// The questions about a tree.
const (
	askPlace = iota // whether an aggregate may stand there
	askTruth        // whether it may be KindBool
	askType
)

type question struct {
	n      api.Node
	what   int
	within bool // another aggregate
}

// questions lays n out.
func questions(n api.Node, within bool) []question {
	var l []question
	if n.Kind == api.Agg {
		l = append(l, question{n, askPlace, within})
		within = true
	}
	for i, k := range n.Kids {
		if k.Kind == api.Name {
			continue
		}
		l = append(l, questions(k, within)...)
		if n.Kind == api.Case && i%2 == 0 && i < len(n.Kids)-1 {
			l = append(l, question{k, askTruth, within})
		}
	}
	return append(l, question{n, askType, within})
}

// expr answers the letter of a type, or a fault.
func (m model) expr(n api.Node, fields []api.Field, aggs bool) (byte, fault) {
	open := ""
	for _, q := range questions(n, false) {
		switch q.what {
		case askPlace:
			if q.within || !aggs {
				return 'n', fault{q.n.At, api.ErrPlace}
			}
		case askTruth:
			if !strings.HasSuffix(open, "n") && !strings.HasSuffix(open, "b") {
				return 'n', fault{q.n.At, api.ErrType}
			}
		case askType:
			many := len(q.n.Kids)
			if q.n.Kind == api.Col {
				many = 0
			}
			taken := open[len(open)-many:]
			letter, err := m.letter(q.n, taken, fields)
			if err != api.OK {
				return 'n', fault{q.n.At, err}
			}
			open = open[:len(open)-many] + string(letter)
		}
	}
	return open[0], fault{}
}

func (m model) letter(n api.Node, taken string, fields []api.Field) (byte, api.Errno) {
	switch n.Kind {
	case api.Col:
		return modelColumn(n, fields)
	case api.Call:
		return modelCall(n.Text, taken)
	case api.Case:
		var values []byte
		for i := range taken {
			if i%2 == 1 || i == len(taken)-1 {
				values = append(values, taken[i])
			}
		}
		taken = string(values)
	}
	key := fmt.Sprint(n.Kind)
	if n.Kind == api.Unary || n.Kind == api.Binary || n.Kind == api.Agg {
		key += n.Text
	}
	r, ok := m[key]
	if !ok {
		panic("no rule of " + key)
	}
	if !r.takes.MatchString(taken) {
		return 'n', api.ErrType
	}
	switch r.answers {
	case "first":
		return taken[0], api.OK
	case "most":
		answer := byte('n')
		for _, letter := range []byte("bitdop") {
			if strings.IndexByte(taken, letter) >= 0 {
				answer = letter
			}
		}
		return answer, api.OK
	}
	return r.answers[0], api.OK
}

func modelColumn(n api.Node, fields []api.Field) (byte, api.Errno) {
	var letters []byte
	for _, f := range fields {
		full, short := f.Stream+"."+f.Column, "."+f.Column
		said := "." + n.Text
		if len(n.Kids) > 0 {
			said = n.Kids[0].Text + said
		}
		if said == full || said == short && len(n.Kids) == 0 {
			letters = append(letters, letterOf(f.Kind))
		}
	}
	if len(letters) != 1 {
		return 'n', api.ErrName
	}
	return letters[0], api.OK
}

func modelCall(name, taken string) (byte, api.Errno) {
	kinds := []int{}
	for i := range taken {
		kinds = append(kinds, kindOf(taken[i]))
	}
	kind, err := funcs.Kind(name, kinds)
	return letterOf(kind), err
}

// shape answers a text of n that has all but its bytes.
func shape(n api.Node) string {
	var s strings.Builder
	for _, k := range n.Kids {
		s.WriteString(shape(k))
	}
	return fmt.Sprintf("(%d %q %d %s)", n.Kind, n.Text, n.N, s.String())
}

// outside answers the columns in n that stand within no aggregate and none of the shapes, in their order.
func outside(n api.Node, shapes []string) []api.Node {
	if n.Kind == api.Agg || slices.Contains(shapes, shape(n)) {
		return nil
	}
	if n.Kind == api.Col {
		return []api.Node{n}
	}
	var l []api.Node
	for _, k := range n.Kids {
		l = append(l, outside(k, shapes)...)
	}
	return l
}

func shapesOf(l []api.Node) []string {
	var shapes []string
	for _, n := range l {
		shapes = append(shapes, shape(n))
	}
	return shapes
}

func modelHasAgg(n api.Node) bool {
	return strings.Contains(shape(n), fmt.Sprintf("(%d ", api.Agg))
}

// items answers all columns and all faults of a list of items that has the form, in the order in which they are told.
func (m model) items(items api.Node, fields []api.Field, groups []api.Node, aggs, grouped bool) ([]api.Column, []fault) {
	if items.Kind == api.Star {
		return modelStar(items, fields, grouped)
	}
	var faults []fault
	var columns []api.Column
	if len(items.Kids) > 32 {
		faults = append(faults, fault{items.At, api.ErrTree})
	}
	for i, it := range items.Kids {
		e := it.Kids[0]
		letter, f := m.expr(e, fields, aggs)
		faults = append(faults, f)
		if grouped {
			for _, c := range outside(e, shapesOf(groups)) {
				faults = append(faults, fault{c.At, api.ErrPlace})
			}
		}
		if letter == 'n' {
			faults = append(faults, fault{it.At, api.ErrType})
		}
		name := fmt.Sprintf("c%d", i+1)
		if e.Kind == api.Col {
			name = e.Text
		}
		if it.Text != "" {
			name = it.Text
		}
		if slices.ContainsFunc(columns, func(c api.Column) bool { return c.Name == name }) {
			faults = append(faults, fault{it.At, api.ErrName})
		}
		columns = append(columns, api.Column{Name: name, Kind: kindByLetter(letter)})
	}
	return columns, faults
}

func kindByLetter(letter byte) int {
	if letter == 'o' {
		return oddKind
	}
	return kindOf(letter)
}

func modelStar(items api.Node, fields []api.Field, grouped bool) ([]api.Column, []fault) {
	var faults []fault
	var names []string
	if grouped {
		faults = append(faults, fault{items.At, api.ErrPlace})
	}
	for _, f := range fields {
		names = append(names, f.Column)
		if !regexp.MustCompile(`^[a-zA-Z_][a-zA-Z_0-9]{0,63}$`).MatchString(f.Column) {
			faults = append(faults, fault{items.At, api.ErrName})
		}
	}
	slices.Sort(names)
	if len(slices.Compact(names)) < len(fields) {
		faults = append(faults, fault{items.At, api.ErrName})
	}
	if len(fields) > 32 {
		faults = append(faults, fault{items.At, api.ErrTree})
	}
	return columnsOf(fields), faults
}

// selection answers what a select that has the form gives, and all its faults, in the order in which they are told.
func (m model) selection(n api.Node, fields []api.Field) (api.Typed, []fault) {
	items, where, groups, having, orders := n.Kids[1], n.Kids[3], n.Kids[4].Kids, n.Kids[5], n.Kids[6].Kids
	var faults []fault
	if where.Kind != api.None {
		letter, f := m.expr(where, fields, false)
		faults = append(faults, f)
		if letter != 'n' && letter != 'b' {
			faults = append(faults, fault{where.At, api.ErrType})
		}
	}
	for _, g := range groups {
		letter, f := m.expr(g, fields, false)
		faults = append(faults, f)
		if letter == 'n' {
			faults = append(faults, fault{g.At, api.ErrType})
		}
	}
	grouped := len(groups) > 0 || modelHasAgg(items) || modelHasAgg(having)
	out, more := m.items(items, fields, groups, true, grouped)
	faults = append(faults, more...)
	if having.Kind != api.None {
		letter, f := m.expr(having, fields, true)
		faults = append(faults, f)
		for _, c := range outside(having, shapesOf(groups)) {
			faults = append(faults, fault{c.At, api.ErrPlace})
		}
		if letter != 'n' && letter != 'b' {
			faults = append(faults, fault{having.At, api.ErrType})
		}
	}
	for _, o := range orders {
		by := o.Kids[0]
		found := false
		for _, c := range out {
			found = found || shape(by) == shape(col(c.Name))
		}
		if !found {
			faults = append(faults, fault{by.At, api.ErrName})
		}
	}
	return api.Typed{Out: out, Group: grouped || having.Kind != api.None}, faults
}

// first answers the first fault that is one.
func first(l []fault) fault {
	for _, f := range l {
		if f.err != api.OK {
			return f
		}
	}
	return fault{}
}
