package tree_test

import (
	"math"
	"math/rand"
	"slices"
	"strings"
	"testing"

	"marquee/api"
	"marquee/tree"
)

// texts and numbers that some kind takes and others do not, with the bounds of each kind.
func someTexts() []string {
	return []string{"", "a", "A", "select", "SELECT", "9", "-", "not", "+", "<=", "and", "or", "count", "sum", "last", "all", "snapshot", "ms", "events", "MS", "length", "length_batch", "time", "time_batch", "unique", "sorted", "keepall", "lastevent", "firstevent", "\xff", "-\n",
		strings.Repeat("a", api.MaxName), tooLong(), strings.Repeat("a", api.MaxText), strings.Repeat("a", api.MaxText+1)}
}

func someNumbers() []int {
	return []int{0, 1, 2, 3, 4, 5, -1, api.MaxSize, api.MaxSize + 1, api.MaxTime, api.MaxTime + 1, math.MaxInt, math.MinInt}
}

func someKinds() []int {
	var l []int
	for kind := -1; kind <= api.Spans+1; kind++ {
		l = append(l, kind)
	}
	return l
}

// changes are the trees that differ from n at its top: each text, number and kind, a kid less, a kid twice, a kid more, two kids changed for each other.
func changes(n api.Node) []api.Node {
	var l []api.Node
	for _, s := range someTexts() {
		l = append(l, node(n.Kind, s, n.N, n.Kids...))
	}
	for _, k := range someNumbers() {
		l = append(l, node(n.Kind, n.Text, k, n.Kids...))
	}
	for _, kind := range someKinds() {
		l = append(l, node(kind, n.Text, n.N, n.Kids...))
	}
	for i, k := range n.Kids {
		l = append(l, node(n.Kind, n.Text, n.N, slices.Delete(slices.Clone(n.Kids), i, i+1)...))
		l = append(l, node(n.Kind, n.Text, n.N, slices.Insert(slices.Clone(n.Kids), i, k)...))
		for j := range i {
			kids := slices.Clone(n.Kids)
			kids[i], kids[j] = kids[j], kids[i]
			l = append(l, node(n.Kind, n.Text, n.N, kids...))
		}
	}
	for _, k := range parts() {
		l = append(l, node(n.Kind, n.Text, n.N, append(slices.Clone(n.Kids), k)...))
	}
	return l
}

// everywhere are the trees that differ from n at its top or at one place within.
func everywhere(n api.Node) []api.Node {
	l := changes(n)
	for i, k := range n.Kids {
		for _, c := range everywhere(k) {
			kids := slices.Clone(n.Kids)
			kids[i] = c
			l = append(l, node(n.Kind, n.Text, n.N, kids...))
		}
	}
	return l
}

// Promise 6.1: one change at one place of trees of all sorts.
func TestOneChange(t *testing.T) {
	m := newModel()
	seen := make([]int, 4)
	for _, n := range all() {
		for _, c := range everywhere(n) {
			want := m.form(c)
			seen[want]++
			if got := tree.Form(c); got != want {
				t.Fatalf("Form(%#v) = %d, want %d", c, got, want)
			}
		}
	}
	for form, many := range seen {
		if many < 100 {
			t.Errorf("form %d is there %d times", form, many)
		}
	}
}

// Promise 6.1: any tree in the place of any other one.
func TestAnyInThePlaceOfAny(t *testing.T) {
	m := newModel()
	for _, n := range all() {
		for _, in := range places(n) {
			for _, k := range all() {
				c := in(k)
				if got, want := tree.Form(c), m.form(c); got != want {
					t.Fatalf("Form(%#v) = %d, want %d", c, got, want)
				}
			}
		}
	}
}

// places are ways to lay another tree in the place of each one within n.
func places(n api.Node) []func(k api.Node) api.Node {
	l := []func(k api.Node) api.Node{itself}
	for i, kid := range n.Kids {
		for _, in := range places(kid) {
			l = append(l, func(k api.Node) api.Node {
				kids := slices.Clone(n.Kids)
				kids[i] = in(k)
				return node(n.Kind, n.Text, n.N, kids...)
			})
		}
	}
	return l
}

// Promise 6.1: trees by chance, of kinds, texts and numbers that may and may not be.
func TestTreesByChance(t *testing.T) {
	m, c := newModel(), newChance(6)
	good := 0
	for range 30000 {
		n := c.tree(3)
		want := m.form(n)
		if want != api.FormNone {
			good++
		}
		if got := tree.Form(n); got != want {
			t.Fatalf("Form(%#v) = %d, want %d", n, got, want)
		}
	}
	if good < 1000 {
		t.Errorf("only %d of them have a form", good)
	}
}

// chance makes trees by chance, out of samples and of what is none.
type chance struct {
	r       *rand.Rand
	samples []api.Node
	texts   []string
	numbers []int
}

func newChance(seed int64) chance {
	return chance{rand.New(rand.NewSource(seed)), all(), someTexts(), someNumbers()}
}

func (c chance) tree(depth int) api.Node {
	if c.r.Intn(3) == 0 {
		return c.samples[c.r.Intn(len(c.samples))]
	}
	n := node(c.r.Intn(api.Spans+3)-1, "", 0)
	if c.r.Intn(2) == 0 {
		n.Text = c.texts[c.r.Intn(len(c.texts))]
	}
	if c.r.Intn(4) == 0 {
		n.N = c.numbers[c.r.Intn(len(c.numbers))]
	}
	if depth > 0 {
		for range c.r.Intn(5) {
			n.Kids = append(n.Kids, c.tree(depth-1))
		}
	}
	return n
}

// Promise 6.3: a form hangs on kinds, texts, numbers and kids alone.
func TestFormsWhereverTheyBegin(t *testing.T) {
	for _, n := range all() {
		for _, at := range []int{0, 1, -1000, math.MaxInt - 1000} {
			if got, want := tree.Form(placed(n, at)), tree.Form(n); got != want {
				t.Errorf("Form(%#v) = %d, want %d", placed(n, at), got, want)
			}
		}
		if got := tree.Form(roomy(n)); got != tree.Form(n) {
			t.Errorf("Form(%#v) = %d with empty lists", n, got)
		}
	}
}

// Promise 6.3: an expression in the place of another one leaves a form as it was, but where a Col is asked for.
func TestExpressionsForEachOther(t *testing.T) {
	replaced := 0
	for _, n := range slices.Concat(exprs(), patterns(), stmts()) {
		for _, in := range exprPlaces(n) {
			for _, e := range exprs() {
				replaced++
				if got := tree.Form(in(e)); got != tree.Form(n) {
					t.Errorf("Form(%#v) = %d, want %d", in(e), got, tree.Form(n))
				}
			}
		}
	}
	if replaced < 1000 {
		t.Errorf("only %d were tried", replaced)
	}
}

// exprPlaces are ways to lay an expression in the place of each one within n; what a View or a Keyed holds is asked for as it is.
func exprPlaces(n api.Node) []func(k api.Node) api.Node {
	var l []func(k api.Node) api.Node
	if tree.Form(n) == api.FormExpr {
		l = append(l, itself)
	}
	if n.Kind == api.View || n.Kind == api.Keyed {
		return l
	}
	for i, kid := range n.Kids {
		for _, in := range exprPlaces(kid) {
			l = append(l, func(k api.Node) api.Node {
				kids := slices.Clone(n.Kids)
				kids[i] = in(k)
				return node(n.Kind, n.Text, n.N, kids...)
			})
		}
	}
	return l
}

// Promise 6.2: size, depth and aggregates as a function of those of the kids.
func TestOfKids(t *testing.T) {
	c := newChance(7)
	for range 3000 {
		n := c.tree(4)
		size, depth := 1, 0
		for _, k := range n.Kids {
			size += tree.Size(k)
			depth = max(depth, tree.Depth(k))
		}
		if tree.Size(n) != size || tree.Depth(n) != 1+depth {
			t.Fatalf("%d and %d of %#v", tree.Size(n), tree.Depth(n), n)
		}
		if got, want := tree.Aggs(n), aggsOfKids(n); !slices.EqualFunc(got, want, equal) {
			t.Fatalf("Aggs(%#v) = %#v", n, got)
		}
	}
}

func aggsOfKids(n api.Node) []api.Node {
	if n.Kind == api.Agg {
		return []api.Node{n}
	}
	var l []api.Node
	for _, k := range n.Kids {
		for _, a := range aggsOfKids(k) {
			if !slices.ContainsFunc(l, func(b api.Node) bool { return tree.Same(a, b) }) {
				l = append(l, a)
			}
		}
	}
	return l
}

// deep is a tree with that many others within one another.
func deep(n, inner api.Node, many int) api.Node {
	for range many {
		inner = node(n.Kind, n.Text, n.N, inner)
	}
	return inner
}

// Rule R1: trees that are nested as deep as the document's bound lets them be.
func TestDeepTrees(t *testing.T) {
	const most = 1<<16 - 1
	minus := deep(node(api.Unary, "-", 0), whole(1), most)
	every := deep(node(api.PatEvery, "", 0), event("A"), most-1)
	checkForms(t, []asked{{minus, api.FormExpr}, {every, api.FormPattern}, {deep(node(api.Unary, "-", 0), whole(-1), most), api.FormNone}, {deep(node(api.PatEvery, "", 0), not(event("A")), most-2), api.FormNone}})
	if tree.Size(minus) != most+1 || tree.Depth(minus) != most+1 || tree.Size(every) != most+2 || tree.Depth(every) != most+1 {
		t.Error("Size, Depth")
	}
	m := tree.Copy(minus)
	if !tree.Same(m, minus) || tree.Same(deep(node(api.Unary, "-", 0), whole(2), most), minus) || len(tree.Aggs(deep(node(api.Unary, "-", 0), agg("count"), most))) != 1 {
		t.Error("Same, Copy, Aggs")
	}
}

// Rule R1: wide trees, with many aggregates that are not the same.
func TestWideTrees(t *testing.T) {
	const most = 3000
	n := node(api.Call, "f", 0)
	for i := range most {
		n.Kids = append(n.Kids, agg("sum", whole(i)), agg("sum", whole(i/2)))
	}
	if l := tree.Aggs(n); len(l) != most || tree.Size(n) != 1+4*most || tree.Form(n) != api.FormExpr {
		t.Error(len(l), tree.Size(n), tree.Form(n))
	}
}
