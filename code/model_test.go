package code_test

import (
	"math"
	"slices"
	"strconv"
	"strings"

	"marquee/api"
	"marquee/tree"
	"marquee/types"
)

// The chapter a second time: a program as lines with labels, whose places are set at the end; and a check by going all ways.

// line is an instruction; or, without a kind, a label that stands there. goes is the label that a jump goes to.
type line struct {
	op          api.Op
	label, goes string
}

type model struct {
	fields []api.Field
	aggs   []api.Node
	labels int
}

func (m *model) label() string {
	m.labels++
	return "L" + strconv.Itoa(m.labels)
}

func (m *model) kind(n api.Node) int {
	k, _, _ := types.Expr(n, m.fields, true)
	return k
}

func one(kind int, s string, n int) []line {
	return []line{{op: api.Op{Kind: kind, Text: s, N: n}}}
}

func jump(kind int, label string) []line {
	return []line{{op: api.Op{Kind: kind}, goes: label}}
}

func standsHere(label string) []line { return []line{{label: label}} }

// lines are those of n. What stands there twice has labels of its own each time.
func (m *model) lines(n api.Node) []line {
	switch n.Kind {
	case api.Null, api.Bool, api.Int, api.Dec, api.Text:
		kind := map[int]int{api.Null: api.KindNull, api.Bool: api.KindBool, api.Int: api.KindInt, api.Dec: api.KindDec, api.Text: api.KindText}[n.Kind]
		return []line{{op: api.Op{Kind: api.OpPush, Value: api.Value{Kind: kind, N: n.N, Text: n.Text}}}}
	case api.Col:
		return one(api.OpField, "", slices.IndexFunc(m.fields, func(f api.Field) bool {
			return f.Column == n.Text && (len(n.Kids) == 0 || n.Kids[0].Text == f.Stream)
		}))
	case api.Agg:
		return one(api.OpAgg, "", slices.IndexFunc(m.aggs, func(a api.Node) bool { return tree.Same(n, a) }))
	case api.Between:
		least, most := binary(">=", n.Kids[0], n.Kids[1]), binary("<=", n.Kids[0], n.Kids[2])
		return m.lines(binary("and", least, most))
	case api.In:
		all := binary("=", n.Kids[0], n.Kids[1])
		for _, k := range n.Kids[2:] {
			all = binary("or", all, binary("=", n.Kids[0], k))
		}
		return m.lines(all)
	case api.Case:
		return m.choice(n)
	}
	var all []line
	for _, k := range n.Kids {
		all = append(all, m.lines(k)...)
	}
	switch n.Kind {
	case api.Unary:
		return append(all, one(api.OpUnary, n.Text, 0)...)
	case api.Binary:
		return append(all, one(api.OpBinary, n.Text, 0)...)
	case api.IsNull:
		return append(all, one(api.OpIsNull, "", n.N)...)
	}
	return append(all, one(api.OpCall, n.Text, len(n.Kids))...)
}

// choice are the lines of a case, from its end on: a case of fewer pairs is the else of what is ahead.
func (m *model) choice(n api.Node) []line {
	value := func(v api.Node) []line {
		l := m.lines(v)
		if m.kind(n) == api.KindDec && m.kind(v) == api.KindInt {
			l = append(l, one(api.OpDec, "", 0)...)
		}
		return l
	}
	end := m.label()
	all := slices.Concat(value(n.Kids[len(n.Kids)-1]), standsHere(end))
	for i := len(n.Kids) - 3; i >= 0; i -= 2 {
		next := m.label()
		all = slices.Concat(m.lines(n.Kids[i]), jump(api.OpUnless, next), value(n.Kids[i+1]), jump(api.OpJump, end), standsHere(next), all)
	}
	return all
}

// resolved are the instructions of lines.
func resolved(l []line) []api.Op {
	places := map[string]int{}
	many := 0
	for _, x := range l {
		if x.label != "" {
			places[x.label] = many
		} else {
			many++
		}
	}
	var ops []api.Op
	for _, x := range l {
		if x.goes != "" {
			x.op.N = places[x.goes]
		}
		if x.label == "" {
			ops = append(ops, x.op)
		}
	}
	return ops
}

// modelCompile is Compile.
func modelCompile(n api.Node, fields []api.Field, aggs []api.Node) ([]api.Op, api.Errno) {
	if _, _, e := types.Expr(n, fields, true); e != api.OK {
		return nil, e
	}
	for _, a := range tree.Aggs(n) {
		if !slices.ContainsFunc(aggs, func(b api.Node) bool { return tree.Same(a, b) }) {
			return nil, api.ErrCode
		}
	}
	m := &model{fields: fields, aggs: aggs}
	ops := resolved(m.lines(n))
	heights, _ := waysThrough(ops)
	if len(ops) > api.MaxProgram || slices.Max(heights) > api.MaxStack {
		return nil, api.ErrCode
	}
	return ops, api.OK
}

// spot is a place that is come to, with a height.
type spot struct{ place, height int }

// asksAndLeaves is how many values an instruction asks for and how many are there in their place, as the chapter's list has it.
func asksAndLeaves(op api.Op) (int, int) {
	if op.Kind == api.OpCall {
		return op.N, 1
	}
	x := map[int][2]int{
		api.OpPush: {0, 1}, api.OpField: {0, 1}, api.OpAgg: {0, 1}, api.OpUnary: {1, 1}, api.OpIsNull: {1, 1}, api.OpDec: {1, 1}, api.OpBinary: {2, 1}, api.OpUnless: {1, 0},
	}[op.Kind]
	return x[0], x[1]
}

// waysThrough goes all ways from the beginning on: the heights behind instructions, and the spots that are come to; none, if a way asks for more than there is.
func waysThrough(ops []api.Op) ([]int, map[spot]bool) {
	heights, seen := []int{0}, map[spot]bool{{0, 0}: true}
	for work := []spot{{0, 0}}; len(work) > 0; work = work[1:] {
		at := work[0]
		if at.place == len(ops) {
			continue
		}
		op := ops[at.place]
		asks, leaves := asksAndLeaves(op)
		if at.height < asks {
			return nil, nil
		}
		height := at.height - asks + leaves
		heights = append(heights, height)
		next := []int{at.place + 1}
		switch op.Kind {
		case api.OpJump:
			next = []int{op.N}
		case api.OpUnless:
			next = append(next, op.N)
		}
		for _, p := range next {
			if s := (spot{p, height}); !seen[s] {
				seen[s] = true
				work = append(work, s)
			}
		}
	}
	return heights, seen
}

// mayName tells whether what an instruction names may be.
func mayName(op api.Op, place, many, fields, aggs int) bool {
	from, to := 0, 0
	switch op.Kind {
	case api.OpPush, api.OpDec:
		return true
	case api.OpUnary:
		return op.Text == "-" || op.Text == "not"
	case api.OpBinary:
		return op.Text != "" && strings.Contains(" + - * / % = != < <= > >= and or ", " "+op.Text+" ") && !strings.Contains(op.Text, " ")
	case api.OpField:
		to = max(fields, 0)
	case api.OpAgg:
		to = max(aggs, 0)
	case api.OpIsNull:
		to = 2
	case api.OpCall:
		to = 1025
	case api.OpJump, api.OpUnless:
		from, to = place+1, many+1
	}
	return from <= op.N && op.N < to
}

// modelDepth is the greatest height of what Check takes, 0 of what it refuses.
func modelDepth(ops []api.Op, fields, aggs int) int {
	if len(ops) < 1 || len(ops) > 4096 {
		return 0
	}
	for i, op := range ops {
		if !mayName(op, i, len(ops), fields, aggs) {
			return 0
		}
	}
	heights, seen := waysThrough(ops)
	if len(seen) != len(ops)+1 || !seen[spot{len(ops), 1}] || slices.Max(heights) > 1024 {
		return 0
	}
	// As many spots as places: each place has one, if each has any.
	places := map[int]bool{}
	for s := range seen {
		places[s.place] = true
	}
	if len(places) != len(seen) {
		return 0
	}
	return slices.Max(heights)
}

func modelCheck(ops []api.Op, fields, aggs int) api.Errno {
	if modelDepth(ops, fields, aggs) == 0 {
		return api.ErrCode
	}
	return api.OK
}

// asked is how many there must be of what such instructions name, without leaving an int.
func asked(ops []api.Op, kind int) int {
	most := 0
	for _, op := range ops {
		if op.Kind == kind && op.N >= most && op.N < math.MaxInt {
			most = op.N + 1
		}
	}
	return most
}
