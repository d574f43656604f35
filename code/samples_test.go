package code_test

import (
	"slices"
	"strconv"
	"strings"
	"testing"

	"marquee/api"
	"marquee/code"
	"marquee/lex"
	"marquee/parse"
)

// oddKind is no kind, as a schema that may not be can have it.
const oddKind = 7

func node(kind int, text string, n int, kids ...api.Node) api.Node {
	return api.Node{Kind: kind, Text: text, N: n, Kids: kids}
}

func null() api.Node { return node(api.Null, "", 0) }

func truth(n int) api.Node { return node(api.Bool, "", n) }

func whole(n int) api.Node { return node(api.Int, "", n) }

func dec(n int) api.Node { return node(api.Dec, "", n) }

func text(s string) api.Node { return node(api.Text, s, 0) }

func col(s string) api.Node { return node(api.Col, s, 0) }

func colOf(stream, s string) api.Node { return node(api.Col, s, 0, node(api.Name, stream, 0)) }

func unary(sign string, a api.Node) api.Node { return node(api.Unary, sign, 0, a) }

func binary(sign string, a, b api.Node) api.Node { return node(api.Binary, sign, 0, a, b) }

func between(a, b, c api.Node) api.Node { return node(api.Between, "", 0, a, b, c) }

func in(l ...api.Node) api.Node { return node(api.In, "", 0, l...) }

func choice(l ...api.Node) api.Node { return node(api.Case, "", 0, l...) }

func call(s string, l ...api.Node) api.Node { return node(api.Call, s, 0, l...) }

func agg(s string, l ...api.Node) api.Node { return node(api.Agg, s, 0, l...) }

// fields are those of two streams, with a column of each kind in t, one of KindNull (z) and one of none (o) among them; both have an a.
func fields() []api.Field {
	return []api.Field{
		{Stream: "t", Column: "b", Kind: api.KindBool}, {Stream: "t", Column: "i", Kind: api.KindInt},
		{Stream: "t", Column: "d", Kind: api.KindDec}, {Stream: "t", Column: "x", Kind: api.KindText},
		{Stream: "t", Column: "z", Kind: api.KindNull}, {Stream: "t", Column: "o", Kind: oddKind},
		{Stream: "t", Column: "a", Kind: api.KindInt}, {Stream: "u", Column: "a", Kind: api.KindText},
		{Stream: "u", Column: "j", Kind: api.KindInt}, {Stream: "u", Column: "y", Kind: api.KindText},
	}
}

// readExpr answers the tree of a source.
func readExpr(t *testing.T, s string) api.Node {
	t.Helper()
	l, _, e := lex.Lex(s)
	n, next, e2 := parse.Expr(l, 0)
	if e != api.OK || e2 != api.OK || next != len(l) {
		t.Fatalf("%q: %d, %d, up to %d of %d", s, e, e2, next, len(l))
	}
	return n
}

func readAll(t *testing.T, sources ...string) []api.Node {
	t.Helper()
	var l []api.Node
	for _, s := range sources {
		l = append(l, readExpr(t, s))
	}
	return l
}

// kindsByWord are the instructions as the chapter writes them.
func kindsByWord() map[string]int {
	return map[string]int{
		"Push": api.OpPush, "Field": api.OpField, "Unary": api.OpUnary, "Binary": api.OpBinary, "IsNull": api.OpIsNull,
		"Call": api.OpCall, "Jump": api.OpJump, "Unless": api.OpUnless, "Agg": api.OpAgg, "Dec": api.OpDec,
	}
}

// program answers the instructions of a text as the chapter writes them: Field 1, Push 2.5, Binary +, Call abs 1.
func program(s string) []api.Op {
	var l []api.Op
	if s == "" {
		return l
	}
	for _, line := range strings.Split(s, ", ") {
		words := strings.Fields(line)
		op := api.Op{Kind: kindsByWord()[words[0]]}
		for _, w := range words[1:] {
			n, err := strconv.Atoi(w)
			switch {
			case op.Kind == api.OpPush:
				op.Value = literal(w)
			case err == nil:
				op.N = n
			default:
				op.Text = w
			}
		}
		l = append(l, op)
	}
	return l
}

// literal answers the value that a word says.
func literal(s string) api.Value {
	switch {
	case s == "null":
		return api.Value{}
	case s == "true":
		return api.Value{Kind: api.KindBool, N: 1}
	case s == "false":
		return api.Value{Kind: api.KindBool}
	case s[0] == '\'':
		return api.Value{Kind: api.KindText, Text: strings.Trim(s, "'")}
	}
	ahead, places, isDec := strings.Cut(s, ".")
	n, err := strconv.Atoi(ahead + (places + "0000")[:4*btoi(isDec)])
	if err != nil {
		panic(s)
	}
	return api.Value{Kind: api.KindInt + btoi(isDec), N: n}
}

func btoi(b bool) int {
	if b {
		return 1
	}
	return 0
}

// compiled is a source with its program.
type compiled struct{ source, want string }

// checkCompiled: each of the sources has its program over fields and aggs, and Check takes it.
func checkCompiled(t *testing.T, aggs []api.Node, l ...compiled) {
	t.Helper()
	for _, x := range l {
		checkProgram(t, readExpr(t, x.source), aggs, program(x.want))
	}
}

func checkProgram(t *testing.T, n api.Node, aggs []api.Node, want []api.Op) {
	t.Helper()
	ops, e := code.Compile(n, fields(), aggs)
	if e != api.OK || !slices.Equal(ops, want) {
		t.Errorf("%v: %v, %d, want %v", n, ops, e, want)
	}
	if e := code.Check(ops, len(fields()), len(aggs)); e != api.OK {
		t.Errorf("%v: Check of %v: %d", n, ops, e)
	}
}

// checkRefused: Compile answers that error of each of the sources.
func checkRefused(t *testing.T, err api.Errno, aggs []api.Node, sources ...string) {
	t.Helper()
	for _, s := range sources {
		checkNoProgram(t, readExpr(t, s), aggs, err)
	}
}

func checkNoProgram(t *testing.T, n api.Node, aggs []api.Node, err api.Errno) {
	t.Helper()
	if ops, e := code.Compile(n, fields(), aggs); len(ops) != 0 || e != err {
		t.Errorf("a tree of kind %d: %d instructions, %d, want the error %d", n.Kind, len(ops), e, err)
	}
}

// checkTaken: Check takes ops over so many fields and aggregates.
func checkTaken(t *testing.T, ops []api.Op, fields, aggs int) {
	t.Helper()
	if e := code.Check(ops, fields, aggs); e != api.OK {
		t.Errorf("%v over %d and %d: %d", ops, fields, aggs, e)
	}
}

func checkNotTaken(t *testing.T, ops []api.Op, fields, aggs int) {
	t.Helper()
	if e := code.Check(ops, fields, aggs); e != api.ErrCode {
		t.Errorf("%v over %d and %d: %d", ops, fields, aggs, e)
	}
}

// repeated answers so many of an instruction.
func repeated(op api.Op, times int) []api.Op { return slices.Repeat([]api.Op{op}, times) }

func pushes(times int) []api.Op { return repeated(program("Push 1")[0], times) }
