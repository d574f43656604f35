package types_test

import (
	"slices"
	"strings"
	"testing"

	"marquee/api"
	"marquee/lex"
	"marquee/parse"
	"marquee/stmts"
	"marquee/tree"
	"marquee/types"
)

// oddKind is no kind, as a schema that may not be can have it.
const oddKind = 7

// The letters of kinds, by which the tests speak of types: null, bool, int, dec, text.
const kindLetters = "nbidt"

func kindOf(letter byte) int { return strings.IndexByte(kindLetters, letter) }

func node(kind int, text string, n int, kids ...api.Node) api.Node {
	return api.Node{Kind: kind, Text: text, N: n, Kids: kids}
}

func null() api.Node { return node(api.Null, "", 0) }

func truth(n int) api.Node { return node(api.Bool, "", n) }

func whole(n int) api.Node { return node(api.Int, "", n) }

func dec(n int) api.Node { return node(api.Dec, "", n) }

func text(s string) api.Node { return node(api.Text, s, 0) }

func name(s string) api.Node { return node(api.Name, s, 0) }

func none() api.Node { return node(api.None, "", 0) }

func star() api.Node { return node(api.Star, "", 0) }

func col(s string) api.Node { return node(api.Col, s, 0) }

func colOf(stream, s string) api.Node { return node(api.Col, s, 0, name(stream)) }

func unary(sign string, a api.Node) api.Node { return node(api.Unary, sign, 0, a) }

func binary(sign string, a, b api.Node) api.Node { return node(api.Binary, sign, 0, a, b) }

func call(s string, l ...api.Node) api.Node { return node(api.Call, s, 0, l...) }

func agg(s string, l ...api.Node) api.Node { return node(api.Agg, s, 0, l...) }

func list(l ...api.Node) api.Node { return node(api.List, "", 0, l...) }

func item(s string, e api.Node) api.Node { return node(api.Item, s, 0, e) }

func placed(at int, n api.Node) api.Node {
	n.At = at
	return n
}

// fields are those of two streams, with a column of each kind in t, one of KindNull (z) and one of none (o) among them; both have an a.
func fields() []api.Field {
	return []api.Field{
		{Stream: "t", Column: "b", Kind: api.KindBool}, {Stream: "t", Column: "i", Kind: api.KindInt},
		{Stream: "t", Column: "d", Kind: api.KindDec}, {Stream: "t", Column: "x", Kind: api.KindText},
		{Stream: "t", Column: "z", Kind: api.KindNull}, {Stream: "t", Column: "o", Kind: oddKind},
		{Stream: "t", Column: "a", Kind: api.KindInt}, {Stream: "u", Column: "a", Kind: api.KindText},
		{Stream: "u", Column: "j", Kind: api.KindInt}, {Stream: "u", Column: "y", Kind: api.KindText},
	}
}

// marked parts a source with a | in it: the source without it, and where it stood (0, if it lacks).
func marked(s string) (string, int) {
	at := max(strings.IndexByte(s, '|'), 0)
	return strings.Replace(s, "|", "", 1), at
}

// read answers the tree of a source that a rule reads whole.
func read(t *testing.T, s string, rule func(l []api.Token, at int) (api.Node, int, api.Errno)) api.Node {
	t.Helper()
	l, _, e := lex.Lex(s)
	n, next, e2 := rule(l, 0)
	if e != api.OK || e2 != api.OK || next != len(l) {
		t.Fatalf("%q: %d, %d, up to %d of %d", s, e, e2, next, len(l))
	}
	return n
}

func readExpr(t *testing.T, s string) api.Node {
	t.Helper()
	return read(t, s, parse.Expr)
}

func readStmt(t *testing.T, s string) api.Node {
	t.Helper()
	return read(t, s, stmts.Stmt)
}

const ahead, behind = "select ", " from T"

// readItems answers the items of a source; their bytes count from the beginning of a select on.
func readItems(t *testing.T, s string) api.Node {
	t.Helper()
	return readStmt(t, ahead+s+behind).Kids[1]
}

func readGroups(t *testing.T, s string) []api.Node {
	t.Helper()
	if s == "" {
		return nil
	}
	return readStmt(t, "select a from T group by "+s).Kids[4].Kids
}

// checkTypes: each of the sources has the type of the letter; one that has no aggregate also where none may stand.
func checkTypes(t *testing.T, letter byte, sources ...string) {
	t.Helper()
	for _, s := range sources {
		checkType(t, readExpr(t, s), kindOf(letter))
	}
}

func checkType(t *testing.T, n api.Node, kind int) {
	t.Helper()
	for _, aggs := range []bool{true, false} {
		if !aggs && len(tree.Aggs(n)) > 0 {
			continue
		}
		if k, at, e := types.Expr(n, fields(), aggs); k != kind || at != 0 || e != api.OK {
			t.Errorf("%#v: %d, %d, %d, want the type %d", n, k, at, e, kind)
		}
	}
}

// checkFaults: each of the sources has that error at its |; aggregates may stand in it.
func checkFaults(t *testing.T, err api.Errno, sources ...string) {
	t.Helper()
	for _, s := range sources {
		s, at := marked(s)
		checkFault(t, readExpr(t, s), true, at, err)
	}
}

func checkFault(t *testing.T, n api.Node, aggs bool, at int, err api.Errno) {
	t.Helper()
	if k, a, e := types.Expr(n, fields(), aggs); k != api.KindNull || a != at || e != err {
		t.Errorf("%#v: %d, %d, %d, want the error %d at %d", n, k, a, e, err, at)
	}
}

// columns answers columns of a text that has each as its name, a : and the letter of its kind.
func columns(s string) []api.Column {
	var l []api.Column
	for _, c := range strings.Fields(s) {
		name, letter, _ := strings.Cut(c, ":")
		l = append(l, api.Column{Name: name, Kind: kindOf(letter[0])})
	}
	return l
}

// asked are items over groups, with the columns that they give, or with a | where an error is told.
type asked struct {
	items, groups, want string
	err                 api.Errno
}

func checkItems(t *testing.T, l ...asked) {
	t.Helper()
	for _, x := range l {
		s, at := marked(ahead + x.items)
		items := readItems(t, strings.TrimPrefix(s, ahead))
		checkItemsOf(t, items, fields(), readGroups(t, x.groups), true, columns(x.want), at, x.err)
	}
}

func checkItemsOf(t *testing.T, items api.Node, fields []api.Field, groups []api.Node, aggs bool, want []api.Column, at int, err api.Errno) {
	t.Helper()
	if c, a, e := types.Items(items, fields, groups, aggs); !slices.Equal(c, want) || a != at || e != err {
		t.Errorf("%#v over %#v: %v, %d, %d, want %v, %d, %d", items, groups, c, a, e, want, at, err)
	}
}

// checkSelects: each of the sources gives these columns, and groups or not.
func checkSelects(t *testing.T, want string, group bool, sources ...string) {
	t.Helper()
	for _, s := range sources {
		x, at, e := types.Select(readStmt(t, s), fields())
		if !slices.Equal(x.Out, columns(want)) || x.Group != group || at != 0 || e != api.OK {
			t.Errorf("%q: %v, %d, %d, want %s, %v", s, x, at, e, want, group)
		}
	}
}

func checkSelectFaults(t *testing.T, err api.Errno, sources ...string) {
	t.Helper()
	for _, s := range sources {
		s, at := marked(s)
		checkSelectFault(t, readStmt(t, s), at, err)
	}
}

func checkSelectFault(t *testing.T, n api.Node, at int, err api.Errno) {
	t.Helper()
	if x, a, e := types.Select(n, fields()); len(x.Out) != 0 || x.Group || a != at || e != err {
		t.Errorf("%#v: %v, %d, %d, want the error %d at %d", n, x, a, e, err, at)
	}
}
