package schema_test

import (
	"math"
	"strconv"
	"strings"

	"marquee/api"
)

var (
	null = api.Value{Kind: api.KindNull}
	yes  = api.Value{Kind: api.KindBool, N: 1}
	no   = api.Value{Kind: api.KindBool, N: 0}
)

func whole(n int) api.Value { return api.Value{Kind: api.KindInt, N: n} }

func dec(n int) api.Value { return api.Value{Kind: api.KindDec, N: n} }

func text(s string) api.Value { return api.Value{Kind: api.KindText, Text: s} }

func row(l ...api.Value) []api.Value { return l }

func column(name string, kind int) api.Column { return api.Column{Name: name, Kind: kind} }

func schemaOf(name string, l ...api.Column) api.Schema {
	return api.Schema{Name: name, Columns: l}
}

// trade is the chapter's example.
func trade() api.Schema {
	return schemaOf("Trade", column("sym", api.KindText), column("price", api.KindInt))
}

// every has a column of each kind that a column may have.
func every() api.Schema {
	return schemaOf("Every", column("b", api.KindBool), column("i", api.KindInt), column("d", api.KindDec), column("t", api.KindText))
}

// wide has n columns of unlike names, of all kinds by turns.
func wide(n int) api.Schema {
	s := schemaOf("Wide")
	for i := range n {
		s.Columns = append(s.Columns, column("c"+strconv.Itoa(i), api.KindBool+i%4))
	}
	return s
}

// goodSchemas may be.
func goodSchemas() []api.Schema {
	longest := strings.Repeat("x", api.MaxName)
	return []api.Schema{
		trade(),
		every(),
		wide(1),
		wide(2),
		wide(api.MaxColumns - 1),
		wide(api.MaxColumns),
		schemaOf(longest, column(longest, api.KindDec)),
		schemaOf("_", column("_", api.KindBool)),
		schemaOf("a", column("a", api.KindInt)),
		schemaOf("select", column("from", api.KindText)),
		schemaOf("T", column("a", api.KindInt), column("A", api.KindInt), column("aa", api.KindInt), column("_a", api.KindInt)),
	}
}

// badSchemas may not be; each for one cause alone, but for the last ones.
func badSchemas() []api.Schema {
	tooLong := strings.Repeat("x", api.MaxName+1)
	l := []api.Schema{
		schemaOf("T"),
		{Name: "T", Columns: []api.Column{}},
		wide(api.MaxColumns + 1),
		wide(10 * api.MaxColumns),
		schemaOf("T", column("a", api.KindBool), column("a", api.KindInt)),
		schemaOf("T", column("a", api.KindInt), column("a", api.KindInt)),
		schemaOf("T", column("a", api.KindInt), column("b", api.KindInt), column("a", api.KindInt)),
		schemaOf("T", column("a", api.KindInt), column("b", api.KindInt), column("b", api.KindInt)),
	}
	twin := wide(api.MaxColumns)
	twin.Columns[api.MaxColumns-1].Name = "c0"
	l = append(l, twin)
	for _, name := range []string{"", "9a", "a b", "é", tooLong} {
		l = append(l,
			schemaOf(name, column("a", api.KindInt)),
			schemaOf("T", column(name, api.KindInt)),
			schemaOf("T", column("a", api.KindInt), column(name, api.KindInt)),
			schemaOf("T", column(name, api.KindInt), column("a", api.KindInt)))
	}
	for _, kind := range []int{api.KindNull, -1, 5, 6, 9, math.MinInt, math.MaxInt} {
		l = append(l,
			schemaOf("T", column("a", kind)),
			schemaOf("T", column("a", api.KindInt), column("b", kind)),
			schemaOf("T", column("a", kind), column("b", api.KindInt)))
	}
	return append(l, api.Schema{}, schemaOf("", column("", 9), column("", 9)))
}

func allSchemas() []api.Schema { return append(goodSchemas(), badSchemas()...) }

// goodValues may be.
func goodValues() []api.Value {
	return []api.Value{
		null, no, yes,
		whole(0), whole(1), whole(-5), whole(math.MinInt), whole(math.MaxInt),
		dec(0), dec(1), dec(-50000), dec(math.MinInt), dec(math.MaxInt),
		text(""), text("A"), text("it's"), text("é"), text(strings.Repeat("a", api.MaxText)),
	}
}

// badValues may not be.
func badValues() []api.Value {
	return []api.Value{
		{Kind: api.KindNull, N: 1},
		{Kind: api.KindNull, Text: "a"},
		{Kind: api.KindBool, N: 2},
		{Kind: api.KindBool, N: -1},
		{Kind: api.KindBool, N: 1, Text: "a"},
		{Kind: api.KindInt, N: 1, Text: "a"},
		{Kind: api.KindDec, N: 1, Text: "a"},
		{Kind: api.KindText, N: 1, Text: "a"},
		text("\xff"),
		text(strings.Repeat("a", api.MaxText+1)),
		{Kind: -1},
		{Kind: 5},
		{Kind: 9, N: 1},
		{Kind: math.MinInt},
		{Kind: math.MaxInt, Text: "a"},
	}
}

// fitting is a row without nulls that fits s, if s may be.
func fitting(s api.Schema) []api.Value {
	var l []api.Value
	for _, c := range s.Columns {
		switch c.Kind {
		case api.KindBool:
			l = append(l, yes)
		case api.KindText:
			l = append(l, text("A"))
		default:
			l = append(l, api.Value{Kind: c.Kind, N: 5})
		}
	}
	return l
}
