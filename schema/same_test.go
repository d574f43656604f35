package schema_test

import (
	"math"
	"testing"

	"marquee/api"
	"marquee/schema"
)

// alike says what Same says, one field after the other.
func alike(a, b api.Schema) bool {
	if a.Name != b.Name || len(a.Columns) != len(b.Columns) {
		return false
	}
	for i := range a.Columns {
		if a.Columns[i].Name != b.Columns[i].Name || a.Columns[i].Kind != b.Columns[i].Kind {
			return false
		}
	}
	return true
}

// changed are schemas that differ from trade in one field alone, in their order alone, or in how many columns they have.
func changed() []api.Schema {
	sym, price := column("sym", api.KindText), column("price", api.KindInt)
	return []api.Schema{
		schemaOf("trade", sym, price),
		schemaOf("", sym, price),
		schemaOf("Trade", column("Sym", api.KindText), price),
		schemaOf("Trade", sym, column("prices", api.KindInt)),
		schemaOf("Trade", column("sym", api.KindInt), price),
		schemaOf("Trade", sym, column("price", api.KindDec)),
		schemaOf("Trade", sym, column("price", 9)),
		schemaOf("Trade", column("price", api.KindText), column("sym", api.KindInt)),
		schemaOf("Trade", price, sym),
		schemaOf("Trade", sym),
		schemaOf("Trade", price),
		schemaOf("Trade", sym, price, price),
		schemaOf("Trade", sym, price, api.Column{}),
		schemaOf("Trade"),
		{},
	}
}

// Promise 3.4.
func TestSame(t *testing.T) {
	if !schema.Same(trade(), trade()) {
		t.Error("Trade is not the same as itself")
	}
	for _, s := range changed() {
		if schema.Same(trade(), s) || schema.Same(s, trade()) {
			t.Errorf("the same as Trade: %v", s)
		}
		if !schema.Same(s, s) {
			t.Errorf("not the same as itself: %v", s)
		}
	}
}

// Promise 3.4: schemas that may not be are taken as they are.
func TestSameOfAll(t *testing.T) {
	l := append(allSchemas(), changed()...)
	for _, a := range l {
		for _, b := range l {
			if got := schema.Same(a, b); got != alike(a, b) {
				t.Errorf("Same(%v, %v): %v", a, b, got)
			}
		}
	}
}

// Promise 3.4 and R3: no columns are no columns.
func TestSameWithoutColumns(t *testing.T) {
	none, empty := api.Schema{Name: "T"}, api.Schema{Name: "T", Columns: []api.Column{}}
	if !schema.Same(none, empty) || !schema.Same(empty, none) {
		t.Error("no columns, told in two ways")
	}
	if !schema.SameRow(nil, []api.Value{}) || !schema.SameRow([]api.Value{}, nil) || !schema.SameRow(nil, nil) {
		t.Error("no values, told in two ways")
	}
}

// Promise 3.4: two values are the same in all their fields, or the rows are not the same.
func TestSameRowOfOneValue(t *testing.T) {
	l := append(goodValues(), badValues()...)
	l = append(l, dec(10000), whole(10000), api.Value{Kind: api.KindNull, N: 2}, api.Value{Kind: api.KindInt, N: 1, Text: "b"})
	for i, a := range l {
		for j, b := range l {
			want := a.Kind == b.Kind && a.N == b.N && a.Text == b.Text
			if got := schema.SameRow(row(a), row(b)); got != want {
				t.Errorf("SameRow of %#v, %#v: %v", a, b, got)
			}
			if got := schema.SameRow(row(yes, a, b), row(yes, b, b)); got != want {
				t.Errorf("SameRow with %#v, %#v (%d, %d) within: %v", a, b, i, j, got)
			}
		}
	}
}

// Promise 3.4.
func TestSameRow(t *testing.T) {
	for _, c := range []struct {
		a, b []api.Value
		want bool
	}{
		{row(text("A"), whole(5)), row(text("A"), whole(5)), true},
		{row(text("A"), whole(5)), row(text("A"), whole(6)), false},
		{row(text("A"), whole(5)), row(text("B"), whole(5)), false},
		{row(text("A"), whole(5)), row(whole(5), text("A")), false},
		{row(text("A"), whole(5)), row(text("A")), false},
		{row(text("A"), whole(5)), row(text("A"), whole(5), null), false},
		{row(text("A"), whole(5)), nil, false},
		{row(null), nil, false},
		{row(null), row(null), true},
		{row(null), row(null, null), false},
		{row(null, null), row(null, null), true},
		{row(whole(1)), row(dec(10000)), false},
		{row(whole(1)), row(dec(1)), false},
		{row(whole(1)), row(yes), false},
		{row(null), row(whole(0)), false},
		{row(null), row(no), false},
		{row(null), row(text("")), false},
		{row(text("a")), row(text("A")), false},
		{row(text("\xff")), row(text("\xff")), true},
		{row(text("\xff")), row(text("\xfe")), false},
		{row(text("\u00e9")), row(text("e\u0301")), false},
		{row(api.Value{Kind: api.KindNull, N: 1}), row(null), false},
		{row(api.Value{Kind: api.KindInt, Text: "a"}), row(whole(0)), false},
		{row(whole(math.MinInt)), row(whole(math.MaxInt)), false},
	} {
		if schema.SameRow(c.a, c.b) != c.want || schema.SameRow(c.b, c.a) != c.want {
			t.Errorf("SameRow(%#v, %#v): not %v", c.a, c.b, c.want)
		}
	}
}
