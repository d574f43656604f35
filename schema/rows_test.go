package schema_test

import (
	"testing"

	"marquee/api"
	"marquee/schema"
)

// Promise 3.2.
func TestFits(t *testing.T) {
	for _, c := range []struct {
		s    api.Schema
		row  []api.Value
		want api.Errno
	}{
		{trade(), row(text("A"), whole(5)), api.OK},
		{trade(), row(text("A"), dec(50000)), api.ErrRow},
		{trade(), row(text("A")), api.ErrRow},
		{trade(), row(text("A"), whole(5), whole(5)), api.ErrRow},
		{trade(), row(text("A"), whole(5), null), api.ErrRow},
		{trade(), nil, api.ErrRow},
		{trade(), []api.Value{}, api.ErrRow},
		{trade(), row(null, null), api.OK},
		{trade(), row(null, whole(5)), api.OK},
		{trade(), row(text("A"), null), api.OK},
		{trade(), row(null), api.ErrRow},
		{trade(), row(null, null, null), api.ErrRow},
		{trade(), row(whole(5), text("A")), api.ErrRow},
		{trade(), row(text("A"), text("5")), api.ErrRow},
		{trade(), row(text("\xff"), whole(5)), api.ErrRow},
		{trade(), row(text("A"), api.Value{Kind: api.KindInt, N: 5, Text: "5"}), api.ErrRow},
		{trade(), row(text("A"), api.Value{N: 5}), api.ErrRow},
		{every(), row(yes, whole(1), dec(1), text("1")), api.OK},
		{every(), row(no, whole(0), dec(0), text("")), api.OK},
		{every(), row(whole(1), yes, dec(1), text("1")), api.ErrRow},
		{every(), row(yes, dec(1), whole(1), text("1")), api.ErrRow},
	} {
		if e := schema.Fits(c.s, c.row); e != c.want {
			t.Errorf("Fits(%v, %#v): %d, want %d", c.s, c.row, e, c.want)
		}
	}
}

// Promise 3.2: each value against a column of each kind, alone and among others.
func TestFitsEachKind(t *testing.T) {
	for i, c := range every().Columns {
		for _, v := range goodValues() {
			want := api.ErrRow
			if v.Kind == api.KindNull || v.Kind == c.Kind {
				want = api.OK
			}
			among := fitting(every())
			among[i] = v
			if e := schema.Fits(schemaOf("T", c), row(v)); e != want {
				t.Errorf("%#v in %v: %d, want %d", v, c, e, want)
			}
			if e := schema.Fits(every(), among); e != want {
				t.Errorf("%#v: %d, want %d", among, e, want)
			}
		}
	}
}

// Promise 3.2: a value that may not be fits nowhere, not even where the column has its kind.
func TestFitsValuesThatMayNotBe(t *testing.T) {
	for _, v := range badValues() {
		for i := range every().Columns {
			l := fitting(every())
			l[i] = v
			if e := schema.Fits(every(), l); e != api.ErrRow {
				t.Errorf("%#v at %d: %d, want ErrRow", v, i, e)
			}
		}
		if e := schema.Fits(schemaOf("T", column("a", v.Kind)), row(v)); e != api.ErrRow {
			t.Errorf("%#v in a column of its kind: %d, want ErrRow", v, e)
		}
	}
}

// Promise 3.2: schemas that may not be are taken as they are.
func TestFitsSchemasThatMayNotBe(t *testing.T) {
	over := wide(api.MaxColumns + 1)
	for _, c := range []struct {
		s    api.Schema
		row  []api.Value
		want api.Errno
	}{
		{api.Schema{}, nil, api.OK},
		{schemaOf("T"), []api.Value{}, api.OK},
		{schemaOf("T"), row(null), api.ErrRow},
		{over, fitting(over), api.OK},
		{over, fitting(over)[1:], api.ErrRow},
		{schemaOf("", column("", api.KindInt), column("", api.KindText)), row(whole(1), text("")), api.OK},
		{schemaOf("T", column("a", api.KindInt), column("a", api.KindBool)), row(whole(1), yes), api.OK},
		{schemaOf("T", column("a", api.KindNull)), row(null), api.OK},
		{schemaOf("T", column("a", api.KindNull)), row(whole(0)), api.ErrRow},
		{schemaOf("T", column("a", 9)), row(null), api.OK},
		{schemaOf("T", column("a", 9)), row(whole(9)), api.ErrRow},
		{schemaOf("T", column("a", -1)), row(api.Value{Kind: -1}), api.ErrRow},
	} {
		if e := schema.Fits(c.s, c.row); e != c.want {
			t.Errorf("Fits(%v, %#v): %d, want %d", c.s, c.row, e, c.want)
		}
	}
}

// Promise 3.2.
func TestPlace(t *testing.T) {
	twins := schemaOf("T", column("a", api.KindInt), column("b", api.KindInt), column("b", api.KindText), column("a", api.KindText))
	nameless := schemaOf("T", column("a", api.KindInt), column("", 9), column("", api.KindInt))
	for _, c := range []struct {
		s     api.Schema
		name  string
		place int
		ok    bool
	}{
		{trade(), "sym", 0, true},
		{trade(), "price", 1, true},
		{trade(), "Price", 0, false},
		{trade(), "pric", 0, false},
		{trade(), "prices", 0, false},
		{trade(), "Trade", 0, false},
		{trade(), "", 0, false},
		{twins, "a", 0, true},
		{twins, "b", 1, true},
		{twins, "c", 0, false},
		{nameless, "", 1, true},
		{nameless, "\xff", 0, false},
		{schemaOf("T", column("\xff", 0)), "\xff", 0, true},
		{schemaOf("T"), "a", 0, false},
		{api.Schema{}, "", 0, false},
		{wide(api.MaxColumns + 9), "c40", 40, true},
	} {
		if place, ok := schema.Place(c.s, c.name); place != c.place || ok != c.ok {
			t.Errorf("Place(%#v, %q): %d, %v, want %d, %v", c.s, c.name, place, ok, c.place, c.ok)
		}
	}
}
