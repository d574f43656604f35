package types_test

import (
	"slices"
	"testing"

	"marquee/api"
	"marquee/types"
)

func trade() api.Schema {
	return api.Schema{Name: "Trade", Columns: []api.Column{{Name: "sym", Kind: api.KindText}, {Name: "price", Kind: api.KindInt}}}
}

// Promise 11.1.
func TestFields(t *testing.T) {
	for _, as := range []string{"t", "", "Trade", "9 a"} {
		want := []api.Field{{Stream: as, Column: "sym", Kind: api.KindText}, {Stream: as, Column: "price", Kind: api.KindInt}}
		if l := types.Fields(trade(), as); !slices.Equal(l, want) {
			t.Errorf("as %q: %v", as, l)
		}
	}
}

// Promise 11.1: schemas that may not be are taken as they are.
func TestFieldsOfOddSchemas(t *testing.T) {
	if l := types.Fields(api.Schema{Name: "T"}, "t"); len(l) != 0 {
		t.Errorf("of no columns: %v", l)
	}
	odd := api.Schema{Columns: []api.Column{{Name: "", Kind: -1}, {Name: "a", Kind: 0}, {Name: "a", Kind: oddKind}, {Name: "a b", Kind: api.KindBool}}}
	want := []api.Field{{Stream: "t", Column: "", Kind: -1}, {Stream: "t", Column: "a", Kind: 0}, {Stream: "t", Column: "a", Kind: oddKind}, {Stream: "t", Column: "a b", Kind: api.KindBool}}
	if l := types.Fields(odd, "t"); !slices.Equal(l, want) {
		t.Errorf("%v", l)
	}
	var wide api.Schema
	for range 1000 {
		wide.Columns = append(wide.Columns, api.Column{Name: "a", Kind: api.KindDec})
	}
	if l := types.Fields(wide, "t"); len(l) != 1000 || l[999] != (api.Field{Stream: "t", Column: "a", Kind: api.KindDec}) {
		t.Errorf("%d fields", len(l))
	}
}

// Promise 11.1.
func TestResolve(t *testing.T) {
	for _, x := range []struct {
		stream, column string
		place          int
		err            api.Errno
	}{
		{"", "b", 0, api.OK}, {"t", "b", 0, api.OK}, {"u", "b", 0, api.ErrName}, {"v", "b", 0, api.ErrName},
		{"", "i", 1, api.OK}, {"", "o", 5, api.OK}, {"t", "o", 5, api.OK},
		{"", "a", 0, api.ErrName}, {"t", "a", 6, api.OK}, {"u", "a", 7, api.OK}, {"v", "a", 0, api.ErrName},
		{"", "y", 9, api.OK}, {"u", "y", 9, api.OK}, {"t", "y", 0, api.ErrName},
		{"", "", 0, api.ErrName}, {"t", "", 0, api.ErrName}, {"", "nope", 0, api.ErrName}, {"t", "nope", 0, api.ErrName},
		{"", "t", 0, api.ErrName}, {"", "t.b", 0, api.ErrName}, {"T", "b", 0, api.ErrName}, {"t", "B", 0, api.ErrName}, {"", "B", 0, api.ErrName}, {"b", "t", 0, api.ErrName},
	} {
		if place, e := types.Resolve(fields(), x.stream, x.column); place != x.place || e != x.err {
			t.Errorf("%q.%q: %d, %d, want %d, %d", x.stream, x.column, place, e, x.place, x.err)
		}
	}
}

// Promise 11.1: none at all, the same one twice or thrice, streams without a name, columns without one.
func TestResolveOddFields(t *testing.T) {
	twice := []api.Field{{Stream: "t", Column: "c", Kind: 1}, {Stream: "t", Column: "a", Kind: 2}, {Stream: "t", Column: "a", Kind: 2}}
	thrice := append(twice, twice[1])
	unnamed := []api.Field{{Stream: "", Column: "a", Kind: 2}, {Stream: "t", Column: "", Kind: 2}, {Stream: "", Column: "e", Kind: 2}, {Stream: "t", Column: "e", Kind: 2}}
	for _, x := range []struct {
		fields         []api.Field
		stream, column string
		place          int
		err            api.Errno
	}{
		{nil, "", "a", 0, api.ErrName}, {nil, "t", "a", 0, api.ErrName}, {nil, "", "", 0, api.ErrName}, {[]api.Field{}, "t", "", 0, api.ErrName},
		{twice, "", "a", 0, api.ErrName}, {twice, "t", "a", 0, api.ErrName}, {thrice, "", "a", 0, api.ErrName}, {thrice, "t", "a", 0, api.ErrName},
		{twice, "", "c", 0, api.OK}, {twice, "t", "c", 0, api.OK}, {twice[1:2], "", "a", 0, api.OK}, {twice[1:2], "t", "a", 0, api.OK},
		{unnamed, "", "a", 0, api.OK}, {unnamed, "t", "a", 0, api.ErrName}, {unnamed, "t", "", 1, api.OK}, {unnamed, "", "", 1, api.OK},
		{unnamed, "", "e", 0, api.ErrName}, {unnamed, "t", "e", 3, api.OK},
	} {
		if place, e := types.Resolve(x.fields, x.stream, x.column); place != x.place || e != x.err {
			t.Errorf("%v %q.%q: %d, %d, want %d, %d", x.fields, x.stream, x.column, place, e, x.place, x.err)
		}
	}
}

// Promise 11.1: each field of a schema that may be is found at its place, with its stream and without.
func TestResolveFindsAllFields(t *testing.T) {
	both := append(types.Fields(trade(), "t"), types.Fields(trade(), "u")...)
	for i, f := range both {
		if place, e := types.Resolve(both, f.Stream, f.Column); place != i || e != api.OK {
			t.Errorf("%v: %d, %d", f, place, e)
		}
		if place, e := types.Resolve(both, "", f.Column); place != 0 || e != api.ErrName {
			t.Errorf("%v: %d, %d", f, place, e)
		}
		if place, e := types.Resolve(both[:2], "", f.Column); place != i%2 || e != api.OK {
			t.Errorf("%v: %d, %d", f, place, e)
		}
	}
}
