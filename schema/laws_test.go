package schema_test

import (
	"slices"
	"testing"

	"marquee/api"
	"marquee/schema"
)

// Promise 3.5.
func TestNullsFitEverySchema(t *testing.T) {
	for _, s := range allSchemas() {
		for n := range 2 * api.MaxColumns {
			want := api.ErrRow
			if n == len(s.Columns) {
				want = api.OK
			}
			if e := schema.Fits(s, make([]api.Value, n)); e != want {
				t.Errorf("%d nulls in %v: %d, want %d", n, s, e, want)
			}
		}
	}
	if e := schema.Fits(wide(1000), make([]api.Value, 1000)); e != api.OK {
		t.Errorf("1000 nulls in 1000 columns: %d", e)
	}
}

// Promise 3.5: a row that fits a schema does not fit it with a column more, nor does a row with a value more.
func TestOneMoreDoesNotFit(t *testing.T) {
	for _, s := range goodSchemas() {
		l := fitting(s)
		if e := schema.Fits(s, l); e != api.OK {
			t.Errorf("Fits(%v, %v): %d", s, l, e)
		}
		for _, kind := range []int{api.KindNull, api.KindBool, api.KindInt, api.KindDec, api.KindText, 9} {
			more := api.Schema{Name: s.Name, Columns: append(slices.Clone(s.Columns), column("more", kind))}
			if e := schema.Fits(more, l); e != api.ErrRow {
				t.Errorf("Fits(%v, %v): %d, want ErrRow", more, l, e)
			}
		}
		for _, v := range goodValues() {
			if e := schema.Fits(s, append(slices.Clone(l), v)); e != api.ErrRow {
				t.Errorf("%v with a value more, %v: %d, want ErrRow", s, v, e)
			}
		}
	}
}

// Promises 3.2, 3.3: an event fits, if its row fits the schema that Find finds.
func TestEventIsFitsOfFind(t *testing.T) {
	l := allSchemas()
	for _, named := range l {
		for _, s := range l {
			e := api.Event{Name: named.Name, Row: fitting(s)}
			found, ok := schema.Find(l, e.Name)
			if got := schema.Event(l, e); !ok || got != schema.Fits(found, e.Row) {
				t.Errorf("Event %v: %d, found %v, %v", e, got, found, ok)
			}
		}
	}
}

// Promises 3.1, 3.2: in a schema that may be, each column stands at its own place.
func TestPlacesOfColumns(t *testing.T) {
	for _, s := range goodSchemas() {
		for i, c := range s.Columns {
			if place, ok := schema.Place(s, c.Name); place != i || !ok {
				t.Errorf("Place(%v, %q): %d, %v", s, c.Name, place, ok)
			}
		}
	}
}

// R4: what is handed in is as it was, behind its end, too.
func TestHandedInIsNotChanged(t *testing.T) {
	columns := wide(api.MaxColumns + 1).Columns
	values := append(fitting(wide(api.MaxColumns)), text("behind"))
	s := api.Schema{Name: "Wide", Columns: columns[:api.MaxColumns]}
	l := []api.Schema{s, trade(), trade()}
	few := l[:2]
	inner := values[:api.MaxColumns]
	schema.Check(s)
	schema.Fits(s, inner)
	schema.Place(s, "c31")
	schema.Find(few, "Wide")
	schema.Find(few, "nope")
	schema.Event(few, api.Event{Name: "Wide", Row: inner})
	schema.Same(s, s)
	schema.SameRow(inner, inner)
	if !slices.Equal(columns, wide(api.MaxColumns+1).Columns) {
		t.Errorf("columns: %v", columns)
	}
	if !slices.Equal(values, append(fitting(wide(api.MaxColumns)), text("behind"))) {
		t.Errorf("values: %v", values)
	}
	if !alike(l[0], wide(api.MaxColumns)) || !alike(l[1], trade()) || !alike(l[2], trade()) {
		t.Errorf("schemas: %v", l)
	}
}
