package schema_test

import (
	"testing"

	"marquee/api"
	"marquee/schema"
)

// lists has two schemas of the name Trade, no row of which fits the other, and some schemas that may not be.
func lists() []api.Schema {
	return []api.Schema{
		every(),
		trade(),
		schemaOf("Trade", column("sym", api.KindInt)),
		schemaOf("Stop", column("sym", api.KindText)),
		schemaOf("Empty"),
		schemaOf("", column("sym", api.KindText)),
	}
}

// Promise 3.2.
func TestFind(t *testing.T) {
	for _, c := range []struct {
		l    []api.Schema
		name string
		want api.Schema
		ok   bool
	}{
		{lists(), "Every", every(), true},
		{lists(), "Trade", trade(), true},
		{lists(), "Stop", schemaOf("Stop", column("sym", api.KindText)), true},
		{lists(), "Empty", schemaOf("Empty"), true},
		{lists(), "", schemaOf("", column("sym", api.KindText)), true},
		{lists(), "trade", api.Schema{}, false},
		{lists(), "Trad", api.Schema{}, false},
		{lists(), "Trades", api.Schema{}, false},
		{lists(), "sym", api.Schema{}, false},
		{lists()[2:], "Trade", schemaOf("Trade", column("sym", api.KindInt)), true},
		{lists()[:1], "Trade", api.Schema{}, false},
		{lists()[:1], "", api.Schema{}, false},
		{nil, "Trade", api.Schema{}, false},
		{nil, "", api.Schema{}, false},
		{[]api.Schema{}, "Trade", api.Schema{}, false},
		{[]api.Schema{{}}, "", api.Schema{}, true},
		{badSchemas(), "Wide", wide(api.MaxColumns + 1), true},
	} {
		if s, ok := schema.Find(c.l, c.name); !alike(s, c.want) || ok != c.ok {
			t.Errorf("Find(%q): %v, %v, want %v, %v", c.name, s, ok, c.want, c.ok)
		}
	}
}

// Promise 3.2 and R4: what is found is new memory, behind its end, too.
func TestFoundIsNew(t *testing.T) {
	behind := column("behind", api.KindDec)
	columns := append(trade().Columns, behind)
	l := []api.Schema{{Name: "Trade", Columns: columns[:2]}}
	a, _ := schema.Find(l, "Trade")
	b, _ := schema.Find(l, "Trade")
	for i := range a.Columns {
		a.Columns[i] = column("other", 9)
	}
	_ = append(a.Columns, column("other", 9))
	if !alike(l[0], trade()) || columns[2] != behind || !alike(b, trade()) {
		t.Errorf("kept %v and %v, behind it %v", l[0], b, columns[2])
	}
	l[0].Columns[0] = column("again", api.KindInt)
	if !alike(b, trade()) {
		t.Errorf("found ahead: %v", b)
	}
}

// Promise 3.3.
func TestEvent(t *testing.T) {
	for _, c := range []struct {
		l    []api.Schema
		name string
		row  []api.Value
		want api.Errno
	}{
		{lists(), "Trade", row(text("A"), whole(5)), api.OK},
		{lists(), "Trade", row(null, null), api.OK},
		{lists(), "Trade", row(text("A"), dec(50000)), api.ErrRow},
		{lists(), "Trade", row(text("A")), api.ErrRow},
		{lists(), "Trade", row(text("A"), whole(5), null), api.ErrRow},
		{lists(), "Trade", row(text("\xff"), whole(5)), api.ErrRow},
		{lists(), "Trade", nil, api.ErrRow},
		{lists(), "Stop", row(text("A")), api.OK},
		{lists(), "Stop", row(whole(1)), api.ErrRow},
		{lists(), "Q", row(text("A"), whole(5)), api.ErrName},
		{lists(), "Q", nil, api.ErrName},
		{lists(), "trade", row(text("A"), whole(5)), api.ErrName},
		{lists(), "\xff", row(text("\xff")), api.ErrName},
		{lists(), "Empty", nil, api.OK},
		{lists(), "Empty", []api.Value{}, api.OK},
		{lists(), "Empty", row(null), api.ErrRow},
		{lists(), "", row(text("A")), api.OK},
		{lists()[:4], "", row(text("A")), api.ErrName},
		{nil, "Trade", row(text("A"), whole(5)), api.ErrName},
		{nil, "", nil, api.ErrName},
		{[]api.Schema{}, "Trade", nil, api.ErrName},
	} {
		if e := schema.Event(c.l, api.Event{Name: c.name, Row: c.row}); e != c.want {
			t.Errorf("Event(%q, %#v): %d, want %d", c.name, c.row, e, c.want)
		}
	}
}

// Promise 3.3: of two schemas of one name the first alone is asked.
func TestEventAsksTheFirst(t *testing.T) {
	e := api.Event{Name: "Trade", Row: row(whole(1))}
	if got := schema.Event(lists(), e); got != api.ErrRow {
		t.Errorf("a row of the second schema: %d, want ErrRow", got)
	}
	if got := schema.Event(lists()[2:], e); got != api.OK {
		t.Errorf("the same, where that schema is the first: %d", got)
	}
}
