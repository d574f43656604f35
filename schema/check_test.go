package schema_test

import (
	"strings"
	"testing"

	"marquee/api"
	"marquee/schema"
)

// Promise 3.1.
func TestName(t *testing.T) {
	for _, s := range []string{
		"a", "z", "A", "Z", "_", "__", "_9", "_a9", "a0", "a9", "Trade", "sym", "select", "aZ_09",
		strings.Repeat("a", api.MaxName-1), strings.Repeat("a", api.MaxName), strings.Repeat("_", api.MaxName),
		"a" + strings.Repeat("9", api.MaxName-1),
	} {
		if !schema.Name(s) {
			t.Errorf("Name(%q): false", s)
		}
	}
}

// Promise 3.1.
func TestNoName(t *testing.T) {
	for _, s := range []string{
		"", "0", "9", "9a", "0_", "1" + strings.Repeat("a", api.MaxName-1),
		strings.Repeat("a", api.MaxName+1), strings.Repeat("a", 10*api.MaxName), strings.Repeat("a", api.MaxName) + "_",
		" ", " a", "a ", "a b", "a.b", "a-b", "a'", "a\x00", "\x00", "a\n", "a$", "*",
		"é", "aé", "éa", "a\u0301", "\u0430", "\uff21", "a\u0661", "ß", "\u212a", "a\u017f",
		"\xff", "a\xff", "a\xe9", "a\xc1", "a\x80",
		strings.Repeat("é", api.MaxName/2), strings.Repeat("é", api.MaxName),
	} {
		if schema.Name(s) {
			t.Errorf("Name(%q): true", s)
		}
	}
}

// Promise 3.1: each byte, as the first one and behind another.
func TestBytesOfNames(t *testing.T) {
	const begin = "abcdefghijklmnopqrstuvwxyzABCDEFGHIJKLMNOPQRSTUVWXYZ_"
	const within = begin + "0123456789"
	for i := range 256 {
		b := string([]byte{byte(i)})
		if want := strings.Contains(begin, b); schema.Name(b) != want {
			t.Errorf("Name(%q): %v", b, !want)
		}
		if want := strings.Contains(within, b); schema.Name("a"+b) != want || schema.Name("_"+b+"a") != want {
			t.Errorf("a name with %q within: not %v", b, want)
		}
	}
}

// Promise 3.1.
func TestCheck(t *testing.T) {
	for _, s := range goodSchemas() {
		if e := schema.Check(s); e != api.OK {
			t.Errorf("Check(%v): %d", s, e)
		}
	}
	for _, s := range badSchemas() {
		if e := schema.Check(s); e != api.ErrSchema {
			t.Errorf("Check(%v): %d, want ErrSchema", s, e)
		}
	}
}

// Promise 3.1: no two columns of one name, wherever they stand.
func TestCheckTwins(t *testing.T) {
	for i := range api.MaxColumns {
		for j := range api.MaxColumns {
			s := wide(api.MaxColumns)
			s.Columns[i].Name = s.Columns[j].Name
			want := api.OK
			if i != j {
				want = api.ErrSchema
			}
			if e := schema.Check(s); e != want {
				t.Errorf("column %d has the name of column %d: %d", i, j, e)
			}
		}
	}
}

// Promise 3.1: a wrong column is found wherever it stands.
func TestCheckLooksAtEachColumn(t *testing.T) {
	for i := range api.MaxColumns {
		s := wide(api.MaxColumns)
		s.Columns[i].Name = "9a"
		if e := schema.Check(s); e != api.ErrSchema {
			t.Errorf("column %d without a name: %d", i, e)
		}
		s = wide(api.MaxColumns)
		s.Columns[i].Kind = api.KindNull
		if e := schema.Check(s); e != api.ErrSchema {
			t.Errorf("column %d of KindNull: %d", i, e)
		}
	}
}

// Promise 3.1: a column may have the name of its schema.
func TestCheckNamesOfUnlikeThings(t *testing.T) {
	if e := schema.Check(schemaOf("a", column("a", api.KindInt))); e != api.OK {
		t.Errorf("a (a int): %d", e)
	}
}
