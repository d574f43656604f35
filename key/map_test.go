package key_test

import (
	"math"
	"slices"
	"testing"

	"marquee/api"
	"marquee/key"
)

// wantAdd adds and holds the answer against sum and e.
func wantAdd(t *testing.T, m *key.Map, l []api.Value, n, sum int, e api.Errno) {
	t.Helper()
	if gotSum, gotE := m.Add(l, n); gotSum != sum || gotE != e {
		t.Errorf("Add(%#v, %d): %d, %d, want %d, %d", l, n, gotSum, gotE, sum, e)
	}
}

func wantGet(t *testing.T, m *key.Map, l []api.Value, n int, ok bool) {
	t.Helper()
	if gotN, gotOK := m.Get(l); gotN != n || gotOK != ok {
		t.Errorf("Get(%#v): %d, %v, want %d, %v", l, gotN, gotOK, n, ok)
	}
}

func wantRemove(t *testing.T, m *key.Map, l []api.Value, was bool) {
	t.Helper()
	if got := m.Remove(l); got != was {
		t.Errorf("Remove(%#v): %v, want %v", l, got, was)
	}
}

func wantRows(t *testing.T, m *key.Map, want ...[]api.Value) {
	t.Helper()
	if got := m.Rows(); !slices.EqualFunc(got, want, slices.Equal) {
		t.Errorf("Rows: %#v, want %#v", got, want)
	}
	if n := m.Len(); n != len(want) {
		t.Errorf("Len: %d, want %d", n, len(want))
	}
}

// Promise 4.2: the chapter's examples.
func TestMapExamples(t *testing.T) {
	a, b := row(text("a")), row(text("b"))
	m := key.New()
	wantRows(t, m)
	wantAdd(t, m, a, 2, 2, api.OK)
	wantAdd(t, m, b, 1, 1, api.OK)
	wantAdd(t, m, a, 3, 5, api.OK)
	wantRows(t, m, a, b)
	wantGet(t, m, a, 5, true)
	wantRemove(t, m, a, true)
	wantGet(t, m, a, 0, false)
	wantRows(t, m, b)
	wantAdd(t, m, a, 1, 1, api.OK)
	wantRows(t, m, b, a)
	wantGet(t, m, a, 1, true)
	wantGet(t, m, b, 1, true)
}

// Promise 4.2: 1 and 1.0 are two keys, though Compare says that they are the same.
func TestWholeAndDecimalAreTwoKeys(t *testing.T) {
	one, oneDec := row(whole(1)), row(dec(api.Scale))
	m := key.New()
	wantAdd(t, m, one, 1, 1, api.OK)
	wantGet(t, m, oneDec, 0, false)
	wantRemove(t, m, oneDec, false)
	wantAdd(t, m, oneDec, 2, 2, api.OK)
	wantRows(t, m, one, oneDec)
	wantGet(t, m, one, 1, true)
	wantGet(t, m, oneDec, 2, true)
	wantAdd(t, m, row(dec(1)), 3, 3, api.OK)
	wantRows(t, m, one, oneDec, row(dec(1)))
}

// Promise 4.2: rows that have a beginning, an end or all bytes of their texts in common are keys of their own.
func TestRowsThatResembleEachOther(t *testing.T) {
	a, b := text("a"), text("b")
	l := [][]api.Value{
		{}, {a}, {b}, {a, b}, {b, a}, {a, a}, {a, a, a}, {text("aa")}, {text("")}, {text(""), text("")},
		{text("ab")}, {text(""), text("ab")}, {text("ab"), text("")}, {a, b, a}, {a, b, b}, {b, b, a},
		{null}, {null, null}, {null, a}, {a, null}, {no}, {whole(0)}, {dec(0)}, {no, no}, {text("'a'")}, {text("null")},
	}
	m := key.New()
	for i, r := range l {
		wantGet(t, m, r, 0, false)
		wantRemove(t, m, r, false)
		wantAdd(t, m, r, i+1, i+1, api.OK)
	}
	wantRows(t, m, l...)
	for i, r := range l {
		wantGet(t, m, r, i+1, true)
	}
	for i, r := range l {
		wantRemove(t, m, r, true)
		wantRemove(t, m, r, false)
		wantGet(t, m, r, 0, false)
		wantRows(t, m, l[i+1:]...)
		for j := i + 1; j < len(l); j++ {
			wantGet(t, m, l[j], j+1, true)
		}
	}
}

// Promise 4.2: the same, taken away from behind.
func TestRemoveFromBehind(t *testing.T) {
	l := goodRows()[:60]
	m := key.New()
	for i, r := range l {
		wantAdd(t, m, r, -i, -i, api.OK)
	}
	for i := len(l) - 1; i >= 0; i-- {
		wantRows(t, m, l[:i+1]...)
		wantRemove(t, m, l[i], true)
		for j := range i {
			wantGet(t, m, l[j], -j, true)
		}
	}
	wantRows(t, m)
}

// Promise 4.2: the empty row, nil or not, is a key as others are.
func TestEmptyRow(t *testing.T) {
	m := key.New()
	wantGet(t, m, nil, 0, false)
	wantRemove(t, m, nil, false)
	wantAdd(t, m, nil, 4, 4, api.OK)
	wantAdd(t, m, []api.Value{}, 5, 9, api.OK)
	wantGet(t, m, row(null), 0, false)
	wantRows(t, m, nil)
	wantAdd(t, m, row(null), 1, 1, api.OK)
	wantRemove(t, m, []api.Value{}, true)
	wantRows(t, m, row(null))
	wantAdd(t, m, row(), 2, 2, api.OK)
	wantRows(t, m, row(null), nil)
}

// Promise 4.2: a row under which 0 stands is there, and stays there.
func TestNothingStandsThere(t *testing.T) {
	a, b := row(text("a")), row(text("b"))
	m := key.New()
	wantAdd(t, m, a, 0, 0, api.OK)
	wantGet(t, m, a, 0, true)
	wantAdd(t, m, b, 7, 7, api.OK)
	wantAdd(t, m, b, -7, 0, api.OK)
	wantGet(t, m, b, 0, true)
	wantRows(t, m, a, b)
	wantRemove(t, m, a, true)
	wantGet(t, m, a, 0, false)
	wantRows(t, m, b)
}

// Promise 4.2, R2: a sum that leaves an int is refused, and nothing has changed.
func TestSumsThatLeaveAnInt(t *testing.T) {
	cases := []struct {
		stands, n int
		e         api.Errno
	}{
		{math.MaxInt, 1, api.ErrOver},
		{1, math.MaxInt, api.ErrOver},
		{math.MaxInt, math.MaxInt, api.ErrOver},
		{math.MaxInt - 5, 6, api.ErrOver},
		{math.MinInt, -1, api.ErrOver},
		{-1, math.MinInt, api.ErrOver},
		{math.MinInt, math.MinInt, api.ErrOver},
		{math.MinInt + 5, -6, api.ErrOver},
		{math.MaxInt, 0, api.OK},
		{math.MinInt, 0, api.OK},
		{0, math.MaxInt, api.OK},
		{0, math.MinInt, api.OK},
		{math.MaxInt - 5, 5, api.OK},
		{5, math.MaxInt - 5, api.OK},
		{math.MinInt + 5, -5, api.OK},
		{-5, math.MinInt + 5, api.OK},
		{math.MaxInt, math.MinInt, api.OK},
		{math.MinInt, math.MaxInt, api.OK},
		{math.MaxInt, -1, api.OK},
		{math.MinInt, 1, api.OK},
		{-1, math.MaxInt, api.OK},
		{1, math.MinInt, api.OK},
	}
	a, b := row(text("a")), row(text("b"))
	for _, c := range cases {
		m := key.New()
		wantAdd(t, m, a, c.stands, c.stands, api.OK)
		wantAdd(t, m, b, 3, 3, api.OK)
		sum := c.stands
		if c.e == api.OK {
			sum += c.n
			wantAdd(t, m, a, c.n, sum, api.OK)
		} else {
			wantAdd(t, m, a, c.n, 0, c.e)
		}
		wantGet(t, m, a, sum, true)
		wantGet(t, m, b, 3, true)
		wantRows(t, m, a, b)
	}
}

// Promise 4.2: after Remove the sum begins with nothing again.
func TestSumBeginsAgain(t *testing.T) {
	a := row(text("a"), null)
	m := key.New()
	wantAdd(t, m, a, math.MaxInt, math.MaxInt, api.OK)
	wantRemove(t, m, a, true)
	wantAdd(t, m, a, math.MaxInt, math.MaxInt, api.OK)
	wantAdd(t, m, a, 1, 0, api.ErrOver)
	wantRemove(t, m, a, true)
	wantAdd(t, m, a, math.MinInt, math.MinInt, api.OK)
}

// Promise 4.2, R2: a row that may not be is refused, and nothing has changed; Get and Remove say false.
func TestMapOfRowsThatMayNotBe(t *testing.T) {
	m := key.New()
	held := [][]api.Value{row(null), row(yes), row(whole(1)), row(text("a")), row(yes, yes), {}}
	for _, r := range held {
		wantAdd(t, m, r, math.MaxInt, math.MaxInt, api.OK)
	}
	for _, r := range badRows() {
		wantAdd(t, m, r, 1, 0, api.ErrRow)
		wantAdd(t, m, r, 0, 0, api.ErrRow)
		wantGet(t, m, r, 0, false)
		wantRemove(t, m, r, false)
	}
	wantRows(t, m, held...)
	for _, r := range held {
		wantGet(t, m, r, math.MaxInt, true)
	}
}

// Promise 4.2, R1: on a nil map Add answers ErrArg, whatever the row is, and all others nothing.
func TestNilMap(t *testing.T) {
	var m *key.Map
	for _, r := range append(badRows(), nil, row(null), row(text("a"), whole(1))) {
		wantAdd(t, m, r, 1, 0, api.ErrArg)
		wantGet(t, m, r, 0, false)
		wantRemove(t, m, r, false)
		wantRows(t, m)
	}
}

// R1: a map that is not nil, but that New did not give, is one of nothing.
func TestMapThatNewDidNotGive(t *testing.T) {
	a, b := row(text("a")), row(text("b"))
	m := new(key.Map)
	wantRows(t, m)
	wantGet(t, m, a, 0, false)
	wantRemove(t, m, a, false)
	wantAdd(t, m, row(whole(1), dec(1), badValues()[0]), 1, 0, api.ErrRow)
	wantRows(t, m)
	wantAdd(t, m, b, 2, 2, api.OK)
	wantAdd(t, m, a, 2, 2, api.OK)
	wantAdd(t, m, b, 2, 4, api.OK)
	wantRows(t, m, b, a)
	wantRemove(t, m, b, true)
	wantRows(t, m, a)
}

// Promise 4.2: two maps have nothing in common.
func TestTwoMaps(t *testing.T) {
	a := row(text("a"))
	m, other := key.New(), key.New()
	wantAdd(t, m, a, 1, 1, api.OK)
	wantRows(t, other)
	wantGet(t, other, a, 0, false)
	wantAdd(t, other, a, 5, 5, api.OK)
	wantRemove(t, m, a, true)
	wantGet(t, other, a, 5, true)
}
