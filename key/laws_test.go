package key_test

import (
	"math/rand"
	"slices"
	"strings"
	"testing"

	"marquee/api"
	"marquee/key"
)

// Promise 4.3.
func TestDecodeOfEncode(t *testing.T) {
	for _, l := range goodRows() {
		s, e := key.Encode(l)
		if got, e2 := key.Decode(s); !slices.Equal(got, l) || e != api.OK || e2 != api.OK {
			t.Errorf("%#v: %q, %d, %#v, %d", l, s, e, got, e2)
		}
	}
}

// Promise 4.3: of bytes of all sorts, most of them changed in one place, those that are taken are told again.
func TestEncodeOfDecode(t *testing.T) {
	chance := rand.New(rand.NewSource(4))
	taken := 0
	for range 200000 {
		b := randomBytes(chance)
		l, e := key.Decode(string(b))
		switch {
		case e == api.OK:
			taken++
			if s, e := key.Encode(l); s != string(b) || e != api.OK {
				t.Fatalf("Decode(%q): %#v, whose bytes are %q, %d", b, l, s, e)
			}
		case e != api.ErrRow || len(l) != 0:
			t.Fatalf("Decode(%q): %#v, %d", b, l, e)
		}
	}
	if taken < 1000 {
		t.Errorf("only %d were taken", taken)
	}
}

func randomBytes(chance *rand.Rand) []byte {
	var l []api.Value
	for range chance.Intn(4) {
		l = append(l, goodValues()[chance.Intn(28)])
	}
	s, _ := key.Encode(l)
	b := []byte(s)
	if len(b) == 0 {
		return b
	}
	at := chance.Intn(len(b))
	switch chance.Intn(4) {
	case 0:
		b[at] = byte(chance.Intn(256))
	case 1:
		b = slices.Delete(b, at, at+1)
	case 2:
		b = slices.Insert(b, at, byte(chance.Intn(6)))
	}
	return b
}

// Promise 4.3: unlike rows have unlike bytes, and none is a beginning of another one with as many values.
func TestUnlikeRowsHaveUnlikeBytes(t *testing.T) {
	rows := goodRows()
	var all []string
	for _, l := range rows {
		s, _ := key.Encode(l)
		all = append(all, s)
	}
	for i, a := range all {
		for j, b := range all {
			if i == j {
				continue
			}
			if a == b {
				t.Errorf("%#v and %#v: %q", rows[i], rows[j], a)
			}
			if len(rows[i]) == len(rows[j]) && strings.HasPrefix(b, a) {
				t.Errorf("%#v begins %#v: %q, %q", rows[i], rows[j], a, b)
			}
		}
	}
}

// model is a map as the chapter says it, gone through from its beginning at each call.
type model struct {
	keys []string
	sums []int
}

func (m *model) add(l []api.Value, n int) int {
	s := wantBytes(l)
	i := slices.Index(m.keys, s)
	if i < 0 {
		m.keys, m.sums = append(m.keys, s), append(m.sums, 0)
		i = len(m.keys) - 1
	}
	m.sums[i] += n
	return m.sums[i]
}

func (m *model) get(l []api.Value) (int, bool) {
	i := slices.Index(m.keys, wantBytes(l))
	if i < 0 {
		return 0, false
	}
	return m.sums[i], true
}

func (m *model) remove(l []api.Value) bool {
	i := slices.Index(m.keys, wantBytes(l))
	if i < 0 {
		return false
	}
	m.keys, m.sums = slices.Delete(m.keys, i, i+1), slices.Delete(m.sums, i, i+1)
	return true
}

func (m *model) holds(rows [][]api.Value) bool {
	if len(rows) != len(m.keys) {
		return false
	}
	for i, l := range rows {
		if wantBytes(l) != m.keys[i] {
			return false
		}
	}
	return true
}

// Promises 4.2, 4.3: over a long life the map is what was added since each row was put there, in that order.
func TestMapOverALongLife(t *testing.T) {
	chance := rand.New(rand.NewSource(5))
	few := []api.Value{null, yes, whole(1), dec(10000), text(""), text("a")}
	m, want := key.New(), &model{}
	for step := range 20000 {
		var l []api.Value
		for range chance.Intn(4) {
			l = append(l, few[chance.Intn(len(few))])
		}
		if chance.Intn(2) == 0 {
			n := chance.Intn(21) - 10
			wantAdd(t, m, l, n, want.add(l, n), api.OK)
		} else {
			wantRemove(t, m, l, want.remove(l))
		}
		n, ok := want.get(l)
		wantGet(t, m, l, n, ok)
		if m.Len() != len(want.keys) || step%20 == 0 && !want.holds(m.Rows()) {
			t.Fatalf("step %d: %#v, want %q", step, m.Rows(), want.keys)
		}
	}
}

// R5: the order is the same each time, with as many rows as a map goes through in an order of its own.
func TestRowsKeepTheirOrder(t *testing.T) {
	m := key.New()
	var want [][]api.Value
	for i := range 3000 {
		l := row(whole(i*7919%3000), text("x"))
		m.Add(l, 1)
		want = append(want, l)
	}
	for range 5 {
		wantRows(t, m, want...)
	}
}

// R4: a row that was handed in may be changed by whoever holds it, and nothing behind its end was.
func TestHandedInIsNotKept(t *testing.T) {
	hold := row(text("a"), whole(1), text("behind"))
	l := hold[:2]
	m := key.New()
	wantAdd(t, m, l, 1, 1, api.OK)
	wantAdd(t, m, l, 1, 2, api.OK)
	wantGet(t, m, l, 2, true)
	m.Rows()
	key.Encode(l)
	if !slices.Equal(hold, row(text("a"), whole(1), text("behind"))) {
		t.Errorf("handed in: %#v", hold)
	}
	l[0], l[1] = text("b"), whole(9)
	wantRows(t, m, row(text("a"), whole(1)))
	wantGet(t, m, row(text("a"), whole(1)), 2, true)
	wantGet(t, m, l, 0, false)
	wantRemove(t, m, l, false)
	wantAdd(t, m, l, 5, 5, api.OK)
	wantRows(t, m, row(text("a"), whole(1)), row(text("b"), whole(9)))
	wantRemove(t, m, l, true)
	if !slices.Equal(hold, row(text("b"), whole(9), text("behind"))) {
		t.Errorf("handed in: %#v", hold)
	}
}

// R4: rows that were handed out may be changed, and have more laid behind them; neither the map nor another answer tells it.
func TestHandedOutIsNew(t *testing.T) {
	a, b := row(text("a"), whole(1)), row(text("b"), whole(2))
	m := key.New()
	m.Add(a, 1)
	m.Add(b, 2)
	first, second := m.Rows(), m.Rows()
	first[0][0], first[0][1] = null, null
	_ = append(first[0], whole(7))
	_ = append(first[1][:0], whole(8), whole(9), whole(10))
	_ = append(first[:0], nil, nil, nil)
	for _, rows := range [][][]api.Value{second, m.Rows()} {
		if !slices.EqualFunc(rows, [][]api.Value{a, b}, slices.Equal) {
			t.Errorf("rows: %#v", rows)
		}
	}
	wantGet(t, m, a, 1, true)
	wantGet(t, m, b, 2, true)
	wantGet(t, m, row(null, null), 0, false)
	third := m.Rows()
	_ = append(third[0], whole(7))
	if !slices.Equal(third[1], b) {
		t.Errorf("behind the first row: %#v", third)
	}
	s, _ := key.Encode(a)
	one, _ := key.Decode(s)
	two, _ := key.Decode(s)
	one[0] = null
	if !slices.Equal(two, a) {
		t.Errorf("Decode: %#v", two)
	}
}
