package timers_test

import (
	"math/rand"
	"testing"

	"marquee/api"
	"marquee/timers"
)

// model is a wheel by the chapter's words: a list in which each timer is laid at its place by the order, gone through from its beginning at each call.
type model struct {
	list  []api.Timer
	given int
}

// isAhead: the one with the less At; of the same the less Stmt; of the same the less Seq.
func isAhead(a, b api.Timer) bool {
	if a.At != b.At {
		return a.At < b.At
	}
	if a.Stmt != b.Stmt {
		return a.Stmt < b.Stmt
	}
	return a.Seq < b.Seq
}

func (m *model) set(at, stmt int) int {
	m.given++
	x := timer(at, stmt, m.given)
	var l []api.Timer
	for len(m.list) > 0 && isAhead(m.list[0], x) {
		l, m.list = append(l, m.list[0]), m.list[1:]
	}
	m.list = append(append(l, x), m.list...)
	return x.Seq
}

// without takes away all timers of which gone holds, and tells how many there were.
func (m *model) without(gone func(api.Timer) bool) int {
	var l []api.Timer
	for _, x := range m.list {
		if !gone(x) {
			l = append(l, x)
		}
	}
	n := len(m.list) - len(l)
	m.list = l
	return n
}

func (m *model) cancel(seq int) bool {
	return m.without(func(x api.Timer) bool { return x.Seq == seq }) > 0
}

func (m *model) drop(stmt int) int {
	return m.without(func(x api.Timer) bool { return x.Stmt == stmt })
}

func (m *model) pop(now int) api.Timer {
	if len(m.list) == 0 || m.list[0].At > now {
		return api.Timer{}
	}
	x := m.list[0]
	m.list = m.list[1:]
	return x
}

// both are a wheel and what it is held against.
type both struct {
	wheel *timers.Wheel
	model model
	done  map[string]int // how many calls of each sort, those that did something and those that did nothing
}

func newBoth() *both { return &both{wheel: timers.New(), done: map[string]int{}} }

func (b *both) count(call string, did bool) {
	if !did {
		call += " of nothing"
	}
	b.done[call]++
}

func (b *both) set(t *testing.T, at, stmt int) {
	t.Helper()
	wantSet(t, b.wheel, at, stmt, b.model.set(at, stmt))
	b.count("Set", true)
}

func (b *both) cancel(t *testing.T, seq int) {
	t.Helper()
	was := b.model.cancel(seq)
	wantCancel(t, b.wheel, seq, was)
	b.count("Cancel", was)
}

func (b *both) drop(t *testing.T, stmt int) {
	t.Helper()
	n := b.model.drop(stmt)
	wantDrop(t, b.wheel, stmt, n)
	b.count("Drop", n > 0)
}

func (b *both) pop(t *testing.T, now int) {
	t.Helper()
	x := b.model.pop(now)
	wantPop(t, b.wheel, now, x)
	b.count("Pop", x.Seq > 0)
}

// numbers draws numbers of which many are the same, and some are edges.
type numbers struct {
	*rand.Rand
	few int
}

func newNumbers(seed int64, few int) numbers { return numbers{rand.New(rand.NewSource(seed)), few} }

func (c numbers) any() int {
	if c.Intn(20) == 0 {
		return edges[c.Intn(len(edges))]
	}
	return c.Intn(c.few)
}

// someSeq is mostly one that is there; else one that is not there any more, or never was.
func (c numbers) someSeq(m model) int {
	switch {
	case c.Intn(8) == 0:
		return c.any()
	case c.Intn(4) == 0:
		return c.Intn(m.given + 2)
	case len(m.list) == 0:
		return m.given
	}
	return m.list[c.Intn(len(m.list))].Seq
}

// call does one call by chance, a Set as many times out of 10 as sets says.
func (b *both) call(t *testing.T, c numbers, sets int) {
	t.Helper()
	if c.Intn(10) < sets {
		b.set(t, c.any(), c.any())
		return
	}
	switch c.Intn(8) {
	case 0:
		b.drop(t, c.any())
	case 1, 2, 3:
		b.cancel(t, c.someSeq(b.model))
	default:
		b.pop(t, c.any())
	}
}
