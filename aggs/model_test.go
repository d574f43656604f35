package aggs_test

import (
	"math/big"
	"math/rand"
	"slices"
	"testing"

	"marquee/aggs"
	"marquee/api"
	"marquee/value"
)

// modelOf is 17.2 a second time, word by word, with numbers as wide as they must be.
func modelOf(s api.AggSpec, all []api.Value) answer {
	var l []api.Value
	for _, v := range all {
		if v.Kind == api.KindNull && !s.All || s.Distinct && slices.ContainsFunc(l, func(x api.Value) bool { return value.Order(x, v) == 0 }) {
			continue
		}
		l = append(l, v)
	}
	switch {
	case s.Name == "count":
		return ok(whole(len(l)))
	case len(l) == 0:
		return ok(null)
	case s.Name == "first":
		return ok(l[0])
	case s.Name == "last":
		return ok(l[len(l)-1])
	case s.Name == "sum" || s.Name == "avg":
		return modelSum(s.Name, l)
	}
	return modelExtreme(s.Name, l)
}

func modelSum(name string, l []api.Value) answer {
	kind := l[0].Kind
	if kind != api.KindInt && kind != api.KindDec || slices.ContainsFunc(l, func(v api.Value) bool { return v.Kind != kind }) {
		return fails(api.ErrKind)
	}
	sum := new(big.Int)
	for _, v := range l {
		sum.Add(sum, big.NewInt(int64(v.N)))
	}
	if name == "avg" {
		if kind == api.KindInt {
			sum.Mul(sum, big.NewInt(api.Scale))
		}
		sum.Quo(sum, big.NewInt(int64(len(l))))
		kind = api.KindDec
	}
	if !sum.IsInt64() {
		return fails(api.ErrOver)
	}
	return ok(api.Value{Kind: kind, N: int(sum.Int64())})
}

func modelExtreme(name string, l []api.Value) answer {
	sign := 1
	if name == "max" {
		sign = -1
	}
	best := l[0]
	for i, a := range l {
		for _, b := range l[:i] {
			if _, ok := value.Compare(a, b); !ok {
				return fails(api.ErrKind)
			}
		}
		if c, _ := value.Compare(a, best); c*sign < 0 {
			best = a
		}
	}
	return ok(best)
}

// chance makes values and calls.
type chance struct{ *rand.Rand }

func newChance(seed int64) chance { return chance{rand.New(rand.NewSource(seed))} }

func (c chance) spec() api.AggSpec { return specs()[c.Intn(len(specs()))] }

func (c chance) number() int {
	switch c.Intn(6) {
	case 0:
		return edges[c.Intn(len(edges))]
	case 1:
		return int(c.Uint64())
	case 2:
		return c.Intn(7) * 10000
	}
	return c.Intn(7) - 3
}

func (c chance) ofKind(kind int) api.Value {
	switch kind {
	case api.KindNull:
		return null
	case api.KindBool:
		return truth(c.Intn(2))
	case api.KindText:
		return text(string("abcAB"[c.Intn(5)]))
	}
	return api.Value{Kind: kind, N: c.number()}
}

// any is a value, most often one that may be.
func (c chance) any() api.Value {
	switch c.Intn(30) {
	case 0:
		return odd(7 + c.Intn(2))
	case 1:
		return api.Value{Kind: c.Intn(7) - 1, N: c.Intn(3), Text: string("ab"[c.Intn(2)])}
	}
	return c.ofKind(c.Intn(5))
}

// mix makes values of few kinds: what is all of one kind, or of numbers alone, has the most to tell.
func (c chance) mix() func() api.Value {
	first, second, rare := c.Intn(5), c.Intn(5), c.Intn(12)
	return func() api.Value {
		switch n := c.Intn(12); {
		case n == 0:
			return null
		case rare == 0 && n == 1:
			return c.any()
		case rare < 6 && n < 4:
			return c.ofKind(second)
		}
		return c.ofKind(first)
	}
}

// Promise 17.2: what lists by chance make is what the chapter says of them.
func TestOfByChance(t *testing.T) {
	c := newChance(1)
	var told [8]int
	for range 60000 {
		s, one := c.spec(), c.mix()
		var l []api.Value
		for range c.Intn(8) {
			l = append(l, one())
		}
		want := modelOf(s, l)
		if got := of(s, l); got != want {
			t.Fatalf("%v of %v: %v, want %v", s, l, got, want)
		}
		told[outcome(want)]++
	}
	wantEach(t, told[:7])
}

// outcome numbers what may be told: the kind of a value, or which error.
func outcome(a answer) int {
	switch a.e {
	case api.ErrKind:
		return 5
	case api.ErrOver:
		return 6
	}
	return min(max(a.v.Kind, 0), 7) % 7
}

func wantEach(t *testing.T, told []int) {
	t.Helper()
	for i, n := range told {
		if n < 300 {
			t.Errorf("what is told as %d: only %d times: %v", i, n, told)
		}
	}
}

// model is an aggregate by the chapter's words: the values that are there, by rising numbers.
type model struct {
	t    *testing.T
	spec api.AggSpec
	a    *aggs.Agg
	seqs []int
	l    []api.Value
}

func newModel(t *testing.T, s api.AggSpec) *model {
	return &model{t: t, spec: s, a: aggs.New(s)}
}

func (m *model) add(seq int, v api.Value) {
	m.a.Add(seq, v)
	place, found := slices.BinarySearch(m.seqs, seq)
	if found {
		m.l[place] = v
	} else {
		m.seqs, m.l = slices.Insert(m.seqs, place, seq), slices.Insert(m.l, place, v)
	}
}

func (m *model) remove(seq int) {
	place, found := slices.BinarySearch(m.seqs, seq)
	if got := m.a.Remove(seq); got != found {
		m.t.Fatalf("%v: Remove(%d): %v, there are %v", m.spec, seq, got, m.seqs)
	}
	if found {
		m.seqs, m.l = slices.Delete(m.seqs, place, place+1), slices.Delete(m.l, place, place+1)
	}
}

// tells: Value and Len are what the chapter says of those that are there.
func (m *model) tells() answer {
	want := modelOf(m.spec, m.l)
	if got := valueOf(m.a); got != want {
		m.t.Fatalf("%v of %v under %v: %v, want %v", m.spec, m.l, m.seqs, got, want)
	}
	if got := m.a.Len(); got != len(m.l) {
		m.t.Fatalf("%v: Len %d, there are %v", m.spec, got, m.seqs)
	}
	return want
}

func (c chance) seq(most int) int {
	if c.Intn(20) == 0 {
		return edges[c.Intn(len(edges))]
	}
	return c.Intn(most) - most/4
}

// Promise 17.3: rows of calls by chance: numbers that rise and that do not, that are there and that are not.
func TestCallsByChance(t *testing.T) {
	c := newChance(2)
	var told [8]int
	for range 6000 {
		m, one, most := newModel(t, c.spec()), c.mix(), 1+c.Intn(12)
		next := 0
		for range 1 + c.Intn(30) {
			switch c.Intn(5) {
			case 0, 1:
				next++
				m.add(next, one())
			case 2:
				m.add(c.seq(most), one())
			case 3:
				m.remove(c.seq(most))
			default:
				m.remove(next - c.Intn(4))
			}
			told[outcome(m.tells())]++
		}
	}
	wantEach(t, told[:7])
}

// Promise 17.3: the same as views do it: numbers that rise come, the oldest ones leave, up to the last.
func TestSlidingByChance(t *testing.T) {
	c := newChance(4)
	for _, s := range specs() {
		for range 30 {
			m, one, width := newModel(t, s), c.mix(), 1+c.Intn(40)
			for seq := range 100 + width {
				if seq < 100 {
					m.add(seq, one())
				}
				m.remove(seq - width)
				m.tells()
			}
			if m.a.Len() != 0 {
				t.Fatalf("%v: %d are left", s, m.a.Len())
			}
		}
	}
}
