package views_test

import (
	"fmt"
	"math/rand"
	"slices"
	"testing"

	"marquee/api"
	"marquee/content"
	"marquee/views"
)

// chance draws views and calls, of few unlike values and times.
type chance struct{ *rand.Rand }

func newChance(seed int64) chance { return chance{rand.New(rand.NewSource(seed))} }

func (c chance) row() []api.Value {
	values := []api.Value{null, whole(0), whole(1), whole(2), dec(0), dec(10000), dec(-1), truth(0), truth(1), text(""), text("a"), text("b"), {Kind: api.KindNull, N: 1}}
	few := 1 + c.Intn(len(values))
	width := 3
	if c.Intn(5) == 0 {
		width = c.Intn(5)
	}
	var l []api.Value
	for range width {
		l = append(l, values[c.Intn(few)])
	}
	return l
}

// view is one that may be of three columns.
func (c chance) view() api.ViewSpec {
	n := 1 + c.Intn(1+c.Intn(12))
	switch kind := kinds[c.Intn(len(kinds))]; kind {
	case api.ViewLength, api.ViewTime, api.ViewLengthBatch, api.ViewTimeBatch:
		return api.ViewSpec{Kind: kind, N: n}
	case api.ViewUnique:
		return unique(c.Perm(3)[:1+c.Intn(3)]...)
	case api.ViewSorted:
		return api.ViewSpec{Kind: kind, N: n, Cols: []int{c.Intn(3)}, Desc: c.Intn(2) == 0}
	default:
		return api.ViewSpec{Kind: kind}
	}
}

func (c chance) views() []api.ViewSpec {
	var l []api.ViewSpec
	for range 1 + c.Intn(1+c.Intn(4)) {
		l = append(l, c.view())
	}
	return l
}

// call is an Add, or an Advance.
type call struct {
	add bool
	a   api.Arrival
	now int
}

// calls are mostly such that they are done.
func (c chance) calls() []call {
	var l []call
	seq, time, wide, adds := c.Intn(3), c.Intn(2)*c.Intn(5), 1+c.Intn(8), 1+c.Intn(6)
	for range c.Intn(40) {
		x := call{add: c.Intn(7) < adds}
		x.a = api.Arrival{Seq: seq + 1 + c.Intn(2)*c.Intn(4), Time: time + c.Intn(2)*c.Intn(wide), Row: c.row()}
		x.now = time + c.Intn(2)*c.Intn(2*wide)
		switch c.Intn(16) {
		case 0:
			x.a.Seq = seq - c.Intn(3)
		case 1:
			x.a.Time, x.now = time-1-c.Intn(3), time-1-c.Intn(3)
		case 2:
			x.a.Time, x.now = api.MaxTime+1+c.Intn(3), api.MaxTime+1+c.Intn(3)
		default:
			if x.add {
				seq, time = x.a.Seq, x.a.Time
			} else {
				time = x.now
			}
		}
		l = append(l, x)
	}
	return l
}

func (x call) of(s *views.Set) api.Delta {
	if x.add {
		return s.Add(x.a)
	}
	return s.Advance(x.now)
}

// Promises 16.2, 16.3, T8: calls by chance, held against the chapter's words.
func TestCallsByChance(t *testing.T) {
	c := newChance(1)
	did := map[string]int{}
	for range 6000 {
		together := c.views()
		m := &model{t: t, specs: together, set: views.New(together, 3)}
		for _, x := range c.calls() {
			var d api.Delta
			var done bool
			if x.add {
				d, done = m.add(x.a)
			} else {
				d, done = m.advance(x.now)
			}
			did[fmt.Sprint("add ", x.add, ", done ", done)]++
			if len(d.In) > 0 {
				did[fmt.Sprint("add ", x.add, ", came")]++
			}
			if len(d.Out) > 0 {
				did[fmt.Sprint("add ", x.add, ", went")]++
			}
			if len(d.In) > 1 && len(d.Out) > 1 {
				did["more than one came and went"]++
			}
		}
	}
	for what, least := range map[string]int{
		"add true, done true": 20000, "add true, done false": 5000, "add true, came": 10000, "add true, went": 5000,
		"add false, done true": 20000, "add false, done false": 5000, "add false, came": 300, "add false, went": 600,
		"more than one came and went": 200,
	} {
		if did[what] < least {
			t.Errorf("%s: only %d", what, did[what])
		}
	}
}

// Promises 16.2, 16.3: each kind alone, and each two of them, by calls by chance.
func TestKindsByChance(t *testing.T) {
	c := newChance(2)
	for _, a := range samples() {
		for _, b := range samples() {
			for range 25 {
				together := specs(a, b)
				if c.Intn(4) == 0 {
					together = specs(a)
				}
				m := &model{t: t, specs: together, set: views.New(together, 2)}
				for _, x := range c.calls() {
					if x.add {
						m.add(x.a)
					} else {
						m.advance(x.now)
					}
				}
			}
		}
	}
}

// Promise 16.1: which sets may be, by chance, with views that may not be among them.
func TestNewByChance(t *testing.T) {
	c := newChance(3)
	may := map[bool]int{}
	for range 10000 {
		var together []api.ViewSpec
		for range c.Intn(7) {
			v := c.view()
			switch c.Intn(20) {
			case 0:
				v.N -= 3
			case 1:
				v.Kind = c.Intn(12) - 1
			case 2:
				v.Cols = append(v.Cols, c.Intn(4)-1)
			case 3:
				v.Desc = !v.Desc
			}
			together = append(together, v)
		}
		columns := c.Intn(6) - 1
		want := mayBe(together, columns)
		if got := views.New(together, columns) != nil; got != want {
			t.Fatalf("New(%v, %d): one is %v", together, columns, got)
		}
		may[want]++
	}
	if may[true] < 1000 || may[false] < 1000 {
		t.Errorf("%v", may)
	}
}

// Promise 16.2: times as far apart as may be, Next followed from turn to turn.
func TestFarTimesByChance(t *testing.T) {
	c := newChance(4)
	turns := 0
	for range 2000 {
		far := 1 << c.Intn(39)
		var together []api.ViewSpec
		for range 1 + c.Intn(2) {
			together = append(together, api.ViewSpec{Kind: []int{api.ViewTime, api.ViewTimeBatch}[c.Intn(2)], N: far/4 + 1 + c.Intn(far)})
		}
		m := &model{t: t, specs: together, set: views.New(together, 0)}
		time := c.Intn(2) * c.Intn(1<<39)
		for seq := range 1 + c.Intn(8) {
			time = min(api.MaxTime, time+c.Intn(2)*c.Intn(far))
			m.add(at(seq+1, time))
		}
		for next, ok := m.set.Next(); ok && next <= api.MaxTime; next, ok = m.set.Next() {
			m.advance(next - 1)
			m.advance(next)
			turns++
		}
		m.advance(api.MaxTime)
	}
	if turns < 4000 {
		t.Errorf("only %d turns", turns)
	}
}

// Promise 16.4: Content, and all deltas one behind the other, agree; nothing comes in that is there, nothing goes that is not, and what went never comes again.
func TestDeltasBehindOneAnother(t *testing.T) {
	c := newChance(5)
	moved := 0
	for range 4000 {
		together := c.views()
		s := views.New(together, 3)
		came, held := map[int]bool{}, map[int]api.Arrival{}
		for _, x := range c.calls() {
			d := x.of(s)
			for _, a := range d.Out {
				if _, ok := held[a.Seq]; !ok {
					t.Fatalf("%v: %d goes, and was not there", together, a.Seq)
				}
				delete(held, a.Seq)
			}
			for _, a := range d.In {
				if came[a.Seq] {
					t.Fatalf("%v: %d comes again", together, a.Seq)
				}
				came[a.Seq] = true
				held[a.Seq] = a
			}
			moved += len(d.In) + len(d.Out)
			rising(t, d.In)
			rising(t, d.Out)
			wantHeld(t, s, held)
		}
	}
	if moved < 20000 {
		t.Errorf("only %d moved", moved)
	}
}

func rising(t *testing.T, l []api.Arrival) {
	t.Helper()
	if !slices.IsSorted(seqs(l)) {
		t.Fatalf("not by rising Seq: %v", l)
	}
}

func wantHeld(t *testing.T, s *views.Set, held map[int]api.Arrival) {
	t.Helper()
	l := s.Content()
	rising(t, l)
	if len(l) != len(held) || s.Len() != len(held) {
		t.Fatalf("%v (%d), want %v", l, s.Len(), held)
	}
	for _, a := range l {
		if !sameArrival(a, held[a.Seq]) {
			t.Fatalf("%v, want %v", a, held[a.Seq])
		}
	}
}

// Promise 16.4, T5: to t1 and then to t2: the deltas together are that of going to t2, but for what came in and went out between; and the sets are the same behind.
func TestTimeInTwoSteps(t *testing.T) {
	c := newChance(6)
	told, between := 0, 0
	for range 6000 {
		together, calls := c.views(), c.calls()
		a, b := views.New(together, 3), views.New(together, 3)
		m := &model{t: t, specs: together, set: views.New(together, 3)}
		for _, x := range calls {
			x.of(a)
			x.of(b)
			if x.add {
				m.add(x.a)
			} else {
				m.advance(x.now)
			}
		}
		t1 := m.time + c.Intn(12)
		t2 := t1 + c.Intn(12)
		ahead, behind := a.Advance(t1), a.Advance(t2)
		once := b.Advance(t2)
		both, passing := join(ahead, behind)
		between += passing
		told += len(once.In) + len(once.Out)
		if !sameArrivals(both.In, once.In) || !sameArrivals(both.Out, once.Out) {
			t.Fatalf("%v, behind %v: to %d: %v, to %d: %v; to %d at once: %v", together, calls, t1, ahead, t2, behind, t2, once)
		}
		sameSets(t, a, b)
		a.Add(at(1000, t2+1, whole(0)))
		b.Add(at(1000, t2+1, whole(0)))
		sameSets(t, a, b)
	}
	if told < 1500 || between < 100 {
		t.Errorf("only %d told, %d between", told, between)
	}
}

// join is both deltas as one, without what came in by the first and went out by the second, and how many these are.
func join(a, b api.Delta) (api.Delta, int) {
	d := api.Delta{
		In:  append(content.Diff(b.Out, a.In).In, b.In...),
		Out: append(slices.Clone(a.Out), content.Diff(a.In, b.Out).In...),
	}
	for _, l := range [][]api.Arrival{d.In, d.Out} {
		slices.SortFunc(l, func(x, y api.Arrival) int { return x.Seq - y.Seq })
	}
	return d, len(a.In) + len(b.In) - len(d.In)
}

func sameSets(t *testing.T, a, b *views.Set) {
	t.Helper()
	nextA, okA := a.Next()
	nextB, okB := b.Next()
	if !sameArrivals(a.Content(), b.Content()) || a.Len() != b.Len() || nextA != nextB || okA != okB {
		t.Fatalf("%v, Next %d, %v, and %v, Next %d, %v", a.Content(), nextA, okA, b.Content(), nextB, okB)
	}
}

// Promise 16.4, T7: a set of a view with a bound holds no more than that.
func TestBounds(t *testing.T) {
	c := newChance(7)
	full := map[int]int{}
	for range 4000 {
		together := c.views()
		s := views.New(together, 3)
		for _, x := range c.calls() {
			x.of(s)
			for _, v := range together {
				most, ok := mostOf(v)
				if ok && s.Len() > most {
					t.Fatalf("%v: %d are held", together, s.Len())
				}
				if ok && s.Len() == most {
					full[v.Kind]++
				}
			}
		}
	}
	for _, kind := range []int{api.ViewLength, api.ViewLengthBatch, api.ViewSorted, api.ViewLast, api.ViewFirst} {
		if full[kind] < 500 {
			t.Errorf("kind %d: full %d times", kind, full[kind])
		}
	}
}

// mostOf is how many v holds at most, if there is such a number.
func mostOf(v api.ViewSpec) (int, bool) {
	switch v.Kind {
	case api.ViewLength, api.ViewLengthBatch, api.ViewSorted:
		return v.N, true
	case api.ViewLast, api.ViewFirst:
		return 1, true
	}
	return 0, false
}

// Promise 16.2: views in another order tell the same.
func TestViewsInAnotherOrder(t *testing.T) {
	c := newChance(8)
	for range 2000 {
		together, calls := c.views(), c.calls()
		other := slices.Clone(together)
		c.Shuffle(len(other), func(i, j int) { other[i], other[j] = other[j], other[i] })
		a, b := views.New(together, 3), views.New(other, 3)
		for _, x := range calls {
			want, got := x.of(a), x.of(b)
			if !sameArrivals(got.In, want.In) || !sameArrivals(got.Out, want.Out) {
				t.Fatalf("%v: %v, %v: %v", together, want, other, got)
			}
			sameSets(t, a, b)
		}
	}
}
