package content_test

import (
	"math/rand"
	"slices"
	"testing"

	"marquee/api"
	"marquee/content"
)

// chance draws views, and arrivals of few unlike values and times.
type chance struct{ *rand.Rand }

func newChance(seed int64) chance { return chance{rand.New(rand.NewSource(seed))} }

func (c chance) row() []api.Value {
	values := []api.Value{null, whole(0), whole(1), whole(2), dec(0), dec(10000), dec(-1), truth(0), truth(1), text(""), text("a"), text("b")}
	few := 1 + c.Intn(len(values))
	width := 3
	if c.Intn(4) == 0 {
		width = c.Intn(5)
	}
	var l []api.Value
	for range width {
		l = append(l, values[c.Intn(few)])
	}
	return l
}

func (c chance) arrivals() []api.Arrival {
	var l []api.Arrival
	seq, time, wide := c.Intn(3), c.Intn(5), 1+c.Intn(6)
	for range c.Intn(14) {
		seq += 1 + c.Intn(2)*c.Intn(5)
		time += c.Intn(2) * c.Intn(wide)
		l = append(l, api.Arrival{Seq: seq, Time: time, Row: c.row()})
	}
	return l
}

// nowOf is a time that no arrival is above: the last one's, or one behind it.
func (c chance) nowOf(l []api.Arrival) int {
	now := c.Intn(2) * c.Intn(12)
	if len(l) > 0 {
		now += l[len(l)-1].Time
	}
	return now
}

// view is one that may be of three columns, mostly.
func (c chance) view() api.ViewSpec {
	v := api.ViewSpec{Kind: kinds[c.Intn(len(kinds))]}
	named, _ := namesOf(v.Kind)
	if named.n > 0 {
		v.N = 1 + c.Intn(1+c.Intn(12))
	}
	if named.many > 0 {
		v.Cols = c.Perm(3)[:1+c.Intn(min(named.many, 3))]
	}
	v.Desc = named.desc && c.Intn(2) == 0
	if c.Intn(20) == 0 {
		c.spoil(&v)
	}
	return v
}

func (c chance) spoil(v *api.ViewSpec) {
	switch c.Intn(5) {
	case 0:
		v.Kind = c.Intn(14) - 2
	case 1:
		v.N = c.Intn(4) - 1
	case 2:
		v.N = 1<<40 + 1
	case 3:
		v.Cols = append(v.Cols, c.Intn(5)-1)
	default:
		v.Desc = !v.Desc
	}
}

func (c chance) views() []api.ViewSpec {
	var l []api.ViewSpec
	for range c.Intn(5) {
		l = append(l, c.view())
	}
	return l
}

// Promise 15.1: views by chance, of as many columns.
func TestCheckByChance(t *testing.T) {
	c := newChance(1)
	done := map[api.Errno]int{}
	for range 20000 {
		v := c.view()
		columns := c.Intn(6) - 1
		want := api.ErrView
		if mayBe(v, columns) {
			want = api.OK
		}
		wantCheck(t, v, columns, want)
		done[want]++
	}
	if done[api.OK] < 3000 || done[api.ErrView] < 3000 {
		t.Errorf("%v", done)
	}
}

// Promises 15.2, 15.3: what is held of arrivals by chance, by each kind and by some views together.
func TestHeldByChance(t *testing.T) {
	c := newChance(2)
	some, none := map[int]int{}, map[int]int{}
	for range 6000 {
		l := c.arrivals()
		now := c.nowOf(l)
		for range 6 {
			v := c.view()
			want := held(views(v), l, now)
			wantOne(t, v, l, now, want...)
			if len(want) > 0 {
				some[v.Kind]++
			} else {
				none[v.Kind]++
			}
		}
		together := c.views()
		wantOf(t, together, l, now, held(together, l, now)...)
	}
	for _, kind := range kinds {
		if some[kind] < 500 || none[kind] < 100 {
			t.Errorf("too few of kind %d: %d hold something, %d nothing", kind, some[kind], none[kind])
		}
	}
}

// nextBySteps is the first of the times behind now, one after the other, at which a view holds others than at now. (N of views by chance is so small that nothing changes behind these times.)
func nextBySteps(views []api.ViewSpec, l []api.Arrival, now int) (int, bool) {
	var was [][]int
	for i := range views {
		was = append(was, held(views[i:i+1], l, now))
	}
	for time := now + 1; time < now+40; time++ {
		for i := range views {
			if !slices.Equal(held(views[i:i+1], l, time), was[i]) {
				return time, true
			}
		}
	}
	return 0, false
}

// Promise 15.3: Next held against what each view holds at each of the times behind now.
func TestNextByChance(t *testing.T) {
	c := newChance(3)
	done := map[bool]int{}
	for range 6000 {
		l := c.arrivals()
		together, now := c.views(), c.nowOf(l)
		want, ok := nextBySteps(together, l, now)
		if ok {
			wantNext(t, together, l, now, want)
		} else {
			wantNoNext(t, together, l, now)
		}
		done[ok]++
	}
	if done[true] < 1000 || done[false] < 1000 {
		t.Errorf("%v", done)
	}
}

// Promises 15.2, 15.3: the same with times as far apart as may be, Next followed from change to change.
func TestFarTimesByChance(t *testing.T) {
	c := newChance(4)
	turns := 0
	for range 3000 {
		var l []api.Arrival
		time, far := c.Intn(2)*c.Intn(1<<39), 1<<c.Intn(38)
		for seq := range 1 + c.Intn(8) {
			time = min(api.MaxTime, time+c.Intn(2)*c.Intn(far))
			l = append(l, api.Arrival{Seq: seq, Time: time, Row: c.row()})
		}
		v := api.ViewSpec{Kind: api.ViewTime, N: 1 + c.Intn(2*far)}
		if c.Intn(2) == 0 {
			v.Kind, v.N = api.ViewTimeBatch, far/4+1+c.Intn(far)
		}
		now := time
		for next, ok := content.Next(views(v), l, now); ok; next, ok = content.Next(views(v), l, now) {
			turns++
			was := held(views(v), l, now)
			wantOne(t, v, l, next-1, was...)
			wantOne(t, v, l, next, held(views(v), l, next)...)
			if next <= now || slices.Equal(held(views(v), l, next), was) {
				t.Fatalf("Next(%v, %v, %d): %d, where nothing changes", v, l, now, next)
			}
			now = next
		}
		wantOne(t, v, l, now)
		wantOne(t, v, l, now+3*api.MaxTime)
	}
	if turns < 5000 {
		t.Errorf("only %d turns", turns)
	}
}

// Promise 15.4, T7: a view holds no more than it may; what Of holds stands in l, and each view holds it.
func TestBounds(t *testing.T) {
	c := newChance(5)
	for range 5000 {
		l := c.arrivals()
		together, now := c.views(), c.nowOf(l)
		of := content.Of(together, l, now)
		if !sameArrivals(of, those(l, seqs(of)...)) {
			t.Fatalf("Of(%v, %v, %d): %v", together, l, now, of)
		}
		for _, v := range together {
			one := content.One(v, l, now)
			if most, ok := mostOf(v); ok && (len(one) > most || len(of) > most) {
				t.Fatalf("One(%v, %v, %d): %v, Of: %v", v, l, now, one, of)
			}
			if !sameArrivals(of, those(one, seqs(of)...)) {
				t.Fatalf("Of(%v, %v, %d): %v, One(%v): %v", together, l, now, of, v, one)
			}
		}
	}
}

// mostOf is how many v holds at most, if there is such a number.
func mostOf(v api.ViewSpec) (int, bool) {
	switch v.Kind {
	case api.ViewLength, api.ViewLengthBatch, api.ViewSorted:
		return max(0, v.N), true
	case api.ViewLast, api.ViewFirst:
		return 1, true
	}
	return 0, false
}

// Promise 15.4: between now and Next nothing changes, and at Next one does.
func TestNothingChangesAheadOfNext(t *testing.T) {
	c := newChance(6)
	changes := 0
	for range 3000 {
		l := c.arrivals()
		together, now := c.views(), c.nowOf(l)
		next, ok := content.Next(together, l, now)
		behind := next
		if !ok {
			behind = now + 40
		}
		for time := now; time < behind; time++ {
			wantOf(t, together, l, time, seqs(content.Of(together, l, now))...)
			for _, v := range together {
				wantOne(t, v, l, time, seqs(content.One(v, l, now))...)
			}
		}
		if !ok {
			continue
		}
		changes++
		if !slices.ContainsFunc(together, func(v api.ViewSpec) bool {
			return !slices.Equal(seqs(content.One(v, l, now)), seqs(content.One(v, l, next)))
		}) {
			t.Fatalf("Next(%v, %v, %d): %d, where nothing changes", together, l, now, next)
		}
	}
	if changes < 500 {
		t.Errorf("only %d changes", changes)
	}
}

// Promise 15.4: views in another order hold the same, and change when these do.
func TestViewsInAnotherOrder(t *testing.T) {
	c := newChance(7)
	for range 3000 {
		l := c.arrivals()
		together, now := c.views(), c.nowOf(l)
		want := seqs(content.Of(together, l, now))
		next, ok := content.Next(together, l, now)
		for range 4 {
			c.Shuffle(len(together), func(i, j int) { together[i], together[j] = together[j], together[i] })
			wantOf(t, together, l, now, want...)
			if ok {
				wantNext(t, together, l, now, next)
			} else {
				wantNoNext(t, together, l, now)
			}
		}
	}
}

// Promises 15.3, 15.4: what was held, without Out and with In, is what is held behind an arrival or a while.
func TestDiffOfWhatIsHeld(t *testing.T) {
	c := newChance(8)
	in, out := 0, 0
	for range 3000 {
		l := c.arrivals()
		if len(l) == 0 {
			continue
		}
		together := c.views()
		ahead, behind := l[:c.Intn(len(l))], l
		now := c.nowOf(ahead)
		old := content.Of(together, ahead, now)
		fresh := content.Of(together, behind, max(now, c.nowOf(behind)))
		d := content.Diff(old, fresh)
		in, out = in+len(d.In), out+len(d.Out)
		wantDiff(t, old, fresh, missing(fresh, old), missing(old, fresh))
		stays := missing(old, d.Out)
		if !slices.Equal(inOrder(append(seqs(stays), seqs(d.In)...)), seqs(fresh)) {
			t.Fatalf("Diff(%v, %v): %v", old, fresh, d)
		}
	}
	if in < 1000 || out < 500 {
		t.Errorf("only %d came in and %d went out", in, out)
	}
}

// missing are those of l that no one of other has the Seq of, each looked for by itself.
func missing(l, other []api.Arrival) []api.Arrival {
	var some []api.Arrival
	for _, a := range l {
		if !slices.Contains(seqs(other), a.Seq) {
			some = append(some, a)
		}
	}
	return some
}

// R5: the same calls have the same answers, though rows stand in a map.
func TestSameCallsSameAnswers(t *testing.T) {
	for seed := range int64(20) {
		l := newChance(seed).arrivals()
		for _, v := range samples() {
			want := content.One(v, l, 100)
			for range 5 {
				if got := content.One(v, l, 100); !sameArrivals(got, want) {
					t.Fatalf("One(%v, %v): %v and %v", v, l, got, want)
				}
			}
		}
	}
}
