package views_test

import (
	"slices"
	"testing"

	"marquee/api"
	"marquee/views"
)

// overwrite writes into all of a list, its rows, and what lies behind their ends.
func overwrite(l []api.Arrival) {
	l = l[:cap(l)]
	for i := range l {
		values := l[i].Row[:cap(l[i].Row)]
		for k := range values {
			values[k] = text("overwritten")
		}
		l[i] = api.Arrival{Seq: -1, Time: -1}
	}
}

// roomy is a row with something behind its end.
func roomy(values ...api.Value) []api.Value {
	return append(slices.Clone(values), text("behind"))[:len(values)]
}

// R4: what was handed in may be written into, and what came out, too: the set stays as it was.
func TestNothingIsShared(t *testing.T) {
	c := newChance(11)
	told := 0
	for round := range 2000 {
		together := c.views()
		if round < len(samples()) {
			together = samples()[round : round+1]
		}
		handed := slices.Clone(together)
		for i := range handed {
			handed[i].Cols = slices.Clone(handed[i].Cols)
		}
		m := &model{t: t, specs: together, set: views.New(handed, 3)}
		for i := range handed {
			clear(handed[i].Cols)
			handed[i] = api.ViewSpec{Kind: api.ViewLast, N: 7, Desc: true}
		}
		for _, x := range c.calls() {
			var d api.Delta
			if x.add {
				given := []api.Arrival{x.a}
				given[0].Row = roomy(x.a.Row...)
				d, _ = m.add(given[0])
				wantAsGiven(t, given[0].Row, x.a.Row)
				overwrite(given)
			} else {
				d, _ = m.advance(x.now)
			}
			told += len(d.In) + len(d.Out)
			overwrite(d.In)
			overwrite(d.Out)
			overwrite(m.set.Content())
		}
	}
	if told < 5000 {
		t.Errorf("only %d told", told)
	}
}

// wantAsGiven: the row, and what lies behind its end, is as it was handed in.
func wantAsGiven(t *testing.T, given, want []api.Value) {
	t.Helper()
	if !slices.Equal(given, want) || given[:len(given)+1][len(given)] != text("behind") {
		t.Fatalf("what was handed in is %v now, was %v", given, want)
	}
}

// R4: what was answered stays as it was, whatever the set does behind and whatever is written into other answers.
func TestAnswersStay(t *testing.T) {
	for _, v := range samples() {
		s := views.New(specs(v, all()), 2)
		var lists, want [][]api.Arrival
		for i := range 20 {
			d := s.Add(at(i+1, i, whole(i*3%5), whole(i%3)))
			lists = append(lists, d.In, d.Out, s.Content(), s.Content())
			d = s.Advance(i)
			lists = append(lists, d.In, d.Out)
		}
		for _, l := range lists {
			want = append(want, deepCopy(l))
		}
		for i, l := range lists {
			if !sameArrivals(l, want[i]) {
				t.Fatalf("%v: answer %d is %v, was %v", v, i, l, want[i])
			}
			overwrite(l)
		}
	}
}

// R4: no two rows of one answer share memory, those of empty rows and of the same row handed in twice among them.
func TestRowsOfOneAnswer(t *testing.T) {
	s := views.New(specs(lengthBatch(3)), 1)
	shared := roomy(whole(1), whole(2))
	var d api.Delta
	for i := range 6 {
		d = s.Add(at(i+1, 0, shared...))
	}
	if len(d.In) != 3 || len(d.Out) != 3 {
		t.Fatalf("%v", d)
	}
	for _, l := range [][]api.Arrival{d.In, d.Out, s.Content()} {
		for i := range l {
			l[i].Row[0] = whole(10 + i)
			_ = append(l[i].Row, whole(99))
		}
		for i := range l {
			if l[i].Row[0] != whole(10+i) {
				t.Errorf("%v", l)
			}
		}
	}
	for _, a := range s.Content() {
		if !slices.Equal(a.Row, row(whole(1), whole(2))) {
			t.Errorf("%v", a)
		}
	}
	if shared[0] != whole(1) {
		t.Errorf("%v", shared)
	}
}

// R5: the same calls have the same answers, though values stand in a map.
func TestSameCallsSameAnswers(t *testing.T) {
	for seed := range int64(20) {
		calls := newChance(seed).calls()
		for _, v := range samples() {
			want := views.New(specs(v, unique(0)), 3)
			got := views.New(specs(v, unique(0)), 3)
			for _, x := range calls {
				a, b := x.of(want), x.of(got)
				if !sameArrivals(a.In, b.In) || !sameArrivals(a.Out, b.Out) {
					t.Fatalf("%v: %v and %v", v, a, b)
				}
				sameSets(t, want, got)
			}
		}
	}
}
