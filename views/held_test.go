package views

import (
	"testing"

	"marquee/api"
)

func sample(seq, time int, values ...int) api.Arrival {
	a := api.Arrival{Seq: seq, Time: time}
	for _, n := range values {
		a.Row = append(a.Row, api.Value{Kind: api.KindInt, N: n})
	}
	return a
}

func setOf(t *testing.T, specs ...api.ViewSpec) *Set {
	t.Helper()
	s := New(specs, 1)
	if s == nil {
		t.Fatalf("New(%v): nil", specs)
	}
	return s
}

// wantKept: so many arrivals are kept, linked in their order both ways, none of them gone.
func wantKept(t *testing.T, s *Set, want int) {
	t.Helper()
	n, ahead := 0, (*arrival)(nil)
	for a := s.kept.first; a != nil; a = a.behind {
		n++
		if a.gone || a.ahead != ahead || ahead != nil && ahead.place >= a.place {
			t.Fatalf("kept at %d: %v", n, a)
		}
		ahead = a
	}
	if n != want || s.kept.last != ahead {
		t.Errorf("%v: %d are kept, want %d", s.specs, n, want)
	}
}

var (
	everything = api.ViewSpec{Kind: api.ViewAll}
	eachValue  = api.ViewSpec{Kind: api.ViewUnique, Cols: []int{0}}
)

// Promise 16.4, T7: what no view will hold any more is kept nowhere, though another view would hold it still.
func TestNothingIsKeptOfWhatWent(t *testing.T) {
	for _, x := range []struct {
		spec api.ViewSpec
		most int
	}{
		{api.ViewSpec{Kind: api.ViewLength, N: 5}, 5},
		{api.ViewSpec{Kind: api.ViewTime, N: 5}, 5},
		{api.ViewSpec{Kind: api.ViewLengthBatch, N: 5}, 9},
		{api.ViewSpec{Kind: api.ViewTimeBatch, N: 5}, 10},
		{api.ViewSpec{Kind: api.ViewSorted, N: 5, Cols: []int{0}}, 5},
		{api.ViewSpec{Kind: api.ViewSorted, N: 5, Cols: []int{0}, Desc: true}, 5},
		{api.ViewSpec{Kind: api.ViewLast}, 1},
		{api.ViewSpec{Kind: api.ViewFirst}, 1},
		{eachValue, 101},
	} {
		s := setOf(t, everything, eachValue, x.spec, api.ViewSpec{Kind: api.ViewTimeBatch, N: api.MaxTime})
		most := 0
		for i := range 1000 {
			s.Add(sample(i+1, i, i*37%101))
			n := 0
			for a := s.kept.first; a != nil; a = a.behind {
				n++
			}
			wantKept(t, s, n)
			if keys := len(s.views[1].(lastOfEach).newest); keys != n {
				t.Fatalf("%v: %d keys of %d", x.spec, keys, n)
			}
			most = max(most, n)
		}
		if most != x.most {
			t.Errorf("%v: %d are kept, want %d", x.spec, most, x.most)
		}
	}
}

// What a view looks at yet, though the set keeps it no more, is a time or a value, no row.
func TestNoRowIsKeptOfWhatWent(t *testing.T) {
	s := setOf(t, api.ViewSpec{Kind: api.ViewSorted, N: 50, Cols: []int{0}}, api.ViewSpec{Kind: api.ViewLast}, api.ViewSpec{Kind: api.ViewTime, N: 40})
	for i := range 1000 {
		s.Add(sample(i+1, i/4, i))
	}
	wantKept(t, s, 0)
	heap := s.views[0].(*least).heap
	if len(heap) != 50 {
		t.Errorf("%d are ranked", len(heap))
	}
	for _, r := range heap {
		if r.Row != nil || r.ahead != nil || r.behind != nil {
			t.Errorf("ranked: %v", r.arrival)
		}
	}
	if times := s.views[2].(*young).leaving; len(times) != 40 {
		t.Errorf("%d times", len(times))
	}
	s.Advance(1000)
	if times := s.views[2].(*young).leaving; len(times) != 0 {
		t.Errorf("%d times", len(times))
	}
}

// What a view cannot hold, since the first row is too short for it, is not kept.
func TestNothingIsKeptOfShortRows(t *testing.T) {
	s := setOf(t, everything, eachValue)
	for i := range 10 {
		s.Add(sample(2*i+1, i))
		s.Add(sample(2*i+2, i, i))
		wantKept(t, s, 0)
	}
}

// What is refused leaves nothing behind.
func TestNothingIsKeptOfWhatIsRefused(t *testing.T) {
	s := setOf(t, everything)
	for i := range 100 {
		s.Add(sample(-i, 0, i))
		s.Add(sample(i+1, -1, i))
		s.Add(sample(i+1, api.MaxTime+1, i))
	}
	wantKept(t, s, 0)
	if len(s.views) != 0 || s.seq != 0 || s.time != 0 || s.kept.places != 0 {
		t.Errorf("%v", s)
	}
	none := new(Set)
	none.Add(sample(1, 0, 1))
	none.Advance(1)
	wantKept(t, none, 0)
}
