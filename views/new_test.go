package views_test

import (
	"testing"

	"marquee/api"
	"marquee/views"
)

func wantNew(t *testing.T, columns int, l ...api.ViewSpec) {
	t.Helper()
	s := views.New(l, columns)
	if s == nil {
		t.Errorf("New(%v, %d): nil", l, columns)
		return
	}
	if n, ok := s.Next(); n != 0 || ok || s.Len() != 0 || len(s.Content()) != 0 {
		t.Errorf("New(%v, %d): holds %v, Next %d, %v", l, columns, s.Content(), n, ok)
	}
}

func wantNoNew(t *testing.T, columns int, l ...api.ViewSpec) {
	t.Helper()
	if s := views.New(l, columns); s != nil {
		t.Errorf("New(%v, %d): one", l, columns)
	}
}

// Promise 16.1: no views, one, MaxViews of them, one more.
func TestHowManyViews(t *testing.T) {
	wantNoNew(t, 1)
	if views.New([]api.ViewSpec{}, 1) != nil {
		t.Error("New of an empty list: one")
	}
	for n := 1; n < 8; n++ {
		var l []api.ViewSpec
		for range n {
			l = append(l, all())
		}
		if n <= api.MaxViews {
			wantNew(t, 1, l...)
		} else {
			wantNoNew(t, 1, l...)
		}
	}
	wantNew(t, 2, length(1), time(1), unique(1), sorted(1, 1))
	wantNoNew(t, 2, length(1), time(1), unique(1), sorted(1, 1), first())
}

// Promise 16.1: each kind of view that may be, and each that may not, alone and at each place beside others.
func TestWhichViews(t *testing.T) {
	for _, v := range samples() {
		wantNew(t, 2, v)
		wantNew(t, 2, v, v)
		wantNew(t, 2, v, first(), last(), v)
	}
	wantNew(t, 2, length(api.MaxSize), lengthBatch(api.MaxSize), sorted(api.MaxSize, 0))
	wantNew(t, 2, time(api.MaxTime), timeBatch(api.MaxTime))
	spoilt := specs(api.ViewSpec{}, api.ViewSpec{Kind: -1}, api.ViewSpec{Kind: 10}, length(0), length(-1), length(api.MaxSize+1), time(0), time(api.MaxTime+1),
		lengthBatch(0), lengthBatch(api.MaxSize+1), timeBatch(0), timeBatch(api.MaxTime+1), unique(), unique(2), unique(-1), unique(0, 0), unique(0, 1, 2),
		sorted(0, 0), sorted(1, 2), sorted(1, -1), sorted(api.MaxSize+1, 0), api.ViewSpec{Kind: api.ViewSorted, N: 1}, api.ViewSpec{Kind: api.ViewSorted, N: 1, Cols: []int{0, 1}},
		api.ViewSpec{Kind: api.ViewAll, N: 1}, api.ViewSpec{Kind: api.ViewLast, Desc: true}, api.ViewSpec{Kind: api.ViewFirst, Cols: []int{0}})
	for _, v := range spoilt {
		wantNoNew(t, 2, v)
		wantNoNew(t, 2, v, all())
		wantNoNew(t, 2, all(), v)
		wantNoNew(t, 2, all(), v, all())
		wantNoNew(t, 2, all(), all(), all(), v)
		wantNoNew(t, 2, all(), all(), all(), all(), v)
	}
}

// Promise 16.1: columns at 0, below it, and at any number: views that name columns may be of more of them alone.
func TestColumns(t *testing.T) {
	for _, columns := range edges {
		wantNew(t, columns, all(), last(), first(), length(1))
		wantNew(t, columns, lengthBatch(1), time(1), timeBatch(1))
		if columns > 0 {
			wantNew(t, columns, unique(0), sorted(1, 0))
		} else {
			wantNoNew(t, columns, unique(0))
			wantNoNew(t, columns, sorted(1, 0))
		}
		if columns > 1 {
			wantNew(t, columns, unique(1, 0), sorted(1, 1))
		} else {
			wantNoNew(t, columns, unique(1, 0))
			wantNoNew(t, columns, sorted(1, 1))
		}
	}
}

// Promise 16.1, R1: a set of none, and one that New did not give, holds nothing and takes nothing.
func TestSetOfNone(t *testing.T) {
	for _, s := range []*views.Set{nil, new(views.Set), views.New(nil, 1)} {
		for i := range 3 {
			if d := s.Add(at(i+1, i, whole(1))); len(d.In)+len(d.Out) != 0 {
				t.Errorf("Add: %v", d)
			}
			if d := s.Advance(10 * i); len(d.In)+len(d.Out) != 0 {
				t.Errorf("Advance: %v", d)
			}
			if l := s.Content(); len(l) != 0 {
				t.Errorf("Content: %v", l)
			}
			if n, ok := s.Next(); n != 0 || ok {
				t.Errorf("Next: %d, %v", n, ok)
			}
			if n := s.Len(); n != 0 {
				t.Errorf("Len: %d", n)
			}
		}
	}
}

// Promise 16.1: a set begins at the time 0, and took nothing: what has a Seq above 0 and comes at 0 is taken.
func TestSetBeginsAtZero(t *testing.T) {
	r := start(t, 1, all())
	r.refuse(at(0, 0))
	r.refuse(at(1, -1))
	r.advance(-1, nil, nil)
	r.add(at(1, 0), in(1), nil)
	r.holds(1)
}
