package views_test

import (
	"testing"

	"marquee/api"
	"marquee/views"
)

// R1, T7: a step takes no longer since the set holds many: more arrivals than a view may hold come to each kind.
func TestManyArrivals(t *testing.T) {
	const many, most = 100000, api.MaxSize
	for _, x := range []struct {
		spec api.ViewSpec
		held int
	}{
		{all(), many}, {length(most), most}, {time(most), most}, {lengthBatch(most), most}, {timeBatch(most), most},
		{unique(0), most}, {sorted(most, 0), most}, {sortedDesc(most, 0), most}, {last(), 1}, {first(), 1},
	} {
		s := views.New(specs(x.spec, all()), 1)
		told := 0
		for i := range many {
			d := s.Add(at(i+1, i, whole(i*7919%most)))
			told += len(d.In) - len(d.Out)
			s.Next()
		}
		if s.Len() != x.held || told != x.held || len(s.Content()) != x.held {
			t.Errorf("%v: %d are held, %d told, want %d", x.spec, s.Len(), told, x.held)
		}
	}
}

// R1, T7: the same of views whose turns concern all that they hold, and of many turns.
func TestManyTurnsOfMany(t *testing.T) {
	const many = 200000
	for _, together := range [][]api.ViewSpec{
		specs(timeBatch(1), lengthBatch(api.MaxSize)), specs(timeBatch(2), timeBatch(api.MaxTime)), specs(lengthBatch(1), lengthBatch(api.MaxSize)),
		specs(time(1), timeBatch(1), all()), specs(lengthBatch(2), timeBatch(1), time(api.MaxTime)),
	} {
		s := views.New(together, 0)
		told := 0
		for i := range many {
			d := s.Add(at(i+1, i/2))
			told += len(d.In) - len(d.Out)
		}
		s.Next()
		if told != s.Len() || s.Len() > 4 {
			t.Errorf("%v: %d are held, %d told", together, s.Len(), told)
		}
	}
}
