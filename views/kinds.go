package views

import (
	"strconv"

	"marquee/api"
	"marquee/content"
)

// view is one of a set's views. Of each arrival it says once, when it comes to hold it, and once, when it never will any more.
type view interface {
	take(a *arrival, now *step)   // a came, behind all others
	turn(time int, now *step)     // time has gone on
	forget(a *arrival)            // the set keeps a no more
	next() (time int, found bool) // when it holds others, though nothing comes
}

// viewsOf answers the views for arrivals of which that is the first.
func viewsOf(specs []api.ViewSpec, first api.Arrival) []view {
	views := make([]view, len(specs))
	for i, v := range specs {
		views[i] = viewOf(v, first)
	}
	return views
}

func viewOf(v api.ViewSpec, first api.Arrival) view {
	if content.Check(v, len(first.Row)) != api.OK {
		return nothing{}
	}
	switch v.Kind {
	case api.ViewAll:
		return all{}
	case api.ViewLength:
		return newest{n: v.N}
	case api.ViewTime:
		return &young{n: v.N}
	case api.ViewLengthBatch:
		return fullBatch{n: v.N}
	case api.ViewTimeBatch:
		return &pastBatch{n: v.N, zero: first.Time}
	case api.ViewUnique:
		return lastOfEach{cols: v.Cols, newest: map[string]*arrival{}}
	case api.ViewSorted:
		return &least{n: v.N, col: v.Cols[0], desc: v.Desc}
	case api.ViewLast:
		return newest{n: 1}
	case api.ViewFirst:
		return oldest{}
	}
	return nothing{}
}

// still is what a view does to which time does nothing, and which keeps no arrivals of its own.
type still struct{}

func (still) turn(int, *step) {}

func (still) forget(*arrival) {}

func (still) next() (int, bool) { return 0, false }

type nothing struct{ still }

func (nothing) take(a *arrival, now *step) { now.drop(a) }

type all struct{ still }

func (all) take(a *arrival, now *step) { now.hold(a) }

type oldest struct{ still }

func (oldest) take(a *arrival, now *step) {
	if a.place == 1 {
		now.hold(a)
	} else {
		now.drop(a)
	}
}

// newest holds the last n.
type newest struct {
	still
	n int
}

func (v newest) take(a *arrival, now *step) {
	now.hold(a)
	now.dropWhile(func(old *arrival) bool { return old.place <= a.place-v.n })
}

// fullBatch holds the last n that were full.
type fullBatch struct {
	still
	n int
}

func (v fullBatch) take(a *arrival, now *step) {
	if a.place%v.n != 0 {
		return
	}
	now.dropWhile(func(old *arrival) bool { return old.place <= a.place-v.n })
	now.holdAll()
}

// young holds those that came less than n ago.
type young struct {
	still
	n       int
	leaving []int // when some leave it: of those, too, that the set keeps no more
}

func (v *young) take(a *arrival, now *step) {
	now.hold(a)
	leaves := a.Time + v.n
	if len(v.leaving) == 0 || v.leaving[len(v.leaving)-1] < leaves {
		v.leaving = append(v.leaving, leaves)
	}
}

func (v *young) turn(time int, now *step) {
	now.dropWhile(func(a *arrival) bool { return a.Time+v.n <= time })
	for len(v.leaving) > 0 && v.leaving[0] <= time {
		v.leaving = v.leaving[1:]
	}
}

func (v *young) next() (int, bool) {
	if len(v.leaving) == 0 {
		return 0, false
	}
	return v.leaving[0], true
}

// pastBatch holds those of the batch of time ahead of the one that lasts. Batches are counted from 0 on.
type pastBatch struct {
	still
	n, zero int
	batch   int // that lasts
	newest  int // that of the last arrival
}

func (v *pastBatch) batchAt(time int) int { return (time - v.zero) / v.n }

func (v *pastBatch) take(a *arrival, now *step) { v.newest = v.batch }

// turn: when another batch begins, none of it has come yet, so that all that are kept are of those ahead of it.
func (v *pastBatch) turn(time int, now *step) {
	batch := v.batchAt(time)
	if batch == v.batch {
		return
	}
	v.batch = batch
	now.dropWhile(func(a *arrival) bool { return v.batchAt(a.Time) < batch-1 })
	now.holdAll()
}

// next: when the batch that lasts ends, what is held leaves, and what came meanwhile is held.
func (v *pastBatch) next() (int, bool) {
	if v.newest < v.batch-1 {
		return 0, false
	}
	return v.zero + (v.batch+1)*v.n, true
}

// lastOfEach holds the last one of each row of values at cols.
type lastOfEach struct {
	still
	cols   []int
	newest map[string]*arrival // those that the set keeps
}

func (v lastOfEach) take(a *arrival, now *step) {
	now.hold(a)
	key := keyOf(a.Row, v.cols)
	if old, ok := v.newest[key]; ok {
		now.drop(old)
	}
	v.newest[key] = a
}

func (v lastOfEach) forget(a *arrival) {
	key := keyOf(a.Row, v.cols)
	if v.newest[key] == a {
		delete(v.newest, key)
	}
}

// keyOf answers a text that rows have in common just if they are the same at cols.
func keyOf(row []api.Value, cols []int) string {
	var key []byte
	for _, col := range cols {
		v := valueAt(row, col)
		for _, n := range []int{v.Kind, v.N, len(v.Text)} {
			key = strconv.AppendInt(key, int64(n), 10)
			key = append(key, ' ')
		}
		key = append(key, v.Text...)
	}
	return string(key)
}

// valueAt answers null for a row that is too short.
func valueAt(row []api.Value, col int) api.Value {
	if col >= len(row) {
		return api.Value{Kind: api.KindNull}
	}
	return row[col]
}
