package content

import (
	"slices"

	"marquee/api"
	"marquee/value"
)

// kind is a kind of view.
type kind struct {
	mayBe func(s spec, columns int) bool
	holds func(view) []int       // the places of what it holds, rising
	turns func(view) (int, bool) // the least time above now at which it holds others, if there is one
}

// kindOf answers the kind of that number; for a number that is none, the one at 0, of which no view may be.
func kindOf(n int) kind {
	kinds := [...]kind{
		0:                   {spec.isNone, view.nothing, view.never},
		api.ViewAll:         {spec.isBare, view.all, view.never},
		api.ViewLength:      {spec.isOfLength, view.newest, view.never},
		api.ViewTime:        {spec.isOfTime, view.young, view.leaving},
		api.ViewLengthBatch: {spec.isOfLength, view.fullBatch, view.never},
		api.ViewTimeBatch:   {spec.isOfTime, view.pastBatch, view.batching},
		api.ViewUnique:      {spec.isKeyed, view.lastOfEach, view.never},
		api.ViewSorted:      {spec.isSorted, view.least, view.never},
		api.ViewLast:        {spec.isBare, view.last, view.never},
		api.ViewFirst:       {spec.isBare, view.first, view.never},
	}
	if n < 0 || n >= len(kinds) {
		n = 0
	}
	return kinds[n]
}

// view is a view that looks at what came.
type view struct {
	kind kind
	n    int
	cols []int
	desc bool
	l    []api.Arrival
	now  int
}

// see answers v as it looks at l; where nothing came, or v may not be, one that holds nothing.
func see(v api.ViewSpec, l []api.Arrival, now int) view {
	if len(l) == 0 || Check(v, len(l[0].Row)) != api.OK {
		return view{kind: kindOf(0)}
	}
	return view{kindOf(v.Kind), v.N, v.Cols, v.Desc, l, now}
}

func (v view) holds() []int { return v.kind.holds(v) }

func (v view) turns() (int, bool) { return v.kind.turns(v) }

func (v view) never() (int, bool) { return 0, false }

func (v view) nothing() []int { return nil }

func (v view) all() []int { return span(0, len(v.l)) }

func (v view) first() []int { return span(0, 1) }

func (v view) last() []int { return span(len(v.l)-1, len(v.l)) }

func (v view) newest() []int { return span(max(0, len(v.l)-v.n), len(v.l)) }

func (v view) fullBatch() []int {
	end := len(v.l) / v.n * v.n
	return span(max(0, end-v.n), end)
}

// span answers the places from one up to another, not with it.
func span(from, to int) []int {
	places := make([]int, to-from)
	for i := range places {
		places[i] = from + i
	}
	return places
}

// young: of a view of time.
func (v view) young() []int {
	var places []int
	for place, a := range v.l {
		if v.leaves(a) > v.now {
			places = append(places, place)
		}
	}
	return places
}

// leaves is when a leaves a view of time. The sum is asked for, not now less n, since now may be any number.
func (v view) leaves(a api.Arrival) int { return a.Time + v.n }

// leaving: times do not fall, so that the first one that is held leaves first.
func (v view) leaving() (int, bool) {
	for _, a := range v.l {
		if time := v.leaves(a); time > v.now {
			return time, true
		}
	}
	return 0, false
}

// pastBatch: of a view of batches of time.
func (v view) pastBatch() []int {
	var places []int
	for place, a := range v.l {
		if begin, end := v.stay(a); begin <= v.now && v.now < end {
			places = append(places, place)
		}
	}
	return places
}

// stay is from when, and up to when (not with it), a view of batches of time holds a: while the batch behind its own lasts.
func (v view) stay(a api.Arrival) (begin, end int) {
	zero := v.l[0].Time
	batch := (a.Time - zero) / v.n
	begin = zero + (batch+1)*v.n
	return begin, begin + v.n
}

// batching: times do not fall, and one batch begins to be held when the one ahead of it ends, so that the first one that is not over says when.
func (v view) batching() (int, bool) {
	for _, a := range v.l {
		begin, end := v.stay(a)
		if begin > v.now {
			return begin, true
		}
		if end > v.now {
			return end, true
		}
	}
	return 0, false
}

// lastOfEach: seen from the end, the first of each row of values at cols.
func (v view) lastOfEach() []int {
	steps := map[step]int{}
	var places []int
	for place, a := range slices.Backward(v.l) {
		if isFresh(steps, valuesAt(a.Row, v.cols)) {
			places = append(places, place)
		}
	}
	slices.Reverse(places)
	return places
}

// step is a value of a row behind those that lead to from. Rows that are the same take the same steps.
type step struct {
	from  int
	value api.Value
}

// isFresh tells whether values are a row that did not go these steps yet, and lets it go them. All rows must have as many values.
func isFresh(steps map[step]int, values []api.Value) bool {
	at, fresh := 0, false
	for _, v := range values {
		to, ok := steps[step{at, v}]
		if !ok {
			to, fresh = len(steps)+1, true
			steps[step{at, v}] = to
		}
		at = to
	}
	return fresh
}

// least: sorted stably, so that of those that are the same the earlier one is ahead, whether desc or not.
func (v view) least() []int {
	places := v.all()
	slices.SortStableFunc(places, func(a, b int) int {
		order := value.Order(valueAt(v.l[a].Row, v.cols[0]), valueAt(v.l[b].Row, v.cols[0]))
		if v.desc {
			return -order
		}
		return order
	})
	places = places[:min(v.n, len(places))]
	slices.Sort(places)
	return places
}

func valuesAt(row []api.Value, cols []int) []api.Value {
	values := make([]api.Value, len(cols))
	for i, col := range cols {
		values[i] = valueAt(row, col)
	}
	return values
}

// valueAt answers null for a row that is too short.
func valueAt(row []api.Value, col int) api.Value {
	if col >= len(row) {
		return api.Value{Kind: api.KindNull}
	}
	return row[col]
}
