package content_test

import (
	"marquee/api"
	"marquee/schema"
	"marquee/value"
)

// The chapter a second time: of each arrival it is asked by itself whether a view holds it, by how many stand ahead of it, behind it, or better than it.

// names are what a kind of view names: the most that N may be (0: it is not named), the fewest and the most Cols, Desc.
type names struct {
	n, few, many int
	desc         bool
}

func namesOf(kind int) (names, bool) {
	switch kind {
	case api.ViewAll, api.ViewLast, api.ViewFirst:
		return names{}, true
	case api.ViewLength, api.ViewLengthBatch:
		return names{n: 65536}, true
	case api.ViewTime, api.ViewTimeBatch:
		return names{n: 1099511627776}, true
	case api.ViewUnique:
		return names{few: 1, many: 1 << 62}, true
	case api.ViewSorted:
		return names{n: 65536, few: 1, many: 1, desc: true}, true
	}
	return names{}, false
}

// mayBe is Check by the chapter's words.
func mayBe(v api.ViewSpec, columns int) bool {
	named, ok := namesOf(v.Kind)
	switch {
	case !ok:
		return false
	case named.n == 0 && v.N != 0:
		return false
	case named.n > 0 && (v.N < 1 || v.N > named.n):
		return false
	case len(v.Cols) < named.few || len(v.Cols) > named.many:
		return false
	case v.Desc && !named.desc:
		return false
	}
	for i, col := range v.Cols {
		for _, other := range v.Cols[:i] {
			if other == col {
				return false
			}
		}
		if col < 0 || col >= columns {
			return false
		}
	}
	return true
}

// at are a row's values at some columns, as if it had nulls behind its end.
func at(row []api.Value, cols []int) []api.Value {
	padded := make([]api.Value, 40)
	copy(padded, row)
	var values []api.Value
	for _, col := range cols {
		values = append(values, padded[col])
	}
	return values
}

// isBetter tells whether the sorted view v holds a rather than b.
func isBetter(v api.ViewSpec, a, b api.Arrival) bool {
	order := value.Order(at(a.Row, v.Cols)[0], at(b.Row, v.Cols)[0])
	if order == 0 {
		return a.Seq < b.Seq
	}
	return (order < 0) != v.Desc
}

func count(l []api.Arrival, counts func(api.Arrival) bool) int {
	n := 0
	for _, a := range l {
		if counts(a) {
			n++
		}
	}
	return n
}

// holds tells whether v, which may be, holds that one of l at now.
func holds(v api.ViewSpec, l []api.Arrival, now, place int) bool {
	a, behind := l[place], l[place+1:]
	switch v.Kind {
	case api.ViewAll:
		return true
	case api.ViewLength:
		return len(behind) < v.N
	case api.ViewTime:
		return a.Time > now-v.N
	case api.ViewLengthBatch:
		return place/v.N+1 == len(l)/v.N
	case api.ViewTimeBatch:
		return batchAt(v, l, now) > 0 && batchAt(v, l, now) == batchAt(v, l, a.Time)+1
	case api.ViewUnique:
		return count(behind, func(b api.Arrival) bool { return schema.SameRow(at(a.Row, v.Cols), at(b.Row, v.Cols)) }) == 0
	case api.ViewSorted:
		return count(l, func(b api.Arrival) bool { return isBetter(v, b, a) }) < v.N
	case api.ViewLast:
		return len(behind) == 0
	}
	return place == 0
}

// batchAt is how many batches are over at a time.
func batchAt(v api.ViewSpec, l []api.Arrival, time int) int {
	batch := 0
	for end := l[0].Time + v.N; end <= time; end += v.N {
		batch++
	}
	return batch
}

// held are the Seqs of those of l that all views hold at now.
func held(views []api.ViewSpec, l []api.Arrival, now int) []int {
	var seqs []int
	for place, a := range l {
		by := 0
		for _, v := range views {
			if mayBe(v, len(l[0].Row)) && holds(v, l, now, place) {
				by++
			}
		}
		if by > 0 && by == len(views) {
			seqs = append(seqs, a.Seq)
		}
	}
	return seqs
}
