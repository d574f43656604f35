package views

import (
	"cmp"

	"marquee/api"
	"marquee/value"
)

// least holds the n least by their value at col; desc, the greatest.
type least struct {
	still
	n, col int
	desc   bool
	heap   []ranked // the worst one is the first; those, too, that the set keeps no more
}

// ranked is an arrival by the value that ranks it.
type ranked struct {
	value api.Value
	*arrival
}

func (v *least) take(a *arrival, now *step) {
	fresh := ranked{valueAt(a.Row, v.col), a}
	if len(v.heap) < v.n {
		now.hold(a)
		v.heap = append(v.heap, fresh)
		v.rise(len(v.heap) - 1)
		return
	}
	if v.isWorse(fresh, v.heap[0]) {
		now.drop(a)
		return
	}
	now.hold(a)
	now.drop(v.heap[0].arrival)
	v.heap[0] = fresh
	v.sink(0)
}

// isWorse: of those that are the same the later one is.
func (v *least) isWorse(a, b ranked) bool {
	order := value.Order(a.value, b.value)
	if v.desc {
		order = -order
	}
	return cmp.Or(order, cmp.Compare(a.place, b.place)) > 0
}

// rise lets the one at i go up until the one above it is worse.
func (v *least) rise(i int) {
	for i > 0 {
		up := (i - 1) / 2
		if v.isWorse(v.heap[up], v.heap[i]) {
			return
		}
		v.heap[up], v.heap[i] = v.heap[i], v.heap[up]
		i = up
	}
}

// sink lets the one at i go down until none below it is worse.
func (v *least) sink(i int) {
	for {
		worst := i
		for down := 2*i + 1; down <= 2*i+2 && down < len(v.heap); down++ {
			if v.isWorse(v.heap[down], v.heap[worst]) {
				worst = down
			}
		}
		if worst == i {
			return
		}
		v.heap[worst], v.heap[i] = v.heap[i], v.heap[worst]
		i = worst
	}
}
