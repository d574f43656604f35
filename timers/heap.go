package timers

// heap holds items, the first of all at place 0: below each place lie two, at twice its number and 1 or 2 more, neither of them ahead of it.
type heap[T item[T]] struct {
	items []T
}

// item knows what it is ahead of, and is told each place at which it comes to lie, so that it can be taken from there.
type item[T any] interface {
	ahead(other T) bool
	lie(place int)
}

// first answers the first of all; there must be one.
func (h *heap[T]) first() T { return h.items[0] }

func (h *heap[T]) put(x T) {
	last := len(h.items)
	h.items = append(h.items, x)
	x.lie(last)
	h.rise(last)
}

// take takes away what lies at place, where the last one comes to lie in its stead.
func (h *heap[T]) take(place int) {
	last := len(h.items) - 1
	h.swap(place, last)
	// What went is not to be held behind the end.
	clear(h.items[last:])
	h.items = h.items[:last]
	if place < last {
		h.rise(place)
		h.sink(place)
	}
}

func (h *heap[T]) rise(place int) {
	for place > 0 {
		above := (place - 1) / 2
		if !h.items[place].ahead(h.items[above]) {
			return
		}
		h.swap(place, above)
		place = above
	}
}

func (h *heap[T]) sink(place int) {
	for {
		first := h.firstOf(place, 2*place+1, 2*place+2)
		if first == place {
			return
		}
		h.swap(place, first)
		place = first
	}
}

// firstOf answers at which of these places the first one lies; the places behind the end do not count.
func (h *heap[T]) firstOf(place int, others ...int) int {
	for _, p := range others {
		if p < len(h.items) && h.items[p].ahead(h.items[place]) {
			place = p
		}
	}
	return place
}

func (h *heap[T]) swap(a, b int) {
	h.items[a], h.items[b] = h.items[b], h.items[a]
	h.items[a].lie(a)
	h.items[b].lie(b)
}
