package views_test

import (
	"math"
	"testing"

	"marquee/api"
)

// Promise 16.2: a Seq that is not above the last one's, 0, below 0, the greatest int; the chapter's example of 2 behind 3.
func TestSeqs(t *testing.T) {
	r := start(t, 1, length(2))
	for _, seq := range edges {
		if seq <= 0 {
			r.refuse(at(seq, 0, whole(1)))
		}
	}
	r.add(at(3, 0, whole(1)), in(3), nil)
	for _, seq := range append(edges, 2, 3) {
		if seq <= 3 {
			r.refuse(at(seq, 0, whole(1)))
		}
	}
	r.add(at(4, 0, whole(1)), in(4), nil)
	r.refuse(at(4, 0, whole(1)))
	r.add(at(1<<40, 0, whole(1)), in(1<<40), out(3))
	r.add(at(math.MaxInt-1, 0, whole(1)), in(math.MaxInt-1), out(4))
	r.add(at(math.MaxInt, 0, whole(1)), in(math.MaxInt), out(1<<40))
	for _, seq := range edges {
		r.refuse(at(seq, 0, whole(1)))
	}
	r.holds(math.MaxInt-1, math.MaxInt)
}

// Promise 16.2: a Time below the set's, the same, MaxTime and one above.
func TestTimes(t *testing.T) {
	r := start(t, 1, all())
	r.refuse(at(1, -1))
	r.refuse(at(1, math.MinInt))
	r.add(at(1, 5), in(1), nil)
	for _, time := range edges {
		if time < 5 || time > api.MaxTime {
			r.refuse(at(2, time))
		}
	}
	r.refuse(at(2, 4))
	r.add(at(2, 5), in(2), nil)
	r.add(at(3, 6), in(3), nil)
	r.refuse(at(4, 5))
	r.add(at(4, api.MaxTime-1), in(4), nil)
	r.refuse(at(5, api.MaxTime+1))
	r.add(at(5, api.MaxTime), in(5), nil)
	r.add(at(6, api.MaxTime), in(6), nil)
	r.refuse(at(7, api.MaxTime-1))
	r.refuse(at(7, api.MaxTime+1))
	r.holds(1, 2, 3, 4, 5, 6)
}

// Promises 16.2, 16.3: Add behind an Advance: its time is no arrival's.
func TestAddBehindAdvance(t *testing.T) {
	r := start(t, 1, time(10), timeBatch(20))
	r.advance(30, nil, nil)
	r.refuse(at(1, 29))
	r.add(at(1, 31), nil, nil)
	r.next(41)
	r.advance(45, nil, nil)
	r.refuse(at(2, 44))
	r.add(at(2, 45), nil, nil)
	r.advance(51, in(2), nil)
	r.next(55)
}

// Promise 16.2: an Add that is refused changes nothing: neither the last Seq, nor the time, nor what is held.
func TestNothingOfWhatIsRefused(t *testing.T) {
	for _, v := range samples() {
		a, b := start(t, 2, v), start(t, 2, v)
		for i := range 12 {
			fresh := at(2*i+1, 2*i, whole(i%4), whole(i%3))
			a.refuse(at(2*i-1, 2*i+1, whole(9), whole(9)))
			a.refuse(at(2*i+9, 2*i-3, whole(9), whole(9)))
			a.refuse(at(2*i+9, api.MaxTime+1, whole(9), whole(9)))
			b.came[fresh.Seq] = fresh
			told := b.set.Add(fresh)
			a.came = b.came
			a.add(fresh, seqs(told.In), seqs(told.Out))
			a.holds(seqs(b.set.Content())...)
		}
	}
}

// Promise 16.3: Advance to below its time, the same, MaxTime and one above.
func TestAdvance(t *testing.T) {
	r := start(t, 1, time(10))
	for _, now := range edges {
		if now < 0 || now > api.MaxTime {
			r.advance(now, nil, nil)
		}
	}
	r.add(at(1, 0), in(1), nil)
	r.advance(0, nil, nil)
	r.advance(6, nil, nil)
	r.advance(5, nil, nil)
	r.refuse(at(2, 5))
	r.add(at(2, 6), in(2), nil)
	for _, now := range append(edges, 5) {
		if now < 6 || now > api.MaxTime {
			r.advance(now, nil, nil)
		}
	}
	r.advance(api.MaxTime+1, nil, nil)
	r.holds(1, 2)
	r.advance(api.MaxTime, nil, out(1, 2))
	r.advance(api.MaxTime, nil, nil)
	r.advance(api.MaxTime-1, nil, nil)
	r.refuse(at(3, api.MaxTime-1))
	r.add(at(3, api.MaxTime), in(3), nil)
	r.advance(api.MaxTime+10, nil, nil)
	r.holds(3)
}

// Promise 16.3: Next past MaxTime is told as well, though it never is now.
func TestNextPastMaxTime(t *testing.T) {
	const most = api.MaxTime
	r := start(t, 1, time(10))
	r.add(at(1, most-10), in(1), nil)
	r.next(most)
	r.add(at(2, most-9), in(2), nil)
	r.advance(most, nil, out(1))
	r.next(most + 1)
	r.add(at(3, most), in(3), nil)
	r.advance(most+1, nil, nil)
	r.next(most + 1)
	r.holds(2, 3)

	r = start(t, 1, time(most), timeBatch(most))
	r.add(at(1, most), nil, nil)
	r.next(2 * most)
	r.holds()

	r = start(t, 1, timeBatch(most))
	r.add(at(1, 0), nil, nil)
	r.next(most)
	r.advance(most-1, nil, nil)
	r.add(at(2, most), in(1), nil)
	r.next(2 * most)
	r.holds(1)
}
