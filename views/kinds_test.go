package views_test

import (
	"testing"

	"marquee/api"
	"marquee/views"
)

// Promises 16.2, 16.3: all that came.
func TestAll(t *testing.T) {
	r := start(t, 0, all())
	for seq := 1; seq <= 4; seq++ {
		r.add(at(seq, seq, whole(seq)), in(seq), nil)
	}
	r.noNext()
	r.advance(api.MaxTime, nil, nil)
	r.holds(1, 2, 3, 4)
}

// Promises 16.2, 16.3: the chapter's example of length 2, and others.
func TestLength(t *testing.T) {
	r := start(t, 1, length(2))
	r.add(at(1, 0, whole(1)), in(1), nil)
	r.add(at(2, 0, whole(2)), in(2), nil)
	r.add(at(3, 0, whole(3)), in(3), out(1))
	r.noNext()
	r.advance(1000, nil, nil)
	r.holds(2, 3)
	r.add(at(9, 2000, whole(3)), in(9), out(2))
	r.holds(3, 9)

	r = start(t, 1, length(1))
	r.add(at(1, 0), in(1), nil)
	r.add(at(5, 0), in(5), out(1))
	r.add(at(6, 0), in(6), out(5))
	r.holds(6)
}

// Promises 16.2, 16.3: N greater than how many there are.
func TestGreatLength(t *testing.T) {
	for _, v := range specs(length(api.MaxSize), time(api.MaxTime), sorted(api.MaxSize, 0), sortedDesc(5, 0)) {
		r := start(t, 1, v)
		for seq := 1; seq <= 5; seq++ {
			r.add(at(seq, seq, whole(seq*7%5)), in(seq), nil)
		}
		r.holds(1, 2, 3, 4, 5)
	}
	r := start(t, 1, lengthBatch(6))
	for seq := 1; seq <= 5; seq++ {
		r.add(at(seq, 0), nil, nil)
		r.holds()
	}
	r.add(at(6, 0), in(1, 2, 3, 4, 5, 6), nil)
	r.holds(1, 2, 3, 4, 5, 6)
}

// Promises 16.2, 16.3: the chapter's example of time 10.
func TestTime(t *testing.T) {
	r := start(t, 1, time(10))
	r.add(at(1, 0, whole(1)), in(1), nil)
	r.add(at(2, 5, whole(2)), in(2), nil)
	r.next(10)
	r.advance(9, nil, nil)
	r.next(10)
	r.advance(10, nil, out(1))
	r.next(15)
	r.holds(2)
	r.advance(10, nil, nil)
	r.advance(14, nil, nil)
	r.holds(2)
	r.advance(15, nil, out(2))
	r.noNext()
	r.holds()
	r.add(at(3, 15, whole(3)), in(3), nil)
	r.next(25)
	r.add(at(4, 25, whole(4)), in(4), out(3))
	r.add(at(5, 100, whole(5)), in(5), out(4))
	r.next(110)
}

// Promise 16.3: some that came at one time go at one time, which Next tells once.
func TestSameTimes(t *testing.T) {
	r := start(t, 1, time(3))
	for seq := 1; seq <= 6; seq++ {
		r.add(at(seq, (seq+1)/2), in(seq), nil)
	}
	r.next(4)
	r.advance(4, nil, out(1, 2))
	r.next(5)
	r.add(at(7, 5), in(7), out(3, 4))
	r.next(6)
	r.advance(7, nil, out(5, 6))
	r.next(8)
	r.holds(7)
}

// Promises 16.2, 16.3: the chapter's example of length batch 2, and one of batches of one.
func TestLengthBatch(t *testing.T) {
	r := start(t, 1, lengthBatch(2))
	r.add(at(1, 0, whole(1)), nil, nil)
	r.holds()
	r.add(at(2, 0, whole(2)), in(1, 2), nil)
	r.holds(1, 2)
	r.add(at(3, 0, whole(3)), nil, nil)
	r.holds(1, 2)
	r.add(at(4, 0, whole(4)), in(3, 4), out(1, 2))
	r.noNext()
	r.advance(99, nil, nil)
	r.holds(3, 4)

	r = start(t, 1, lengthBatch(1))
	r.add(at(1, 0), in(1), nil)
	r.add(at(2, 0), in(2), out(1))
	r.holds(2)
}

// Promises 16.2, 16.3: batches of time are counted from the first one's time; each is held while the one behind it lasts.
func TestTimeBatch(t *testing.T) {
	r := start(t, 1, timeBatch(10))
	r.advance(2, nil, nil)
	r.noNext()
	r.add(at(1, 3, whole(1)), nil, nil)
	r.next(13)
	r.holds()
	r.advance(12, nil, nil)
	r.add(at(2, 12, whole(2)), nil, nil)
	r.advance(13, in(1, 2), nil)
	r.next(23)
	r.add(at(3, 13, whole(3)), nil, nil)
	r.holds(1, 2)
	r.advance(22, nil, nil)
	r.holds(1, 2)
	r.add(at(4, 23, whole(4)), in(3), out(1, 2))
	r.next(33)
	r.advance(33, in(4), out(3))
	r.next(43)
	r.advance(42, nil, nil)
	r.advance(43, nil, out(4))
	r.noNext()
	r.add(at(5, 52, whole(5)), nil, nil)
	r.next(53)
	r.add(at(6, 53, whole(6)), in(5), nil)
	r.holds(5)
}

// Promise 16.3: over many turns at once: what came and went meanwhile is not told, and a batch that is over is held no more.
func TestManyTurns(t *testing.T) {
	r := start(t, 1, timeBatch(10))
	r.add(at(1, 5), nil, nil)
	r.advance(25, nil, nil)
	r.noNext()
	r.add(at(2, 27), nil, nil)
	r.advance(39, in(2), nil)
	r.add(at(3, 44), nil, nil)
	r.next(45)
	r.advance(54, in(3), out(2))
	r.add(at(4, 54), nil, nil)
	r.advance(1000, nil, out(3))
	r.noNext()
	r.add(at(5, 1004), nil, nil)
	r.next(1005)
	r.add(at(6, 1005), in(5), nil)
	r.advance(api.MaxTime, nil, out(5))
	r.holds()

	r = start(t, 1, time(10))
	for seq := 1; seq <= 9; seq++ {
		r.add(at(seq, seq), in(seq), nil)
	}
	r.advance(16, nil, out(1, 2, 3, 4, 5, 6))
	r.next(17)
	r.advance(api.MaxTime, nil, out(7, 8, 9))
	r.noNext()
}

// Promises 16.2, 16.3: the last one of each value; null is a value, and 1 is not 1.0 there.
func TestUnique(t *testing.T) {
	r := start(t, 1, unique(0))
	r.add(at(1, 0, whole(1)), in(1), nil)
	r.add(at(2, 0, null), in(2), nil)
	r.add(at(3, 0, dec(10000)), in(3), nil)
	r.add(at(4, 0, text("1")), in(4), nil)
	r.add(at(5, 0, truth(1)), in(5), nil)
	r.add(at(6, 0, whole(1), whole(9)), in(6), out(1))
	r.add(at(7, 0, null), in(7), out(2))
	r.add(at(8, 0), in(8), out(7))
	r.add(at(9, 0, text("")), in(9), nil)
	r.add(at(10, 0, text("1")), in(10), out(4))
	r.add(at(11, 0, dec(10000)), in(11), out(3))
	r.noNext()
	r.advance(5, nil, nil)
	r.holds(5, 6, 8, 9, 10, 11)
}

// Promise 16.2: values at Cols alone, all of them, each by itself.
func TestUniqueOfSome(t *testing.T) {
	r := start(t, 3, unique(2, 0))
	r.add(at(1, 0, text("a"), whole(1), text("bc")), in(1), nil)
	r.add(at(2, 0, text("ab"), whole(1), text("c")), in(2), nil)
	r.add(at(3, 0, text("bc"), whole(1), text("a")), in(3), nil)
	r.add(at(4, 0, text("a"), whole(2), text("bc")), in(4), out(1))
	r.add(at(5, 0, text("a"), whole(2)), in(5), nil)
	r.add(at(6, 0, text("a")), in(6), out(5))
	r.add(at(7, 0, text("a"), null, null), in(7), out(6))
	r.add(at(8, 0, null, null, text("a")), in(8), nil)
	r.add(at(9, 0), in(9), nil)
	r.add(at(10, 0, null), in(10), out(9))
	r.add(at(11, 0, text("a"), null, text("bd")), in(11), nil)
	r.add(at(12, 0, text(""), null, text("2 a")), in(12), nil)
	r.add(at(13, 0, text("2 a"), null, text("")), in(13), nil)
	r.holds(2, 3, 4, 7, 8, 10, 11, 12, 13)

	r = start(t, 2, unique(0, 1))
	r.add(at(1, 0, whole(1), whole(11)), in(1), nil)
	r.add(at(2, 0, whole(11), whole(1)), in(2), nil)
	r.add(at(3, 0, text(""), text("4 0 0 ")), in(3), nil)
	r.add(at(4, 0, text("4 0 0 "), text("")), in(4), nil)
	r.add(at(5, 0, whole(1), whole(1023)), in(5), nil)
	r.add(at(6, 0, whole(1021), whole(3)), in(6), nil)
	r.holds(1, 2, 3, 4, 5, 6)
}

// Promises 16.2, 16.3: the least, of those that are the same the earlier ones.
func TestSorted(t *testing.T) {
	r := start(t, 1, sorted(2, 0))
	r.add(at(1, 0, whole(5)), in(1), nil)
	r.add(at(2, 0, whole(5)), in(2), nil)
	r.add(at(3, 0, whole(5)), nil, nil)
	r.add(at(4, 0, whole(6)), nil, nil)
	r.add(at(5, 0, whole(4)), in(5), out(2))
	r.add(at(6, 0, whole(5)), nil, nil)
	r.add(at(7, 0, whole(3)), in(7), out(1))
	r.add(at(8, 0, whole(4)), nil, nil)
	r.add(at(9, 0, null), in(9), out(5))
	r.add(at(10, 0), in(10), out(7))
	r.add(at(11, 0, null), nil, nil)
	r.noNext()
	r.advance(5, nil, nil)
	r.holds(9, 10)

	r = start(t, 1, sorted(1, 0))
	r.add(at(1, 0, text("b")), in(1), nil)
	r.add(at(2, 0, dec(15000)), in(2), out(1))
	r.add(at(3, 0, whole(2)), nil, nil)
	r.add(at(4, 0, whole(1)), in(4), out(2))
	r.add(at(5, 0, dec(10000)), nil, nil)
	r.add(at(6, 0, truth(1)), in(6), out(4))
	r.holds(6)
}

// Promises 16.2, 16.3: the greatest, of those that are the same the earlier ones.
func TestSortedDesc(t *testing.T) {
	r := start(t, 2, sortedDesc(2, 1))
	r.add(at(1, 0, whole(9), null), in(1), nil)
	r.add(at(2, 0, whole(9), whole(1)), in(2), nil)
	r.add(at(3, 0, whole(9), whole(1)), in(3), out(1))
	r.add(at(4, 0, whole(9), whole(1)), nil, nil)
	r.add(at(5, 0, whole(9), dec(10000)), in(5), out(3))
	r.add(at(6, 0, whole(9)), nil, nil)
	r.add(at(7, 0, whole(9), text("a")), in(7), out(2))
	r.add(at(8, 0, whole(9), text("b")), in(8), out(5))
	r.add(at(9, 0, whole(9), text("ab")), in(9), out(7))
	r.holds(8, 9)
}

// Promises 16.2, 16.3: of many, by chance and in orders of their own, the least and the greatest.
func TestSortedOfMany(t *testing.T) {
	c := newChance(9)
	for _, n := range []int{1, 2, 3, 5, 8, 20, 31, 32, 33, 64} {
		for _, wide := range []int{10, 100, 1000000} {
			up := specs(sorted(n, 0))
			down := specs(sortedDesc(n, 0))
			least := &model{t: t, specs: up, set: views.New(up, 1)}
			greatest := &model{t: t, specs: down, set: views.New(down, 1)}
			for i := range 4 * n {
				v := whole(c.Intn(wide))
				if i%7 == 0 {
					v = dec(c.Intn(wide) * api.Scale)
				}
				least.add(at(i+1, 0, v))
				greatest.add(at(i+1, 0, v))
			}
			for i := range 2 * n {
				least.add(at(1000+i, 0, whole(-i*3)))
				greatest.add(at(1000+i, 0, whole(wide+i*3)))
			}
		}
	}
}

// Promises 16.2, 16.3: the last one, and the first one.
func TestLastAndFirst(t *testing.T) {
	r := start(t, 0, last())
	r.add(at(3, 0), in(3), nil)
	r.add(at(4, 0), in(4), out(3))
	r.add(at(9, 7), in(9), out(4))
	r.noNext()
	r.advance(8, nil, nil)
	r.holds(9)

	r = start(t, 0, first())
	r.add(at(3, 0), in(3), nil)
	r.add(at(4, 0), nil, nil)
	r.add(at(9, 7), nil, nil)
	r.noNext()
	r.advance(8, nil, nil)
	r.holds(3)
}
