package views_test

import (
	"testing"

	"marquee/api"
)

// Promise 16.2: the chapter's example: length 2 and unique: what both hold.
func TestLengthAndUnique(t *testing.T) {
	r := start(t, 1, length(2), unique(0))
	r.add(at(1, 0, text("a")), in(1), nil)
	r.add(at(2, 0, text("a")), in(2), out(1))
	r.add(at(3, 0, text("b")), in(3), nil)
	r.add(at(4, 0, text("c")), in(4), out(2))
	r.add(at(5, 0, text("a")), in(5), out(3))
	r.add(at(6, 0, text("c")), in(6), out(4))
	r.holds(5, 6)
}

// Promise 16.2: what one view holds no more plays its part for another one: the least is none of the last two, so that the set holds nothing.
func TestSortedAndLength(t *testing.T) {
	r := start(t, 1, sorted(1, 0), length(2))
	r.add(at(1, 0, whole(3)), in(1), nil)
	r.add(at(2, 0, whole(4)), nil, nil)
	r.add(at(3, 0, whole(5)), nil, out(1))
	r.holds()
	r.add(at(4, 0, whole(4)), nil, nil)
	r.add(at(5, 0, whole(3)), nil, nil)
	r.holds()
	r.add(at(6, 0, whole(2)), in(6), nil)
	r.add(at(7, 0, whole(2)), nil, nil)
	r.holds(6)
}

// Promise 16.3: Next asks each view by itself: one that holds others, though the set holds the same.
func TestNextOfOneView(t *testing.T) {
	r := start(t, 1, time(10), last())
	r.add(at(1, 0), in(1), nil)
	r.add(at(2, 3), in(2), out(1))
	r.next(10)
	r.advance(10, nil, nil)
	r.next(13)
	r.advance(13, nil, out(2))
	r.noNext()

	r = start(t, 1, first(), time(10), timeBatch(4))
	r.add(at(1, 1), nil, nil)
	r.next(5)
	r.add(at(2, 2), nil, nil)
	r.add(at(3, 5), in(1), nil)
	r.next(9)
	r.advance(9, nil, out(1))
	r.next(11)
	r.advance(11, nil, nil)
	r.next(12)
	r.advance(12, nil, nil)
	r.next(13)
	r.advance(13, nil, nil)
	r.next(15)
	r.advance(15, nil, nil)
	r.noNext()
}

// Promise 16.2: two of the same kind: what the lesser one holds, Next of both.
func TestTwoOfAKind(t *testing.T) {
	r := start(t, 1, length(3), length(2))
	r.add(at(1, 0), in(1), nil)
	r.add(at(2, 0), in(2), nil)
	r.add(at(3, 0), in(3), out(1))
	r.holds(2, 3)

	r = start(t, 1, time(10), time(4))
	r.add(at(1, 0), in(1), nil)
	r.add(at(2, 5), in(2), out(1))
	r.next(9)
	r.advance(9, nil, out(2))
	r.next(10)
	r.advance(10, nil, nil)
	r.next(15)
	r.advance(15, nil, nil)
	r.noNext()

	r = start(t, 2, unique(0), unique(1))
	r.add(at(1, 0, whole(1), whole(1)), in(1), nil)
	r.add(at(2, 0, whole(2), whole(2)), in(2), nil)
	r.add(at(3, 0, whole(1), whole(2)), in(3), out(1, 2))
	r.add(at(4, 0, whole(2), whole(1)), in(4), nil)
	r.holds(3, 4)

	r = start(t, 1, lengthBatch(2), lengthBatch(3))
	for seq := 1; seq <= 2; seq++ {
		r.add(at(seq, 0), nil, nil)
	}
	r.add(at(3, 0), in(1, 2), nil)
	r.add(at(4, 0), in(3), out(1, 2))
	r.add(at(5, 0), nil, nil)
	r.add(at(6, 0), in(5, 6), out(3))
	r.holds(5, 6)
	r.add(at(7, 0), nil, nil)
	r.add(at(8, 0), nil, out(5, 6))

	r = start(t, 1, sorted(2, 0), sortedDesc(2, 0))
	r.add(at(1, 0, whole(1)), in(1), nil)
	r.add(at(2, 0, whole(3)), in(2), nil)
	r.add(at(3, 0, whole(2)), in(3), out(1, 2))
	r.add(at(4, 0, whole(2)), nil, nil)
	r.holds(3)

	r = start(t, 1, first(), first(), first(), first())
	r.add(at(1, 0), in(1), nil)
	r.add(at(2, 0), nil, nil)
	r.holds(1)

	r = start(t, 1, timeBatch(4), timeBatch(6))
	r.add(at(1, 0), nil, nil)
	r.next(4)
	r.advance(4, nil, nil)
	r.next(6)
	r.advance(6, in(1), nil)
	r.next(8)
	r.advance(8, nil, out(1))
	r.next(12)
	r.advance(12, nil, nil)
	r.noNext()
}

// Promise 16.2: the first one, though its batch is over, is held no more; what is pending in one view and goes from another is never held.
func TestBatchesAndOthers(t *testing.T) {
	r := start(t, 1, lengthBatch(2), first())
	r.add(at(1, 0), nil, nil)
	r.add(at(2, 0), in(1), nil)
	r.add(at(3, 0), nil, nil)
	r.add(at(4, 0), nil, out(1))
	r.add(at(5, 0), nil, nil)
	r.add(at(6, 0), nil, nil)
	r.holds()

	r = start(t, 1, lengthBatch(3), last())
	r.add(at(1, 0), nil, nil)
	r.add(at(2, 0), nil, nil)
	r.add(at(3, 0), in(3), nil)
	r.add(at(4, 0), nil, out(3))
	r.add(at(5, 0), nil, nil)
	r.add(at(6, 0), in(6), nil)
	r.holds(6)

	r = start(t, 1, unique(0), timeBatch(10), all())
	r.add(at(1, 0, whole(1)), nil, nil)
	r.add(at(2, 1, whole(2)), nil, nil)
	r.add(at(3, 2, whole(1)), nil, nil)
	r.advance(10, in(2, 3), nil)
	r.add(at(4, 11, whole(2)), nil, out(2))
	r.add(at(5, 20, whole(3)), in(4), out(3))
	r.holds(4)
}

// Promise 16.2: rows of no value, of other widths, too short for a column: they count as null there.
func TestWidths(t *testing.T) {
	r := start(t, 2, unique(1), sorted(2, 0))
	r.add(at(1, 0, whole(1), whole(1), whole(1)), in(1), nil)
	r.add(at(2, 0, whole(1)), in(2), nil)
	r.add(at(3, 0), in(3), out(2))
	r.add(at(4, 0, whole(0), whole(7), whole(8), whole(9)), in(4), out(1))
	r.add(at(5, 0, null, whole(7)), in(5), out(4))
	r.holds(3, 5)
}

// Promises 16.2, 16.3: where the first one that is taken has too few columns for a view, that one never holds anything; the others change as they would.
func TestFirstRowIsTooShort(t *testing.T) {
	for _, v := range specs(unique(1), unique(0, 1), sorted(3, 1), sortedDesc(3, 1)) {
		r := start(t, 2, v)
		r.add(at(1, 0, whole(1)), nil, nil)
		r.add(at(2, 0, whole(1), whole(1)), nil, nil)
		r.holds()
		r = start(t, 2, time(5), v)
		r.refuse(at(0, 0, whole(1), whole(1)))
		r.add(at(1, 0), nil, nil)
		r.add(at(2, 1, whole(1), whole(1), whole(1)), nil, nil)
		r.next(5)
		r.advance(5, nil, nil)
		r.next(6)
		r.holds()
		r = start(t, 2, v)
		r.add(at(1, 0, whole(1), whole(1)), in(1), nil)
		r.add(at(2, 0, whole(1), whole(2)), in(2), nil)
		r.add(at(3, 0), in(3), nil)
		r.holds(1, 2, 3)
	}
}

// Promise 16.2: columns below 0, or more than the rows have, are no matter to views that name none.
func TestOtherColumnsThanRowsHave(t *testing.T) {
	for _, columns := range edges {
		r := start(t, columns, length(2), all())
		r.add(at(1, 0), in(1), nil)
		r.add(at(2, 0, whole(1)), in(2), nil)
		r.add(at(3, 0, whole(1), null, text("a")), in(3), out(1))
		r.holds(2, 3)
	}
	r := start(t, 1000, unique(0), sorted(1, 0))
	r.add(at(1, 0, whole(2)), in(1), nil)
	r.add(at(2, 0, whole(1)), in(2), out(1))
	r.holds(2)
}

// Two sets beside one another, of the same views and of others, know nothing of each other.
func TestTwoSets(t *testing.T) {
	shared := specs(time(10), unique(0))
	a, b, c := start(t, 1, shared...), start(t, 1, shared...), start(t, 1, last())
	a.add(at(5, 7, whole(1)), in(5), nil)
	b.add(at(1, 0, whole(1)), in(1), nil)
	c.add(at(2, 3, whole(1)), in(2), nil)
	a.next(17)
	b.next(10)
	c.noNext()
	b.add(at(2, 0, whole(1)), in(2), out(1))
	c.add(at(4, 3, whole(1)), in(4), out(2))
	b.advance(10, nil, out(2))
	a.add(at(6, 7, whole(2)), in(6), nil)
	a.holds(5, 6)
	b.holds()
	c.holds(4)
}

// Promises 16.2, 16.3: Seq above 0 is asked of the first one alone that is taken, whatever is refused ahead.
func TestNothingIsTakenAhead(t *testing.T) {
	r := start(t, 1, first())
	r.refuse(at(0, 0, whole(1)))
	r.refuse(at(5, -1, whole(1)))
	r.refuse(at(5, api.MaxTime+1, whole(1)))
	r.advance(5, nil, nil)
	r.refuse(at(9, 4, whole(1)))
	r.add(at(1, 5, whole(1)), in(1), nil)
	r.holds(1)
}
