package content_test

import (
	"math"
	"testing"

	"marquee/api"
)

// Promise 15.2: the chapter's examples.
func TestExamples(t *testing.T) {
	l := came(0, 1, 5)
	wantOne(t, length(2), l, 5, 2, 3)
	wantOne(t, time(5), l, 5, 2, 3)
	wantOne(t, lengthBatch(2), l, 5, 1, 2)
	wantOne(t, timeBatch(2), l, 5)
	wantOne(t, timeBatch(2), l, 6, 3)
	wantOne(t, unique(0), l, 5, 1, 2, 3)
	wantOne(t, sortedDesc(1, 0), l, 5, 3)
	l = column(whole(7), whole(8), whole(7))
	wantOne(t, unique(0), l, 5, 2, 3)
	wantOne(t, sortedDesc(1, 0), l, 5, 2)
	wantNext(t, views(time(5)), came(0, 1, 5), 5, 6)
}

// Promises 15.2, 15.3: where nothing came, nothing is held, and nothing changes.
func TestOfNoArrival(t *testing.T) {
	for _, v := range samples() {
		for _, now := range edges {
			wantOne(t, v, nil, now)
			wantOne(t, v, []api.Arrival{}, now)
			wantNoNext(t, views(v), nil, now)
		}
	}
}

// Promise 15.2: of one arrival.
func TestOfOneArrival(t *testing.T) {
	l := came(4)
	for _, v := range views(all(), last(), first(), length(1), length(2), length(api.MaxSize), lengthBatch(1), time(1), time(api.MaxTime), unique(0), sorted(1, 0), sorted(2, 0), sortedDesc(1, 0)) {
		wantOne(t, v, l, 4, 1)
	}
	for _, v := range views(lengthBatch(2), lengthBatch(api.MaxSize), timeBatch(1), timeBatch(api.MaxTime)) {
		wantOne(t, v, l, 4)
	}
}

// Promise 15.2: all, the last one and the first one, whenever it is.
func TestBareViews(t *testing.T) {
	l := came(0, 0, 3, 3, 9)
	for _, now := range []int{9, 10, 1000, api.MaxTime, math.MaxInt} {
		wantOne(t, all(), l, now, 1, 2, 3, 4, 5)
		wantOne(t, last(), l, now, 5)
		wantOne(t, first(), l, now, 1)
		wantOne(t, last(), l[:3], now, 3)
		wantOne(t, first(), l[2:], now, 3)
	}
}

// Promise 15.2: Seqs have gaps, and are told as they are.
func TestSeqsWithGaps(t *testing.T) {
	l := came(0, 1, 2, 3)
	for i, seq := range []int{-7, 4, 1 << 31, math.MaxInt} {
		l[i].Seq = seq
	}
	wantOne(t, all(), l, 3, -7, 4, 1<<31, math.MaxInt)
	wantOne(t, length(2), l, 3, 1<<31, math.MaxInt)
	wantOne(t, time(3), l, 3, 4, 1<<31, math.MaxInt)
	wantOne(t, lengthBatch(3), l, 3, -7, 4, 1<<31)
	wantOne(t, timeBatch(2), l, 4, 1<<31, math.MaxInt)
	wantOne(t, sorted(2, 0), l, 3, -7, 4)
	wantOne(t, first(), l, 3, -7)
}

// Promise 15.2: N at 1, at how many there are, above.
func TestLength(t *testing.T) {
	l := came(0, 0, 3, 3, 9)
	wantOne(t, length(1), l, 9, 5)
	wantOne(t, length(2), l, 9, 4, 5)
	wantOne(t, length(4), l, 9, 2, 3, 4, 5)
	wantOne(t, length(5), l, 9, 1, 2, 3, 4, 5)
	wantOne(t, length(6), l, 9, 1, 2, 3, 4, 5)
	wantOne(t, length(api.MaxSize), l, 1000, 1, 2, 3, 4, 5)
	wantOne(t, length(api.MaxSize+1), l, 9)
	wantOne(t, length(0), l, 9)
	wantOne(t, length(-1), l, 9)
}

// Promise 15.2: a batch that is just full, one short of it, one above.
func TestLengthBatch(t *testing.T) {
	l := came(0, 0, 3, 3, 9, 9, 9)
	wantOne(t, lengthBatch(1), l, 9, 7)
	wantOne(t, lengthBatch(2), l, 9, 5, 6)
	wantOne(t, lengthBatch(2), l[:6], 9, 5, 6)
	wantOne(t, lengthBatch(2), l[:5], 9, 3, 4)
	wantOne(t, lengthBatch(3), l, 9, 4, 5, 6)
	wantOne(t, lengthBatch(3), l[:6], 9, 4, 5, 6)
	wantOne(t, lengthBatch(3), l[:5], 9, 1, 2, 3)
	wantOne(t, lengthBatch(3), l[:3], 9, 1, 2, 3)
	wantOne(t, lengthBatch(3), l[:2], 9)
	wantOne(t, lengthBatch(3), l[1:], 9, 5, 6, 7)
	wantOne(t, lengthBatch(4), l, 9, 1, 2, 3, 4)
	wantOne(t, lengthBatch(7), l, 1000, 1, 2, 3, 4, 5, 6, 7)
	wantOne(t, lengthBatch(8), l, 1000)
	wantOne(t, lengthBatch(api.MaxSize), l, 9)
	wantOne(t, lengthBatch(0), l, 9)
	wantOne(t, lengthBatch(-2), l, 9)
}

// Promises 15.1, 15.2: views of length at their most.
func TestMostOfLength(t *testing.T) {
	l := came(make([]int, api.MaxSize+2)...)
	wantOne(t, length(api.MaxSize), l, 0, from(3, api.MaxSize+2)...)
	wantOne(t, lengthBatch(api.MaxSize), l, 0, from(1, api.MaxSize)...)
	wantOne(t, lengthBatch(api.MaxSize), l[:api.MaxSize], 0, from(1, api.MaxSize)...)
	wantOne(t, lengthBatch(api.MaxSize), l[:api.MaxSize-1], 0)
	wantOne(t, sorted(api.MaxSize, 0), l, 0, from(1, api.MaxSize)...)
	wantOne(t, sortedDesc(api.MaxSize, 0), l, 0, from(3, api.MaxSize+2)...)
}

// Promise 15.2: those above now - N, of which there may be none, some of the same Time, all.
func TestTime(t *testing.T) {
	l := came(0, 0, 3, 3, 9)
	wantOne(t, time(1), l, 9, 5)
	wantOne(t, time(1), l, 10)
	wantOne(t, time(6), l, 9, 5)
	wantOne(t, time(7), l, 9, 3, 4, 5)
	wantOne(t, time(9), l, 9, 3, 4, 5)
	wantOne(t, time(10), l, 9, 1, 2, 3, 4, 5)
	wantOne(t, time(10), l, 10, 3, 4, 5)
	wantOne(t, time(10), l, 12, 3, 4, 5)
	wantOne(t, time(10), l, 13, 5)
	wantOne(t, time(10), l, 18, 5)
	wantOne(t, time(10), l, 19)
	wantOne(t, time(10), l, math.MaxInt)
	wantOne(t, time(0), l, 9)
	wantOne(t, time(-1), l, 9)
	wantOne(t, time(api.MaxTime+1), l, 9)
}

// Promise 15.2: times and N at their most.
func TestMostOfTime(t *testing.T) {
	l := came(0, 1, api.MaxTime-1, api.MaxTime, api.MaxTime)
	wantOne(t, time(api.MaxTime), l[:1], 0, 1)
	wantOne(t, time(api.MaxTime), l[:3], api.MaxTime-1, 1, 2, 3)
	wantOne(t, time(api.MaxTime), l, api.MaxTime, 2, 3, 4, 5)
	wantOne(t, time(api.MaxTime), l, api.MaxTime+1, 3, 4, 5)
	wantOne(t, time(api.MaxTime), l, 2*api.MaxTime-1, 4, 5)
	wantOne(t, time(api.MaxTime), l, 2*api.MaxTime)
	wantOne(t, time(1), l, api.MaxTime, 4, 5)
	wantOne(t, time(2), l, api.MaxTime, 3, 4, 5)
	wantOne(t, time(1), l, math.MaxInt)
	wantOne(t, timeBatch(api.MaxTime), l[:3], api.MaxTime-1)
	wantOne(t, timeBatch(api.MaxTime), l, api.MaxTime, 1, 2, 3)
	wantOne(t, timeBatch(api.MaxTime), l, 2*api.MaxTime-1, 1, 2, 3)
	wantOne(t, timeBatch(api.MaxTime), l, 2*api.MaxTime, 4, 5)
	wantOne(t, timeBatch(api.MaxTime), l, 3*api.MaxTime-1, 4, 5)
	wantOne(t, timeBatch(api.MaxTime), l, 3*api.MaxTime)
	wantOne(t, timeBatch(1), l, api.MaxTime, 3)
	wantOne(t, timeBatch(1), l, api.MaxTime+1, 4, 5)
	wantOne(t, timeBatch(1), l, math.MaxInt)
	wantOne(t, timeBatch(api.MaxTime), l[3:], 2*api.MaxTime-1)
	wantOne(t, timeBatch(api.MaxTime), l[3:], 2*api.MaxTime, 4, 5)
}

// Promise 15.2: batches begin at the first one's Time; each is held while the one behind it lasts.
func TestTimeBatch(t *testing.T) {
	l := came(3, 3, 7, 8, 12, 13, 30)
	wantOne(t, timeBatch(5), l[:2], 3)
	wantOne(t, timeBatch(5), l[:3], 7)
	wantOne(t, timeBatch(5), l[:3], 8, 1, 2, 3)
	wantOne(t, timeBatch(5), l[:4], 8, 1, 2, 3)
	wantOne(t, timeBatch(5), l[:5], 12, 1, 2, 3)
	wantOne(t, timeBatch(5), l[:6], 13, 4, 5)
	wantOne(t, timeBatch(5), l[:6], 17, 4, 5)
	wantOne(t, timeBatch(5), l[:6], 18, 6)
	wantOne(t, timeBatch(5), l[:6], 22, 6)
	wantOne(t, timeBatch(5), l[:6], 23)
	wantOne(t, timeBatch(5), l, 30)
	wantOne(t, timeBatch(5), l, 32)
	wantOne(t, timeBatch(5), l, 33, 7)
	wantOne(t, timeBatch(5), l, 37, 7)
	wantOne(t, timeBatch(5), l, 38)
	wantOne(t, timeBatch(5), l, math.MaxInt)
	// Of those behind the first two, batches begin at 7.
	wantOne(t, timeBatch(5), l[2:6], 13, 3, 4)
	wantOne(t, timeBatch(5), l[2:6], 16, 3, 4)
	wantOne(t, timeBatch(5), l[2:6], 17, 5, 6)
	wantOne(t, timeBatch(0), l, 30)
	wantOne(t, timeBatch(-5), l, 30)
	wantOne(t, timeBatch(api.MaxTime+1), l, 30)
}

// Promise 15.2: unlike ones are told by all fields of the values at Cols, and the last of each is held.
func TestUnique(t *testing.T) {
	wantOne(t, unique(0), column(whole(1), whole(1), whole(1)), 0, 3)
	wantOne(t, unique(0), column(whole(1), whole(2), whole(1), whole(3), whole(2)), 0, 3, 4, 5)
	wantOne(t, unique(0), column(null, null, whole(0)), 0, 2, 3)
	wantOne(t, unique(0), column(whole(1), dec(10000), dec(1), truth(1), text("1"), text("")), 0, 1, 2, 3, 4, 5, 6)
	wantOne(t, unique(0), column(text("a"), text("A"), text("a"), text("ab"), text("")), 0, 2, 3, 4, 5)
	wantOne(t, unique(0), column(truth(0), truth(1), truth(0), whole(0), dec(0), null), 0, 2, 3, 4, 5, 6)
	l := with(
		row(whole(1), text("a"), whole(5)),
		row(whole(2), text("a"), whole(5)),
		row(whole(1), text("b"), whole(6)),
		row(whole(1), text("a"), whole(6)),
		row(whole(2), text("b"), whole(5)))
	wantOne(t, unique(0), l, 0, 4, 5)
	wantOne(t, unique(1), l, 0, 4, 5)
	wantOne(t, unique(2), l, 0, 4, 5)
	wantOne(t, unique(0, 1), l, 0, 2, 3, 4, 5)
	wantOne(t, unique(1, 0), l, 0, 2, 3, 4, 5)
	wantOne(t, unique(0, 2), l, 0, 1, 4, 5)
	wantOne(t, unique(2, 1), l, 0, 2, 3, 4, 5)
	wantOne(t, unique(2, 0, 1), l, 0, 1, 2, 3, 4, 5)
	wantOne(t, unique(0, 0), l, 0)
	wantOne(t, unique(3), l, 0)
	wantOne(t, unique(0, 3), l, 0)
	wantOne(t, unique(-1), l, 0)
	wantOne(t, unique(), l, 0)
}

// Promise 15.2: the same values at other columns are another row of values.
func TestUniqueOfValuesInAnotherOrder(t *testing.T) {
	l := with(row(whole(1), whole(2)), row(whole(2), whole(1)), row(whole(1), whole(1)), row(whole(2), whole(2)), row(whole(1), whole(2)), row(null, whole(1)), row(whole(1), null))
	wantOne(t, unique(0, 1), l, 0, 2, 3, 4, 5, 6, 7)
	wantOne(t, unique(1, 0), l, 0, 2, 3, 4, 5, 6, 7)
	wantOne(t, unique(0), l, 0, 4, 6, 7)
	l = with(row(text("a"), text("bc")), row(text("ab"), text("c")), row(text("abc"), text("")), row(text(""), text("abc")))
	wantOne(t, unique(0, 1), l, 0, 1, 2, 3, 4)
}

// Promise 15.2: the least, or the greatest, by their values' order; of those that are the same the ones ahead.
func TestSorted(t *testing.T) {
	l := column(whole(5), whole(2), whole(7), whole(2), whole(5), whole(7), whole(2))
	wantOne(t, sorted(1, 0), l, 0, 2)
	wantOne(t, sorted(2, 0), l, 0, 2, 4)
	wantOne(t, sorted(3, 0), l, 0, 2, 4, 7)
	wantOne(t, sorted(4, 0), l, 0, 1, 2, 4, 7)
	wantOne(t, sorted(5, 0), l, 0, 1, 2, 4, 5, 7)
	wantOne(t, sorted(6, 0), l, 0, 1, 2, 3, 4, 5, 7)
	wantOne(t, sorted(7, 0), l, 0, 1, 2, 3, 4, 5, 6, 7)
	wantOne(t, sorted(8, 0), l, 0, 1, 2, 3, 4, 5, 6, 7)
	wantOne(t, sortedDesc(1, 0), l, 0, 3)
	wantOne(t, sortedDesc(2, 0), l, 0, 3, 6)
	wantOne(t, sortedDesc(3, 0), l, 0, 1, 3, 6)
	wantOne(t, sortedDesc(4, 0), l, 0, 1, 3, 5, 6)
	wantOne(t, sortedDesc(5, 0), l, 0, 1, 2, 3, 5, 6)
	wantOne(t, sortedDesc(6, 0), l, 0, 1, 2, 3, 4, 5, 6)
	wantOne(t, sortedDesc(7, 0), l, 0, 1, 2, 3, 4, 5, 6, 7)
	wantOne(t, sortedDesc(api.MaxSize, 0), l, 0, 1, 2, 3, 4, 5, 6, 7)
	wantOne(t, sorted(0, 0), l, 0)
	wantOne(t, sorted(-1, 0), l, 0)
	wantOne(t, sorted(1, 1), l, 0)
	wantOne(t, sortedDesc(1, -1), l, 0)
	wantOne(t, api.ViewSpec{Kind: api.ViewSorted, N: 1}, l, 0)
}

// Promise 15.2: all kinds of values stand in the order of chapter 1.
func TestSortedByOrder(t *testing.T) {
	l := column(text(""), whole(2), dec(15000), null, truth(1), dec(10000), whole(1), text("a"), truth(0), null)
	rising := []int{4, 10, 9, 5, 7, 6, 3, 2, 1, 8}
	falling := []int{8, 1, 2, 3, 6, 7, 5, 9, 4, 10}
	for n := 1; n <= len(l); n++ {
		wantOne(t, sorted(n, 0), l, 0, inOrder(rising[:n])...)
		wantOne(t, sortedDesc(n, 0), l, 0, inOrder(falling[:n])...)
	}
}

// Promise 15.2: it is the value at Cols that counts, and not those beside it.
func TestSortedByItsColumn(t *testing.T) {
	l := with(row(whole(1), whole(9), whole(4)), row(whole(2), whole(7), whole(6)), row(whole(3), whole(8), whole(5)))
	wantOne(t, sorted(1, 0), l, 0, 1)
	wantOne(t, sorted(1, 1), l, 0, 2)
	wantOne(t, sorted(2, 1), l, 0, 2, 3)
	wantOne(t, sortedDesc(1, 1), l, 0, 1)
	wantOne(t, sorted(2, 2), l, 0, 1, 3)
	wantOne(t, sortedDesc(1, 2), l, 0, 2)
}

// Promise 15.2: a row that is too short for a column has null there; how many columns there are, the first row says.
func TestRowsOfOtherLengths(t *testing.T) {
	l := with(row(whole(1), whole(4)), row(whole(1)), row(), row(null, null), row(null), row(whole(2), whole(3), whole(9)), row(whole(1), null, null))
	wantOne(t, unique(0), l, 0, 5, 6, 7)
	wantOne(t, unique(1), l, 0, 1, 6, 7)
	wantOne(t, unique(0, 1), l, 0, 1, 5, 6, 7)
	wantOne(t, sorted(1, 0), l, 0, 3)
	wantOne(t, sorted(3, 0), l, 0, 3, 4, 5)
	wantOne(t, sortedDesc(1, 0), l, 0, 6)
	wantOne(t, sorted(2, 1), l, 0, 2, 3)
	wantOne(t, sortedDesc(2, 1), l, 0, 1, 6)
	wantOne(t, unique(2), l, 0)
	wantOne(t, sorted(1, 2), l, 0)
	wantOne(t, unique(2), l[5:], 0, 6, 7)
	wantOne(t, sortedDesc(1, 2), l[5:], 0, 6)
	wantOne(t, unique(1), l[1:], 0)
	wantOne(t, sorted(1, 1), l[1:], 0)
	wantOne(t, unique(0), l[1:], 0, 5, 6, 7)
	wantOne(t, unique(0), l[2:], 0)
	wantOne(t, sorted(1, 0), l[2:], 0)
}

// Promise 15.2: rows of no value are held by all that names no column.
func TestRowsOfNoValue(t *testing.T) {
	l := with(nil, []api.Value{}, nil, row(whole(1)))
	wantOne(t, all(), l, 0, 1, 2, 3, 4)
	wantOne(t, last(), l, 0, 4)
	wantOne(t, first(), l, 0, 1)
	wantOne(t, length(2), l, 0, 3, 4)
	wantOne(t, lengthBatch(3), l, 0, 1, 2, 3)
	wantOne(t, time(2), l, 1, 1, 2, 3, 4)
	wantOne(t, timeBatch(2), l, 2, 1, 2, 3, 4)
	wantOne(t, unique(0), l, 0)
	wantOne(t, sorted(1, 0), l, 0)
}

// Promise 15.2: what Check refuses holds nothing, whatever came.
func TestOneOfWhatIsRefused(t *testing.T) {
	l := came(0, 1, 5)
	bare := []api.ViewSpec{{}, {Kind: -1}, {Kind: 10}, {Kind: math.MaxInt}, {Kind: math.MinInt}, {Kind: api.ViewFirst + 1, N: 1, Cols: []int{0}}}
	for _, v := range samples() {
		for _, kind := range append(edges, kinds...) {
			for _, desc := range []bool{false, true} {
				bare = append(bare, api.ViewSpec{Kind: kind, N: v.N, Cols: v.Cols, Desc: desc})
			}
		}
	}
	refused := 0
	for _, v := range bare {
		if !mayBe(v, 1) {
			refused++
			wantCheck(t, v, 1, api.ErrView)
			wantOne(t, v, l, 5)
			wantOne(t, v, l, 6)
			wantNoNext(t, views(v), l, 5)
		}
	}
	if refused < 100 {
		t.Errorf("only %d were refused", refused)
	}
}
