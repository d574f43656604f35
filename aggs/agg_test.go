package aggs_test

import (
	"testing"

	"marquee/aggs"
	"marquee/api"
)

// Promise 17.3: an aggregate begins with nothing.
func TestNew(t *testing.T) {
	for _, s := range specs() {
		r := start(t, s)
		want := ok(null)
		if s.Name == "count" {
			want = ok(whole(0))
		}
		r.tells(want, 0)
		for _, seq := range edges {
			r.remove(seq, false)
		}
		r.tells(want, 0)
	}
}

// Promise 17.3: values come and leave; what is left is told.
func TestAddRemove(t *testing.T) {
	r := start(t, plain("max"))
	r.add(1, whole(5))
	r.add(2, whole(9))
	r.tells(ok(whole(9)), 2)
	r.remove(2, true)
	r.tells(ok(whole(5)), 1)
	r.remove(2, false)
	r.remove(3, false)
	r.tells(ok(whole(5)), 1)
	r.remove(1, true)
	r.remove(1, false)
	r.tells(ok(null), 0)
	r.add(1, whole(-3))
	r.tells(ok(whole(-3)), 1)
}

// Promise 17.3: nulls are there, too, though they play no part but of count(*).
func TestNulls(t *testing.T) {
	for _, s := range specs() {
		r := start(t, s)
		want := func(others int) answer {
			switch {
			case s.All:
				return ok(whole(others + 2))
			case s.Name == "count":
				return ok(whole(others))
			case others == 0:
				return ok(null)
			case s.Name == "avg":
				return ok(dec(70000))
			}
			return ok(whole(7))
		}
		r.add(1, null)
		r.add(3, null)
		r.tells(want(0), 2)
		r.add(2, whole(7))
		r.tells(want(1), 3)
		r.remove(2, true)
		r.tells(want(0), 2)
		r.add(1, whole(7))
		r.add(9, null)
		r.tells(want(1), 3)
		r.add(1, null)
		r.remove(9, true)
		r.tells(want(0), 2)
		r.remove(1, true)
		r.remove(3, true)
		r.remove(3, false)
		if r.a.Len() != 0 {
			t.Errorf("%v: %d are there", s, r.a.Len())
		}
	}
}

// Promise 17.3: what comes under a number that is there takes the place of what was under it.
func TestInPlace(t *testing.T) {
	for _, x := range []struct {
		spec                 api.AggSpec
		first, second, third answer
	}{
		{countAll(), ok(whole(2)), ok(whole(2)), ok(whole(2))}, {plain("count"), ok(whole(2)), ok(whole(2)), ok(whole(1))}, {distinct("count"), ok(whole(2)), ok(whole(1)), ok(whole(1))},
		{plain("sum"), ok(whole(8)), ok(whole(10)), ok(whole(5))}, {distinct("sum"), ok(whole(8)), ok(whole(5)), ok(whole(5))}, {plain("avg"), ok(dec(40000)), ok(dec(50000)), ok(dec(50000))}, {distinct("avg"), ok(dec(40000)), ok(dec(50000)), ok(dec(50000))},
		{plain("min"), ok(whole(3)), ok(whole(5)), ok(whole(5))}, {plain("max"), ok(whole(5)), ok(whole(5)), ok(whole(5))}, {plain("first"), ok(whole(3)), ok(whole(5)), ok(whole(5))}, {plain("last"), ok(whole(5)), ok(whole(5)), ok(whole(5))},
	} {
		r := start(t, x.spec)
		r.add(1, whole(3))
		r.add(2, whole(5))
		r.tells(x.first, 2)
		r.add(1, whole(5))
		r.tells(x.second, 2)
		r.add(1, null)
		r.tells(x.third, 2)
		r.add(1, whole(3))
		r.tells(x.first, 2)
	}
	r := start(t, plain("last"))
	r.add(1, text("a"))
	r.add(2, text("b"))
	r.add(1, text("c"))
	r.tells(ok(text("b")), 2)
	r.add(2, text("d"))
	r.tells(ok(text("d")), 2)
	r.remove(2, true)
	r.tells(ok(text("c")), 1)
}

// Promise 17.3: by rising numbers, whatever they are and however they came.
func TestAnyNumbers(t *testing.T) {
	for _, order := range [][]int{{0, 1, 2, 3, 4}, {4, 3, 2, 1, 0}, {2, 0, 4, 1, 3}, {3, 4, 0, 2, 1}} {
		seqs := []int{least, -1, 0, 1, greatest}
		for _, x := range []struct {
			spec api.AggSpec
			want []int
		}{{plain("first"), []int{10, 11, 12, 13, 14}}, {plain("min"), []int{10, 11, 12, 13, 14}}} {
			r := start(t, x.spec)
			for _, place := range order {
				r.add(seqs[place], whole(10+place))
			}
			for i, seq := range seqs {
				r.tells(ok(whole(x.want[i])), 5-i)
				r.remove(seq, true)
				r.remove(seq, false)
			}
			r.tells(ok(null), 0)
		}
		for _, s := range []string{"last", "max"} {
			r := start(t, plain(s))
			for _, place := range order {
				r.add(seqs[place], whole(10+place))
			}
			for i := len(seqs) - 1; i >= 0; i-- {
				r.tells(ok(whole(10+i)), i+1)
				r.remove(seqs[i], true)
			}
			r.tells(ok(null), 0)
		}
	}
}

// Promises 17.2, 17.3, 17.4: which of the same ones min and max tell hangs on the numbers, not on what came ahead.
func TestFirstOfTheSame(t *testing.T) {
	for _, s := range []api.AggSpec{plain("min"), distinct("min"), plain("max"), distinct("max")} {
		r := start(t, s)
		r.add(5, whole(1))
		r.tells(ok(whole(1)), 1)
		r.add(7, dec(10000))
		r.tells(ok(whole(1)), 2)
		r.add(3, dec(10000))
		r.tells(ok(dec(10000)), 3)
		r.add(-2, api.Value{Kind: api.KindInt, N: 1, Text: "x"})
		r.tells(ok(api.Value{Kind: api.KindInt, N: 1, Text: "x"}), 4)
		r.remove(3, true)
		r.remove(-2, true)
		r.tells(ok(whole(1)), 2)
		r.remove(5, true)
		r.tells(ok(dec(10000)), 1)
		r.add(5, null)
		r.tells(ok(dec(10000)), 2)
		r.add(6, whole(1))
		r.tells(ok(whole(1)), 3)
	}
}

// Promises 17.2, 17.3: with Distinct one of the same ones may leave, and the others stay.
func TestDistinctStays(t *testing.T) {
	for _, x := range []struct {
		spec api.AggSpec
		two  answer
		one  answer
	}{{distinct("count"), ok(whole(2)), ok(whole(1))}, {distinct("sum"), ok(whole(5)), ok(whole(2))}, {distinct("avg"), ok(dec(25000)), ok(dec(20000))}, {distinct("min"), ok(whole(2)), ok(whole(2))}, {distinct("max"), ok(whole(3)), ok(whole(2))}} {
		for _, gone := range [][]int{{1, 2}, {2, 1}, {1, 4}, {4, 1}, {2, 4}, {4, 2}} {
			r := start(t, x.spec)
			for seq, n := range []int{2, 2, 3, 2} {
				r.add(seq+1, whole(n))
			}
			r.tells(x.two, 4)
			r.remove(gone[0], true)
			r.tells(x.two, 3)
			r.remove(gone[1], true)
			r.tells(x.two, 2)
			r.remove(3, true)
			r.tells(x.one, 1)
		}
	}
}

// Promise 17.3: an error goes with what made it.
func TestErrorsGo(t *testing.T) {
	for _, s := range []api.AggSpec{plain("sum"), distinct("sum"), plain("avg"), distinct("avg"), plain("min"), distinct("min"), plain("max"), distinct("max")} {
		want := ok(whole(7))
		if s.Name == "avg" {
			want = ok(dec(70000))
		}
		for _, seq := range []int{-1, 9} {
			for _, v := range []api.Value{text("a"), truth(1), odd(9)} {
				r := start(t, s)
				r.add(1, whole(7))
				r.add(2, null)
				r.tells(want, 2)
				r.add(seq, v)
				r.tells(fails(api.ErrKind), 3)
				r.add(seq+1, v)
				r.tells(fails(api.ErrKind), 4)
				r.remove(seq, true)
				r.tells(fails(api.ErrKind), 3)
				r.add(seq+1, null)
				r.tells(want, 3)
			}
		}
	}
}

// Promise 17.2: a sum of KindDec stands beside nothing of KindInt, whichever came first; when one kind has left, the other one is told.
func TestKindsComeAndGo(t *testing.T) {
	r := start(t, plain("sum"))
	r.add(1, whole(greatest))
	r.add(2, whole(greatest))
	r.tells(fails(api.ErrOver), 2)
	r.add(3, dec(15000))
	r.tells(fails(api.ErrKind), 3)
	r.remove(1, true)
	r.tells(fails(api.ErrKind), 2)
	r.remove(2, true)
	r.tells(ok(dec(15000)), 1)
	r.add(1, whole(2))
	r.remove(3, true)
	r.tells(ok(whole(2)), 1)
	a := start(t, plain("avg"))
	a.add(1, whole(1))
	a.add(2, dec(1))
	a.tells(fails(api.ErrKind), 2)
	a.remove(1, true)
	a.tells(ok(dec(1)), 1)
	a.add(3, whole(2))
	a.remove(2, true)
	a.tells(ok(dec(20000)), 1)
}

// Promise 17.4: a sum that left an int is told again as soon as what made it so has left.
func TestSumIsToldAgain(t *testing.T) {
	r := start(t, plain("sum"))
	r.add(1, whole(greatest))
	r.add(2, whole(1))
	r.tells(fails(api.ErrOver), 2)
	r.remove(2, true)
	r.tells(ok(whole(greatest)), 1)
	r.add(2, whole(greatest))
	r.add(3, whole(greatest))
	r.add(4, whole(least))
	r.tells(fails(api.ErrOver), 4)
	r.add(5, whole(least))
	r.tells(ok(whole(greatest-2)), 5)
	r.remove(3, true)
	r.tells(ok(whole(-2)), 4)
	r.remove(1, true)
	r.tells(fails(api.ErrOver), 3)
	r.remove(4, true)
	r.tells(ok(whole(-1)), 2)
	r.add(5, whole(1))
	r.tells(fails(api.ErrOver), 2)
	r.add(5, whole(-1))
	r.tells(ok(whole(greatest-1)), 2)
	a := start(t, plain("avg"))
	a.add(1, whole(greatest))
	a.tells(fails(api.ErrOver), 1)
	a.add(2, whole(-greatest))
	a.tells(ok(dec(0)), 2)
	a.remove(2, true)
	a.tells(fails(api.ErrOver), 1)
	a.add(1, whole(3))
	a.tells(ok(dec(30000)), 1)
}

// Promise 17.3, R1: nil and what New did not give take nothing and tell ErrAgg.
func TestNoAgg(t *testing.T) {
	for _, a := range []*aggs.Agg{nil, aggs.New(plain("q")), new(aggs.Agg), {}} {
		for range 2 {
			r := run{t, a}
			r.tells(fails(api.ErrAgg), 0)
			r.remove(1, false)
			r.add(1, whole(1))
			r.add(0, null)
			r.remove(1, false)
			r.remove(0, false)
			r.tells(fails(api.ErrAgg), 0)
		}
	}
}
