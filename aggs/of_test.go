package aggs_test

import (
	"testing"

	"marquee/api"
)

// Promise 17.2: the chapter's examples.
func TestExamples(t *testing.T) {
	wantOf(t, plain("sum"), row{list(whole(1), null, whole(2)), ok(whole(3))}, row{wholes(greatest, 1), fails(api.ErrOver)}, row{list(whole(1), dec(10000)), fails(api.ErrKind)})
	wantOf(t, plain("avg"), row{wholes(1, 2), ok(dec(15000))}, row{wholes(-1, 0, 0), ok(dec(-3333))})
	wantOf(t, plain("count"), row{list(null, null), ok(whole(0))})
	wantOf(t, countAll(), row{list(null, null), ok(whole(2))}, row{list(null, text("a"), null), ok(whole(3))})
	wantOf(t, plain("min"), row{list(whole(2), dec(10000)), ok(dec(10000))})
	wantOf(t, distinct("sum"), row{wholes(2, 2, 3), ok(whole(5))})
}

// Promise 17.2: of no values, and of nulls alone, all but the counts are null.
func TestOfNone(t *testing.T) {
	nulls := list(null, null, api.Value{N: 5}, api.Value{Text: "a"})
	for _, s := range specs() {
		want, wantNulls := ok(null), ok(null)
		if s.Name == "count" {
			want, wantNulls = ok(whole(0)), ok(whole(0))
		}
		if s.All {
			wantNulls = ok(whole(4))
		}
		wantOf(t, s, row{nil, want}, row{list(), want}, row{nulls, wantNulls})
	}
}

// Promise 17.2: one value is least, greatest, first and last, whatever it is; only numbers have a sum.
func TestOfOne(t *testing.T) {
	for _, v := range []api.Value{whole(0), whole(least), whole(greatest), dec(1), dec(least), truth(0), truth(1), truth(7), text(""), text("a"), text("\xff"), odd(5), odd(-1), odd(greatest), {Kind: 9, N: 3, Text: "x"}, {Kind: api.KindInt, N: 3, Text: "x"}, {Kind: api.KindText, N: 3, Text: "x"}} {
		for _, s := range specs() {
			want := ok(v)
			switch s.Name {
			case "count":
				want = ok(whole(1))
			case "sum":
				want = fails(api.ErrKind)
				if v.Kind == api.KindInt || v.Kind == api.KindDec {
					want = ok(api.Value{Kind: v.Kind, N: v.N})
				}
			case "avg":
				continue
			}
			wantOf(t, s, row{list(v), want}, row{list(null, v), want.plus(s)}, row{list(v, null), want.plus(s)})
		}
	}
}

// plus is the answer with one null more.
func (a answer) plus(s api.AggSpec) answer {
	if s.All {
		a.v.N++
	}
	return a
}

// Promise 17.2: count: of all, of those that are not null, of unlike ones.
func TestCount(t *testing.T) {
	l := list(whole(1), null, dec(10000), text("a"), null, whole(1), text("a"), text("b"), truth(0), odd(9), odd(9), odd(8), truth(0), dec(10000), text(""), truth(1))
	wantOf(t, countAll(), row{l, ok(whole(16))})
	wantOf(t, plain("count"), row{l, ok(whole(14))})
	wantOf(t, distinct("count"), row{l, ok(whole(9))})
}

// Promise 17.2: unlike are those that value.Order does not say are the same: numbers by their kinds, too, and what a kind does not name plays no part, but in kinds that are none.
func TestDistinct(t *testing.T) {
	for _, x := range []struct {
		l    []api.Value
		want int
	}{
		{wholes(1, 1, 1), 1}, {list(whole(1), dec(10000)), 2}, {list(dec(10000), whole(1), dec(10000), whole(1)), 2}, {decs(1, 1), 1}, {wholes(1, 2, 1, 2, 3), 3},
		{list(text("a"), text("A"), text("a")), 2}, {list(text(""), null, text("")), 1}, {list(truth(0), truth(1), truth(7), truth(0)), 3}, {list(truth(1), whole(1)), 2},
		{list(api.Value{Kind: api.KindInt, N: 1, Text: "a"}, whole(1)), 1}, {list(api.Value{Kind: api.KindText, N: 1, Text: "a"}, text("a")), 1}, {list(api.Value{Kind: api.KindBool, N: 1, Text: "a"}, truth(1)), 1},
		{list(api.Value{Kind: 9, N: 1}, odd(9), odd(9), api.Value{Kind: 9, Text: "a"}, odd(8)), 4},
		{wholes(greatest, least, greatest-1, least, greatest), 3}, {list(whole(greatest), dec(greatest)), 2},
	} {
		wantOf(t, distinct("count"), row{x.l, ok(whole(x.want))})
	}
	wantOf(t, distinct("sum"), row{wholes(1, -1, 1, -1, 1), ok(whole(0))}, row{decs(5, 7, 5), ok(dec(12))}, row{wholes(greatest, greatest), ok(whole(greatest))},
		row{wholes(greatest, 1, 1, -1, greatest), ok(whole(greatest))}, row{list(whole(1), whole(1), dec(10000)), fails(api.ErrKind)}, row{list(text("a"), text("a")), fails(api.ErrKind)})
	wantOf(t, distinct("avg"), row{wholes(1, 1, 2), ok(dec(15000))}, row{decs(3, 3, 3, 4), ok(dec(3))}, row{list(null, whole(2), null, whole(2)), ok(dec(20000))}, row{list(whole(1), dec(10000)), fails(api.ErrKind)})
}

// Promise 17.2: sum: of one kind, and just if the whole sum is an int, whatever it is on its way.
func TestSum(t *testing.T) {
	wantOf(t, plain("sum"),
		row{wholes(1, 2, 3, -4), ok(whole(2))}, row{wholes(0, 0), ok(whole(0))}, row{decs(1, 2, -5), ok(dec(-2))}, row{list(null, dec(10000), null), ok(dec(10000))},
		row{wholes(greatest-1, 1), ok(whole(greatest))}, row{wholes(least+1, -1), ok(whole(least))}, row{wholes(greatest, 0, 0), ok(whole(greatest))}, row{wholes(least, 0), ok(whole(least))},
		row{wholes(greatest, 1), fails(api.ErrOver)}, row{wholes(1, greatest), fails(api.ErrOver)}, row{wholes(least, -1), fails(api.ErrOver)}, row{decs(greatest, 1), fails(api.ErrOver)}, row{decs(-1, least), fails(api.ErrOver)},
		row{wholes(greatest, greatest, greatest), fails(api.ErrOver)}, row{wholes(greatest, greatest, 2), fails(api.ErrOver)}, row{wholes(least, least), fails(api.ErrOver)}, row{wholes(least, least, least, least), fails(api.ErrOver)},
		row{wholes(greatest, 1, -1), ok(whole(greatest))}, row{wholes(least, -1, 1), ok(whole(least))}, row{wholes(greatest, greatest, least, least), ok(whole(-2))}, row{wholes(least, greatest), ok(whole(-1))}, row{decs(least, least, greatest, greatest, 1), ok(dec(-1))},
		row{wholes(greatest, greatest, greatest, -greatest, -greatest), ok(whole(greatest))}, row{wholes(least, least, greatest, 1), ok(whole(least))}, row{wholes(least, least, greatest), fails(api.ErrOver)}, row{wholes(greatest, greatest, least, 2), fails(api.ErrOver)}, row{wholes(greatest, greatest, least, 1), ok(whole(greatest))},
	)
}

// Promise 17.2: avg: towards zero on both sides of it, of KindInt and of KindDec.
func TestAvg(t *testing.T) {
	for _, x := range []struct {
		l    []int
		ints int
		decs int
	}{
		{[]int{0}, 0, 0}, {[]int{1}, 10000, 1}, {[]int{-1}, -10000, -1}, {[]int{1, 2}, 15000, 1}, {[]int{-1, -2}, -15000, -1}, {[]int{1, 0, 0}, 3333, 0}, {[]int{-1, 0, 0}, -3333, 0},
		{[]int{2, 0, 0}, 6666, 0}, {[]int{-2, 0, 0}, -6666, 0}, {[]int{1, -1}, 0, 0}, {[]int{5, 0, 0}, 16666, 1}, {[]int{-5, 0, 0}, -16666, -1}, {[]int{-7, 0}, -35000, -3}, {[]int{7, 0}, 35000, 3},
		{[]int{1, 1, 1, 1, 1, 1, 0}, 8571, 0}, {[]int{-1, -1, -1, -1, -1, -1, 0}, -8571, 0}, {[]int{10, 11, 12}, 110000, 11}, {[]int{3, -4, 0}, -3333, 0}, {[]int{-3, 4, 0}, 3333, 0},
	} {
		wantOf(t, plain("avg"), row{wholes(x.l...), ok(dec(x.ints))}, row{decs(x.l...), ok(dec(x.decs))})
	}
}

// Promise 17.2: the sum of an avg may be any: just the avg must be an int, as a dec.
func TestAvgOfGreatNumbers(t *testing.T) {
	const most, fewest = greatest / api.Scale, least / api.Scale
	wantOf(t, plain("avg"),
		row{wholes(most, most), ok(dec(most * api.Scale))}, row{wholes(fewest, fewest, fewest), ok(dec(fewest * api.Scale))}, row{wholes(most), ok(dec(most * api.Scale))},
		row{wholes(most + 1), fails(api.ErrOver)}, row{wholes(fewest - 1), fails(api.ErrOver)}, row{wholes(greatest), fails(api.ErrOver)}, row{wholes(least), fails(api.ErrOver)}, row{wholes(greatest, greatest), fails(api.ErrOver)}, row{wholes(least, least), fails(api.ErrOver)},
		row{wholes(greatest, least), ok(dec(-5000))}, row{wholes(greatest, -greatest), ok(dec(0))}, row{wholes(least, greatest, 1, 3), ok(dec(7500))},
		row{wholes(most, most+1), ok(dec(most*api.Scale + 5000))}, row{wholes(most+1, most+1), fails(api.ErrOver)}, row{wholes(most, most, most, most+1), ok(dec(most*api.Scale + 2500))}, row{wholes(fewest, fewest, fewest, fewest-1), ok(dec(fewest*api.Scale - 2500))},
		row{wholes(greatest, most-greatest), ok(dec(most * api.Scale / 2))},
		row{decs(greatest), ok(dec(greatest))}, row{decs(least), ok(dec(least))}, row{decs(greatest, greatest, greatest), ok(dec(greatest))}, row{decs(least, least, least), ok(dec(least))},
		row{decs(greatest, least), ok(dec(0))}, row{decs(greatest, greatest-1), ok(dec(greatest - 1))}, row{decs(least, least+1), ok(dec(least + 1))}, row{decs(least, 0), ok(dec(least / 2))},
	)
	// The avg of 10000 of these is just the greatest and just the least int, then just leaves it.
	const tops, rest = greatest / api.Scale, greatest % api.Scale
	l := make([]api.Value, 10000)
	for i := range l {
		l[i] = whole(tops)
	}
	for i := range rest {
		l[i].N++
	}
	wantOf(t, plain("avg"), row{l, ok(dec(greatest))})
	l[9999].N++
	wantOf(t, plain("avg"), row{l, fails(api.ErrOver)})
	for i := range l {
		l[i] = whole(-tops)
	}
	for i := range rest + 1 {
		l[i].N--
	}
	wantOf(t, plain("avg"), row{l, ok(dec(least))})
	l[9999].N--
	wantOf(t, plain("avg"), row{l, fails(api.ErrOver)})
}

// Promise 17.2 and R1: avgs of numbers of each size, on both sides of 0: as they are, times 10000 and divided they leave 64 bits by little and by much.
func TestAvgOfEachSize(t *testing.T) {
	for size := range 60 {
		for first := range 8 {
			n := (8 + first) << size
			for many := 1; many <= 5; many++ {
				for _, l := range [][]api.Value{wholes(n, n, n, n, n), wholes(-n, -n, -n, -n, -n), decs(n, n, n, n, n), decs(-n, -n, -n, -n, -n)} {
					l[0].N ^= 1
					wantOf(t, plain("avg"), row{l[:many], modelOf(plain("avg"), l[:many])})
				}
			}
		}
	}
}

// Promise 17.2: a sum and an avg are of KindInt alone, or of KindDec alone: one other is an error, wherever it stands, ahead of ErrOver.
func TestSumsOfOtherKinds(t *testing.T) {
	for _, numbers := range [][]api.Value{wholes(1, 2, 3), decs(1, 2, 3), wholes(greatest, greatest, greatest), decs(least, least), wholes(7)} {
		other := dec(10000)
		if numbers[0].Kind == api.KindDec {
			other = whole(1)
		}
		for _, v := range []api.Value{other, truth(0), truth(1), text(""), text("1"), odd(5), odd(-1), odd(greatest)} {
			for place := range len(numbers) + 1 {
				l := append(append(append(list(null), numbers[:place]...), v), numbers[place:]...)
				for _, s := range []api.AggSpec{plain("sum"), plain("avg"), distinct("sum"), distinct("avg")} {
					wantOf(t, s, row{l, fails(api.ErrKind)}, row{append(l, v, null), fails(api.ErrKind)})
				}
			}
		}
	}
	for _, v := range []api.Value{truth(0), text("a"), odd(9)} {
		wantOf(t, plain("sum"), row{list(v, v), fails(api.ErrKind)})
		wantOf(t, plain("avg"), row{list(v), fails(api.ErrKind)}, row{list(null, v, v), fails(api.ErrKind)})
	}
}

// Promise 17.2: min and max, of what may be compared.
func TestMinMax(t *testing.T) {
	for _, x := range []struct {
		l        []api.Value
		min, max answer
	}{
		{wholes(3, 1, 2), ok(whole(1)), ok(whole(3))}, {wholes(greatest, least, 0), ok(whole(least)), ok(whole(greatest))}, {decs(-1, 1), ok(dec(-1)), ok(dec(1))},
		{list(whole(1), dec(15000), whole(2)), ok(whole(1)), ok(whole(2))}, {list(dec(5000), whole(1), dec(25000), whole(2)), ok(dec(5000)), ok(dec(25000))}, {list(whole(greatest), dec(greatest), whole(least), dec(least)), ok(whole(least)), ok(whole(greatest))},
		{list(text("b"), text(""), text("a"), null, text("B")), ok(text("")), ok(text("b"))}, {list(text("a"), text("aa"), text("Z")), ok(text("Z")), ok(text("aa"))}, {list(truth(1), truth(0)), ok(truth(0)), ok(truth(1))}, {list(truth(1), truth(7)), ok(truth(1)), ok(truth(7))},
	} {
		for _, s := range []api.AggSpec{plain("min"), distinct("min")} {
			wantOf(t, s, row{x.l, x.min})
		}
		for _, s := range []api.AggSpec{plain("max"), distinct("max")} {
			wantOf(t, s, row{x.l, x.max})
		}
	}
}

// Promise 17.2: of those that are the same as numbers min and max tell the first.
func TestMinMaxOfTheSame(t *testing.T) {
	named := func(v api.Value, s string) api.Value {
		v.Text = s
		return v
	}
	for _, x := range []struct {
		l        []api.Value
		min, max api.Value
	}{
		{list(whole(1), dec(10000)), whole(1), whole(1)}, {list(dec(10000), whole(1)), dec(10000), dec(10000)},
		{list(whole(3), dec(10000), whole(1), dec(30000)), dec(10000), whole(3)}, {list(dec(30000), whole(1), whole(3), dec(10000)), whole(1), dec(30000)},
		{list(whole(2), dec(10000), whole(1), whole(1), dec(10000), dec(30000), whole(3)), dec(10000), dec(30000)},
		{list(whole(2), whole(1), dec(10000), whole(1), dec(10000), whole(3), dec(30000), whole(3)), whole(1), whole(3)},
		{list(named(whole(1), "a"), whole(1), named(whole(1), "b")), named(whole(1), "a"), named(whole(1), "a")},
		{list(dec(0), named(whole(0), "a"), dec(0)), dec(0), dec(0)},
		{list(api.Value{Kind: api.KindText, N: 2, Text: "x"}, text("x")), api.Value{Kind: api.KindText, N: 2, Text: "x"}, api.Value{Kind: api.KindText, N: 2, Text: "x"}},
	} {
		for _, l := range [][]api.Value{x.l, append(list(null), x.l...)} {
			wantOf(t, plain("min"), row{l, ok(x.min)})
			wantOf(t, distinct("min"), row{l, ok(x.min)})
			wantOf(t, plain("max"), row{l, ok(x.max)})
			wantOf(t, distinct("max"), row{l, ok(x.max)})
		}
	}
}

// Promise 17.2: two that value.Compare refuses are an error, wherever they stand; of a kind that is none two of one value, too, but with Distinct they are one.
func TestMinMaxOfWhatIsNotCompared(t *testing.T) {
	pools := [][]api.Value{{whole(1), dec(10000), whole(2)}, {text("a"), text("b")}, {truth(0), truth(1)}, {odd(9)}, {odd(-3)}, {{Kind: 9, N: 1}}, {{Kind: 9, Text: "a"}}}
	for i, a := range pools {
		for k, b := range pools {
			if i == k {
				continue
			}
			for place := range len(a) + 1 {
				l := append(append(append(list(null), a[:place]...), b...), a[place:]...)
				for _, s := range []string{"min", "max"} {
					wantOf(t, plain(s), row{l, fails(api.ErrKind)})
					wantOf(t, distinct(s), row{l, fails(api.ErrKind)})
				}
			}
		}
	}
	for _, s := range []string{"min", "max"} {
		wantOf(t, plain(s), row{list(odd(9), odd(9)), fails(api.ErrKind)}, row{list(odd(9), null, odd(9), odd(9)), fails(api.ErrKind)})
		wantOf(t, distinct(s), row{list(odd(9), odd(9)), ok(odd(9))}, row{list(null, odd(9), null, odd(9), odd(9)), ok(odd(9))}, row{list(odd(9), odd(9), odd(8)), fails(api.ErrKind)}, row{list(odd(9), odd(9), whole(1)), fails(api.ErrKind)})
	}
}

// Promise 17.2: the first and the last that are not null, whatever they are.
func TestFirstLast(t *testing.T) {
	l := list(null, text("a"), whole(1), null, odd(9), dec(1), null)
	wantOf(t, plain("first"), row{l, ok(text("a"))}, row{l[2:], ok(whole(1))}, row{l[3:], ok(odd(9))}, row{l[5:], ok(dec(1))}, row{l[6:], ok(null)}, row{wholes(5, 4, 6), ok(whole(5))})
	wantOf(t, plain("last"), row{l, ok(dec(1))}, row{l[:5], ok(odd(9))}, row{l[:4], ok(whole(1))}, row{l[:2], ok(text("a"))}, row{l[:1], ok(null)}, row{wholes(5, 6, 4), ok(whole(4))})
}
