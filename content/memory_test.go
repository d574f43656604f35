package content_test

import (
	"slices"
	"testing"

	"marquee/api"
	"marquee/content"
)

// roomy are arrivals with something behind the end of the list, and behind that of each row.
func roomy() []api.Arrival {
	values := []api.Value{whole(3), text("a"), text("behind")}
	var l []api.Arrival
	for i := range 8 {
		values[0] = whole(i * 5 % 3)
		l = append(l, api.Arrival{Seq: i + 1, Time: i, Row: slices.Clone(values)[:2]})
	}
	return l[:6]
}

func deepCopy(l []api.Arrival) []api.Arrival {
	var fresh []api.Arrival
	for _, a := range l {
		a.Row = append([]api.Value(nil), a.Row...)
		fresh = append(fresh, a)
	}
	return fresh
}

// whole lists are compared, with what lies behind their ends and behind those of their rows.
func full(l []api.Arrival) []api.Arrival {
	l = slices.Clone(l[:cap(l)])
	for i := range l {
		l[i].Row = l[i].Row[:cap(l[i].Row)]
	}
	return l
}

// overwrite writes into all of a list, its rows, and what lies behind their ends.
func overwrite(l []api.Arrival) {
	l = l[:cap(l)]
	for i := range l {
		values := l[i].Row[:cap(l[i].Row)]
		for k := range values {
			values[k] = text("overwritten")
		}
		l[i] = api.Arrival{Seq: -1, Time: -1}
	}
}

// answers are all lists of arrivals that the package answers of l.
func answers(l []api.Arrival) [][]api.Arrival {
	var lists [][]api.Arrival
	for _, v := range views(all(), last(), first(), length(3), time(3), lengthBatch(2), timeBatch(2), unique(0), unique(1, 0), sorted(3, 0), sortedDesc(2, 0)) {
		lists = append(lists, content.One(v, l, 6))
		lists = append(lists, content.Of(views(v), l, 6))
		lists = append(lists, content.Of(views(v, all()), l, 6))
	}
	for _, d := range []api.Delta{content.Diff(nil, l), content.Diff(l, nil), content.Diff(l[:3], l[1:]), content.Diff(l, l)} {
		lists = append(lists, d.In, d.Out)
	}
	return lists
}

// R4: what goes in stays as it was, and no answer changes, whatever is written into another one.
func TestAnswersAreNew(t *testing.T) {
	l := roomy()
	was := deepCopy(full(l))
	lists := answers(l)
	var want [][]api.Arrival
	held := 0
	for _, a := range lists {
		want = append(want, deepCopy(a))
		held += len(a)
	}
	if held < 50 {
		t.Fatalf("only %d are held", held)
	}
	if !sameArrivals(full(l), was) {
		t.Fatalf("the calls changed what went in: %v", full(l))
	}
	for i := range lists {
		overwrite(lists[i])
		if !sameArrivals(full(l), was) {
			t.Fatalf("answer %d was part of what went in", i)
		}
		for k := i + 1; k < len(lists); k++ {
			if !sameArrivals(lists[k], want[k]) {
				t.Fatalf("answer %d is part of answer %d", i, k)
			}
		}
	}
}

// R4: no two rows of one answer share memory, even if those that went in do.
func TestRowsAreNew(t *testing.T) {
	l := roomy()
	for i := range l {
		l[i].Row = l[0].Row
	}
	want := deepCopy(l)
	for _, a := range append(answers(l)[:3], content.Diff(nil, l).In, content.Diff(l, nil).Out) {
		for i := range a {
			overwrite(a[i : i+1 : i+1])
			if i+1 < len(a) && !sameArrivals(a[i+1:], want[i+1:]) {
				t.Fatalf("row %d is part of another one: %v", i, a)
			}
		}
	}
}

// R4: what an answer says stays, whatever is written into what went in.
func TestNothingIsKept(t *testing.T) {
	l := roomy()
	lists := answers(l)
	var want [][]api.Arrival
	for _, a := range lists {
		want = append(want, deepCopy(a))
	}
	overwrite(l)
	for i := range lists {
		if !sameArrivals(lists[i], want[i]) {
			t.Fatalf("answer %d is part of what went in", i)
		}
	}
}

// R4: views that go in stay as they were, with their Cols and what lies behind these.
func TestViewsStay(t *testing.T) {
	cols := []int{4, 1, 0, 2, 1}
	v := unique(cols[:3]...)
	v.Cols = cols[:3]
	l := with(row(null, null, null, null, null), row(whole(1)))
	content.Check(v, 5)
	content.One(v, l, 0)
	content.Of(views(v, v), l, 0)
	content.Next(views(v, v), l, 0)
	if !slices.Equal(cols, []int{4, 1, 0, 2, 1}) {
		t.Errorf("%v", cols)
	}
	list := append(views(time(5), timeBatch(3)), sorted(2, 0))
	want := slices.Clone(list[:cap(list)])
	content.Of(list[:2], l, 0)
	content.Next(list[:2], l, 0)
	if !slices.EqualFunc(list[:cap(list)], want, func(a, b api.ViewSpec) bool {
		return a.Kind == b.Kind && a.N == b.N && slices.Equal(a.Cols, b.Cols) && a.Desc == b.Desc
	}) {
		t.Errorf("%v, want %v", list[:cap(list)], want)
	}
}

// R1: each call ends soon with very many arrivals: all unlike, all the same, in falling order.
func TestVeryMany(t *testing.T) {
	const many = 300000
	l := make([]api.Arrival, many)
	for i := range l {
		l[i] = api.Arrival{Seq: i + 1, Time: i, Row: row(whole(many-i), text("same"), whole(i%1000))}
	}
	for _, c := range []struct {
		v          api.ViewSpec
		begin, end int
	}{
		{all(), 1, many},
		{length(1000), many - 999, many},
		{time(1000), many - 999, many},
		{timeBatch(1000), many - 1999, many - 1000},
		{unique(0), 1, many},
		{unique(1), many, many},
		{unique(2), many - 999, many},
		{unique(1, 2), many - 999, many},
		{unique(2, 1, 0), 1, many},
		{sorted(1000, 0), many - 999, many},
		{sortedDesc(1000, 0), 1, 1000},
		{sorted(1000, 1), 1, 1000},
		{sortedDesc(1000, 1), 1, 1000},
	} {
		got := content.Of(views(c.v, all()), l, many-1)
		if !slices.Equal(seqs(got), from(c.begin, c.end)) {
			t.Errorf("Of(%v): %d from %v on", c.v, len(got), seqs(got)[:min(3, len(got))])
		}
	}
	wantVery := 3 * many
	if next, ok := content.Next(views(time(2*many+1), timeBatch(2*wantVery)), l, many-1); next != 2*many+1 || !ok {
		t.Errorf("Next: %d, %v", next, ok)
	}
	if d := content.Diff(l[:many-1], l[1:]); len(d.In) != 1 || len(d.Out) != 1 || d.In[0].Seq != many || d.Out[0].Seq != 1 {
		t.Errorf("Diff: %v, %v", len(d.In), len(d.Out))
	}
}
