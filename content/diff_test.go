package content_test

import (
	"slices"
	"testing"

	"marquee/api"
)

// Promise 15.3: lists that are the same, that share nothing, that share some, that are empty.
func TestDiff(t *testing.T) {
	l := came(0, 1, 5, 5, 8, 9)
	for _, c := range []struct{ old, fresh, in, out []int }{
		{nil, nil, nil, nil},
		{nil, []int{1, 2, 3}, []int{1, 2, 3}, nil},
		{[]int{1, 2, 3}, nil, nil, []int{1, 2, 3}},
		{[]int{1, 2, 3}, []int{1, 2, 3}, nil, nil},
		{[]int{1, 2, 3}, []int{4, 5, 6}, []int{4, 5, 6}, []int{1, 2, 3}},
		{[]int{4, 5, 6}, []int{1, 2, 3}, []int{1, 2, 3}, []int{4, 5, 6}},
		{[]int{1, 3, 5}, []int{2, 4, 6}, []int{2, 4, 6}, []int{1, 3, 5}},
		{[]int{1, 2, 3}, []int{2, 3, 4}, []int{4}, []int{1}},
		{[]int{1, 2, 3}, []int{3}, nil, []int{1, 2}},
		{[]int{1, 2, 3}, []int{2}, nil, []int{1, 3}},
		{[]int{2}, []int{1, 2, 3}, []int{1, 3}, nil},
		{[]int{1, 3, 4, 6}, []int{2, 3, 5, 6}, []int{2, 5}, []int{1, 4}},
		{[]int{1, 2, 3, 4, 5, 6}, []int{6}, nil, []int{1, 2, 3, 4, 5}},
		{[]int{1}, []int{1, 2, 3, 4, 5, 6}, []int{2, 3, 4, 5, 6}, nil},
	} {
		wantDiff(t, those(l, c.old...), those(l, c.fresh...), those(l, c.in...), those(l, c.out...))
	}
}

// Promise 15.3: all lists of few Seqs.
func TestDiffOfAllSmallLists(t *testing.T) {
	l := came(0, 1, 5, 5)
	part := func(bits, without int) []api.Arrival {
		var some []api.Arrival
		for i, a := range l {
			if bits&^without>>i&1 == 1 {
				some = append(some, a)
			}
		}
		return some
	}
	for old := range 16 {
		for fresh := range 16 {
			wantDiff(t, part(old, 0), part(fresh, 0), part(fresh, old), part(old, fresh))
		}
	}
}

// Promise 15.3: it is the Seq alone that counts: neither Time nor Row.
func TestDiffBySeqAlone(t *testing.T) {
	old, fresh := came(1, 2, 3), came(4, 5, 6)
	for i := range fresh {
		fresh[i].Row = row(text("other"), null)
	}
	wantDiff(t, old, fresh, nil, nil)
	wantDiff(t, old[:2], fresh[1:], fresh[2:], old[:1])
	for i := range fresh {
		fresh[i] = old[i]
		fresh[i].Seq += 100
	}
	wantDiff(t, old, fresh, fresh, old)
}

// Promise 15.3: Seqs may be any numbers.
func TestDiffOfEdges(t *testing.T) {
	for i, a := range edges {
		for j, b := range edges {
			old, fresh := came(0), came(1)
			old[0].Seq, fresh[0].Seq = a, b
			if i == j {
				wantDiff(t, old, fresh, nil, nil)
			} else {
				wantDiff(t, old, fresh, fresh, old)
			}
		}
	}
}

// Promise 15.3: the words say nothing of an order, so each list is told in its own, and one Seq twice is told twice.
func TestDiffOfListsInNoOrder(t *testing.T) {
	l := came(0, 1, 2, 3, 4)
	backward := slices.Clone(l)
	slices.Reverse(backward)
	wantDiff(t, backward, l, nil, nil)
	wantDiff(t, l[1:2], backward, []api.Arrival{l[4], l[3], l[2], l[0]}, nil)
	wantDiff(t, backward, l[3:4], nil, []api.Arrival{l[4], l[2], l[1], l[0]})
	twice := append(slices.Clone(l[:2]), l[:2]...)
	wantDiff(t, l[:1], twice, []api.Arrival{l[1], l[1]}, nil)
	wantDiff(t, twice, l[1:], l[2:], []api.Arrival{l[0], l[0]})
}
