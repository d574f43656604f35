package tree

import (
	"testing"

	"marquee/api"
)

// Promise 6.2: the sequence tells trees in pre-order with their depths, and no more once a loop has left it.
func TestTreesInPreOrder(t *testing.T) {
	leaf := func(n int) api.Node { return api.Node{Kind: api.Int, N: n} }
	in := func(n int, kids ...api.Node) api.Node { return api.Node{Kind: api.List, N: n, Kids: kids} }
	n := in(0, in(1, leaf(2), in(3, leaf(4))), leaf(5), in(6, leaf(7)))
	depths := []int{1, 2, 3, 3, 4, 2, 2, 3}
	for last := range depths {
		told := 0
		for k, depth := range trees(n, enterAll) {
			if k.N != told || depth != depths[told] {
				t.Errorf("%d with depth %d is told at %d", k.N, depth, told)
			}
			if told == last {
				break
			}
			told++
		}
		if told != last {
			t.Errorf("%d are told, want %d", told, last)
		}
	}
}
