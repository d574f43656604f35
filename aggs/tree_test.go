package aggs

import (
	"cmp"
	"math/rand"
	"slices"
	"testing"
)

func to(n int) way[int] { return func(item int) int { return cmp.Compare(n, item) } }

// wantTree: the tree holds just these, in their order, no side more than one higher than the other.
func wantTree(t *testing.T, x *tree[int], want []int) {
	t.Helper()
	var got []int
	var walk func(n *node[int]) int
	walk = func(n *node[int]) int {
		if n == nil {
			return 0
		}
		left := walk(n.left)
		got = append(got, n.item)
		right := walk(n.right)
		if lean := left - right; lean < -1 || lean > 1 || n.height != 1+max(left, right) {
			t.Fatalf("%d: %d and %d high, %d is told", n.item, left, right, n.height)
		}
		return n.height
	}
	walk(x.root)
	if !slices.Equal(got, want) || x.size != len(want) {
		t.Fatalf("%v, %d, want %v", got, x.size, want)
	}
	first, last := x.first(), x.last()
	if len(want) == 0 {
		if first != nil || last != nil {
			t.Fatalf("of nothing %v and %v", first, last)
		}
	} else if *first != want[0] || *last != want[len(want)-1] {
		t.Fatalf("%d and %d of %v", *first, *last, want)
	}
}

// R1: a tree is as low as it may be, so that no walk through it is long, whatever came and left.
func TestTreeByChance(t *testing.T) {
	c := rand.New(rand.NewSource(1))
	for range 200 {
		var x tree[int]
		var want []int
		most, adds := 1+c.Intn(60), 2+c.Intn(8)
		for range 150 {
			n := c.Intn(most)
			place, found := slices.BinarySearch(want, n)
			if got := x.seek(to(n)); (got != nil) != found || found && *got != n {
				t.Fatalf("seek of %d in %v: %v", n, want, got)
			}
			if !found && c.Intn(10) < adds {
				x.add(to(n), n)
				want = slices.Insert(want, place, n)
			} else if found {
				x.remove(to(n))
				want = slices.Delete(want, place, place+1)
			}
			wantTree(t, &x, want)
		}
	}
}

// R1: rows that only rise and only fall.
func TestTreeOfRows(t *testing.T) {
	for _, step := range []int{1, -1} {
		var x tree[int]
		var want []int
		for i := range 300 {
			n := i * step
			x.add(to(n), n)
			want = append(want, n)
			slices.Sort(want)
			wantTree(t, &x, want)
		}
		if high := x.root.height; high != 9 {
			t.Errorf("%d high", high)
		}
		for len(want) > 0 {
			x.remove(to(want[0]))
			want = want[1:]
			wantTree(t, &x, want)
		}
	}
}
