package aggs_test

import (
	"testing"

	"marquee/aggs"
	"marquee/api"
)

// R1: a step takes no longer since many are there: told after each, they come, stay and leave, by numbers and values that rise, fall and go to and fro.
func TestMany(t *testing.T) {
	const many, width = 100000, api.MaxSize
	for _, s := range specs() {
		for _, turn := range []func(int) int{func(i int) int { return i }, func(i int) int { return -i }, func(i int) int { return i * 7919 % many }} {
			a := aggs.New(s)
			for i := range many {
				a.Add(turn(i), whole(turn(many-i)))
				if i >= width {
					a.Remove(turn(i - width))
				}
				if got := valueOf(a); got.e != api.OK {
					t.Fatalf("%v: %v", s, got)
				}
			}
			if a.Len() != width {
				t.Fatalf("%v: %d are there", s, a.Len())
			}
		}
	}
}

// The bound: of many values at once, all unlike and all the same.
func TestOfMany(t *testing.T) {
	const many = 100000
	unlike, same := make([]api.Value, many), make([]api.Value, many)
	sum := 0
	for i := range many {
		unlike[i], same[i] = whole(i*7919%many), whole(greatest)
		sum += unlike[i].N
	}
	for _, s := range specs() {
		want, of1 := ok(whole(many)), ok(whole(greatest))
		switch s.Name {
		case "sum":
			want = ok(whole(sum))
		case "avg":
			want = ok(dec(sum * api.Scale / many))
		case "min", "first":
			want = ok(whole(0))
		case "max":
			want = ok(whole(many - 1))
		case "last":
			want = ok(unlike[many-1])
		}
		switch {
		case s.Name == "count" && s.Distinct:
			of1 = ok(whole(1))
		case s.Name == "count":
			of1 = ok(whole(many))
		case s.Name == "avg", s.Name == "sum" && !s.Distinct:
			of1 = fails(api.ErrOver)
		}
		if got := of(s, unlike); got != want {
			t.Errorf("%v: %v, want %v", s, got, want)
		}
		if got := of(s, same); got != of1 {
			t.Errorf("%v: %v, want %v", s, got, of1)
		}
	}
}
