package aggs_test

import (
	"testing"

	"marquee/aggs"
	"marquee/api"
	"marquee/value"
)

// some are values of a mix, by chance.
func (c chance) some(most int) []api.Value {
	one := c.mix()
	var l []api.Value
	for range c.Intn(most + 1) {
		l = append(l, one())
	}
	return l
}

// twins are numbers of which many are the same, of both kinds.
func (c chance) twins(most int) []api.Value {
	var l []api.Value
	for range c.Intn(most + 1) {
		n := c.Intn(3)
		l = append(l, []api.Value{whole(n), dec(n * api.Scale)}[c.Intn(2)])
	}
	return l
}

// Promise 17.4: what came and left plays no part: an aggregate that saw much tells what one tells to which only the rest came.
func TestWhatLeftPlaysNoPart(t *testing.T) {
	c := newChance(5)
	for range 5000 {
		s := c.spec()
		a, b := aggs.New(s), aggs.New(s)
		stay, noise := c.some(6), c.some(10)
		for i, v := range noise {
			a.Add(i, v)
			if c.Intn(4) == 0 {
				a.Value()
			}
		}
		for i, v := range stay {
			a.Add(2*i+1, v)
			b.Add(2*i+1, v)
		}
		for _, i := range c.Perm(len(noise)) {
			if i%2 == 0 || i/2 >= len(stay) {
				a.Remove(i)
			}
		}
		if got, want := valueOf(a), valueOf(b); got != want || a.Len() != b.Len() {
			t.Fatalf("%v of %v behind %v: %v, want %v", s, stay, noise, got, want)
		}
	}
}

// Promises 17.3 and 17.2 together: Value is Of of what is there by rising numbers, in whatever order it came.
func TestValueIsOf(t *testing.T) {
	c := newChance(6)
	for range 5000 {
		s, l := c.spec(), c.some(8)
		a := aggs.New(s)
		for _, i := range c.Perm(len(l)) {
			a.Add(i*3-7, l[i])
		}
		if got, want := valueOf(a), of(s, l); got != want {
			t.Fatalf("%v of %v: %v, want %v", s, l, got, want)
		}
	}
}

// Promise 17.4: count, sum, avg, min and max hang on no order of the values, but which of the same ones min and max tell: the first.
func TestTurnedAbout(t *testing.T) {
	c := newChance(7)
	alike, other := 0, 0
	for range 20000 {
		s, l := c.spec(), c.some(8)
		if c.Intn(2) == 0 {
			l = c.twins(8)
		}
		if s.Name == "first" || s.Name == "last" {
			continue
		}
		turned := make([]api.Value, len(l))
		for i, place := range c.Perm(len(l)) {
			turned[i] = l[place]
		}
		a, b := of(s, l), of(s, turned)
		if a == b {
			alike++
			continue
		}
		other++
		if n, ok := value.Compare(a.v, b.v); s.Name != "min" && s.Name != "max" || a.e != api.OK || b.e != api.OK || n != 0 || !ok {
			t.Fatalf("%v of %v: %v, of %v: %v", s, l, a, turned, b)
		}
	}
	if alike < 5000 || other < 300 {
		t.Errorf("%d alike, %d not", alike, other)
	}
}

// Promise 17.2: nulls laid between change nothing but count(*); first and last, like all others, do not see them.
func TestNullsBetween(t *testing.T) {
	c := newChance(8)
	for range 5000 {
		s, l := c.spec(), c.some(8)
		if s.All {
			continue
		}
		var with []api.Value
		for _, v := range l {
			with = append(with, null, v)
		}
		if a, b := of(s, l), of(s, append(with, null)); a != b {
			t.Fatalf("%v of %v: %v, with nulls: %v", s, l, a, b)
		}
	}
}

// Promise 17.2: of values twice in a row each Distinct aggregate tells what it tells of them once.
func TestDistinctOfTwice(t *testing.T) {
	c := newChance(9)
	for range 5000 {
		s, l := c.spec(), c.some(8)
		if !s.Distinct {
			continue
		}
		if a, b := of(s, l), of(s, append(l[:len(l):len(l)], l...)); a != b {
			t.Fatalf("%v of %v: %v, twice: %v", s, l, a, b)
		}
	}
}

// R5: the same calls have the same answers.
func TestSameCallsSameAnswers(t *testing.T) {
	for _, s := range specs() {
		for seed := range int64(20) {
			c, d := newChance(seed), newChance(seed)
			a, b := aggs.New(s), aggs.New(s)
			for range 50 {
				a.Add(c.seq(9), c.any())
				b.Add(d.seq(9), d.any())
				if a.Remove(c.seq(9)) != b.Remove(d.seq(9)) || valueOf(a) != valueOf(b) || a.Len() != b.Len() {
					t.Fatalf("%v: %v and %v", s, valueOf(a), valueOf(b))
				}
			}
		}
	}
}
