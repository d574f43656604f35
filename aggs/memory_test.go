package aggs_test

import (
	"runtime"
	"slices"
	"strings"
	"testing"

	"marquee/aggs"
	"marquee/api"
)

// R4: what was handed in stays as it was, and what lies behind its end, too.
func TestNothingIsWritten(t *testing.T) {
	c := newChance(10)
	for range 3000 {
		s := c.spec()
		given := append(c.some(8), text("behind"))
		want := slices.Clone(given)
		of(s, given[:len(given)-1])
		if !slices.Equal(given, want) {
			t.Fatalf("%v: %v, was %v", s, given, want)
		}
	}
}

// R4: the values may be written over behind the call: an answer and what is kept stay as they were.
func TestNothingIsKeptOfTheList(t *testing.T) {
	c := newChance(12)
	for range 3000 {
		s, l := c.spec(), c.some(8)
		want := modelOf(s, l)
		m := newModel(t, s)
		given := slices.Clone(l)
		for i := range given {
			m.add(i, given[i])
		}
		got := of(s, given)
		for i := range given {
			given[i] = text("overwritten")
		}
		if got != want {
			t.Fatalf("%v of %v: %v, want %v", s, l, got, want)
		}
		m.tells()
	}
}

// R4: an aggregate's own spec is its own, and two that are alike share nothing.
func TestNothingIsShared(t *testing.T) {
	for _, s := range specs() {
		a, b := newModel(t, s), newModel(t, s)
		for i := range 20 {
			a.add(i, whole(i%7))
			b.tells()
		}
		for i := range 20 {
			b.add(i, whole(-i))
			a.tells()
			a.remove(i)
			b.tells()
		}
	}
}

// allocated is how much memory is held once what may go has gone.
func allocated() int {
	var m runtime.MemStats
	runtime.GC()
	runtime.ReadMemStats(&m)
	return int(m.HeapAlloc)
}

// Promise 17.4, T7: nothing is kept of what came and left.
func TestNothingIsKeptOfWhatLeft(t *testing.T) {
	const many, slack = 20000, 200000
	for _, s := range specs() {
		a := aggs.New(s)
		before := allocated()
		for i := range many {
			a.Add(i, text(strings.Repeat("x", 20)+string(rune('a'+i%26))))
		}
		during := allocated()
		for i := range many {
			a.Remove(i)
		}
		if after := allocated(); after > before+slack || during < before+slack {
			t.Errorf("%v: %d bytes ahead, %d then, %d behind", s, before, during, after)
		}
		runtime.KeepAlive(a)
	}
}

// T7: of texts that no answer tells, and that are held against no other, nothing is kept.
func TestNoTextIsKeptWhereNoneIsNeeded(t *testing.T) {
	const many, slack = 1000, 1 << 21
	for _, s := range specs() {
		a := aggs.New(s)
		before := allocated()
		for i := range many {
			a.Add(i, text(strings.Repeat("x", 10000)+string(rune('a'+i%26))))
		}
		kept := allocated()-before > slack
		needed := s.Name != "sum" && s.Name != "avg" && (s.Name != "count" || s.Distinct)
		if kept != needed {
			t.Errorf("%v: texts are kept: %v", s, kept)
		}
		runtime.KeepAlive(a)
	}
	if e := aggs.Check(api.AggSpec{Name: "count"}); e != api.OK {
		t.Error(e)
	}
}
