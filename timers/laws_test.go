package timers_test

import (
	"math"
	"slices"
	"testing"

	"marquee/api"
	"marquee/timers"
)

// Promises 14.1, 14.2: rows of calls by chance held against the chapter's words, the order looked at as a whole behind every call.
func TestCallsByChance(t *testing.T) {
	done := map[string]int{}
	for seed := range int64(60) {
		c := newNumbers(seed, 2+int(seed)%7*3)
		b := newBoth()
		for step := range 600 {
			// By turns it grows, and shrinks to nothing.
			b.call(t, c, 7-step/150%2*5)
			wantAll(t, b.wheel, b.model.list...)
		}
		wantPops(t, b.wheel, math.MaxInt, b.model.list...)
		for call, n := range b.done {
			done[call] += n
		}
	}
	for _, call := range []string{"Set", "Cancel", "Cancel of nothing", "Drop", "Drop of nothing", "Pop", "Pop of nothing"} {
		if done[call] < 500 {
			t.Errorf("too few of a call: %v", done)
		}
	}
}

// Promises 14.1, 14.2: the same of a wheel of many, looked at as a whole now and then.
func TestManyByChance(t *testing.T) {
	c := newNumbers(1000, 300)
	b := newBoth()
	for step := range 8000 {
		b.call(t, c, 8-step/4000*5)
		if step%100 == 0 {
			wantAll(t, b.wheel, b.model.list...)
		}
	}
	wantAll(t, b.wheel, b.model.list...)
	wantPops(t, b.wheel, math.MaxInt, b.model.list...)
}

// byChance is a wheel of some timers, of which others went; the same at each call with the same seed.
func byChance(t *testing.T, seed int64) (*timers.Wheel, []api.Timer) {
	t.Helper()
	b := newBoth()
	c := newNumbers(seed, 12)
	for range 60 {
		b.call(t, c, 8)
	}
	return b.wheel, b.model.list
}

// Promise 14.3, T5: what is popped up to d1, and then up to d2, is what is popped up to d2 at once.
func TestPopInTwoSteps(t *testing.T) {
	for seed := range int64(100) {
		for d1 := -1; d1 < 14; d1++ {
			for d2 := d1; d2 < 14; d2 += 3 {
				w, _ := byChance(t, seed)
				once, _ := byChance(t, seed)
				steps := append(popped(w, d1), popped(w, d2)...)
				atOnce := popped(once, d2)
				if !slices.Equal(steps, atOnce) || !slices.Equal(w.All(), once.All()) {
					t.Fatalf("up to %d and %d: %v, at once %v", d1, d2, steps, atOnce)
				}
			}
		}
	}
}

// Promise 14.3: up to a time all are popped that are due then, by the order, and no others.
func TestPopUpTo(t *testing.T) {
	for seed := range int64(100) {
		for _, now := range append(edges, 3, 4, 5, 6, 7, 8, 9, 10, 11, 12) {
			w, l := byChance(t, seed)
			due := 0
			for due < len(l) && l[due].At <= now {
				due++
			}
			wantPops(t, w, now, l[:due]...)
			wantAll(t, w, l[due:]...)
		}
	}
}

// Promise 14.3: each timer goes once at most: what went in one way goes in none again.
func TestEachGoesOnce(t *testing.T) {
	for seed := range int64(100) {
		c := newNumbers(seed, 8)
		w := timers.New()
		went, given := map[int]int{}, 0
		for range 300 {
			l := w.All()
			seq := c.Intn(given + 2)
			switch c.Intn(6) {
			case 0:
				if w.Cancel(seq) {
					went[seq]++
				}
			case 1:
				if x, ok := w.Pop(c.any()); ok {
					went[x.Seq]++
				}
			case 2:
				stmt := c.any()
				dropped := w.Drop(stmt)
				for _, x := range l {
					if x.Stmt == stmt {
						went[x.Seq]++
						dropped--
					}
				}
				if dropped != 0 {
					t.Fatalf("Drop(%d) of %v: %d too many", stmt, l, dropped)
				}
			default:
				given = w.Set(c.any(), c.any()).Seq
			}
		}
		for _, x := range popped(w, math.MaxInt) {
			went[x.Seq]++
		}
		for seq := 1; seq <= given; seq++ {
			if went[seq] != 1 {
				t.Fatalf("%d went %d times", seq, went[seq])
			}
		}
		if len(went) != given || w.Len() != 0 {
			t.Fatalf("%d went, of %d; %d are left", len(went), given, w.Len())
		}
	}
}

// R5: the same calls have the same answers, though much of it stands in maps.
func TestSameCallsSameAnswers(t *testing.T) {
	for range 5 {
		w, l := byChance(t, 7)
		wantAll(t, w, l...)
		w, l = byChance(t, 8)
		wantPops(t, w, math.MaxInt, l...)
	}
}

// R4: a list that All gave stays as it was whatever comes behind, and a wheel stays as it was whatever is written into such a list.
func TestAllIsNew(t *testing.T) {
	w := timers.New()
	for i := range 9 {
		wantSet(t, w, 10-i, i%2, i+1)
	}
	want := w.All()
	first, second := w.All(), w.All()
	for i := range first {
		first[i] = timer(-i, 77, 99-i)
	}
	_ = append(first[:3], timer(0, 0, 1), timer(0, 0, 2))
	_ = append(second, timer(0, 0, 3), timer(0, 0, 4))
	slices.Reverse(first)
	if !slices.Equal(second, want) {
		t.Errorf("another answer: %v", second)
	}
	wantAll(t, w, want...)
	wantSet(t, w, 0, 0, 10)
	wantCancel(t, w, 9, true)
	wantDrop(t, w, 1, 4)
	wantDrop(t, w, 77, 0)
	wantPop(t, w, 4, timer(0, 0, 10))
	wantPop(t, w, 4, timer(4, 0, 7))
	wantSet(t, w, 1, 1, 11)
	if !slices.Equal(second, want) {
		t.Errorf("what All gave: %v, want %v", second, want)
	}
	wantAll(t, w, timer(1, 1, 11), timer(6, 0, 5), timer(8, 0, 3), timer(10, 0, 1))
}

// R5: what is done to one wheel is nothing to another one.
func TestTwoWheels(t *testing.T) {
	c := newNumbers(5, 10)
	a, b := newBoth(), newBoth()
	for range 2000 {
		if c.Intn(2) == 0 {
			a, b = b, a
		}
		a.call(t, c, 6)
		wantAll(t, a.wheel, a.model.list...)
		wantAll(t, b.wheel, b.model.list...)
	}
}

// Each call ends soon with very many timers there: those of one Stmt, each of a Stmt of its own, and cancelled one by one.
func TestVeryMany(t *testing.T) {
	const many = 100000
	w := timers.New()
	for i := range many {
		wantSet(t, w, i*7919%many, 1, 3*i+1)
		wantSet(t, w, i*7919%many, -i, 3*i+2)
		wantSet(t, w, i*7919%many, 2, 3*i+3)
	}
	for i := range many {
		wantDrop(t, w, -i, 1)
		wantCancel(t, w, 3*(many-i), true)
		wantDrop(t, w, -i, 0)
		wantDrop(t, w, 3, 0)
	}
	for at := range many / 2 {
		x, ok := w.Pop(at)
		if x.At != at || x.Stmt != 1 || !ok {
			t.Fatalf("Pop(%d): %v, %v", at, x, ok)
		}
	}
	wantDrop(t, w, 1, many/2)
	wantAll(t, w)
}
