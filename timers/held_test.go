package timers

import "testing"

// What went is held nowhere: neither behind the heap's end, nor by its number, nor by its Stmt.
func TestNothingIsHeldOfWhatWent(t *testing.T) {
	w := New()
	for round := range 3 {
		for i := range 100 {
			w.Set(i*37%100, i%10)
		}
		wantHeld(t, w, 100, 10)
		for i := range 10 {
			w.Cancel(100*round + 10*i + 1)
		}
		wantHeld(t, w, 90, 9)
		w.Drop(5)
		w.Drop(6)
		w.Drop(0)
		w.Cancel(1000)
		wantHeld(t, w, 70, 7)
		for _, ok := w.Pop(99); ok; _, ok = w.Pop(99) {
		}
		wantHeld(t, w, 0, 0)
	}
}

func wantHeld(t *testing.T, w *Wheel, items, stmts int) {
	t.Helper()
	if len(w.heap.items) != items || len(w.bySeq) != items || len(w.newest) != stmts {
		t.Errorf("%d in the heap, %d by number, %d Stmts, want %d of %d", len(w.heap.items), len(w.bySeq), len(w.newest), items, stmts)
	}
	for i, d := range w.heap.items[:cap(w.heap.items)] {
		if i >= items && d != nil {
			t.Errorf("behind the end at %d: %v", i, d.timer)
		}
	}
	linked := 0
	for stmt, d := range w.newest {
		if d.newer != nil {
			t.Errorf("%v is not the newest of %d", d.timer, stmt)
		}
		for ; d != nil; d = d.older {
			linked++
			if d.timer.Stmt != stmt || w.bySeq[d.timer.Seq] != d || w.heap.items[d.place] != d {
				t.Errorf("linked to %d: %v", stmt, d.timer)
			}
		}
	}
	if linked != items {
		t.Errorf("%d are linked, of %d", linked, items)
	}
}

// What does nothing leaves nothing behind.
func TestNothingIsHeldOfNothing(t *testing.T) {
	w := New()
	w.Cancel(1)
	w.Drop(1)
	w.Pop(1)
	wantHeld(t, w, 0, 0)
	w.Set(1, 1)
	w.Cancel(2)
	w.Drop(2)
	w.Pop(0)
	wantHeld(t, w, 1, 1)
}

// number is an item that is told where it lies.
type number struct{ n, place int }

func (x *number) ahead(other *number) bool { return x.n < other.n }

func (x *number) lie(place int) { x.place = place }

// A heap of whatever items tells each its place, and none lies below one that it is ahead of.
func TestHeapOfOthers(t *testing.T) {
	var h heap[*number]
	var l []*number
	for i := range 500 {
		x := &number{n: i * 7 % 101}
		l = append(l, x)
		h.put(x)
		checkHeap(t, &h, i+1)
	}
	for i := range l {
		h.take(l[i*3%500].place)
		checkHeap(t, &h, 499-i)
	}
}

func checkHeap(t *testing.T, h *heap[*number], many int) {
	t.Helper()
	if len(h.items) != many {
		t.Fatalf("%d items, want %d", len(h.items), many)
	}
	for i, x := range h.items {
		if x.place != i {
			t.Fatalf("at %d lies one that was told %d", i, x.place)
		}
		if i > 0 && x.ahead(h.items[(i-1)/2]) {
			t.Fatalf("at %d: %d lies below %d", i, x.n, h.items[(i-1)/2].n)
		}
	}
}
