package print

import (
	"strconv"
	"strings"

	"marquee/api"
)

// A piece is what is written at once. Of which type it is says where blanks stand beside it.
type piece interface {
	source() string
}

// A plain piece (a word, a name, a value, a sign) stands apart from what is beside it.
type plain string

// An opening bracket stands close to what is behind it.
type opening string

// A closing piece stands close to what is ahead of it.
type closing string

// A joint stands close to what is on either side: it holds a name and what belongs to that together, as a bracket behind a name does.
type joint string

// A minus is the sign of one operand. It stands close to that, but not to another minus: the two would begin a note.
type minus string

func (p plain) source() string   { return string(p) }
func (p opening) source() string { return string(p) }
func (p closing) source() string { return string(p) }
func (p joint) source() string   { return string(p) }
func (p minus) source() string   { return string(p) }

// A writer lays pieces one behind the other. The last one is nil as long as there is none.
type writer struct {
	text strings.Builder
	last piece
}

func (w *writer) put(p piece) {
	if leavesBlank(w.last, p) && !standsClose(p) {
		w.text.WriteByte(' ')
	}
	w.text.WriteString(p.source())
	w.last = p
}

// leavesBlank tells whether what is ahead lets a blank stand between it and p.
func leavesBlank(ahead, p piece) bool {
	switch ahead.(type) {
	case nil, opening, joint:
		return false
	case minus:
		_, again := p.(minus)
		return again
	}
	return true
}

// standsClose tells whether p is close to what is ahead, whatever that is.
func standsClose(p piece) bool {
	switch p.(type) {
	case closing, joint:
		return true
	}
	return false
}

// words puts each as a plain piece.
func (w *writer) words(l ...string) {
	for _, s := range l {
		w.put(plain(s))
	}
}

// within puts an opening bracket, what is written, and the bracket that closes it.
func (w *writer) within(open piece, write func(), shut string) {
	w.put(open)
	write()
	w.put(closing(shut))
}

// list puts things with a , between.
func (w *writer) list(l []api.Node, thing func(api.Node)) {
	for i, n := range l {
		if i > 0 {
			w.put(closing(","))
		}
		thing(n)
	}
}

// ranked puts brackets around what is written just where its rank is less than its place asks for.
func (w *writer) ranked(n api.Node, write func(api.Node), rank, least int) {
	if rank >= least {
		write(n)
		return
	}
	w.within(opening("("), func() { write(n) }, ")")
}

func number(n int) string {
	return strconv.Itoa(n)
}

func period(n int) string {
	return number(n) + "ms"
}
