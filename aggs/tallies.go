package aggs

import (
	"cmp"

	"marquee/api"
	"marquee/value"
)

// held is a value with the number under which it is there.
type held struct {
	seq int
	v   api.Value
}

// tally is what an aggregate keeps of the values that play a part, as they come and leave.
type tally interface {
	come(h held)
	leave(h held)
	tell() (api.Value, api.Errno)
}

// tallyOf answers the tally of nothing that spec asks for; spec must be an aggregate.
func tallyOf(spec api.AggSpec) tally {
	var t tally
	switch spec.Name {
	case "count":
		t = &count{}
	case "sum":
		t = &sums{}
	case "avg":
		t = &sums{average: true}
	case "min":
		return &extreme{pick: pick{order: lesser}, distinct: spec.Distinct}
	case "max":
		return &extreme{pick: pick{order: greater}, distinct: spec.Distinct}
	case "first":
		return &pick{order: earlier}
	default:
		return &pick{order: later}
	}
	if spec.Distinct {
		return &unlike{tally: t}
	}
	return t
}

// count is how many there are.
type count struct {
	n int
}

func (c *count) come(held)  { c.n++ }
func (c *count) leave(held) { c.n-- }

func (c *count) tell() (api.Value, api.Errno) {
	return api.Value{Kind: api.KindInt, N: c.n}, api.OK
}

// total is how many numbers of one kind there are, and the sum of their N.
type total struct {
	n   int
	sum wide
}

// sums are the totals of both kinds of numbers, since those of one may leave again, and how many are no numbers.
type sums struct {
	ints, decs total
	others     int
	average    bool
}

func (s *sums) come(h held) {
	if t := s.of(h.v.Kind); t != nil {
		t.n++
		t.sum = t.sum.plus(h.v.N)
	} else {
		s.others++
	}
}

func (s *sums) leave(h held) {
	if t := s.of(h.v.Kind); t != nil {
		t.n--
		t.sum = t.sum.minus(h.v.N)
	} else {
		s.others--
	}
}

// of answers the total of a kind; nil, if it is none of numbers.
func (s *sums) of(kind int) *total {
	switch kind {
	case api.KindInt:
		return &s.ints
	case api.KindDec:
		return &s.decs
	}
	return nil
}

func (s *sums) tell() (api.Value, api.Errno) {
	kind := api.KindInt
	if s.decs.n > 0 {
		kind = api.KindDec
	}
	t := s.of(kind)
	switch all := s.ints.n + s.decs.n + s.others; {
	case all == 0:
		return api.Value{}, api.OK
	case all != t.n:
		return api.Value{}, api.ErrKind
	case s.average:
		return t.average(kind)
	}
	n, ok := t.sum.whole()
	return number(kind, n, ok)
}

func (t *total) average(kind int) (api.Value, api.Errno) {
	times := 1
	if kind == api.KindInt {
		times = api.Scale
	}
	n, ok := t.sum.share(times, t.n)
	return number(api.KindDec, n, ok)
}

func number(kind, n int, fits bool) (api.Value, api.Errno) {
	if !fits {
		return api.Value{}, api.ErrOver
	}
	return api.Value{Kind: kind, N: n}, api.OK
}

// unlike hands on of those that are the same the first that came and the last that left.
type unlike struct {
	tally
	known tree[known]
}

// known is a value, and how often it is there.
type known struct {
	v     api.Value
	times int
}

func (u *unlike) come(h held) {
	if k := u.known.seek(same(h.v)); k != nil {
		k.times++
		return
	}
	u.known.add(same(h.v), known{h.v, 1})
	u.tally.come(h)
}

func (u *unlike) leave(h held) {
	if k := u.known.seek(same(h.v)); k.times > 1 {
		k.times--
		return
	}
	u.known.remove(same(h.v))
	u.tally.leave(h)
}

// same leads to the value that is the same.
func same(v api.Value) way[known] {
	return func(k known) int { return value.Order(v, k.v) }
}

// numbered leads to the value that is there under a number.
func numbered(seq int) way[held] {
	return func(h held) int { return cmp.Compare(seq, h.seq) }
}

// pick tells the value that stands ahead of all others in an order.
type pick struct {
	order func(a, b held) int
	l     tree[held]
}

func (p *pick) come(h held)  { p.l.add(p.to(h), h) }
func (p *pick) leave(h held) { p.l.remove(p.to(h)) }

// to leads to the place of a value.
func (p *pick) to(h held) way[held] {
	return func(other held) int { return p.order(h, other) }
}

func (p *pick) tell() (api.Value, api.Errno) {
	first := p.l.first()
	if first == nil {
		return api.Value{}, api.OK
	}
	return first.v, api.OK
}

func earlier(a, b held) int { return cmp.Compare(a.seq, b.seq) }
func later(a, b held) int   { return cmp.Compare(b.seq, a.seq) }

// extreme is a pick by what the values are: an error, where two of them stand in no order.
type extreme struct {
	pick
	distinct bool
}

func (x *extreme) tell() (api.Value, api.Errno) {
	first, last := x.l.first(), x.l.last()
	if first != last && !x.together(first.v, last.v) {
		return api.Value{}, api.ErrKind
	}
	return x.pick.tell()
}

// together tells whether all values may be compared: just if the first and the last may be, since those between stand as these do. With distinct, those that are the same are one, which is compared with nothing.
func (x *extreme) together(first, last api.Value) bool {
	_, ok := value.Compare(first, last)
	return ok || x.distinct && value.Order(first, last) == 0
}

func lesser(a, b held) int  { return cmp.Or(rank(a.v, b.v), earlier(a, b)) }
func greater(a, b held) int { return cmp.Or(rank(b.v, a.v), earlier(a, b)) }

// rank is by what values are, where they may be compared; so 1 and 1.0 are the same, and the first of them is told.
func rank(a, b api.Value) int {
	if c, ok := value.Compare(a, b); ok {
		return c
	}
	return value.Order(a, b)
}
