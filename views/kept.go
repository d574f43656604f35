package views

import (
	"cmp"
	"slices"

	"marquee/api"
)

// arrival is one that a set took.
type arrival struct {
	api.Arrival
	place         int // 1 is that of the first one
	holders       int // how many views hold it, or held it
	told          bool
	gone          bool // a view will never hold it any more, so that the set will not
	ahead, behind *arrival
}

// kept are the arrivals that a set holds or may hold yet, by their places.
type kept struct {
	first, last *arrival
	places      int
	held        int
}

// add keeps a copy of a behind all others.
func (k *kept) add(a api.Arrival) *arrival {
	k.places++
	fresh := &arrival{Arrival: copyOf(a), place: k.places, ahead: k.last}
	if k.last == nil {
		k.first = fresh
	} else {
		k.last.behind = fresh
	}
	k.last = fresh
	return fresh
}

// remove lets a forget its neighbours, too: who still knows a holds none of them by it.
func (k *kept) remove(a *arrival) {
	if a.ahead == nil {
		k.first = a.behind
	} else {
		a.ahead.behind = a.behind
	}
	if a.behind == nil {
		k.last = a.ahead
	} else {
		a.behind.ahead = a.ahead
	}
	a.ahead, a.behind = nil, nil
}

// content answers those that were told as held.
func (k *kept) content() []api.Arrival {
	var l []api.Arrival
	for a := k.first; a != nil; a = a.behind {
		if a.told {
			l = append(l, copyOf(a.Arrival))
		}
	}
	return l
}

// step is what one call changes of what is kept.
type step struct {
	kept          *kept
	views         int
	entered, left []*arrival
}

// hold: one more view holds a.
func (s *step) hold(a *arrival) {
	a.holders++
	if a.holders == s.views {
		s.entered = append(s.entered, a)
	}
}

// holdAll: one more view holds all that are kept.
func (s *step) holdAll() {
	for a := s.kept.first; a != nil; a = a.behind {
		s.hold(a)
	}
}

// drop: a view will never hold a any more.
func (s *step) drop(a *arrival) {
	if a.gone {
		return
	}
	a.gone = true
	s.kept.remove(a)
	s.left = append(s.left, a)
}

// dropWhile drops from the first one on as long as they are over.
func (s *step) dropWhile(over func(a *arrival) bool) {
	for s.kept.first != nil && over(s.kept.first) {
		s.drop(s.kept.first)
	}
}

// tell answers what came in and what went out. What came in and went in the same step did neither. What went out is not kept, so that its row need not be copied.
func (s *step) tell() api.Delta {
	var d api.Delta
	for _, a := range s.left {
		if a.told {
			d.Out = append(d.Out, a.Arrival)
		}
	}
	for _, a := range s.entered {
		if !a.gone {
			a.told = true
			d.In = append(d.In, copyOf(a.Arrival))
		}
	}
	s.kept.held += len(d.In) - len(d.Out)
	slices.SortFunc(d.In, bySeq)
	slices.SortFunc(d.Out, bySeq)
	return d
}

func bySeq(a, b api.Arrival) int { return cmp.Compare(a.Seq, b.Seq) }

func copyOf(a api.Arrival) api.Arrival {
	a.Row = slices.Clone(a.Row)
	return a
}
