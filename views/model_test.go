package views_test

import (
	"fmt"
	"slices"
	"testing"

	"marquee/api"
	"marquee/content"
	"marquee/views"
)

func show(a api.Arrival) string { return fmt.Sprint(a) }

// model is a set by the chapter's words: all that it took, and its time. Beside it goes the set that is held against it.
type model struct {
	t     *testing.T
	specs []api.ViewSpec
	took  []api.Arrival
	time  int
	set   *views.Set
}

func (m *model) holds() []api.Arrival { return content.Of(m.specs, m.took, m.time) }

func (m *model) refuses(a api.Arrival) bool {
	above := 0
	if len(m.took) > 0 {
		above = m.took[len(m.took)-1].Seq
	}
	return a.Seq <= above || a.Time < m.time || a.Time > api.MaxTime
}

// add answers what the set told, and whether a was to be taken.
func (m *model) add(a api.Arrival) (api.Delta, bool) {
	m.t.Helper()
	was, refused := m.holds(), m.refuses(a)
	if !refused {
		m.time = a.Time
		m.took = append(m.took, deepCopy([]api.Arrival{a})...)
	}
	got := m.set.Add(a)
	m.check("Add of "+show(a), got, was)
	return got, !refused
}

func (m *model) advance(now int) (api.Delta, bool) {
	m.t.Helper()
	was, refused := m.holds(), now < m.time || now > api.MaxTime
	if !refused {
		m.time = now
	}
	got := m.set.Advance(now)
	m.check(fmt.Sprint("Advance to ", now), got, was)
	return got, !refused
}

// check holds the delta against Diff, and what the set answers behind it against what is held of all that it took.
func (m *model) check(what string, got api.Delta, was []api.Arrival) {
	m.t.Helper()
	holds := m.holds()
	want := content.Diff(was, holds)
	if !sameArrivals(got.In, want.In) || !sameArrivals(got.Out, want.Out) {
		m.t.Fatalf("%v, took %v: %s: %v, want %v", m.specs, m.took, what, got, want)
	}
	if held := m.set.Content(); !sameArrivals(held, holds) || m.set.Len() != len(holds) {
		m.t.Fatalf("%v, took %v: behind %s: %v (%d), want %v", m.specs, m.took, what, held, m.set.Len(), holds)
	}
	next, found := content.Next(m.specs, m.took, m.time)
	if time, ok := m.set.Next(); time != next || ok != found {
		m.t.Fatalf("%v, took %v: behind %s: Next is %d, %v, want %d, %v", m.specs, m.took, what, time, ok, next, found)
	}
}

// mayBe: a set may be of these views.
func mayBe(specs []api.ViewSpec, columns int) bool {
	return 0 < len(specs) && len(specs) <= 4 && !slices.ContainsFunc(specs, func(v api.ViewSpec) bool {
		return content.Check(v, columns) != api.OK
	})
}
