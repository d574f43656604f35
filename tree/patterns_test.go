package tree_test

import (
	"testing"

	"marquee/api"
	"marquee/tree"
)

// Promise 6.1.
func TestEventsOfPatterns(t *testing.T) {
	for _, s := range goodIds() {
		checkForm(t, api.FormPattern, event(s), node(api.PatEvent, "A", 0, none(), name(s)))
	}
	for _, s := range append(badIds(), "") {
		checkForm(t, api.FormNone, event(s), node(api.PatEvent, "A", 0, none(), name(s)))
	}
	for _, e := range exprs() {
		checkForm(t, api.FormPattern, node(api.PatEvent, "A", 0, e, none()), node(api.PatEvent, "A", 0, e, name("a")))
		checkForm(t, api.FormNone, node(api.PatEvent, "A", 0, none(), e))
	}
	checkForm(t, api.FormNone, node(api.PatEvent, "A", 0), node(api.PatEvent, "A", 0, none()), node(api.PatEvent, "A", 0, none(), none(), none()), node(api.PatEvent, "A", 0, col("a"), name("a"), none()))
	checkForm(t, api.FormNone, node(api.PatEvent, "A", 1, none(), none()), node(api.PatEvent, "A", 0, name("a"), none()), node(api.PatEvent, "A", 0, name("a"), col("a")), node(api.PatEvent, "A", 0, whole(-1), none()))
}

// Promise 6.1: a None is one where it is zero beside its At.
func TestNones(t *testing.T) {
	checkForm(t, api.FormNone, none())
	for _, n := range []api.Node{node(api.None, "a", 0), node(api.None, "", 1), node(api.None, "", -1), node(api.None, "", 0, none()), {}, star(), list()} {
		checkForm(t, api.FormNone, node(api.PatEvent, "A", 0, n, none()), node(api.PatEvent, "A", 0, none(), n))
		checkForm(t, api.FormNone, selectWith(intoAt, n), selectWith(whereAt, n), selectWith(havingAt, n), selectWith(rateAt, n))
	}
	checkForm(t, api.FormPattern, node(api.PatEvent, "A", 0, api.Node{Kind: api.None, At: 7}, api.Node{Kind: api.None, At: -7}))
	for _, kind := range []int{api.PatEvery, api.PatThen, api.PatOr, api.PatAnd, api.PatWithin} {
		checkForm(t, api.FormNone, node(kind, "", 0, none()), node(kind, "", 0, none(), none()), node(kind, "", 0, event("A"), none()), node(kind, "", 0, none(), event("A")))
	}
	for _, at := range []int{itemsAt, fromAt, groupsAt, ordersAt} {
		checkForm(t, api.FormNone, selectWith(at, none()))
	}
}

// Promise 6.1.
func TestHowManyKidsOfPatterns(t *testing.T) {
	for _, x := range []struct{ kind, may int }{{api.PatEvery, 1}, {api.PatThen, 2}, {api.PatOr, 2}, {api.PatAnd, 2}, {api.PatTimer, 0}, {api.PatWithin, 1}, {api.PatNot, -1}} {
		for many := range 5 {
			want := api.FormNone
			if many == x.may {
				want = api.FormPattern
			}
			kids := repeat(event("A"), many)
			checkForm(t, want, node(x.kind, "", 0, kids...))
			checkForm(t, api.FormNone, node(x.kind, "a", 0, kids...), node(x.kind, "", -1, kids...))
			if x.kind != api.PatTimer && x.kind != api.PatWithin {
				checkForm(t, api.FormNone, node(x.kind, "", 1, kids...))
			}
		}
	}
}

// Promise 6.1.
func TestTimes(t *testing.T) {
	for _, n := range []int{0, 1, 1000, api.MaxTime - 1, api.MaxTime} {
		checkForm(t, api.FormPattern, timer(n), node(api.PatWithin, "", n, event("A")))
	}
	for _, n := range []int{-1, api.MaxTime + 1} {
		checkForm(t, api.FormNone, timer(n), node(api.PatWithin, "", n, event("A")))
	}
	checkForm(t, api.FormNone, node(api.PatTimer, "ms", 5), node(api.PatTimer, "", 5, event("A")), node(api.PatWithin, "ms", 5, event("A")), node(api.PatTimer, "", 5, none()))
}

// Promise 6.1: a PatNot stands as the second part of a PatAnd alone.
func TestNots(t *testing.T) {
	a, no := event("A"), not(event("B"))
	and := func(kids ...api.Node) api.Node { return node(api.PatAnd, "", 0, kids...) }
	checkForm(t, api.FormPattern, and(a, no), and(and(a, no), no), and(a, and(a, no)), node(api.PatOr, "", 0, and(a, no), and(a, no)), and(a, not(and(a, no))))
	checkForm(t, api.FormNone, no, and(no, a), and(no, no), and(no), and(a, no, no), and(a, a, no), and(a, not(no)), not(and(a, no)))
	checkForm(t, api.FormNone, node(api.PatEvery, "", 0, no), node(api.PatThen, "", 0, a, no), node(api.PatThen, "", 0, no, a), node(api.PatOr, "", 0, a, no), node(api.PatOr, "", 0, no, a), node(api.PatWithin, "", 1, no))
	checkForm(t, api.FormNone, and(a, not()), and(a, not(a, a)), and(a, node(api.PatNot, "not", 0, a)), and(a, node(api.PatNot, "", 1, a)), and(a, not(col("a"))))
	checkForm(t, api.FormNone, selectWith(fromAt, node(api.Pattern, "", 0, no, none())), partition(spans(stream("A"), no)))
}

// Promise 6.1: in the place of each pattern within another one there may be any pattern, and nothing else.
func TestKidsOfPatterns(t *testing.T) {
	for _, n := range patterns() {
		if n.Kind == api.PatEvent {
			continue
		}
		for i, k := range n.Kids {
			m := tree.Copy(n)
			if k.Kind == api.PatNot {
				continue
			}
			for _, p := range patterns() {
				m.Kids[i] = p
				checkForm(t, api.FormPattern, m)
			}
			for _, p := range append(exprs(), none(), api.Node{}, name("a"), selectAll(), stream("A"), timer(-1)) {
				m.Kids[i] = p
				checkForm(t, api.FormNone, m)
			}
		}
	}
}
