package print_test

import (
	"strings"
	"testing"

	"marquee/api"
)

// Promise 9.1.
func TestEventsAndTimers(t *testing.T) {
	filter := binary(">", col("x"), whole(1))
	long := strings.Repeat("x", api.MaxName)
	patternFace().check(t, []printed{
		{event("A"), "A"}, {event(long), long}, {tagged("a", "A", none()), "a=A"}, {tagged(long, long, none()), long + "=" + long},
		{node(api.PatEvent, "A", 0, filter, none()), "A(x > 1)"}, {tagged("a", "A", filter), "a=A(x > 1)"}, {tagged("b", "B", binary("=", col("y"), text("it's"))), "b=B(y = 'it''s')"},
		{tagged("a", "A", binary("=", colOf("a", "x"), neg(neg(col("y"))))), "a=A(a.x = - -y)"}, {tagged("a", "A", binary("or", col("x"), col("y"))), "a=A(x or y)"}, {tagged("a", "A", neg(col("x"))), "a=A(-x)"},
		{timer(0), "timer(0ms)"}, {timer(5), "timer(5ms)"}, {timer(api.MaxTime), "timer(1099511627776ms)"},
	})
	patternFace().checkNothing(t, timer(-1), timer(api.MaxTime+1), event(""), event("select"), event(long+"x"), tagged("", "A", none()), tagged("all", "A", none()), node(api.PatEvent, "A", 0), node(api.PatEvent, "A", 0, none()), node(api.PatEvent, "A", 1, none(), none()))
}

// Promise 9.1: the chapter's examples, and others.
func TestPatterns(t *testing.T) {
	a, b, c := event("A"), event("B"), event("C")
	patternFace().check(t, []printed{
		{then(every(tagged("a", "A", none())), within(5000, tagged("b", "B", none()))), "every a=A -> b=B within 5000ms"},
		{every(a), "every A"}, {every(every(a)), "every every A"}, {every(timer(5)), "every timer(5ms)"}, {every(then(a, b)), "every (A -> B)"}, {every(either(a, b)), "every (A or B)"}, {every(both(a, b)), "every (A and B)"},
		{then(then(a, b), c), "A -> B -> C"}, {then(a, then(b, c)), "A -> (B -> C)"}, {then(either(a, b), either(b, c)), "A or B -> B or C"}, {either(then(a, b), then(b, c)), "(A -> B) or (B -> C)"},
		{either(either(a, b), c), "A or B or C"}, {either(a, either(b, c)), "A or (B or C)"}, {either(both(a, b), both(b, c)), "A and B or B and C"}, {both(either(a, b), either(b, c)), "(A or B) and (B or C)"},
		{both(both(a, b), c), "A and B and C"}, {both(a, both(b, c)), "A and (B and C)"}, {both(every(a), every(b)), "every A and every B"}, {both(then(a, b), then(b, c)), "(A -> B) and (B -> C)"},
		{both(a, never(b)), "A and not B"}, {both(both(a, never(b)), never(c)), "A and not B and not C"}, {both(a, never(both(b, never(c)))), "A and not (B and not C)"}, {both(a, never(every(b))), "A and not every B"},
		{both(a, never(within(5, b))), "A and not B within 5ms"}, {both(a, never(either(b, c))), "A and not (B or C)"}, {both(a, never(then(b, c))), "A and not (B -> C)"}, {both(a, never(timer(7))), "A and not timer(7ms)"},
		{within(0, a), "A within 0ms"}, {within(api.MaxTime, a), "A within 1099511627776ms"}, {within(6, within(5, a)), "A within 5ms within 6ms"}, {within(5, every(a)), "(every A) within 5ms"}, {every(within(5, a)), "every A within 5ms"},
		{within(5, timer(3)), "timer(3ms) within 5ms"}, {within(5, then(a, b)), "(A -> B) within 5ms"}, {within(5, either(a, b)), "(A or B) within 5ms"}, {within(5, both(a, never(b))), "(A and not B) within 5ms"},
		{then(within(5, a), within(6, b)), "A within 5ms -> B within 6ms"}, {then(every(a), every(b)), "every A -> every B"}, {both(within(5, a), never(within(6, every(b)))), "A within 5ms and not (every B) within 6ms"},
	})
	patternFace().checkNothing(t, never(a), every(never(a)), then(a, never(b)), either(never(a), b), both(never(a), b), within(5, never(a)), both(a, never(never(b))), within(-1, a), within(api.MaxTime+1, a), then(a, then(b, timer(-1))))
}

// Promise 9.1: in a statement, with and without a name.
func TestPatternsOfStatements(t *testing.T) {
	p := then(every(tagged("a", "A", none())), within(5000, tagged("b", "B", none())))
	stmtFace().check(t, []printed{
		{selectWith(fromAt, ofPattern(event("A"), none())), "select * from pattern [A]"},
		{selectWith(fromAt, ofPattern(p, none())), "select * from pattern [every a=A -> b=B within 5000ms]"},
		{selectWith(fromAt, ofPattern(p, name("n"))), "select * from pattern [every a=A -> b=B within 5000ms] as n"},
		{selectWith(fromAt, ofPattern(either(then(timer(1), event("A")), both(event("B"), never(event("C")))), name("n"))), "select * from pattern [(timer(1ms) -> A) or B and not C] as n"},
	})
	stmtFace().checkNothing(t, selectWith(fromAt, ofPattern(never(p), none())), selectWith(fromAt, ofPattern(p, col("a"))), selectWith(fromAt, ofPattern(timer(-1), none())))
}
