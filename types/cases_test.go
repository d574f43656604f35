package types_test

import (
	"testing"

	"marquee/api"
)

// Promise 11.2: the values' kinds together, an else that lacks being null.
func TestCase(t *testing.T) {
	checkTypes(t, 'n', "case when b then null end", "case when b then null else null end", "case when b then null when b then z else - null end")
	checkTypes(t, 'b', "case when b then true end", "case when b then null else b end", "case when i = 1 then b when null then null else false end")
	checkTypes(t, 'i', "case when b then 1 end", "case when b then 1 else 2 end", "case when b then null else 2 end", "case when b then i when b then null when b then 3 end")
	checkTypes(t, 'd', "case when b then 1.5 end", "case when b then 1 else 2.5 end", "case when b then 2.5 else 1 end", "case when b then null when b then 1 when b then d when b then i else null end", "case when b then i when b then j else d end", "case when b then d when b then 2.5 else i end")
	checkTypes(t, 't', "case when b then 'a' end", "case when b then x else y end", "case when b then null else x end")
	checkFaults(t, api.ErrType,
		"|case when b then 'a' else 1 end", "|case when b then 1 else 'a' end", "|case when b then 2.5 else 'a' end", "|case when b then true else 1 end", "|case when b then x else b end",
		"|case when b then 1 when b then 'a' end", "|case when b then 1 when b then 'a' else 2 end", "|case when b then 1 when b then 2 else x end", "|case when b then x when b then 1 else 2 end", "|case when b then 1 when b then 2.5 when b then b end",
		"1 + |case when b then 'a' else 1 end")
}

// Promise 11.2: each two kinds as values, in each place of a case.
func TestCaseOfTwo(t *testing.T) {
	const rows = "nbidt bb!!! i!id! d!dd! t!!!t"
	checkPairs(t, rows, func(a, b api.Node) api.Node { return node(api.Case, "", 0, truth(1), a, b) })
	checkPairs(t, rows, func(a, b api.Node) api.Node { return node(api.Case, "", 0, truth(1), a, null(), b, null()) })
	checkPairs(t, rows, func(a, b api.Node) api.Node { return node(api.Case, "", 0, col("b"), null(), null(), a, b) })
	checkPairs(t, rows, func(a, b api.Node) api.Node {
		return node(api.Case, "", 0, truth(1), a, truth(0), null(), col("z"), a, b)
	})
}

// Promise 11.2: a condition of each kind, told at the condition, when it is come to.
func TestConditions(t *testing.T) {
	for i, samples := range ofEachKind() {
		for _, a := range samples {
			for place := 0; place < 6; place += 2 {
				n := node(api.Case, "", 0, truth(1), whole(1), null(), whole(1), col("b"), whole(1), whole(1))
				n.At, n.Kids[place] = 77, placed(33, a)
				if kindLetters[i] == 'n' || kindLetters[i] == 'b' {
					checkType(t, n, api.KindInt)
				} else {
					checkFault(t, n, true, 33, api.ErrType)
				}
			}
		}
	}
	checkTypes(t, 'i', "case when null then 1 end", "case when i = 1 and b then 1 end", "case when count(*) > 1 then 1 end", "case when x is null then 1 else 2 end")
	checkFaults(t, api.ErrType, "case when |i then 1 end", "case when |'a' then 1 end", "case when |1.5 then 1 else 2 end", "case when b then 1 when |x then 2 end", "case when i |+ 1 then 1 end", "case when |count(*) then 1 end")
}

// Promise 11.2: errors of a case from the left on, a condition's type behind what stands within it and ahead of its value.
func TestOrderWithinCase(t *testing.T) {
	checkFaults(t, api.ErrName,
		"case when |nope then 1 end", "case when b then |nope end", "case when b then 1 else |nope end", "case when b then |nope when i then 1 end", "case when |nope then nope2 end", "case when |nope + 1 then 1 end",
		"case when b then 'a' when |nope then 1 end", "case when b then 'a' when b then 1 else |nope end", "case when b then 1 when |nope then x + 1 else 'a' end")
	checkFaults(t, api.ErrType,
		"case when |i then nope end", "case when |i then x + 1 end", "case when b then x |+ 1 when nope then 1 end", "case when |i then 'a' else 1 end", "case when b then 'a' when |i then 1 end", "case when |i then 1 when nope then 1 end",
		"case when b then 1 when |x then nope else nope end", "case when x |+ 1 then 1 end", "case when |i then 1 when x then 1 end", "case when |case when b then 1 end then nope end")
	checkFaults(t, api.ErrPlace, "sum(case when |count(*) then nope end)", "sum(case when b then |count(*) else nope end)")
	checkFaults(t, api.ErrFunc, "case when |abs(b) then nope end", "case when b then |abs(b) when i then 1 end")
}
