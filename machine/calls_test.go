package machine_test

import (
	"strings"
	"testing"

	"marquee/api"
	"marquee/funcs"
)

// Promise 13.1: calls of one value and of many, the lowest first.
func TestCalls(t *testing.T) {
	checkListed(t,
		gives("Push -5, Call abs 1", "5"), gives("Push -1.5, Call round 1", "-2"), gives("Push 'aä', Call length 1", "2"), gives("Push 1, Call todec 1", "1.0"), gives("Push 1.5, Call totext 1", "'1.5'"),
		gives("Push 'a', Push 'b', Call concat 2", "'ab'"), gives("Push 'a', Push 'b', Push 'c', Push 'd', Call concat 4", "'abcd'"), gives("Push 'a', Call concat 1", "'a'"),
		gives("Push 'abcdef', Push 1, Push 3, Call substr 3", "'bcd'"), gives("Push 'abcdef', Push 3, Push 1, Call substr 3", "'d'"),
		gives("Push 1, Push 2, Call coalesce 2", "1"), gives("Push null, Push 2, Push 1, Call coalesce 3", "2"), gives("Push null, Push null, Call coalesce 2", "null"), gives("Push null, Push 1, Push 2.5, Call coalesce 3", "1.0"),
		gives("Push 5, Push 7, Call nullif 2", "5"), gives("Push 7, Push 5, Call nullif 2", "7"), gives("Push 7, Push 7.0, Call nullif 2", "null"), gives("Push null, Push 1, Call nullif 2", "null"),
		gives("Push 3, Push 1, Push 2, Call greatest 3", "3"), gives("Push 3, Push 1, Push 2.5, Call least 3", "1.0"), gives("Push 3, Push null, Call greatest 2", "null"),
		// What stands below stays.
		gives("Push 100, Push 1, Push 2, Call greatest 2, Binary -", "98"), gives("Push 'x', Push 'y', Push 'abc', Push 1, Push 1, Call substr 3, Call concat 3", "'xyb'"),
		gives("Field 2, Agg 0, Field 3, Call greatest 3", "9.0"), gives("Field 4, Agg 2, Call concat 2", "'xy'"), gives("Field 0, Call abs 1", "null"),
	)
	letters := "abcdefghijklmnopqrstuvwxyz"
	var l []string
	for _, c := range letters {
		l = append(l, "Push '"+string(c)+"'")
	}
	checkListed(t, gives(strings.Join(l, ", ")+", Call concat 26", "'"+letters+"'"))
}

// Promise 13.1: each error of funcs.
func TestErrorsOfCalls(t *testing.T) {
	checkListed(t,
		fails("Call nope 0", api.ErrFunc), fails("Push 1, Call nope 1", api.ErrFunc), fails("Push 1, Call 1", api.ErrFunc), fails("Push 1, Call ABS 1", api.ErrFunc), fails("Push 1, Push 2, Call sum 2", api.ErrFunc),
		fails("Push 1, Push 2, Call abs 2", api.ErrFunc), fails("Push 'a', Call abs 1", api.ErrFunc), fails("Push true, Call round 1", api.ErrFunc), fails("Push 1, Call upper 1", api.ErrFunc), fails("Push 'a', Push 1, Call substr 2", api.ErrFunc),
		fails("Push 'a', Push 1.0, Push 1, Call substr 3", api.ErrFunc), fails("Push 1, Push 'a', Call least 2", api.ErrFunc), fails("Push null, Push 1, Push true, Call coalesce 3", api.ErrFunc), fails("Push 'a', Push 1, Call nullif 2", api.ErrFunc), fails("Push 'a', Push null, Push 1, Call concat 3", api.ErrFunc),
		fails("Push "+least+", Call abs 1", api.ErrOver), fails("Push "+greatest+", Call todec 1", api.ErrOver), fails("Push "+greatest+", Push 1.5, Call greatest 2", api.ErrOver), fails("Push 1.5, Push "+least+", Call coalesce 2", api.ErrOver),
		gives("Push "+greatest+", Push null, Call coalesce 2", greatest), gives("Push "+greatest+", Push null, Push 1.5, Call least 3", "null"),
	)
	long := strings.Repeat("x", api.MaxText)
	checkListed(t, gives("Push '"+long+"', Push '', Call concat 2", "'"+long+"'"), fails("Push '"+long+"', Push 'x', Call concat 2", api.ErrOver), gives("Push '"+long+"', Call length 1", "1024"))
}

// Promise 13.1: a call with no value, of each function: none takes that; the stack stays as it is.
func TestCallsOfNothing(t *testing.T) {
	for _, name := range append(funcs.Names(), "", "nope", "count", "é", "\xff") {
		op := api.Op{Kind: api.OpCall, Text: name}
		checkRun(t, []api.Op{op}, row(), aggs(), null, api.ErrFunc)
		checkRun(t, append(program("Push 1"), op, program("Binary +")[0]), row(), aggs(), null, api.ErrFunc)
	}
}

// Promise 13.1: each function by its name, with each value of few alone and each two of them: what funcs.Call says.
func TestCallsOfEach(t *testing.T) {
	values := append(row(), whole(leastInt), dec(greatestInt), no, text(""), whole(0), dec(-15000), text(" aB é "))
	for _, name := range append(funcs.Names(), "nope") {
		for _, a := range values {
			want, err := funcs.Call(name, []api.Value{a})
			checkRun(t, []api.Op{{Kind: api.OpPush, Value: a}, {Kind: api.OpCall, Text: name, N: 1}}, nil, nil, want, err)
			for _, b := range values {
				want, err = funcs.Call(name, []api.Value{a, b})
				two := []api.Op{{Kind: api.OpField}, {Kind: api.OpAgg}, {Kind: api.OpCall, Text: name, N: 2}}
				checkRun(t, two, []api.Value{a}, []api.Value{b}, want, err)
			}
		}
	}
}
