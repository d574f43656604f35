package machine_test

import (
	"slices"
	"testing"

	"marquee/api"
	"marquee/code"
	"marquee/machine"
)

// The chapter's examples.
func TestExamples(t *testing.T) {
	checkListed(t,
		gives("Push 1, Push 2, Binary +", "3"), fails("Push 1, Push 0, Binary /", api.ErrZero),
		gives("Push false, Unless 4, Push 1, Jump 5, Push 2", "2"), fails("", api.ErrCode), fails("Binary +", api.ErrCode),
	)
	checkRun(t, program("Field 0, Push 1, Binary <"), []api.Value{null}, nil, null, api.OK)
	if is, e := machine.True(nil, nil, nil); !is || e != api.OK {
		t.Errorf("True of nothing: %v, %d", is, e)
	}
}

// Promise 13.1: no instruction is no program, whatever the row and the aggregates are.
func TestNothing(t *testing.T) {
	for _, ops := range [][]api.Op{nil, {}, make([]api.Op, 0, 4)} {
		for _, l := range [][]api.Value{nil, {}, row(), badValues()} {
			checkRun(t, ops, l, l, null, api.ErrCode)
		}
	}
}

// Promise 13.1: what code.Check refuses is not run, even where another error would come first on the road.
func TestRefused(t *testing.T) {
	for _, s := range []string{
		"Push 1, Push 2", "Push 1, Push 1, Push 1, Binary +", "Unary -", "Unary not", "IsNull 0", "Dec", "Push 1, Binary and", "Call abs 1", "Push 1, Call concat 2",
		"Push 1, Unary +", "Push 1, Unary", "Push 1, Unary abs", "Push 1, Push 2, Binary", "Push 1, Push 2, Binary not", "Push 1, Push 2, Binary ==", "Push 1, Push 2, Binary &",
		"Push 1, IsNull 2", "Push 1, IsNull -1", "Call abs -1", "Call abs 1025", "Field -1", "Field 5", "Agg -1", "Agg 5", "Field " + greatest, "Agg " + greatest, "Field " + least,
		"Push 1, Jump 1", "Push 1, Jump 0", "Push 1, Jump -1", "Push 1, Jump 3", "Jump 0", "Jump 1", "Push 1, Unless 1", "Push 1, Unless 2", "Push 1, Unless 3", "Push 1, Push 2, Unless 2", "Push 1, Push 2, Unless 4",
		"Jump 2, Push 1, Push 2", "Push 1, Jump 3, Unary -", "Push 1, Unless 3, Push 2", "Push true, Unless 3, Push 1, Push 2",
		// The error of the road is not come to.
		"Push 1, Push 0, Binary /, Push 1", "Push 'a', Unary -, Field 9, Binary +", "Push 1, Push 0, Binary /, Unary +", "Push 1, Call nope 1, IsNull 7",
	} {
		checkListed(t, fails(s, api.ErrCode))
	}
	for _, op := range []api.Op{{}, {Kind: -1}, {Kind: 11}, {Kind: leastInt}, {Kind: greatestInt}} {
		checkRun(t, []api.Op{op}, row(), aggs(), null, api.ErrCode)
		checkRun(t, append(program("Push 1"), op), row(), aggs(), null, api.ErrCode)
	}
	bad := api.Op{Kind: api.OpPush, Value: api.Value{Kind: 5}}
	checkRun(t, []api.Op{bad, bad}, row(), aggs(), null, api.ErrCode)
}

// Promise 13.1: the lengths of the row and of the aggregates alone say whether a place may be named.
func TestLengths(t *testing.T) {
	for many := range 6 {
		for place := -1; place < 7; place++ {
			for _, x := range []struct {
				kind      int
				row, aggs []api.Value
				from      []api.Value
			}{{api.OpField, row()[:many], nil, row()}, {api.OpField, row()[:many], aggs(), row()}, {api.OpAgg, nil, aggs()[:many], aggs()}, {api.OpAgg, row(), aggs()[:many], aggs()}} {
				want, err := null, api.ErrCode
				if place >= 0 && place < many {
					want, err = x.from[place], api.OK
				}
				checkRun(t, []api.Op{{Kind: x.kind, N: place}}, x.row, x.aggs, want, err)
			}
		}
	}
	// A place that a jump passes over must be there, too.
	over := program("Push false, Unless 4, Field 2, Jump 5, Push 1")
	checkRun(t, over, row()[:3], nil, whole(1), api.OK)
	checkRun(t, over, row()[:2], nil, null, api.ErrCode)
}

// Promise 13.1: what an instruction does not name plays no part.
func TestUnnamed(t *testing.T) {
	odd := api.Value{Kind: 9, N: 9, Text: "odd"}
	for _, s := range []string{
		"Push 5", "Field 2", "Agg 0", "Push 5, Unary -", "Push true, Unary not", "Push 5, Push 6, Binary -", "Push null, IsNull 1", "Push -5, Call abs 1", "Push 5, Dec",
		"Push 5, Jump 2", "Push 5, Push false, Unless 4, Unary -", "Push 5, Push true, Unless 4, Unary -",
	} {
		plain := program(s)
		want, err := machine.Run(plain, row(), aggs())
		if err != api.OK {
			t.Fatalf("%s: %d", s, err)
		}
		full := slices.Clone(plain)
		for i, op := range plain {
			switch op.Kind {
			case api.OpPush:
				full[i].N, full[i].Text = 77, "odd"
				continue
			case api.OpUnary, api.OpBinary, api.OpDec:
				full[i].N = 77
			}
			if op.Kind != api.OpUnary && op.Kind != api.OpBinary && op.Kind != api.OpCall {
				full[i].Text = "odd"
			}
			full[i].Value = odd
		}
		checkRun(t, full, row(), aggs(), want, api.OK)
	}
}

// Promise 13.1: values of each kind, from each of the three.
func TestBrought(t *testing.T) {
	for place := range 5 {
		checkRun(t, []api.Op{{Kind: api.OpField, N: place}}, row(), aggs(), row()[place], api.OK)
		checkRun(t, []api.Op{{Kind: api.OpAgg, N: place}}, row(), aggs(), aggs()[place], api.OK)
		checkRun(t, []api.Op{{Kind: api.OpPush, Value: row()[place]}}, nil, nil, row()[place], api.OK)
	}
	checkListed(t, gives("Push "+least, least), gives("Push "+greatest, greatest), gives("Push "+leastDec, leastDec), gives("Push "+greatestDec, greatestDec), gives("Push ''", "''"), gives("Push false", "false"))
	checkListed(t, gives("Field 2, Agg 0, Binary -", "-2"), gives("Agg 0, Field 2, Binary -", "2"), gives("Agg 0, Agg 4, Binary -", "8.5"))
}

// Promise 13.1: a value that may not be is ErrKind where it is brought, from each of the three, whatever would be done to it; in a place that nobody brings it plays no part.
func TestBadValues(t *testing.T) {
	for _, bad := range badValues() {
		push := api.Op{Kind: api.OpPush, Value: bad}
		with := append(row(), bad, whole(5))
		for _, op := range []api.Op{push, {Kind: api.OpField, N: 5}, {Kind: api.OpAgg, N: 5}} {
			for _, behind := range []string{"", "IsNull 0", "IsNull 1", "Unary not", "Unary -", "Dec", "Call totext 1", "Push null, Binary =", "Push false, Binary and", "Push true, Binary or", "Unless 4, Push 1, Jump 5, Push 2", "Push false, Unless 4, IsNull 0"} {
				checkRun(t, append([]api.Op{op}, program(behind)...), with, with, null, api.ErrKind)
			}
			for _, sign := range []string{"+", "=", "<", "and", "or"} {
				checkRun(t, []api.Op{program("Push null")[0], op, {Kind: api.OpBinary, Text: sign}}, with, with, null, api.ErrKind)
			}
			// It is come to, but by no way that is gone.
			around := append(append(program("Push false, Unless 4"), op), program("Jump 5, Push 3")...)
			checkRun(t, around, with, with, whole(3), api.OK)
		}
		for _, s := range []string{"Field 2", "Field 6", "Agg 2", "Agg 6"} {
			want := map[int]api.Value{2: whole(7), 6: whole(5)}[program(s)[0].N]
			checkRun(t, program(s), with, with, want, api.OK)
		}
	}
}

// Promise 13.1: the order of what is laid and taken.
func TestOrderOfTheStack(t *testing.T) {
	checkListed(t,
		gives("Push 10, Push 4, Push 3, Binary -, Binary -", "9"), gives("Push 10, Push 4, Binary -, Push 3, Binary -", "3"),
		gives("Push 100, Push 20, Push 3, Binary *, Binary -, Push 7, Binary %", "5"), gives("Push 1, Push 2, Push 3, Push 4, Binary -, Binary -, Binary -", "-2"),
		gives("Push 8, Push 2, Unary -, Binary /", "-4"), gives("Push 8, Unary -, Push 3, Binary /", "-2"),
		gives("Push 'a', Push 'b', Push 'c', Call concat 2, Call concat 2", "'abc'"),
	)
}

// Promise 13.1: of the errors on the road the first is told; those that a jump passes over, and those behind the first, play no part.
func TestFirstError(t *testing.T) {
	const zero, over, kind, fun = "Push 1, Push 0, Binary /", "Push " + greatest + ", Push 1, Binary +", "Push 'a', Unary -", "Call nope 0"
	all := []listed{fails(zero, api.ErrZero), fails(over, api.ErrOver), fails(kind, api.ErrKind), fails(fun, api.ErrFunc)}
	checkListed(t, all...)
	for _, a := range all {
		for _, b := range all {
			checkListed(t,
				fails(a.program+", "+b.program+", Binary +", a.err), fails(a.program+", "+b.program+", Binary and", a.err),
				fails("Push 1, "+a.program+", "+b.program+", Call coalesce 3", a.err), fails(a.program+", Call nope 1, "+b.program+", Call coalesce 2", a.err),
			)
		}
		checkListed(t,
			fails(a.program+", Push false, Binary and", a.err), fails("Push false, "+a.program+", Binary and", a.err),
			fails("Push true, "+a.program+", Binary or", a.err), fails(a.program+", IsNull 0", a.err), fails("Push 1, "+a.program+", Call coalesce 2", a.err),
		)
	}
	bad := []api.Op{{Kind: api.OpPush, Value: api.Value{Kind: 5}}}
	end := program("Binary +")
	checkRun(t, slices.Concat(bad, program(zero), end), row(), aggs(), null, api.ErrKind)
	checkRun(t, slices.Concat(program(zero), bad, end), row(), aggs(), null, api.ErrZero)
}

// Promise 13.1: a stack of just MaxStack values, and one more.
func TestMaxStack(t *testing.T) {
	for high := api.MaxStack - 1; high <= api.MaxStack+1; high++ {
		sum := append(repeated("Push 3", high), repeated("Binary +", high-1)...)
		call := append(repeated("Push 3", high), api.Op{Kind: api.OpCall, Text: "coalesce", N: high})
		last := append(repeated("Push null", high-1), append(program("Field 2"), api.Op{Kind: api.OpCall, Text: "coalesce", N: high})...)
		if high > api.MaxStack {
			for _, ops := range [][]api.Op{sum, call, last} {
				checkRun(t, ops, row(), aggs(), null, api.ErrCode)
			}
			continue
		}
		if d := code.Depth(sum); d != high {
			t.Errorf("Depth %d, want %d", d, high)
		}
		checkRun(t, sum, row(), aggs(), whole(3*high), api.OK)
		checkRun(t, call, row(), aggs(), whole(3), api.OK)
		checkRun(t, last, row(), aggs(), whole(7), api.OK)
	}
}

// Promise 13.1: a program of just MaxProgram instructions, straight on and by jumps, and one more.
func TestMaxProgram(t *testing.T) {
	for many := api.MaxProgram - 1; many <= api.MaxProgram+1; many++ {
		opposites := append(program("Push 3"), repeated("Unary -", many-1)...)
		jumps := program("Push 3")
		for len(jumps) < many {
			jumps = append(jumps, api.Op{Kind: api.OpJump, N: len(jumps) + 1})
		}
		if many > api.MaxProgram {
			checkRun(t, opposites, row(), aggs(), null, api.ErrCode)
			checkRun(t, jumps, row(), aggs(), null, api.ErrCode)
			continue
		}
		want := whole(3)
		if many%2 == 0 {
			want = whole(-3)
		}
		checkRun(t, opposites, row(), aggs(), want, api.OK)
		checkRun(t, jumps, row(), aggs(), whole(3), api.OK)
	}
	var sum []api.Op
	for range (api.MaxProgram - 2) / 2 {
		sum = append(sum, program("Push 2, Binary +")...)
	}
	checkRun(t, append(append(program("Field 2"), sum...), program("Unary -")...), row(), aggs(), whole(-7-(api.MaxProgram-2)), api.OK)
}
