package machine_test

import (
	"slices"
	"testing"

	"marquee/api"
	"marquee/machine"
)

// Promise 13.2: no condition holds, whatever it is over.
func TestTrueOfNothing(t *testing.T) {
	for _, ops := range [][]api.Op{nil, {}, program("Push false")[:0]} {
		for _, l := range [][]api.Value{nil, {}, row(), badValues()} {
			if is, e := machine.True(ops, l, l); !is || e != api.OK {
				t.Errorf("%v, %d", is, e)
			}
		}
	}
}

// Promise 13.2: of all values true alone is.
func TestTrue(t *testing.T) {
	for _, x := range []struct {
		program string
		is      bool
		err     api.Errno
	}{
		{"Push true", true, api.OK}, {"Push false", false, api.OK}, {"Push null", false, api.OK}, {"Push 1", false, api.OK}, {"Push 1.0", false, api.OK}, {"Push 'true'", false, api.OK}, {"Push 0", false, api.OK},
		{"Field 1", true, api.OK}, {"Field 0", false, api.OK}, {"Agg 3", false, api.OK}, {"Agg 3, Unary not", true, api.OK}, {"Field 2, Agg 0, Binary <", true, api.OK}, {"Field 2, Agg 0, Binary >", false, api.OK},
		{"Field 2, Agg 1, Binary <", false, api.OK}, {"Field 2, Agg 1, Binary <, Unary not", false, api.OK}, {"Field 0, IsNull 0", true, api.OK},
		{"Push 1, Push 0, Binary /", false, api.ErrZero}, {"Push 'a', Unary -", false, api.ErrKind}, {"Call nope 0", false, api.ErrFunc}, {"Push " + least + ", Call abs 1", false, api.ErrOver},
		{"Push true, Push true", false, api.ErrCode}, {"Field 5", false, api.ErrCode}, {"Agg 5", false, api.ErrCode}, {"Binary and", false, api.ErrCode},
		{"Push true, Push 1, Push 0, Binary /, Binary or", false, api.ErrZero},
	} {
		if is, e := machine.True(program(x.program), row(), aggs()); is != x.is || e != x.err {
			t.Errorf("%s: %v, %d", x.program, is, e)
		}
	}
	if is, e := machine.True([]api.Op{{Kind: api.OpPush, Value: api.Value{Kind: api.KindBool, N: 2}}}, nil, nil); is || e != api.ErrKind {
		t.Errorf("%v, %d", is, e)
	}
}

func programs(l ...string) [][]api.Op {
	var all [][]api.Op
	for _, s := range l {
		all = append(all, program(s))
	}
	return all
}

func checkAll(t *testing.T, l [][]api.Op, want []api.Value, err api.Errno) {
	t.Helper()
	if values, e := machine.All(l, row(), aggs()); !slices.Equal(values, want) || e != err {
		t.Errorf("%d programs: %v, %d, want %v, %d", len(l), values, e, want, err)
	}
}

// Promise 13.2: what many programs make, in their order.
func TestAll(t *testing.T) {
	checkAll(t, nil, nil, api.OK)
	checkAll(t, [][]api.Op{}, nil, api.OK)
	checkAll(t, programs("Push 1"), []api.Value{whole(1)}, api.OK)
	checkAll(t, programs("Field 4", "Field 4", "Agg 1", "Push 1, Push 2, Binary <", "Field 2, Agg 0, Binary +", "Push 2.5"), []api.Value{text("x"), text("x"), null, yes, whole(16), dec(25000)}, api.OK)
	var many [][]api.Op
	var want []api.Value
	for i := range 500 {
		many = append(many, []api.Op{{Kind: api.OpPush, Value: whole(i)}, {Kind: api.OpField, N: 2}, {Kind: api.OpBinary, Text: "-"}})
		want = append(want, whole(i-7))
	}
	checkAll(t, many, want, api.OK)
}

// Promise 13.2: an empty program is none for All.
func TestAllOfEmpty(t *testing.T) {
	checkAll(t, [][]api.Op{nil}, nil, api.ErrCode)
	checkAll(t, [][]api.Op{{}}, nil, api.ErrCode)
	checkAll(t, programs("Push 1", ""), nil, api.ErrCode)
	checkAll(t, programs("", "Push 1"), nil, api.ErrCode)
}

// Promise 13.2: the first program that has an error tells it, in each place; those behind it play no part, whether they are programs or not.
func TestAllErrors(t *testing.T) {
	faults := []listed{
		fails("Push 1, Push 0, Binary /", api.ErrZero), fails("Push "+least+", Unary -", api.ErrOver), fails("Push true, Dec", api.ErrKind), fails("Call abs 0", api.ErrFunc), fails("Field 9", api.ErrCode), fails("", api.ErrCode),
	}
	for _, a := range faults {
		for _, b := range faults {
			checkAll(t, programs(a.program, b.program), nil, a.err)
			checkAll(t, programs("Push 1", a.program, "Push 2", b.program), nil, a.err)
			checkAll(t, programs(a.program, "Push 1", "Push 2", "Push 3", b.program), nil, a.err)
		}
		checkAll(t, programs("Push 1", "Push 2", a.program), nil, a.err)
	}
}
