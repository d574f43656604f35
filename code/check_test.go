package code_test

import (
	"math"
	"slices"
	"strings"
	"testing"

	"marquee/api"
	"marquee/code"
)

const none, some = api.ErrCode, api.OK

// listed is a program as a text, and what Check answers over two fields and one aggregate.
type listed struct {
	program string
	want    api.Errno
}

func checkListed(t *testing.T, l ...listed) {
	t.Helper()
	for _, x := range l {
		if e := code.Check(program(x.program), 2, 1); e != x.want {
			t.Errorf("%s: %d, want %d", x.program, e, x.want)
		}
	}
}

// The chapter's examples.
func TestExamplesOfCheck(t *testing.T) {
	checkListed(t, listed{"Push 1, Push 2", none}, listed{"Jump 1, Push 1", some}, listed{"Jump 2, Push 1, Push 2", none})
}

// Promise 12.2: one instruction at least, MaxProgram at most.
func TestHowMany(t *testing.T) {
	checkNotTaken(t, nil, 2, 1)
	checkNotTaken(t, []api.Op{}, 2, 1)
	checkNotTaken(t, []api.Op{{}}, 2, 1)
	opposites := append(pushes(1), repeated(api.Op{Kind: api.OpUnary, Text: "-"}, api.MaxProgram)...)
	for _, many := range []int{1, 2, api.MaxProgram - 1, api.MaxProgram} {
		checkTaken(t, opposites[:many], 0, 0)
	}
	checkNotTaken(t, opposites[:api.MaxProgram+1], 0, 0)
	var sums []api.Op
	for range 2 * api.MaxProgram {
		sums = append(sums, program("Push 1, Push 1, Binary +, Binary +")...)
	}
	checkNotTaken(t, append(pushes(1), sums...), 0, 0)
	checkTaken(t, append(pushes(1), sums[:1024*4-4]...), 0, 0)
}

// Promise 12.2: each kind of instruction, with what it names just within and just outside.
func TestNames(t *testing.T) {
	least, greatest := math.MinInt, math.MaxInt
	for _, x := range []struct {
		ahead    string
		op       api.Op
		behind   string
		from, to int
	}{
		{"", api.Op{Kind: api.OpField}, "", 0, 1},
		{"", api.Op{Kind: api.OpAgg}, "", 0, 0},
		{"Push 1", api.Op{Kind: api.OpIsNull}, "", 0, 1},
		{"", api.Op{Kind: api.OpJump}, "Push 1", 1, 1},
		{"Push 1", api.Op{Kind: api.OpJump}, "", 2, 2},
		{"Push 1, Push 1", api.Op{Kind: api.OpUnless}, "Unary -, Unary -", 3, 5},
		{"Push 1, Push 1", api.Op{Kind: api.OpUnless}, "", 3, 3},
	} {
		for _, n := range []int{least, least + 1, -2, -1, 0, 1, 2, 3, 4, 5, 6, 7, greatest - 1, greatest} {
			op := x.op
			op.N = n
			l := append(append(program(x.ahead), op), program(x.behind)...)
			if want := n >= x.from && n <= x.to; (code.Check(l, 2, 1) == api.OK) != want {
				t.Errorf("%v: want %v", l, want)
			}
		}
	}
}

// Promise 12.2: places of fields and of aggregates, over any number of them.
func TestPlaces(t *testing.T) {
	numbers := []int{math.MinInt, math.MinInt + 1, -2, -1, 0, 1, 2, 3, 1 << 20, math.MaxInt - 1, math.MaxInt}
	for _, many := range numbers {
		for _, n := range numbers {
			for _, other := range numbers {
				want := api.ErrCode
				if n >= 0 && n < many {
					want = api.OK
				}
				if e := code.Check([]api.Op{{Kind: api.OpField, N: n}}, many, other); e != want {
					t.Errorf("Field %d over %d: %d", n, many, e)
				}
				if e := code.Check([]api.Op{{Kind: api.OpAgg, N: n}}, other, many); e != want {
					t.Errorf("Agg %d over %d: %d", n, many, e)
				}
			}
		}
	}
}

// Promise 12.2: the texts of operators, those of the others among them.
func TestTexts(t *testing.T) {
	words := strings.Fields("+ - * / % = != < <= > >= and or not & | ! == <> => AND OR NOT Not xor is null in between abs")
	words = append(words, "", " ", "- ", " -", "+-", "andor", "and or", "é", "\x00", "\xff")
	for _, w := range words {
		one := slices.Contains(strings.Fields("- not"), w)
		two := slices.Contains(strings.Fields("+ - * / % = != < <= > >= and or"), w)
		if got := code.Check(append(pushes(1), api.Op{Kind: api.OpUnary, Text: w}), 0, 0) == api.OK; got != one {
			t.Errorf("Unary %q: %v", w, got)
		}
		if got := code.Check(append(pushes(2), api.Op{Kind: api.OpBinary, Text: w}), 0, 0) == api.OK; got != two {
			t.Errorf("Binary %q: %v", w, got)
		}
		checkTaken(t, append(pushes(2), api.Op{Kind: api.OpCall, Text: w, N: 2}), 0, 0)
	}
}

// Promise 12.2: a call asks for as many as it says, and a call of more than MaxStack is none.
func TestCalls(t *testing.T) {
	for _, n := range []int{0, 1, 2, 3, 100, api.MaxStack - 1, api.MaxStack} {
		ofAll := append(pushes(n), api.Op{Kind: api.OpCall, Text: "any", N: n})
		checkTaken(t, ofAll, 0, 0)
		checkNotTaken(t, append(pushes(n), api.Op{Kind: api.OpCall, N: n + 1}), 0, 0)
		if n > 0 {
			checkNotTaken(t, append(pushes(n), api.Op{Kind: api.OpCall, N: n - 1}), 0, 0)
			checkTaken(t, append(append(pushes(n), api.Op{Kind: api.OpCall, N: n - 1}), program("Binary +")...), 0, 0)
		}
	}
	for _, n := range []int{math.MinInt, math.MinInt + 1, -api.MaxStack, -2, -1, api.MaxStack + 1, api.MaxProgram, math.MaxInt - 1, math.MaxInt} {
		call := api.Op{Kind: api.OpCall, N: n}
		for _, ahead := range []int{0, 1, 2, api.MaxStack} {
			checkNotTaken(t, append(pushes(ahead), call), 0, 0)
		}
	}
	checkNotTaken(t, append(pushes(api.MaxStack), program("Call any 0, Call any 1025")...), 0, 0)
}

// Promise 12.2: a number that is no kind of instruction.
func TestNoKinds(t *testing.T) {
	for _, kind := range []int{math.MinInt, -1, 0, 11, 12, 13, 99, math.MaxInt} {
		for _, n := range []int{0, 1, 2} {
			checkNotTaken(t, []api.Op{{Kind: kind, N: n}}, 2, 1)
			checkNotTaken(t, append(pushes(1), api.Op{Kind: kind, N: n, Text: "-"}), 2, 1)
			checkNotTaken(t, append([]api.Op{{Kind: kind, N: n, Text: "-"}}, pushes(1)...), 2, 1)
			checkNotTaken(t, append(pushes(2), api.Op{Kind: kind, N: n, Text: "+"}), 2, 1)
		}
	}
}

// Promise 12.2: where jumps may go.
func TestJumps(t *testing.T) {
	checkListed(t,
		listed{"Jump 0, Push 1", none}, listed{"Push 1, Jump 1", none}, listed{"Push 1, Jump 0", none}, listed{"Push 1, Jump -1", none},
		listed{"Push 1, Jump 2", some}, listed{"Push 1, Jump 3", none}, listed{"Jump 1", none}, listed{"Jump 1, Jump 2, Push 1, Jump 4", some},
		listed{"Push 1, Push 1, Unless 2", none}, listed{"Push 1, Push 1, Unless 0", none}, listed{"Push 1, Push 1, Unless 3", some}, listed{"Push 1, Push 1, Unless 4", none},
		listed{"Push 1, Push 1, Unless 3, Unary -", some}, listed{"Push 1, Push 1, Unless 4, Unary -", some}, listed{"Push 1, Push 1, Unless 5, Unary -", none},
		listed{"Push false, Unless 4, Push 1, Jump 5, Push 2", some}, listed{"Push false, Unless 4, Push 1, Jump 4, Push 2", none}, listed{"Push false, Unless 3, Push 1, Jump 5, Push 2", none},
		listed{"Push false, Unless 5, Push 1, Jump 5, Push 2", none}, listed{"Push false, Unless 2, Push 1", some},
	)
}

// Promise 12.2: each instruction is come to, and the end.
func TestComeTo(t *testing.T) {
	checkListed(t,
		listed{"Push 1, Jump 3, Unary -", none}, listed{"Jump 2, Unary -, Push 1", none}, listed{"Push 1, Jump 3, Jump 3", none}, listed{"Jump 2, Push 2, Push 1", none},
		// Nothing comes to what an instruction that is not come to leads to.
		listed{"Push 1, Jump 4, Unary -, Unary -", none}, listed{"Push 1, Jump 5, Push 2, Unless 5, Unary -", none},
		listed{"Push 1, Push 2, Unless 5, Jump 6, Unary -, Unary -", none}, listed{"Push 1, Push 2, Unless 4, Jump 5, Unary -, Unary -", some},
	)
}

// Promise 12.2: one height by whatever way.
func TestOneHeight(t *testing.T) {
	checkListed(t,
		listed{"Push 1, Unless 3, Push 2", none}, listed{"Push 1, Push 2, Unless 4, Push 3", none}, listed{"Push 1, Push 2, Unless 4, Unary -", some},
		listed{"Push 1, Push 2, Unless 5, Push 3, Binary +", some}, listed{"Push 1, Push 2, Unless 4, Push 3, Binary +", none},
		listed{"Push 1, Push 2, Unless 6, Push 3, Jump 6, Push 4", none}, listed{"Push 1, Push 2, Unless 5, Push 3, Jump 6, Push 4, Binary +", some},
		listed{"Push 1, Push 2, Unless 5, Push 3, Jump 7, Push 4, Push 5, Binary +", none}, listed{"Push 1, Unless 3, Jump 4, Push 1", none},
		listed{"Push 1, Unless 4, Push 1, Jump 6, Push 2, Jump 6", some}, listed{"Push 1, Unless 5, Push 1, Push 1, Jump 7, Push 2, Push 2, Binary +", some},
	)
}

// Promise 12.2: as many values are there as are asked for, and one is left.
func TestAskedFor(t *testing.T) {
	for _, x := range []struct {
		op   string
		asks int
		left int
	}{
		{"Push 1", 0, 1}, {"Field 1", 0, 1}, {"Agg 0", 0, 1}, {"Unary -", 1, 1}, {"Unary not", 1, 1}, {"IsNull 0", 1, 1}, {"IsNull 1", 1, 1}, {"Dec", 1, 1},
		{"Binary +", 2, 1}, {"Binary and", 2, 1}, {"Call f 0", 0, 1}, {"Call f 1", 1, 1}, {"Call f 2", 2, 1}, {"Call f 7", 7, 1},
	} {
		for ahead := range 9 {
			height := ahead - x.asks + x.left
			for behind := range 9 {
				// So many are made one.
				l := append(append(pushes(ahead), program(x.op)...), repeated(program("Binary +")[0], behind)...)
				if want := ahead >= x.asks && behind == height-1; (code.Check(l, 2, 1) == api.OK) != want {
					t.Errorf("%s of %d and %d behind: want %v", x.op, ahead, behind, want)
				}
			}
		}
	}
	checkListed(t, listed{"Unless 1, Push 1", none}, listed{"Push 1, Unless 2", none}, listed{"Push 1, Unless 2, Push 1", some}, listed{"Push 1, Push 1, Push 1, Unless 4", none}, listed{"Jump 1", none})
}

// Promise 12.2: no height is above MaxStack.
func TestHighest(t *testing.T) {
	for _, high := range []int{api.MaxStack - 1, api.MaxStack, api.MaxStack + 1, api.MaxStack + 2} {
		sums := repeated(program("Binary +")[0], high-1)
		want := api.OK
		if high > api.MaxStack {
			want = api.ErrCode
		}
		for _, last := range []string{"Push 1", "Field 0", "Agg 0", "Call any 0"} {
			l := append(append(pushes(high-1), program(last)...), sums...)
			if e := code.Check(l, 1, 1); e != want {
				t.Errorf("%s, %d of them: %d", last, high, e)
			}
		}
		// What is laid upon by a way that is taken from time to time alone counts, too.
		l := slices.Concat(program("Push true, Unless 0"), pushes(high), sums, program("Jump 0, Push 1"))
		l[1].N, l[len(l)-2].N = len(l)-1, len(l)
		if e := code.Check(l, 0, 0); e != want {
			t.Errorf("within a case, %d: %d", high, e)
		}
	}
}

// Promise 12.2: what a kind does not name may be anything.
func TestNotNamed(t *testing.T) {
	odd := []int{math.MinInt, -1, 2, 77, math.MaxInt}
	values := []api.Value{{Kind: -1}, {Kind: api.KindBool, N: 9}, {Kind: api.KindText, N: 1, Text: "\xff"}, {Kind: math.MaxInt, N: math.MinInt, Text: strings.Repeat("a", 2000)}}
	for _, base := range []string{
		"Push 1", "Field 1", "Agg 0", "Push 1, Unary -", "Push 1, Unary not", "Push 1, Push 2, Binary +", "Push 1, IsNull 1", "Push 1, Call any 1", "Push 1, Dec",
		"Jump 1, Push 1", "Push 1, Unless 4, Push 1, Jump 5, Push 2",
	} {
		for place, op := range program(base) {
			var l []api.Op
			for _, v := range values {
				l = append(l, api.Op{Kind: op.Kind, N: op.N, Text: op.Text, Value: v})
			}
			if op.Kind != api.OpUnary && op.Kind != api.OpBinary {
				for _, s := range []string{"+", "not", "", "any", "\xff"} {
					l = append(l, api.Op{Kind: op.Kind, N: op.N, Text: s, Value: op.Value})
				}
			}
			if slices.Contains([]int{api.OpPush, api.OpUnary, api.OpBinary, api.OpDec}, op.Kind) {
				for _, n := range odd {
					l = append(l, api.Op{Kind: op.Kind, N: n, Text: op.Text, Value: op.Value})
				}
			}
			for _, other := range l {
				ops := program(base)
				ops[place] = other
				checkTaken(t, ops, 2, 1)
				if d := code.Depth(ops); d != code.Depth(program(base)) {
					t.Errorf("%v: Depth %d", ops, d)
				}
			}
		}
	}
}

// Promise 12.3.
func TestDepth(t *testing.T) {
	for _, x := range []struct {
		program string
		depth   int
	}{
		{"Push 1", 1}, {"Field 0", 1}, {"Agg 0", 1}, {"Call any 0", 1}, {"Jump 1, Push 1", 1}, {"Push 1, Unary -", 1}, {"Push 1, Dec, IsNull 1", 1},
		{"Push 1, Push 2, Binary +", 2}, {"Push 1, Push 2, Binary +, Push 3, Binary +", 2}, {"Push 1, Push 2, Push 3, Binary *, Binary +", 3}, {"Push 1, Push 2, Push 3, Call f 3", 3},
		{"Push 1, Unless 4, Push 1, Jump 5, Push 2", 1}, {"Push 1, Unless 6, Push 1, Push 2, Binary +, Jump 7, Push 2", 2}, {"Push 1, Unless 4, Push 1, Jump 7, Push 1, Push 2, Binary +", 2},
		{"Push 1, Push 1, Unless 3", 2}, {"Push 1, Call any 0, Binary +", 2},
		// As many fields and aggregates as are asked for.
		{"Field 5", 1}, {"Field 1000000, Agg 7, Binary +", 2}, {"Field 9223372036854775806", 1}, {"Agg 9223372036854775806", 1}, {"Field 9223372036854775806, Agg 9223372036854775806, Binary +", 2},
		// What Check refuses.
		{"", 0}, {"Field 9223372036854775807", 0}, {"Agg 9223372036854775807", 0}, {"Field -1", 0}, {"Agg -1", 0}, {"Push 1, Field 9223372036854775807, Binary +", 0},
		{"Push 1, Push 2", 0}, {"Push 1, Push 2, Push 3, Binary +", 0}, {"Push 1, Jump 1", 0}, {"Push 1, Jump 3, Dec", 0}, {"Push 1, Push 2, Binary &", 0}, {"Push 1, Unless 3, Push 2", 0},
		{"Push 1, IsNull 2", 0}, {"Push 1, Unary +", 0}, {"Push 1, Call f -1", 0}, {"Dec", 0}, {"Push 1, Unless 2", 0}, {"Push 1, Push 2, Unless 4", 0},
	} {
		if d := code.Depth(program(x.program)); d != x.depth {
			t.Errorf("%s: %d, want %d", x.program, d, x.depth)
		}
	}
	for _, high := range []int{1, 2, api.MaxStack - 1, api.MaxStack, api.MaxStack + 1} {
		l := append(pushes(high), repeated(program("Binary +")[0], high-1)...)
		want := high
		if high > api.MaxStack {
			want = 0
		}
		if d := code.Depth(l); d != want {
			t.Errorf("%d: %d", high, d)
		}
	}
	opposites := append(pushes(1), repeated(api.Op{Kind: api.OpUnary, Text: "-"}, api.MaxProgram)...)
	if d, more := code.Depth(opposites[:api.MaxProgram]), code.Depth(opposites); d != 1 || more != 0 {
		t.Error(d, more)
	}
}
