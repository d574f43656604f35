package code_test

import (
	"testing"

	"marquee/api"
	"marquee/code"
)

// sum is n + n + .. of so many, of which each but the first is added to what is ahead: a stack of two.
func sum(times int, n api.Node) api.Node {
	all := n
	for range times - 1 {
		all = binary("+", all, n)
	}
	return all
}

// sumBehind is n + (n + (.. n)) of so many: a stack of as many.
func sumBehind(times int, n api.Node) api.Node {
	all := n
	for range times - 1 {
		all = binary("+", n, all)
	}
	return all
}

func nested(times int, n api.Node, around func(n api.Node) api.Node) api.Node {
	for range times {
		n = around(n)
	}
	return n
}

func not(n api.Node) api.Node { return unary("not", n) }

func opposite(n api.Node) api.Node { return unary("-", n) }

// same answers so many of a tree, one behind the other.
func same(times int, n api.Node) []api.Node {
	l := make([]api.Node, times)
	for i := range l {
		l[i] = n
	}
	return l
}

// pairs is a case of so many pairs, and an else.
func pairs(times int, condition, value, last api.Node) api.Node {
	n := choice()
	for range times {
		n.Kids = append(n.Kids, condition, value)
	}
	n.Kids = append(n.Kids, last)
	return n
}

// checkLength: n has a program of so many instructions, of which more than MaxProgram are none.
func checkLength(t *testing.T, n api.Node, length int) {
	t.Helper()
	ops, e := code.Compile(n, fields(), nil)
	if length > api.MaxProgram {
		if e != api.ErrCode || len(ops) != 0 {
			t.Errorf("a tree of kind %d: %d instructions, %d, where there are %d", n.Kind, len(ops), e, length)
		}
		return
	}
	if e != api.OK || len(ops) != length {
		t.Errorf("a tree of kind %d: %d instructions, %d, want %d", n.Kind, len(ops), e, length)
	}
}

// Promise 12.1: MaxProgram instructions are a program, one more is none, whatever they are made of.
func TestMaxProgram(t *testing.T) {
	for more := range 8 {
		length := api.MaxProgram - 4 + more
		checkLength(t, nested(length-1, truth(1), not), length)
		checkLength(t, nested(length-1, col("i"), opposite), length)
		checkLength(t, nested(length-3, sum(2, whole(1)), opposite), length)
		checkLength(t, nested(1-more%2, sum(length/2, whole(1)), opposite), length/2*2-more%2)
		// The name of a stream is no instruction.
		checkLength(t, nested(1-more%2, sum(length/2, colOf("t", "i")), opposite), length/2*2-more%2)
		// An in has three for the first other one, and four for each behind it.
		many := (length - 3) / 4
		checkLength(t, nested(length-4*many-3, in(same(many+2, col("i"))...), not), length)
		// A between has its first one twice, and five more.
		half := (length - 5) / 2
		checkLength(t, nested(length-2*half-5, between(nested(half-1, col("i"), opposite), whole(1), whole(2)), not), length)
		// A case has four for each pair, and one.
		many = (length - 1) / 4
		checkLength(t, nested(length-4*many-1, pairs(many, col("b"), col("i"), col("i")), opposite), length)
		// A case of ints that is a dec has one more for each of them.
		many = (length - 1) / 5
		checkLength(t, nested(length-5*many-1, pairs(many, col("b"), col("i"), col("d")), opposite), length)
		checkLength(t, nested(length-4*((length-2)/4)-2, pairs((length-2)/4, col("b"), col("d"), col("i")), opposite), length)
	}
}

// Promise 12.1: a tree that is written twice makes a program that is too long, however small it is itself; such a one is refused at once.
func TestWrittenTwice(t *testing.T) {
	around := func(n api.Node) api.Node { return between(n, truth(0), truth(1)) }
	// Each time around: twice as many, and five.
	checkLength(t, nested(9, truth(1), around), 6*512-5)
	checkLength(t, nested(10, truth(1), around), 6*1024-5)
	for _, times := range []int{40, 1000, 1 << 14} {
		checkNoProgram(t, nested(times, truth(1), around), nil, api.ErrCode)
		checkNoProgram(t, nested(times, truth(1), func(n api.Node) api.Node { return in(n, truth(0), truth(1)) }), nil, api.ErrCode)
	}
	// In of one other has what it is of only once.
	checkLength(t, nested(2047, truth(1), func(n api.Node) api.Node { return in(n, truth(0)) }), 4095)
	checkLength(t, nested(2048, truth(1), func(n api.Node) api.Node { return in(n, truth(0)) }), 4097)
	checkLength(t, nested(500, truth(1), func(n api.Node) api.Node { return between(truth(0), truth(1), n) }), 500*6+1)
}

// Promise 12.1, R1: trees that are far too great are refused, and soon.
func TestGreatTrees(t *testing.T) {
	const deep = 1<<16 - 8
	for _, around := range []func(n api.Node) api.Node{
		func(n api.Node) api.Node { return choice(n, truth(1), truth(0)) },
		func(n api.Node) api.Node { return choice(truth(1), n, truth(0)) },
		func(n api.Node) api.Node { return choice(truth(1), truth(0), n) },
		func(n api.Node) api.Node { return between(n, truth(1), truth(0)) },
		func(n api.Node) api.Node { return between(truth(1), truth(0), n) },
		func(n api.Node) api.Node { return in(truth(1), n) },
		func(n api.Node) api.Node { return call("coalesce", n) },
		func(n api.Node) api.Node { return binary("and", truth(1), n) },
		not,
	} {
		checkNoProgram(t, nested(deep, truth(1), around), nil, api.ErrCode)
	}
	checkNoProgram(t, pairs(1<<17, truth(1), whole(1), dec(1)), nil, api.ErrCode)
	checkNoProgram(t, in(same(1<<18, whole(1))...), nil, api.ErrCode)
	checkNoProgram(t, call("coalesce", same(1<<18, whole(1))...), nil, api.ErrCode)
}

// Promise 12.1: what stands within an aggregate is no part of the program.
func TestGreatAggregates(t *testing.T) {
	great := agg("sum", sum(1<<14, whole(1)))
	checkProgram(t, binary("+", great, whole(1)), []api.Node{agg("count"), great}, program("Agg 1, Push 1, Binary +"))
	high := agg("sum", sumBehind(2*api.MaxStack, whole(1)))
	checkProgram(t, high, []api.Node{high}, program("Agg 0"))
}

// Promise 12.1: a Depth of MaxStack is a program's, one more is none's.
func TestMaxStack(t *testing.T) {
	for _, x := range []struct {
		name   string
		made   func(high int) api.Node
		length func(high int) int
	}{
		{"sum", func(high int) api.Node { return sumBehind(high, whole(1)) }, func(high int) int { return 2*high - 1 }},
		{"call", func(high int) api.Node { return call("coalesce", same(high, col("i"))...) }, func(high int) int { return high + 1 }},
		{"calls", func(high int) api.Node {
			return call("coalesce", append(same(high-3, col("i")), sum(5, whole(1)), sumBehind(2, whole(1)), whole(3))...)
		}, func(high int) int { return high - 3 + 9 + 3 + 1 + 1 }},
		{"case", func(high int) api.Node {
			return nested(high-2, choice(binary("=", whole(1), whole(2)), whole(1), dec(1)), func(n api.Node) api.Node { return binary("+", whole(1), n) })
		}, func(high int) int { return 2*(high-2) + 8 }},
		{"between", func(high int) api.Node {
			return nested(high-3, between(truth(1), truth(1), truth(1)), func(n api.Node) api.Node { return binary("and", col("b"), n) })
		}, func(high int) int { return 2*(high-3) + 7 }},
	} {
		for _, high := range []int{5, api.MaxStack - 1, api.MaxStack} {
			ops, e := code.Compile(x.made(high), fields(), nil)
			if d := code.Depth(ops); e != api.OK || len(ops) != x.length(high) || d != high {
				t.Errorf("%s of %d: %d instructions, %d, of the Depth %d", x.name, high, len(ops), e, d)
			}
		}
		for _, high := range []int{api.MaxStack + 1, api.MaxStack + 2} {
			checkNoProgram(t, x.made(high), nil, api.ErrCode)
		}
	}
}
