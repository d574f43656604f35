package code

import "marquee/api"

// nobodyCame is the height at a place that no instruction has led to: too small for whatever is asked for there.
const nobodyCame = -1

// checker goes over a program once: since jumps go forward alone, all ways to a place are known when it is come to.
type checker struct {
	ops          []api.Op
	fields, aggs int
	heights      []int // ahead of each instruction, and at the end
}

// greatestHeight answers how many values stand on the stack at most, or false, if ops may be no program over so many fields and aggregates.
func greatestHeight(ops []api.Op, fields, aggs int) (int, bool) {
	if len(ops) > api.MaxProgram {
		return 0, false
	}
	c := checker{ops, fields, aggs, make([]int, len(ops)+1)}
	for i := range ops {
		c.heights[i+1] = nobodyCame
	}
	greatest := 0
	for i := range ops {
		height, ok := c.behind(i)
		if !ok || !c.leads(i, height) {
			return 0, false
		}
		greatest = max(greatest, height)
	}
	if c.heights[len(ops)] != 1 {
		return 0, false
	}
	return greatest, true
}

// behind answers the height behind the instruction at a place, or false, if it may not stand there.
func (c checker) behind(place int) (int, bool) {
	if !c.namesWell(place) {
		return 0, false
	}
	asked, left := effect(c.ops[place])
	rest := c.heights[place] - asked
	return rest + left, rest >= 0 && rest+left <= api.MaxStack
}

// leads comes to where the instruction at a place leads to; it answers false, if another way came there with another height.
func (c checker) leads(place, height int) bool {
	op := c.ops[place]
	switch op.Kind {
	case api.OpUnless:
		if !c.come(place+1, height) {
			return false
		}
		fallthrough
	case api.OpJump:
		return c.come(op.N, height)
	}
	return c.come(place+1, height)
}

func (c checker) come(to, height int) bool {
	if c.heights[to] == nobodyCame {
		c.heights[to] = height
	}
	return c.heights[to] == height
}

// namesWell tells whether the instruction at a place is of a kind, and what it names may be.
func (c checker) namesWell(place int) bool {
	op := c.ops[place]
	many := c.aggs
	switch op.Kind {
	case api.OpPush:
		fallthrough
	case api.OpDec:
		return true
	case api.OpField:
		many = c.fields
		fallthrough
	case api.OpAgg:
		return op.N >= 0 && op.N < many
	case api.OpUnary:
		return op.Text == "-" || op.Text == "not"
	case api.OpBinary:
		return isOfTwo(op.Text)
	case api.OpIsNull:
		return op.N == 0 || op.N == 1
	case api.OpCall:
		return op.N >= 0 && op.N <= api.MaxStack
	case api.OpUnless:
		fallthrough
	case api.OpJump:
		return op.N > place && op.N <= len(c.ops)
	}
	return false
}

func isOfTwo(sign string) bool {
	switch sign {
	case "+", "-", "*", "/", "%", "=", "!=", "<", "<=", ">", ">=", "and", "or":
		return true
	}
	return false
}

// effect answers how many values an instruction asks for and takes away, and how many it leaves in their place.
func effect(op api.Op) (asked, left int) {
	switch op.Kind {
	case api.OpJump:
		return 0, 0
	case api.OpUnless:
		return 1, 0
	case api.OpUnary, api.OpIsNull, api.OpDec:
		return 1, 1
	case api.OpBinary:
		return 2, 1
	case api.OpCall:
		return op.N, 1
	}
	return 0, 1
}
