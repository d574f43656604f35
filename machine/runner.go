package machine

import (
	"marquee/api"
	"marquee/arith"
	"marquee/funcs"
	"marquee/value"
)

// ending is the way an instruction ends.
type ending int

const (
	goesOn ending = iota // with the instruction behind it
	goesTo               // with the one at the place that it names
	fails                // with an error, which ends the program
)

// runner runs a program that may be over a row and aggregates' values: all that an instruction names and takes is there.
type runner struct {
	row, aggs []api.Value
	stack     []api.Value
	err       api.Errno // once an instruction fails
}

// run comes to an end, since jumps go forward alone.
func (r *runner) run(ops []api.Op) (api.Value, api.Errno) {
	for at := 0; at < len(ops); {
		switch r.do(ops[at]) {
		case goesOn:
			at++
		case goesTo:
			at = ops[at].N
		case fails:
			return api.Value{}, r.err
		}
	}
	return r.take(1)[0], api.OK
}

func (r *runner) do(op api.Op) ending {
	switch op.Kind {
	case api.OpPush:
		return r.bring(op.Value)
	case api.OpField:
		return r.bring(r.row[op.N])
	case api.OpAgg:
		return r.bring(r.aggs[op.N])
	case api.OpJump:
		return goesTo
	case api.OpUnless:
		if value.True(r.take(1)[0]) {
			return goesOn
		}
		return goesTo
	}
	return r.lay(made(op, r.take(asked(op))...))
}

// bring lays a value upon the stack that no instruction made, so that it may be one that may not be.
func (r *runner) bring(v api.Value) ending {
	if value.Check(v) != api.OK {
		return r.lay(api.Value{}, api.ErrKind)
	}
	return r.lay(v, api.OK)
}

// lay lays a value upon the stack, unless there is an error beside it.
func (r *runner) lay(v api.Value, err api.Errno) ending {
	if err != api.OK {
		r.err = err
		return fails
	}
	r.stack = append(r.stack, v)
	return goesOn
}

// take takes so many values away, and answers them, the lowest first; they stand there until the next one is laid.
func (r *runner) take(many int) []api.Value {
	rest := len(r.stack) - many
	taken := r.stack[rest:]
	r.stack = r.stack[:rest]
	return taken
}

// asked answers how many values an instruction takes that makes one of them.
func asked(op api.Op) int {
	switch op.Kind {
	case api.OpBinary:
		return 2
	case api.OpCall:
		return op.N
	}
	return 1
}

// made answers what an instruction makes of the values that it takes.
func made(op api.Op, args ...api.Value) (api.Value, api.Errno) {
	switch op.Kind {
	case api.OpUnary:
		return unary(op.Text, args[0])
	case api.OpBinary:
		return binary(op.Text, args[0], args[1])
	case api.OpIsNull:
		isNull, asksNot := args[0].Kind == api.KindNull, op.N == 1
		return truth(isNull != asksNot), api.OK
	case api.OpCall:
		return funcs.Call(op.Text, args)
	}
	return arith.Dec(args[0])
}
