package machine_test

import (
	"fmt"
	"testing"

	"marquee/api"
)

// Promise 13.1: jumps to the next place, farther on, and to the end.
func TestJumps(t *testing.T) {
	checkListed(t,
		gives("Push 1, Jump 2", "1"), gives("Jump 1, Push 1", "1"), gives("Jump 1, Jump 2, Push 1, Jump 4", "1"), gives("Push 5, Jump 2, Unary -", "-5"), gives("Push 5, Unary -, Jump 3", "-5"),
		gives("Push 1, Push true, Unless 5, Unary -, Jump 5", "-1"), gives("Push 1, Push true, Unless 4, Jump 5, Unary -, Push 2, Binary +", "3"), gives("Push 1, Push false, Unless 4, Jump 5, Unary -, Push 2, Binary +", "1"),
		// The first way goes on at the second jump, the other one behind it.
		gives("Push true, Unless 4, Push 1, Jump 5, Push 2, Jump 6", "1"), gives("Push false, Unless 4, Push 1, Jump 5, Push 2, Jump 6", "2"),
		gives("Push 8, Push true, Unless 5, Push 1, Jump 6, Push 2, Binary -", "7"), gives("Push 8, Push false, Unless 5, Push 1, Jump 6, Push 2, Binary -", "6"),
	)
}

// Promise 13.1: what is jumped over is not run, whatever error it would have.
func TestJumpsOverErrors(t *testing.T) {
	for _, x := range []listed{fails("Push 1, Push 0, Binary /", api.ErrZero), fails("Push "+greatest+", Push "+greatest+", Binary *", api.ErrOver), fails("Push 1, Push 'a', Binary +", api.ErrKind), fails("Push 1, Push 1, Call abs 2", api.ErrFunc)} {
		const ahead, behind = "Push %s, Unless 6, %s, Jump 7, Push 2", "Push %s, Unless 4, Push 1, Jump 7, %s"
		checkListed(t,
			fails(fmt.Sprintf(ahead, "true", x.program), x.err), gives(fmt.Sprintf(ahead, "false", x.program), "2"),
			gives(fmt.Sprintf(behind, "true", x.program), "1"), fails(fmt.Sprintf(behind, "null", x.program), x.err),
		)
	}
}

// Promise 13.1: OpUnless goes on behind it where the top is true, and at N where it is anything else; the top is taken.
func TestUnless(t *testing.T) {
	const choice, dropped, negated = "Push %s, Unless 4, Push 1, Jump 5, Push 2", "Push 5, Push %s, Unless 3", "Push 5, Push %s, Unless 4, Unary -"
	for _, v := range []string{"true", "false", "null", "0", "1", "-1", "1.0", "0.0001", "'true'", "''", least, greatestDec} {
		want, sign := "2", ""
		if v == "true" {
			want, sign = "1", "-"
		}
		checkListed(t, gives(fmt.Sprintf(choice, v), want), gives(fmt.Sprintf(dropped, v), "5"), gives(fmt.Sprintf(negated, v), sign+"5"))
	}
	for place, want := range []int{2, 1, 2, 2, 2} {
		checkListed(t, gives(fmt.Sprintf("Field %d, Unless 4, Push 1, Jump 5, Push 2", place), fmt.Sprint(want)))
	}
	checkListed(t,
		gives("Push 1, Push 2, Binary <, Unless 6, Push 'a', Jump 7, Push 'b'", "'a'"), gives("Push 2, Push 1, Binary <, Unless 6, Push 'a', Jump 7, Push 'b'", "'b'"), gives("Push 2, Push null, Binary <, Unless 6, Push 'a', Jump 7, Push 'b'", "'b'"),
		gives("Push 1, Push 2, Push 3, Push true, Unless 7, Binary +, Jump 8, Binary -, Binary -", "-4"), gives("Push 1, Push 2, Push 3, Push false, Unless 7, Binary +, Jump 8, Binary -, Binary -", "2"),
	)
}
