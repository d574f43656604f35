package machine_test

import (
	"fmt"
	"strings"
	"testing"

	"marquee/api"
)

// The kinds' samples: on the left of an operator, and on its right.
func lefts() []string { return strings.Fields("null true 7 2.5 'x'") }

func rights() []string { return strings.Fields("null false 2 0.5 'y'") }

// says answers what a cell of a grid says: a literal, or K for ErrKind.
func says(program, cell string) listed {
	if cell == "K" {
		return fails(program, api.ErrKind)
	}
	return gives(program, map[string]string{"n": "null", "t": "true", "f": "false"}[cell]+strings.TrimLeft(cell, "ntf"))
}

// Promise 13.1: each operator of two with each kind on each side; a line for each on the left, a cell for each on the right.
func TestOfTwo(t *testing.T) {
	arithmetic := func(numbers string) string {
		four := strings.Fields(numbers)
		return fmt.Sprintf("n K n n K, K K K K K, n K %s %s K, n K %s %s K, K K K K K", four[0], four[1], four[2], four[3])
	}
	for sign, grid := range map[string]string{
		"+":   arithmetic("9 7.5 4.5 3.0"),
		"-":   arithmetic("5 6.5 0.5 2.0"),
		"*":   arithmetic("14 3.5 5.0 1.25"),
		"/":   arithmetic("3 14.0 1.25 5.0"),
		"%":   arithmetic("1 0.0 0.5 0.0"),
		"=":   "n n n n n, n f f f f, n f f f f, n f f f f, n f f f f",
		"!=":  "n n n n n, n t t t t, n t t t t, n t t t t, n t t t t",
		"<":   "n n n n n, n f n n n, n n f f n, n n f f n, n n n n t",
		"<=":  "n n n n n, n f n n n, n n f f n, n n f f n, n n n n t",
		">":   "n n n n n, n t n n n, n n t t n, n n t t n, n n n n f",
		">=":  "n n n n n, n t n n n, n n t t n, n n t t n, n n n n f",
		"and": "n f n n n, n f n n n, n f n n n, n f n n n, n f n n n",
		"or":  "n n n n n, t t t t t, n n n n n, n n n n n, n n n n n",
	} {
		for i, line := range strings.Split(grid, ", ") {
			for j, cell := range strings.Fields(line) {
				checkListed(t, says(fmt.Sprintf("Push %s, Push %s, Binary %s", lefts()[i], rights()[j], sign), cell))
			}
		}
	}
}

// Promise 13.1: the operators of one value, with each kind.
func TestOfOne(t *testing.T) {
	for op, line := range map[string]string{
		"Unary -": "n K -7 -2.5 K", "Unary not": "n f n n n", "IsNull 0": "t f f f f", "IsNull 1": "f t t t t", "Dec": "n K 7.0 2.5 K",
	} {
		for i, cell := range strings.Fields(line) {
			checkListed(t, says(fmt.Sprintf("Push %s, %s", lefts()[i], op), cell), says(fmt.Sprintf("Field %d, %s", i, op), cell))
		}
	}
	checkListed(t,
		gives("Push false, Unary not", "true"), gives("Push false, IsNull 0", "false"), gives("Push false, IsNull 1", "true"), fails("Push false, Unary -", api.ErrKind), fails("Push false, Dec", api.ErrKind),
		gives("Push 0, Unary -", "0"), gives("Push -3, Unary -", "3"), gives("Push -0.0001, Unary -", "0.0001"), gives("Push 0, Unary not", "null"), gives("Push 1, Unary not", "null"),
		gives("Push '', IsNull 0", "false"), gives("Push 0, IsNull 0", "false"), gives("Push 0.0, IsNull 1", "true"), gives("Push 1, IsNull 0, IsNull 0", "false"), gives("Push null, IsNull 1, Unary not", "true"),
	)
}

// Promise 13.1: and, or with each of true, false and null on each side.
func TestLogic(t *testing.T) {
	for _, line := range []string{
		"true true t t", "true false f t", "true null n t", "false true f t", "false false f f", "false null f n", "null true n t", "null false f n", "null null n n",
	} {
		x := strings.Fields(line)
		operands := fmt.Sprintf("Push %s, Push %s, ", x[0], x[1])
		checkListed(t, says(operands+"Binary and", x[2]), says(operands+"Binary or", x[3]))
	}
}

// checkCompared holds two values against each other by each sign, in the order = != < <= > >=.
func checkCompared(t *testing.T, a, b, cells string) {
	t.Helper()
	for i, sign := range strings.Fields("= != < <= > >=") {
		checkListed(t, says(fmt.Sprintf("Push %s, Push %s, Binary %s", a, b, sign), strings.Fields(cells)[i]))
	}
}

// Promise 13.1: each comparison of values that are below, the same, above, and of those of which Compare says false.
func TestComparisons(t *testing.T) {
	const same, below, above, unlike, unknown = "t f f t f t", "f t t t f f", "f t f f t t", "f t n n n n", "n n n n n n"
	for _, x := range []string{
		"1 1", "1 1.0", "1.0 1", "0 0.0", "0.0 0", "'' ''", "'a' 'a'", "true true", "false false", least + " " + least, greatest + " " + greatest, leastDec + " " + leastDec, greatestDec + " " + greatestDec,
		leastWhole + " " + leastWhole + ".0", greatestWhole + " " + greatestWhole + ".0",
	} {
		two := strings.Fields(x)
		checkCompared(t, two[0], two[1], same)
		checkCompared(t, two[1], two[0], same)
	}
	for _, x := range []string{
		"1 2", "-2 -1", "-1 0", "1 1.0001", "0.9999 1", "-0.0001 0", "-1.5 -1", "false true", "'' 'a'", "'a' 'b'", "'a' 'aa'", "'Z' 'a'", "'z' 'é'", "'10' '9'",
		least + " " + greatest, least + " 0", "0 " + greatest, least + " " + leastDec, greatestDec + " " + greatest, greatestWhole + " " + greatestDec, leastDec + " " + leastWhole, leastDec + " " + greatestDec,
	} {
		two := strings.Fields(x)
		checkCompared(t, two[0], two[1], below)
		checkCompared(t, two[1], two[0], above)
	}
	for _, a := range strings.Fields("true 1 1.0 '1'") {
		for _, b := range strings.Fields("true 1 1.0 '1'") {
			isNumbers := strings.HasPrefix(a, "1") && strings.HasPrefix(b, "1")
			if a != b && !isNumbers {
				checkCompared(t, a, b, unlike)
			}
		}
		checkCompared(t, a, "null", unknown)
		checkCompared(t, "null", a, unknown)
	}
	checkCompared(t, "null", "null", unknown)
	checkCompared(t, "false", "0", unlike)
	checkCompared(t, "''", "0", unlike)
	checkCompared(t, least, "''", unlike)
	checkCompared(t, "true", greatest, unlike)
}

// Promise 13.1: what just leaves an int, and what just does not; a division by nothing, with null and with another kind beside it.
func TestFarthestNumbers(t *testing.T) {
	two := func(a, b, sign string) string { return fmt.Sprintf("Push %s, Push %s, Binary %s", a, b, sign) }
	checkListed(t,
		fails("Push "+least+", Unary -", api.ErrOver), gives("Push "+greatest+", Unary -", "-"+greatest), fails("Push "+leastDec+", Unary -", api.ErrOver), gives("Push "+greatestDec+", Unary -", "-"+greatestDec),
		fails("Push "+least+", Dec", api.ErrOver), fails("Push "+greatest+", Dec", api.ErrOver), fails("Push 922337203685478, Dec", api.ErrOver), fails("Push -922337203685478, Dec", api.ErrOver),
		gives("Push "+leastWhole+", Dec", leastWhole+".0"), gives("Push "+greatestWhole+", Dec", greatestWhole+".0"), gives("Push "+leastDec+", Dec", leastDec), gives("Push "+greatestDec+", Dec", greatestDec),
		gives(two(greatest, "0", "+"), greatest), fails(two(greatest, "1", "+"), api.ErrOver), fails(two(least, "-1", "+"), api.ErrOver), gives(two(least, greatest, "+"), "-1"), fails(two(greatest, "0.0", "+"), api.ErrOver), gives(two(greatestWhole, "0.5807", "+"), greatestDec),
		gives(two(least, "0", "-"), least), fails(two(least, "1", "-"), api.ErrOver), fails(two("0", least, "-"), api.ErrOver), gives(two("-1", least, "-"), greatest), fails(two("0.0", least, "-"), api.ErrOver), gives(two(leastWhole, "0.5808", "-"), leastDec),
		gives(two(least, "1", "*"), least), fails(two(least, "-1", "*"), api.ErrOver), fails(two("-1", least, "*"), api.ErrOver), fails(two(greatest, "2", "*"), api.ErrOver), gives(two(greatest, "0.0001", "*"), greatestDec), gives(two(greatest, "0.0", "*"), "0.0"), gives(two(greatestDec, "1.0", "*"), greatestDec),
		gives(two(least, "1", "/"), least), fails(two(least, "-1", "/"), api.ErrOver), gives(two(greatest, least, "/"), "0"), gives(two(least, greatest, "/"), "-1"), fails(two(greatest, "1.0", "/"), api.ErrOver), fails(two(greatestDec, "0.5", "/"), api.ErrOver), gives(two(greatestDec, "1.0", "/"), greatestDec),
		gives(two(least, "-1", "%"), "0"), gives(two(greatest, least, "%"), greatest), gives(two(least, greatest, "%"), "-1"), fails(two(greatest, "1.0", "%"), api.ErrOver), gives(two(leastDec, "-0.0001", "%"), "0.0"),
		fails(two("1", "0", "/"), api.ErrZero), fails(two("1", "0.0", "/"), api.ErrZero), fails(two("1", "0", "%"), api.ErrZero), fails(two("1.5", "0", "%"), api.ErrZero), fails(two(least, "0", "/"), api.ErrZero), fails(two(greatest, "0.0", "/"), api.ErrZero),
		gives(two("null", "0", "/"), "null"), gives(two("null", "0.0", "%"), "null"), gives(two("0", "null", "/"), "null"), fails(two("'a'", "0", "/"), api.ErrKind), fails(two("null", "'a'", "+"), api.ErrKind), fails(two("true", "null", "*"), api.ErrKind),
	)
}

// Promise 13.1: quotients and rests go by which is on the left, and towards 0.
func TestSides(t *testing.T) {
	two := func(a, b, sign string) string { return fmt.Sprintf("Push %s, Push %s, Binary %s", a, b, sign) }
	checkListed(t,
		gives(two("7", "-2", "/"), "-3"), gives(two("-7", "2", "/"), "-3"), gives(two("2", "7", "/"), "0"), gives(two("7", "2.0", "/"), "3.5"), gives(two("1", "3.0", "/"), "0.3333"),
		gives(two("7", "-2", "%"), "1"), gives(two("-7", "2", "%"), "-1"), gives(two("2", "7", "%"), "2"), gives(two("7.5", "2", "%"), "1.5"),
		gives(two("1", "2", "-"), "-1"), gives(two("2", "1", "-"), "1"), gives(two("0.0001", "0.5", "*"), "0.0"), gives(two("3", "1.5", "*"), "4.5"),
	)
}

// Promise 13.1: each operator with the farthest numbers, and each kind on the other side; of logic they are unknown, whichever side they are on.
func TestFarthestWithEach(t *testing.T) {
	values := append(lefts(), append(rights(), least, greatest, leastDec, greatestDec, "-1", "0", "1", "0.0", "''")...)
	for sign := range signs() {
		for _, far := range []string{least, greatest, leastDec, greatestDec} {
			for _, other := range values {
				for _, s := range []string{fmt.Sprintf("Push %s, Push %s, Binary %s", far, other, sign), fmt.Sprintf("Push %s, Push %s, Binary %s", other, far, sign)} {
					want, err := modelRun(program(s), nil, nil)
					checkListed(t, listed{s, want, err})
				}
			}
		}
	}
	for _, far := range []string{least, greatest} {
		for _, x := range []string{"true n t", "false f n", "null n n", "1 n n", "1.5 n n", "'a' n n"} {
			cells := strings.Fields(x)
			checkListed(t,
				says(fmt.Sprintf("Push %s, Push %s, Binary and", far, cells[0]), cells[1]), says(fmt.Sprintf("Push %s, Push %s, Binary and", cells[0], far), cells[1]),
				says(fmt.Sprintf("Push %s, Push %s, Binary or", far, cells[0]), cells[2]), says(fmt.Sprintf("Push %s, Push %s, Binary or", cells[0], far), cells[2]),
			)
		}
	}
}
