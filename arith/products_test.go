package arith_test

import (
	"testing"

	"marquee/api"
	"marquee/arith"
)

// Promise 2.2.
func TestMul(t *testing.T) {
	checkTwo(t, "Mul", arith.Mul, []rowTwo{
		{whole(3), whole(-4), whole(-12), api.OK},
		{whole(-3), whole(-4), whole(12), api.OK},
		{whole(3), dec(15000), dec(45000), api.OK},
		{dec(15000), whole(3), dec(45000), api.OK},
		{dec(15000), dec(15000), dec(22500), api.OK},
		{dec(1), dec(5000), dec(0), api.OK},
		{dec(-1), dec(5000), dec(0), api.OK},
		{dec(-19999), dec(1), dec(-1), api.OK},
		{dec(19999), dec(-19999), dec(-39996), api.OK},
		{whole(0), dec(least), dec(0), api.OK},
		{whole(3037000499), whole(3037000499), whole(3037000499 * 3037000499), api.OK},
		{whole(3037000500), whole(3037000500), null, api.ErrOver},
		{whole(1 << 62), whole(2), null, api.ErrOver},
		{whole(1 << 62), whole(-2), whole(least), api.OK},
		{whole(-1 << 62), whole(2), whole(least), api.OK},
		{whole(1 << 32), whole(1 << 32), null, api.ErrOver},
		{whole(least), whole(1), whole(least), api.OK},
		{whole(least), whole(-1), null, api.ErrOver},
		{whole(-1), whole(least), null, api.ErrOver},
		{whole(least), whole(least), null, api.ErrOver},
		{whole(greatest), whole(-1), whole(least + 1), api.OK},
		{dec(least), whole(-1), null, api.ErrOver},
		{whole(1), dec(least), dec(least), api.OK},
	})
}

// Promise 2.2: a whole number is not brought to a dec ahead of a product.
func TestMulTakesWholeNumbersAsTheyAre(t *testing.T) {
	checkTwo(t, "Mul", arith.Mul, []rowTwo{
		{whole(greatestWhole + 1), dec(1), dec(greatestWhole + 1), api.OK},
		{dec(-1), whole(greatest), dec(-greatest), api.OK},
		{whole(greatest), dec(2), null, api.ErrOver},
	})
}

// Promise 2.2: the product between is wider than an int.
func TestMulIsWideBetween(t *testing.T) {
	checkTwo(t, "Mul", arith.Mul, []rowTwo{
		{dec(1 << 62), dec(15000), dec(1<<62 + 1<<61), api.OK},
		{dec(1 << 62), dec(20000), null, api.ErrOver},
		{dec(1 << 62), dec(-20000), dec(least), api.OK},
		{dec(1 << 62), dec(-20001), null, api.ErrOver},
		{dec(greatest), dec(10000), dec(greatest), api.OK},
		{dec(greatest), dec(10001), null, api.ErrOver},
		{dec(least), dec(10000), dec(least), api.OK},
		{dec(least), dec(-10000), null, api.ErrOver},
		{dec(least), dec(-9999), dec(9222449699651090330), api.OK},
		{dec(least), dec(least), null, api.ErrOver},
		{dec(greatest), dec(greatest), null, api.ErrOver},
	})
}

// Promise 2.2.
func TestDiv(t *testing.T) {
	checkTwo(t, "Div", arith.Div, []rowTwo{
		{whole(7), whole(2), whole(3), api.OK},
		{whole(7), whole(-2), whole(-3), api.OK},
		{whole(-7), whole(2), whole(-3), api.OK},
		{whole(-7), whole(-2), whole(3), api.OK},
		{whole(-1), whole(2), whole(0), api.OK},
		{whole(0), whole(-3), whole(0), api.OK},
		{whole(7), dec(20000), dec(35000), api.OK},
		{whole(1), dec(30000), dec(3333), api.OK},
		{dec(-10000), whole(3), dec(-3333), api.OK},
		{dec(10000), dec(-30000), dec(-3333), api.OK},
		{dec(1), whole(2), dec(0), api.OK},
		{whole(least), whole(-1), null, api.ErrOver},
		{whole(least), whole(1), whole(least), api.OK},
		{whole(least + 1), whole(-1), whole(greatest), api.OK},
		{whole(least), whole(least), whole(1), api.OK},
		{whole(greatest), whole(least), whole(0), api.OK},
		{dec(least), dec(-10000), null, api.ErrOver},
		{dec(least), whole(-1), null, api.ErrOver},
	})
}

// Promise 2.2: the product between is wider than an int.
func TestDivIsWideBetween(t *testing.T) {
	checkTwo(t, "Div", arith.Div, []rowTwo{
		{dec(greatest), dec(10000), dec(greatest), api.OK},
		{dec(greatest), dec(9999), null, api.ErrOver},
		{dec(greatest), dec(1), null, api.ErrOver},
		{dec(least), dec(1), null, api.ErrOver},
		{dec(least), dec(10000), dec(least), api.OK},
		{dec(greatest), dec(greatest), dec(10000), api.OK},
		{dec(least), dec(least), dec(10000), api.OK},
		{dec(greatest), dec(least), dec(-9999), api.OK},
		{dec(1 << 62), dec(-5000), dec(least), api.OK},
		{dec(1 << 62), dec(5000), null, api.ErrOver},
		{whole(greatestWhole), dec(10000), dec(greatestWhole * api.Scale), api.OK},
	})
}

// Promise 2.2: a number as a dec leaves an int, though the quotient would not.
func TestDivAsDecs(t *testing.T) {
	checkTwo(t, "Div", arith.Div, []rowTwo{
		{whole(greatestWhole + 1), dec(greatest), null, api.ErrOver},
		{dec(1), whole(greatestWhole + 1), null, api.ErrOver},
		{dec(0), whole(leastWhole - 1), null, api.ErrOver},
		{dec(0), whole(leastWhole), dec(0), api.OK},
	})
}

// Promise 2.2.
func TestMod(t *testing.T) {
	checkTwo(t, "Mod", arith.Mod, []rowTwo{
		{whole(7), whole(2), whole(1), api.OK},
		{whole(7), whole(-2), whole(1), api.OK},
		{whole(-7), whole(2), whole(-1), api.OK},
		{whole(-7), whole(-2), whole(-1), api.OK},
		{whole(6), whole(-2), whole(0), api.OK},
		{dec(75000), whole(2), dec(15000), api.OK},
		{dec(-75000), whole(2), dec(-15000), api.OK},
		{whole(7), dec(25000), dec(20000), api.OK},
		{whole(-7), dec(-25000), dec(-20000), api.OK},
		{dec(75000), dec(-20000), dec(15000), api.OK},
		{dec(10000), dec(3), dec(1), api.OK},
		{whole(least), whole(-1), whole(0), api.OK},
		{dec(least), dec(-1), dec(0), api.OK},
		{dec(least), whole(-1), dec(-5808), api.OK},
		{whole(least), whole(greatest), whole(-1), api.OK},
		{whole(greatest), whole(least), whole(greatest), api.OK},
		{dec(greatest), dec(least), dec(greatest), api.OK},
		{whole(greatestWhole + 1), dec(1), null, api.ErrOver},
		{dec(1), whole(greatestWhole + 1), null, api.ErrOver},
		{dec(1), whole(greatestWhole), dec(1), api.OK},
		{whole(leastWhole - 1), dec(1), null, api.ErrOver},
	})
}
