package arith_test

import (
	"testing"

	"marquee/api"
	"marquee/arith"
)

// Promise 2.1.
func TestNeg(t *testing.T) {
	checkOne(t, "Neg", arith.Neg, []rowOne{
		{whole(0), whole(0), api.OK},
		{whole(5), whole(-5), api.OK},
		{whole(-5), whole(5), api.OK},
		{dec(0), dec(0), api.OK},
		{dec(15000), dec(-15000), api.OK},
		{dec(-1), dec(1), api.OK},
		{whole(greatest), whole(least + 1), api.OK},
		{dec(greatest), dec(least + 1), api.OK},
		{whole(least + 1), whole(greatest), api.OK},
		{whole(least), null, api.ErrOver},
		{dec(least), null, api.ErrOver},
		{whole(greatestWhole + 1), whole(-greatestWhole - 1), api.OK},
		{null, null, api.OK},
		{text("a"), null, api.ErrKind},
		{api.Value{Kind: api.KindBool, N: 1}, null, api.ErrKind},
	})
}

// Promise 2.1.
func TestAdd(t *testing.T) {
	checkTwo(t, "Add", arith.Add, []rowTwo{
		{whole(1), whole(2), whole(3), api.OK},
		{whole(1), whole(-2), whole(-1), api.OK},
		{whole(1), dec(25000), dec(35000), api.OK},
		{dec(25000), whole(1), dec(35000), api.OK},
		{dec(25000), dec(-30000), dec(-5000), api.OK},
		{whole(greatest), whole(0), whole(greatest), api.OK},
		{whole(least), whole(0), whole(least), api.OK},
		{whole(greatest - 1), whole(1), whole(greatest), api.OK},
		{whole(greatest), whole(1), null, api.ErrOver},
		{whole(least + 1), whole(-1), whole(least), api.OK},
		{whole(least), whole(-1), null, api.ErrOver},
		{whole(least), whole(least), null, api.ErrOver},
		{whole(greatest), whole(greatest), null, api.ErrOver},
		{whole(least), whole(greatest), whole(-1), api.OK},
		{dec(greatest), dec(1), null, api.ErrOver},
		{dec(least), dec(-1), null, api.ErrOver},
		{whole(greatestWhole), dec(greatest % api.Scale), dec(greatest), api.OK},
		{whole(greatestWhole), dec(greatest%api.Scale + 1), null, api.ErrOver},
		{whole(leastWhole), dec(least % api.Scale), dec(least), api.OK},
		{whole(leastWhole), dec(least%api.Scale - 1), null, api.ErrOver},
	})
}

// Promise 2.1: the number as a dec leaves an int, though the sum would not.
func TestAddAsDecs(t *testing.T) {
	checkTwo(t, "Add", arith.Add, []rowTwo{
		{whole(greatestWhole + 1), dec(-10000), null, api.ErrOver},
		{dec(-10000), whole(greatestWhole + 1), null, api.ErrOver},
		{whole(leastWhole - 1), dec(10000), null, api.ErrOver},
		{dec(10000), whole(leastWhole - 1), null, api.ErrOver},
		{whole(greatestWhole + 1), whole(1), whole(greatestWhole + 2), api.OK},
	})
}

// Promise 2.1.
func TestSub(t *testing.T) {
	checkTwo(t, "Sub", arith.Sub, []rowTwo{
		{whole(1), whole(2), whole(-1), api.OK},
		{whole(2), whole(-1), whole(3), api.OK},
		{whole(1), dec(25000), dec(-15000), api.OK},
		{dec(25000), whole(1), dec(15000), api.OK},
		{dec(25000), dec(5000), dec(20000), api.OK},
		{whole(least), whole(0), whole(least), api.OK},
		{whole(least + 1), whole(1), whole(least), api.OK},
		{whole(least), whole(1), null, api.ErrOver},
		{whole(greatest - 1), whole(-1), whole(greatest), api.OK},
		{whole(greatest), whole(-1), null, api.ErrOver},
		{whole(0), whole(least), null, api.ErrOver},
		{whole(-1), whole(least), whole(greatest), api.OK},
		{whole(least), whole(least), whole(0), api.OK},
		{whole(greatest), whole(greatest), whole(0), api.OK},
		{dec(least), dec(1), null, api.ErrOver},
		{dec(0), dec(least), null, api.ErrOver},
		{whole(greatestWhole + 1), dec(10000), null, api.ErrOver},
		{dec(10000), whole(greatestWhole + 1), null, api.ErrOver},
		{dec(0), whole(leastWhole), dec(-leastWhole * api.Scale), api.OK},
		{dec(-10000), whole(leastWhole - 1), null, api.ErrOver},
	})
}
