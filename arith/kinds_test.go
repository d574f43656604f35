package arith_test

import (
	"testing"

	"marquee/api"
	"marquee/arith"
)

// Promise 2.3.
func TestDec(t *testing.T) {
	checkOne(t, "Dec", arith.Dec, []rowOne{
		{whole(0), dec(0), api.OK},
		{whole(3), dec(30000), api.OK},
		{whole(-3), dec(-30000), api.OK},
		{dec(3), dec(3), api.OK},
		{dec(least), dec(least), api.OK},
		{dec(greatest), dec(greatest), api.OK},
		{whole(greatestWhole), dec(greatestWhole * api.Scale), api.OK},
		{whole(greatestWhole + 1), null, api.ErrOver},
		{whole(leastWhole), dec(leastWhole * api.Scale), api.OK},
		{whole(leastWhole - 1), null, api.ErrOver},
		{whole(1000000000000000), null, api.ErrOver},
		{whole(1 << 62), null, api.ErrOver},
		{whole(least), null, api.ErrOver},
		{whole(greatest), null, api.ErrOver},
	})
}

// Promise 2.3.
func TestInt(t *testing.T) {
	checkOne(t, "Int", arith.Int, []rowOne{
		{dec(0), whole(0), api.OK},
		{dec(9999), whole(0), api.OK},
		{dec(-9999), whole(0), api.OK},
		{dec(10000), whole(1), api.OK},
		{dec(-10000), whole(-1), api.OK},
		{dec(19999), whole(1), api.OK},
		{dec(-19999), whole(-1), api.OK},
		{dec(greatest), whole(greatestWhole), api.OK},
		{dec(least), whole(leastWhole), api.OK},
		{whole(7), whole(7), api.OK},
		{whole(least), whole(least), api.OK},
		{whole(greatest), whole(greatest), api.OK},
	})
}
