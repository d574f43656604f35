package funcs_test

import (
	"testing"

	"marquee/api"
)

// Promise 10.2: where an int and a dec stand together, each is taken as a dec, asked for or not.
func TestMixedNumbers(t *testing.T) {
	checkCalls(t,
		good(dec(10000), "coalesce", whole(1), dec(25000)), good(dec(25000), "coalesce", dec(25000), whole(1)),
		good(dec(10000), "coalesce", whole(1), null, dec(25000)), good(dec(10000), "coalesce", null, null, whole(1), whole(2), dec(0)),
		good(whole(1), "coalesce", null, whole(1), whole(2)),
		good(dec(10000), "greatest", whole(1), dec(10000)), good(dec(10000), "greatest", dec(10000), whole(1)),
		good(dec(10000), "least", whole(1), dec(10000)), good(dec(10000), "least", dec(10000), whole(1)),
		good(dec(20000), "greatest", whole(1), whole(2), dec(15000)), good(dec(10000), "least", whole(2), whole(1), dec(15000)),
		good(dec(15000), "greatest", dec(15000), whole(1)), good(dec(15000), "least", whole(2), dec(15000)),
		good(dec(20000), "greatest", dec(9999), whole(2)), good(dec(-10000), "least", whole(-1), dec(-9999)),
	)
}

// Promise 10.2: the farthest ints, alone, with their like, and as decs, in each place.
func TestFarthestInts(t *testing.T) {
	for _, n := range []int{leastInt, leastWhole - 1, greatestWhole + 1, greatestInt} {
		for _, name := range []string{"coalesce", "greatest", "least"} {
			checkCalls(t,
				good(whole(n), name, whole(n)), good(dec(n), name, dec(n)),
				good(whole(n), name, whole(n), whole(n)),
				bad(api.ErrOver, name, whole(n), dec(0)), bad(api.ErrOver, name, dec(0), whole(n)),
				bad(api.ErrOver, name, whole(1), dec(n), whole(n)), bad(api.ErrOver, name, dec(0), whole(n), whole(1)),
			)
		}
		checkCalls(t, bad(api.ErrOver, "coalesce", null, dec(0), null, whole(n)), bad(api.ErrOver, "coalesce", dec(0), null, whole(n), null))
	}
	checkCalls(t,
		good(whole(greatestInt), "greatest", whole(leastInt), whole(0), whole(greatestInt)),
		good(whole(leastInt), "least", whole(greatestInt), whole(leastInt), whole(0)),
		good(dec(greatestInt), "greatest", dec(leastInt), dec(greatestInt), dec(0)),
		good(dec(leastInt), "least", dec(0), dec(greatestInt), dec(leastInt)),
		good(dec(greatestInt), "greatest", whole(greatestWhole), dec(greatestInt)),
		good(dec(greatestWhole*api.Scale), "least", whole(greatestWhole), dec(greatestInt)),
		good(dec(leastInt), "least", whole(leastWhole), dec(leastInt)),
		good(dec(leastWhole*api.Scale), "coalesce", null, whole(leastWhole), dec(leastInt)),
		good(whole(leastInt), "coalesce", null, whole(leastInt), whole(greatestInt)),
	)
}

// Promise 10.2.
func TestGreatestAndLeast(t *testing.T) {
	checkCalls(t,
		good(whole(3), "greatest", whole(1), whole(3), whole(2)), good(whole(1), "least", whole(3), whole(1), whole(2)),
		good(whole(3), "greatest", whole(3), whole(2), whole(1)), good(whole(1), "least", whole(1), whole(2), whole(3)),
		good(whole(3), "greatest", whole(1), whole(2), whole(3)), good(whole(1), "least", whole(3), whole(2), whole(1)),
		good(whole(5), "greatest", whole(5), whole(5)), good(whole(5), "least", whole(5), whole(5)),
		good(yes, "greatest", no, yes), good(yes, "greatest", yes, no), good(no, "least", no, yes), good(no, "least", yes, no), good(no, "greatest", no), good(yes, "least", yes, yes),
		good(text("b"), "greatest", text("ab"), text("b"), text("a")), good(text("a"), "least", text("ab"), text("b"), text("a")),
		good(text("a"), "greatest", text("Z"), text("a")), good(text(""), "least", text("a"), text("")),
		good(text("\U00010000"), "greatest", text("\U00010000"), text("\uffff")), good(text("é"), "greatest", text("z"), text("é")),
	)
	many := make([]api.Value, 5000)
	for i := range many {
		many[i] = whole(i * 3571 % len(many))
	}
	checkCalls(t, good(whole(4999), "greatest", many...), good(whole(0), "least", many...))
	many[4000] = dec(49995000)
	checkCalls(t, good(dec(49995000), "greatest", many...), good(whole(0), "coalesce", many[:4000]...), good(dec(0), "coalesce", many...))
}

// Promise 10.2.
func TestNullif(t *testing.T) {
	checkCalls(t,
		good(null, "nullif", whole(1), whole(1)), good(whole(1), "nullif", whole(1), whole(2)),
		good(null, "nullif", dec(1), dec(1)), good(dec(1), "nullif", dec(1), dec(2)),
		good(null, "nullif", whole(1), dec(10000)), good(null, "nullif", dec(10000), whole(1)),
		good(whole(1), "nullif", whole(1), dec(10001)), good(dec(10001), "nullif", dec(10001), whole(1)),
		good(whole(greatestInt), "nullif", whole(greatestInt), dec(1)), good(dec(1), "nullif", dec(1), whole(leastInt)),
		good(whole(greatestInt), "nullif", whole(greatestInt), dec(greatestInt)), good(dec(leastInt), "nullif", dec(leastInt), whole(leastInt)),
		good(null, "nullif", whole(leastInt), whole(leastInt)),
		good(null, "nullif", text("a"), text("a")), good(text("a"), "nullif", text("a"), text("A")), good(null, "nullif", text(""), text("")),
		good(null, "nullif", yes, yes), good(yes, "nullif", yes, no), good(no, "nullif", no, yes), good(null, "nullif", no, no),
		bad(api.ErrFunc, "nullif", whole(1), text("1")), bad(api.ErrFunc, "nullif", whole(1), yes),
	)
}
