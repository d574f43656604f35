package funcs_test

import (
	"testing"

	"marquee/api"
)

// Promise 10.2.
func TestAbsAndSign(t *testing.T) {
	checkCalls(t,
		good(whole(0), "abs", whole(0)), good(dec(0), "abs", dec(0)),
		good(whole(7), "abs", whole(7)), good(whole(7), "abs", whole(-7)),
		good(dec(1), "abs", dec(1)), good(dec(1), "abs", dec(-1)),
		good(whole(greatestInt), "abs", whole(greatestInt)), good(dec(greatestInt), "abs", dec(greatestInt)),
		good(whole(greatestInt), "abs", whole(leastInt+1)), good(dec(greatestInt), "abs", dec(leastInt+1)),
		bad(api.ErrOver, "abs", whole(leastInt)), bad(api.ErrOver, "abs", dec(leastInt)),
		good(whole(0), "sign", whole(0)), good(whole(0), "sign", dec(0)),
		good(whole(1), "sign", whole(7)), good(whole(-1), "sign", whole(-7)),
		good(whole(1), "sign", dec(1)), good(whole(-1), "sign", dec(-1)),
		good(whole(1), "sign", whole(greatestInt)), good(whole(1), "sign", dec(greatestInt)),
		good(whole(-1), "sign", whole(leastInt)), good(whole(-1), "sign", dec(leastInt)),
	)
}

// Promise 10.2: of a whole number all three answer itself.
func TestWholeStaysWhole(t *testing.T) {
	for _, n := range numberEdges() {
		for _, name := range []string{"ceil", "floor", "round", "toint"} {
			checkCalls(t, good(whole(n), name, whole(n)))
		}
	}
}

// Promise 10.2: decs on either side of 0, on whole numbers, between them, and just on the middle.
func TestCeilFloorRound(t *testing.T) {
	for _, c := range []struct{ n, ceil, floor, round, toint int }{
		{0, 0, 0, 0, 0},
		{1, 1, 0, 0, 0}, {-1, 0, -1, 0, 0},
		{4999, 1, 0, 0, 0}, {-4999, 0, -1, 0, 0},
		{5000, 1, 0, 1, 0}, {-5000, 0, -1, -1, 0},
		{5001, 1, 0, 1, 0}, {-5001, 0, -1, -1, 0},
		{9999, 1, 0, 1, 0}, {-9999, 0, -1, -1, 0},
		{10000, 1, 1, 1, 1}, {-10000, -1, -1, -1, -1},
		{10001, 2, 1, 1, 1}, {-10001, -1, -2, -1, -1},
		{14999, 2, 1, 1, 1}, {-14999, -1, -2, -1, -1},
		{15000, 2, 1, 2, 1}, {-15000, -1, -2, -2, -1},
		{25000, 3, 2, 3, 2}, {-25000, -2, -3, -3, -2},
		{24999, 3, 2, 2, 2}, {-24999, -2, -3, -2, -2},
		{greatestInt, 922337203685478, 922337203685477, 922337203685478, 922337203685477},
		{leastInt, -922337203685477, -922337203685478, -922337203685478, -922337203685477},
	} {
		checkCalls(t,
			good(whole(c.ceil), "ceil", dec(c.n)),
			good(whole(c.floor), "floor", dec(c.n)),
			good(whole(c.round), "round", dec(c.n)),
			good(whole(c.toint), "toint", dec(c.n)),
		)
	}
}

// Promise 10.2.
func TestToDec(t *testing.T) {
	checkCalls(t,
		good(dec(0), "todec", whole(0)),
		good(dec(10000), "todec", whole(1)), good(dec(-10000), "todec", whole(-1)),
		good(dec(greatestWhole*api.Scale), "todec", whole(greatestWhole)), bad(api.ErrOver, "todec", whole(greatestWhole+1)), bad(api.ErrOver, "todec", whole(greatestInt)),
		good(dec(leastWhole*api.Scale), "todec", whole(leastWhole)), bad(api.ErrOver, "todec", whole(leastWhole-1)), bad(api.ErrOver, "todec", whole(leastInt)),
	)
	for _, n := range numberEdges() {
		checkCalls(t, good(dec(n), "todec", dec(n)))
	}
}
