package lex_test

import (
	"math"
	"strconv"
	"strings"
	"testing"

	"marquee/api"
)

// Promise 5.2: whole numbers.
func TestWhole(t *testing.T) {
	checkTaken(t, []taken{
		{"0", list(whole(0, 0))},
		{"9", list(whole(9, 0))},
		{"10", list(whole(10, 0))},
		{"100", list(whole(100, 0))},
		{"1000000", list(whole(1000000, 0))},
		{"1234567890", list(whole(1234567890, 0))},
		{"9223372036854775807", list(whole(math.MaxInt, 0))},
		{"0 0", list(whole(0, 0), whole(0, 2))},
		{"-1", list(sign("-", 0), whole(1, 1))},
		{"1+2", list(whole(1, 0), sign("+", 1), whole(2, 2))},
		{"1'a'", list(whole(1, 0), text("a", 1))},
		{"1--2", list(whole(1, 0))},
		{"1/**/2", list(whole(1, 0), whole(2, 5))},
		{"5 ms", list(whole(5, 0), word("ms", 2))},
		{"5 s", list(whole(5, 0), name("s", 2))},
		{"5 a", list(whole(5, 0), name("a", 2))},
	})
	checkRefused(t, []refused{
		{"9223372036854775808", 0, api.ErrNumber},
		{"a 9223372036854775808", 2, api.ErrNumber},
		{"-9223372036854775808", 1, api.ErrNumber},
		{"18446744073709551616", 0, api.ErrNumber},
		{"18446744073709551617", 0, api.ErrNumber},
		{strings.Repeat("9", 1000), 0, api.ErrNumber},
	})
}

// Promise 5.2: a 0 ahead of other digits, whatever the number.
func TestNoughtAhead(t *testing.T) {
	for _, s := range []string{"00", "01", "007", "000000000000000000000001", "0" + strings.Repeat("9", 30), "00s", "01ms", "01s", "01m", "01h", "01d", "00.5", "01.5", "00.0", "01a", "01_", "01.23456", "01.5a", "0099999999999999999d"} {
		checkRefused(t, []refused{{s, 0, api.ErrSign}, {"a " + s, 2, api.ErrSign}, {"(" + s + ")", 1, api.ErrSign}})
	}
}

// Promise 5.2: a letter or _ behind what was read.
func TestLetterBehind(t *testing.T) {
	for _, s := range []string{"1a", "1_", "1A", "1z", "1Z", "1e5", "0x10", "1_000", "1sec", "1S", "1MS", "1Ms", "1mS", "1M", "1H", "1D", "1select", "1and", "1s1", "1ms1", "1s_", "1ms_", "1m1", "1mm", "1msx", "1msm", "1ds", "1dd", "1hh", "1h2", "1.5a", "1.5s", "1.5ms", "1.5_", "1.5e3", "0.1234d", strings.Repeat("9", 30) + "a", strings.Repeat("9", 30) + "ss", strings.Repeat("9", 30) + ".5a"} {
		checkRefused(t, []refused{{s, 0, api.ErrSign}, {"a " + s, 2, api.ErrSign}, {s + " 'x", 0, api.ErrSign}, {"(" + s + ")", 1, api.ErrSign}})
	}
}

// Promise 5.2: the five endings of a period, and what may stand behind it.
func TestPeriods(t *testing.T) {
	units := map[string]int{"ms": 1, "s": 1000, "m": 60_000, "h": 3_600_000, "d": 86_400_000}
	for unit, ms := range units {
		for _, n := range []int{0, 1, 7, 10, 365, 12725} {
			s := strconv.Itoa(n) + unit
			end := len(s)
			checkTaken(t, []taken{
				{s, list(period(n*ms, 0))},
				{"a " + s, list(name("a", 0), period(n*ms, 2))},
				{s + " x", list(period(n*ms, 0), name("x", end+1))},
				{s + ")", list(period(n*ms, 0), sign(")", end))},
				{s + ".5", list(period(n*ms, 0), sign(".", end), whole(5, end+1))},
				{s + "'x'", list(period(n*ms, 0), text("x", end))},
				{s + "-- 1", list(period(n*ms, 0))},
				{s + "\n1", list(period(n*ms, 0), whole(1, end+1))},
				{s + " 1s", list(period(n*ms, 0), period(1000, end+1))},
			})
			checkRefused(t, []refused{{s + "é", end, api.ErrSign}})
		}
	}
}

// Promise 5.2: a period is at most MaxTime; products that come round to a small one are too great, too.
func TestGreatPeriods(t *testing.T) {
	for unit, ms := range map[string]int{"ms": 1, "s": 1000, "m": 60_000, "h": 3_600_000, "d": 86_400_000} {
		most := api.MaxTime / ms
		checkTaken(t, []taken{{strconv.Itoa(most) + unit, list(period(most*ms, 0))}})
		great := []string{strconv.Itoa(most + 1), strconv.Itoa(math.MaxInt), "9223372036854775808", "18446744073709551617", strings.Repeat("9", 100)}
		if ms > 1 {
			great = append(great, strconv.FormatUint(math.MaxUint64/uint64(ms)+1, 10))
		}
		for _, s := range great {
			checkRefused(t, []refused{{s + unit, 0, api.ErrNumber}, {"a " + s + unit + " !", 2, api.ErrNumber}})
		}
	}
	checkTaken(t, []taken{{"1099511627776ms", list(period(1<<40, 0))}, {"12725d", list(period(12725*86_400_000, 0))}})
	checkRefused(t, []refused{{"1099511627777ms", 0, api.ErrNumber}, {"12726d", 0, api.ErrNumber}})
}

// Promise 5.2: decimals, of 1 to 4 digits behind the point.
func TestDecimals(t *testing.T) {
	checkTaken(t, []taken{
		{"1.25", list(dec(12500, 0))},
		{"0.0", list(dec(0, 0))},
		{"0.0000", list(dec(0, 0))},
		{"0.0001", list(dec(1, 0))},
		{"0.001", list(dec(10, 0))},
		{"0.01", list(dec(100, 0))},
		{"0.1", list(dec(1000, 0))},
		{"1.0", list(dec(10000, 0))},
		{"1.5", list(dec(15000, 0))},
		{"1.05", list(dec(10500, 0))},
		{"1.234", list(dec(12340, 0))},
		{"1.2345", list(dec(12345, 0))},
		{"10.0100", list(dec(100100, 0))},
		{"-1.5", list(sign("-", 0), dec(15000, 1))},
		{"922337203685477.5807", list(dec(math.MaxInt, 0))},
		{"922337203685477.5", list(dec(9223372036854775000, 0))},
		{"1.2.3", list(dec(12000, 0), sign(".", 3), whole(3, 4))},
		{"1.2.3.4", list(dec(12000, 0), sign(".", 3), dec(34000, 4))},
		{"1.5 s", list(dec(15000, 0), name("s", 4))},
		{"1.5)", list(dec(15000, 0), sign(")", 3))},
		{"1.5.", list(dec(15000, 0), sign(".", 3))},
		{"1.2345 6", list(dec(12345, 0), whole(6, 7))},
	})
	checkRefused(t, []refused{
		{"922337203685477.5808", 0, api.ErrNumber},
		{"922337203685477.6", 0, api.ErrNumber},
		{"922337203685478.0", 0, api.ErrNumber},
		{"9223372036854775807.0", 0, api.ErrNumber},
		{"9223372036854775808.0", 0, api.ErrNumber},
		{"a 1844674407370955.1616", 2, api.ErrNumber},
		{"a 1844674407370955.1617", 2, api.ErrNumber},
		{strings.Repeat("9", 100) + ".1", 0, api.ErrNumber},
	})
}

// Promise 5.2: more than 4 digits behind the point, however great the number would be.
func TestLongDecimals(t *testing.T) {
	for _, s := range []string{"1.23456", "0.00000", "1.000000", "1.50000", "0." + strings.Repeat("1", 100), strings.Repeat("9", 100) + ".12345", "1.23456a", "1.23456s"} {
		checkRefused(t, []refused{{s, 0, api.ErrSign}, {"a " + s, 2, api.ErrSign}})
	}
}

// Promise 5.2: a point that has no digit behind it, or none ahead, is a sign.
func TestPointAlone(t *testing.T) {
	checkTaken(t, []taken{
		{"1.", list(whole(1, 0), sign(".", 1))},
		{"1. 5", list(whole(1, 0), sign(".", 1), whole(5, 3))},
		{"1 .5", list(whole(1, 0), sign(".", 2), whole(5, 3))},
		{"1..5", list(whole(1, 0), sign(".", 1), sign(".", 2), whole(5, 3))},
		{"1.a", list(whole(1, 0), sign(".", 1), name("a", 2))},
		{"1.s", list(whole(1, 0), sign(".", 1), name("s", 2))},
		{"1._", list(whole(1, 0), sign(".", 1), name("_", 2))},
		{".5", list(sign(".", 0), whole(5, 1))},
		{".", list(sign(".", 0))},
		{"a.5", list(name("a", 0), sign(".", 1), whole(5, 2))},
		{"a.5s", list(name("a", 0), sign(".", 1), period(5000, 2))},
		{"1.'a'", list(whole(1, 0), sign(".", 1), text("a", 2))},
	})
	checkRefused(t, []refused{{".05", 1, api.ErrSign}, {"1. 05", 3, api.ErrSign}, {"1.!", 2, api.ErrSign}, {"01.", 0, api.ErrSign}})
}
