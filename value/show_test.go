package value_test

import (
	"math"
	"strings"
	"testing"

	"marquee/api"
	"marquee/value"
)

// Promise 1.5.
func TestShow(t *testing.T) {
	for _, c := range []struct {
		v    api.Value
		want string
	}{
		{null, "null"},
		{yes, "true"},
		{no, "false"},
		{whole(0), "0"},
		{whole(7), "7"},
		{whole(-7), "-7"},
		{whole(1000), "1000"},
		{whole(math.MaxInt), "9223372036854775807"},
		{whole(math.MinInt), "-9223372036854775808"},
		{dec(0), "0.0"},
		{dec(1), "0.0001"},
		{dec(-1), "-0.0001"},
		{dec(10), "0.001"},
		{dec(100), "0.01"},
		{dec(1000), "0.1"},
		{dec(-5000), "-0.5"},
		{dec(10000), "1.0"},
		{dec(15000), "1.5"},
		{dec(20000), "2.0"},
		{dec(-20000), "-2.0"},
		{dec(10010), "1.001"},
		{dec(10100), "1.01"},
		{dec(12345), "1.2345"},
		{dec(-12340), "-1.234"},
		{dec(1000000), "100.0"},
		{dec(math.MaxInt), "922337203685477.5807"},
		{dec(math.MinInt), "-922337203685477.5808"},
		{text(""), "''"},
		{text("a"), "'a'"},
		{text("it's"), "'it''s'"},
		{text("'"), "''''"},
		{text("''"), "''''''"},
		{text("null"), "'null'"},
		{text("a\nb\\\"\x00é"), "'a\nb\\\"\x00é'"},
		{text(strings.Repeat("a", api.MaxText)), "'" + strings.Repeat("a", api.MaxText) + "'"},
		{text(strings.Repeat("'", api.MaxText)), strings.Repeat("'", 2*api.MaxText+2)},
	} {
		if got := value.Show(c.v); got != c.want {
			t.Errorf("Show(%#v): %q, want %q", c.v, got, c.want)
		}
	}
}

// Promise 1.5.
func TestShowOfWhatMayNotBe(t *testing.T) {
	for _, v := range badValues() {
		if got := value.Show(v); got != "" {
			t.Errorf("Show(%#v): %q, want nothing", v, got)
		}
	}
}
