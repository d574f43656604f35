package value_test

import (
	"cmp"
	"math"
	"math/big"
	"strings"
	"testing"

	"marquee/api"
	"marquee/value"
)

func isNumber(v api.Value) bool { return v.Kind == api.KindInt || v.Kind == api.KindDec }

// tenThousandths is the number that v is, in ten-thousandths.
func tenThousandths(v api.Value) *big.Int {
	n := big.NewInt(int64(v.N))
	if v.Kind == api.KindInt {
		n.Mul(n, big.NewInt(api.Scale))
	}
	return n
}

// wantCompare says promise 1.3 once more, by numbers without bounds.
func wantCompare(a, b api.Value) (int, bool) {
	switch {
	case isNumber(a) && isNumber(b):
		return tenThousandths(a).Cmp(tenThousandths(b)), true
	case a.Kind != b.Kind:
		return 0, false
	case a.Kind == api.KindText:
		return strings.Compare(a.Text, b.Text), true
	case a.Kind == api.KindBool:
		return cmp.Compare(a.N, b.N), true
	}
	return 0, false
}

// Promise 1.3.
func TestCompareCases(t *testing.T) {
	for _, c := range []struct {
		a, b api.Value
		c    int
		ok   bool
	}{
		{whole(1), dec(15000), -1, true},
		{whole(2), dec(15000), 1, true},
		{whole(1), dec(10000), 0, true},
		{dec(10000), whole(1), 0, true},
		{whole(0), dec(0), 0, true},
		{whole(0), dec(-1), 1, true},
		{whole(0), dec(1), -1, true},
		{whole(-1), dec(-9999), -1, true},
		{whole(-1), dec(-10001), 1, true},
		{whole(-1), dec(-10000), 0, true},
		{dec(-1), dec(1), -1, true},
		{dec(-9999), dec(-1), -1, true},
		{whole(5), whole(-5), 1, true},
		{whole(math.MinInt), whole(math.MaxInt), -1, true},
		{dec(math.MinInt), dec(math.MaxInt), -1, true},
		{whole(math.MaxInt), dec(math.MaxInt), 1, true},
		{whole(math.MinInt), dec(math.MinInt), -1, true},
		{whole(math.MaxInt), dec(math.MinInt), 1, true},
		{whole(math.MaxInt / api.Scale), dec(math.MaxInt), -1, true},
		{whole(math.MaxInt/api.Scale + 1), dec(math.MaxInt), 1, true},
		{whole(math.MinInt / api.Scale), dec(math.MinInt), 1, true},
		{whole(math.MinInt/api.Scale - 1), dec(math.MinInt), -1, true},
		{whole(1 << 60), dec(0), 1, true},
		{text("a"), text("b"), -1, true},
		{text("b"), text("ab"), 1, true},
		{text("a"), text("ab"), -1, true},
		{text(""), text(""), 0, true},
		{text("Z"), text("a"), -1, true},
		{text("\uffff"), text("\U00010000"), -1, true},
		{text("\xff"), text("é"), 1, true},
		{no, yes, -1, true},
		{yes, yes, 0, true},
		{yes, api.Value{Kind: api.KindBool, N: 2}, -1, true},
		{no, api.Value{Kind: api.KindBool, N: -1}, 1, true},
		{whole(1), text("a"), 0, false},
		{whole(1), text("1"), 0, false},
		{whole(1), yes, 0, false},
		{dec(10000), yes, 0, false},
		{text("true"), yes, 0, false},
		{null, null, 0, false},
		{null, whole(0), 0, false},
		{no, null, 0, false},
		{api.Value{Kind: 5}, api.Value{Kind: 5}, 0, false},
		{api.Value{Kind: 5, N: 1}, api.Value{Kind: 5, N: 2}, 0, false},
		{api.Value{Kind: -1}, whole(0), 0, false},
	} {
		if got, ok := value.Compare(c.a, c.b); got != c.c || ok != c.ok {
			t.Errorf("Compare(%#v, %#v): %d, %v, want %d, %v", c.a, c.b, got, ok, c.c, c.ok)
		}
		if got, ok := value.Compare(c.b, c.a); got != -c.c || ok != c.ok {
			t.Errorf("Compare(%#v, %#v): %d, %v, want %d, %v", c.b, c.a, got, ok, -c.c, c.ok)
		}
	}
}

// Promise 1.3.
func TestCompareAndEqualOverAllPairs(t *testing.T) {
	for _, a := range allValues() {
		for _, b := range allValues() {
			c, ok := wantCompare(a, b)
			if gotC, gotOk := value.Compare(a, b); gotC != c || gotOk != ok {
				t.Errorf("Compare(%#v, %#v): %d, %v, want %d, %v", a, b, gotC, gotOk, c, ok)
			}
			want := no
			if a.Kind == api.KindNull || b.Kind == api.KindNull {
				want = null
			} else if ok && c == 0 {
				want = yes
			}
			if got := value.Equal(a, b); got != want {
				t.Errorf("Equal(%#v, %#v): %#v, want %#v", a, b, got, want)
			}
		}
	}
}

// Promise 1.3.
func TestEqualCases(t *testing.T) {
	for _, c := range []struct{ a, b, want api.Value }{
		{null, null, null},
		{null, whole(1), null},
		{text(""), null, null},
		{api.Value{N: 1}, whole(1), null},
		{api.Value{Kind: 9}, null, null},
		{whole(1), dec(10000), yes},
		{dec(10000), whole(1), yes},
		{whole(1), dec(10001), no},
		{whole(1), text("1"), no},
		{whole(1), yes, no},
		{yes, yes, yes},
		{yes, no, no},
		{text("a"), text("a"), yes},
		{text("a"), text("A"), no},
		{api.Value{Kind: 9}, api.Value{Kind: 9}, no},
	} {
		if got := value.Equal(c.a, c.b); got != c.want {
			t.Errorf("Equal(%#v, %#v): %#v, want %#v", c.a, c.b, got, c.want)
		}
	}
}
