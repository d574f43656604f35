package arith_test

import (
	"math/big"
	"testing"

	"marquee/api"
	"marquee/arith"
	"marquee/value"
)

// Promise 2.4.
func TestTheOtherWayRound(t *testing.T) {
	for _, f := range []two{arith.Add, arith.Mul} {
		for _, a := range numbers() {
			for _, b := range numbers() {
				v, e := f(a, b)
				checkTwo(t, "turned", f, []rowTwo{{b, a, v, e}})
			}
		}
	}
}

// Promise 2.4.
func TestSubGivesBack(t *testing.T) {
	for _, a := range numbers() {
		for _, b := range numbers() {
			sum, e := arith.Add(a, b)
			if e != api.OK {
				continue
			}
			back, e := arith.Sub(sum, b)
			if e != api.OK || value.Equal(back, a) != (api.Value{Kind: api.KindBool, N: 1}) {
				t.Errorf("%v + %v - the second: %v, %d", a, b, back, e)
			}
		}
	}
}

// Promise 2.4.
func TestQuotientAndRest(t *testing.T) {
	for _, x := range edges() {
		for _, y := range edges() {
			a, b := whole(x), whole(y)
			q, e1 := arith.Div(a, b)
			r, e2 := arith.Mod(a, b)
			if e1 != api.OK || e2 != api.OK {
				continue
			}
			p, e1 := arith.Mul(b, q)
			s, e2 := arith.Add(p, r)
			if s != a || e1 != api.OK || e2 != api.OK {
				t.Errorf("%d and %d: %v times and %v, made %v", x, y, q, r, s)
			}
		}
	}
}

// Promise 2.4.
func TestIntOfDec(t *testing.T) {
	for _, n := range edges() {
		d, e := arith.Dec(whole(n))
		if e != api.OK {
			continue
		}
		checkOne(t, "Int", arith.Int, []rowOne{{d, whole(n), api.OK}})
	}
}

// Promise 2.4, and R2: beside an error there is nothing.
func TestWhatComesOutMayBe(t *testing.T) {
	all := append(append(numbers(), nulls()...), strangers()...)
	sound := func(v api.Value, e api.Errno) {
		if value.Check(v) != api.OK || e != api.OK && v != (api.Value{}) {
			t.Errorf("came out: %#v, %d", v, e)
		}
	}
	for _, a := range all {
		for _, f := range ones() {
			sound(f(a))
		}
		for _, b := range all {
			for _, f := range twos() {
				sound(f(a, b))
			}
		}
	}
}

// Promises 2.1 and 2.2, held against numbers without bounds.
func TestAgainstWideNumbers(t *testing.T) {
	for _, a := range numbers() {
		for _, b := range numbers() {
			for name, f := range twos() {
				want, err := wide(name, a, b)
				checkTwo(t, name, f, []rowTwo{{a, b, want, err}})
			}
		}
	}
}

// wide says what the chapter says of two numbers.
func wide(name string, a, b api.Value) (api.Value, api.Errno) {
	if (name == "Div" || name == "Mod") && b.N == 0 {
		return null, api.ErrZero
	}
	x, y, kind := big.NewInt(int64(a.N)), big.NewInt(int64(b.N)), api.KindInt
	scale, n := big.NewInt(api.Scale), new(big.Int)
	if a.Kind != api.KindInt || b.Kind != api.KindInt {
		kind = api.KindDec
		if name != "Mul" && a.Kind == api.KindInt {
			x.Mul(x, scale)
		}
		if name != "Mul" && b.Kind == api.KindInt {
			y.Mul(y, scale)
		}
	}
	if !x.IsInt64() || !y.IsInt64() {
		return null, api.ErrOver
	}
	switch name {
	case "Add":
		n.Add(x, y)
	case "Sub":
		n.Sub(x, y)
	case "Mul":
		n.Mul(x, y)
		if a.Kind == b.Kind && kind == api.KindDec {
			n.Quo(n, scale)
		}
	case "Div":
		if kind == api.KindDec {
			x.Mul(x, scale)
		}
		n.Quo(x, y)
	case "Mod":
		n.Rem(x, y)
	}
	if !n.IsInt64() {
		return null, api.ErrOver
	}
	return api.Value{Kind: kind, N: int(n.Int64())}, api.OK
}
