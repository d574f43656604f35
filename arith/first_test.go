package arith_test

import (
	"testing"

	"marquee/api"
	"marquee/arith"
)

// Promises 2.1 to 2.3: ErrKind comes first of all.
func TestKindsFirst(t *testing.T) {
	others := append(append(numbers(), nulls()...), strangers()...)
	for _, s := range strangers() {
		for name, f := range ones() {
			checkOne(t, name, f, []rowOne{{s, null, api.ErrKind}})
		}
		for name, f := range twos() {
			for _, v := range others {
				checkTwo(t, name, f, []rowTwo{{s, v, null, api.ErrKind}, {v, s, null, api.ErrKind}})
			}
		}
	}
}

// Promises 2.1 to 2.3: null comes ahead of ErrZero and ErrOver.
func TestNullSecond(t *testing.T) {
	for _, n := range nulls() {
		for name, f := range ones() {
			checkOne(t, name, f, []rowOne{{n, null, api.OK}})
		}
		for name, f := range twos() {
			for _, v := range append(numbers(), nulls()...) {
				checkTwo(t, name, f, []rowTwo{{n, v, null, api.OK}, {v, n, null, api.OK}})
			}
		}
	}
}

// Promise 2.2: a division by nothing comes ahead of a number that as a dec leaves an int.
func TestZeroThird(t *testing.T) {
	for _, f := range []two{arith.Div, arith.Mod} {
		for _, v := range numbers() {
			checkTwo(t, "Div or Mod", f, []rowTwo{
				{v, whole(0), null, api.ErrZero},
				{v, dec(0), null, api.ErrZero},
			})
		}
	}
}

// Promise 2.2: only the second number's N is asked for nothing.
func TestNothingDivided(t *testing.T) {
	checkTwo(t, "Div", arith.Div, []rowTwo{{whole(0), whole(5), whole(0), api.OK}, {dec(0), whole(5), dec(0), api.OK}})
	checkTwo(t, "Mod", arith.Mod, []rowTwo{{whole(0), whole(5), whole(0), api.OK}, {whole(0), dec(5), dec(0), api.OK}})
	checkTwo(t, "Mul", arith.Mul, []rowTwo{{whole(5), whole(0), whole(0), api.OK}})
	checkTwo(t, "Sub", arith.Sub, []rowTwo{{whole(5), whole(0), whole(5), api.OK}})
}

// Numbers with a text may not be, but Kind and N alone play a part, and what comes out has none.
func TestTextPlaysNoPart(t *testing.T) {
	dressed := func(v api.Value) api.Value {
		v.Text = "a"
		return v
	}
	for _, a := range []api.Value{whole(7), dec(75000), whole(least), null} {
		for _, f := range ones() {
			v, e := f(a)
			checkOne(t, "with a text", f, []rowOne{{dressed(a), v, e}})
		}
		for _, b := range []api.Value{whole(2), dec(20000), whole(0), null} {
			for _, f := range twos() {
				v, e := f(a, b)
				checkTwo(t, "with a text", f, []rowTwo{{dressed(a), dressed(b), v, e}})
			}
		}
	}
}
