package value_test

import (
	"testing"

	"marquee/api"
	"marquee/value"
)

// Promise 1.1.
func TestCheckTakesWhatMayBe(t *testing.T) {
	for _, v := range goodValues() {
		if e := value.Check(v); e != api.OK {
			t.Errorf("Check(%#v): %d, want OK", v, e)
		}
	}
}

// Promise 1.1.
func TestCheckRefusesWhatMayNotBe(t *testing.T) {
	for _, v := range badValues() {
		if e := value.Check(v); e != api.ErrArg {
			t.Errorf("Check(%#v): %d, want ErrArg", v, e)
		}
	}
}
