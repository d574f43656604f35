package value_test

import (
	"testing"

	"marquee/api"
	"marquee/value"
)

// logicValues are all that logic tells apart, in more than one guise.
func logicValues() []api.Value {
	l := append(trues(), falses()...)
	return append(l, unknowns()...)
}

// Promise 1.6: Not of And is Or of the Nots; And, Or are the same the other way round.
func TestLogicOverPairs(t *testing.T) {
	for _, a := range logicValues() {
		for _, b := range logicValues() {
			if value.Not(value.And(a, b)) != value.Or(value.Not(a), value.Not(b)) {
				t.Errorf("Not of And of %#v, %#v", a, b)
			}
			if value.And(a, b) != value.And(b, a) || value.Or(a, b) != value.Or(b, a) {
				t.Errorf("%#v and %#v the other way round", a, b)
			}
		}
	}
}

// Promise 1.6: And, Or hold together over three.
func TestLogicOverThree(t *testing.T) {
	for _, a := range logicValues() {
		for _, b := range logicValues() {
			for _, c := range logicValues() {
				if value.And(value.And(a, b), c) != value.And(a, value.And(b, c)) {
					t.Errorf("And of %#v, %#v, %#v", a, b, c)
				}
				if value.Or(value.Or(a, b), c) != value.Or(a, value.Or(b, c)) {
					t.Errorf("Or of %#v, %#v, %#v", a, b, c)
				}
			}
		}
	}
}

// Promise 1.6: Order is an order of all values.
func TestOrderIsAnOrder(t *testing.T) {
	l := allValues()
	for _, a := range l {
		if value.Order(a, a) != 0 {
			t.Errorf("Order(%#v, itself): %d", a, value.Order(a, a))
		}
		for _, b := range l {
			ab := value.Order(a, b)
			if ab < -1 || ab > 1 || ab != -value.Order(b, a) {
				t.Errorf("Order(%#v, %#v): %d, the other way %d", a, b, ab, value.Order(b, a))
			}
			for _, c := range l {
				if ab <= 0 && value.Order(b, c) <= 0 && value.Order(a, c) > 0 {
					t.Errorf("Order over %#v, %#v, %#v", a, b, c)
				}
			}
		}
	}
}

// Promise 1.6: two values that may be and are not the same have unlike texts, and Order tells them apart.
func TestUnlikeValuesHaveUnlikeTexts(t *testing.T) {
	l := goodValues()
	for _, a := range l {
		for _, b := range l {
			if (a == b) != (value.Show(a) == value.Show(b)) {
				t.Errorf("texts of %#v, %#v: %q, %q", a, b, value.Show(a), value.Show(b))
			}
			if (a == b) != (value.Order(a, b) == 0) {
				t.Errorf("Order(%#v, %#v): %d", a, b, value.Order(a, b))
			}
		}
	}
}
