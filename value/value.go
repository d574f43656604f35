// Package value is layer 1: values, three-valued logic over them, and their orders. See shared/doc/01-value.md.
package value

import (
	"cmp"
	"strconv"
	"strings"
	"unicode/utf8"

	"marquee/api"
)

// ranks says of each kind where it stands in Order; the two kinds of numbers stand together.
var ranks = [5]int{
	api.KindNull: 0,
	api.KindBool: 1,
	api.KindInt:  2,
	api.KindDec:  2,
	api.KindText: 3,
}

// otherRank is that of every kind that the table does not name.
const otherRank = 4

// Check answers OK, if v may be, else ErrArg.
func Check(v api.Value) api.Errno {
	if mayBe(v) {
		return api.OK
	}
	return api.ErrArg
}

func mayBe(v api.Value) bool {
	switch v.Kind {
	case api.KindNull:
		return v.N == 0 && v.Text == ""
	case api.KindBool:
		return (v.N == 0 || v.N == 1) && v.Text == ""
	case api.KindInt, api.KindDec:
		return v.Text == ""
	case api.KindText:
		return v.N == 0 && len(v.Text) <= api.MaxText && utf8.ValidString(v.Text)
	}
	return false
}

// Not answers true of false, false of true, unknown of all else.
func Not(a api.Value) api.Value {
	if a.Kind != api.KindBool {
		return unknown()
	}
	return truth(!True(a))
}

// And answers false, if one is false; else unknown, if one is unknown; else true.
func And(a, b api.Value) api.Value {
	switch {
	case isFalse(a) || isFalse(b):
		return truth(false)
	case True(a) && True(b):
		return truth(true)
	}
	return unknown()
}

// Or answers true, if one is true; else unknown, if one is unknown; else false.
func Or(a, b api.Value) api.Value {
	switch {
	case True(a) || True(b):
		return truth(true)
	case isFalse(a) && isFalse(b):
		return truth(false)
	}
	return unknown()
}

// True tells whether a is true.
func True(a api.Value) bool {
	return a.Kind == api.KindBool && a.N != 0
}

func isFalse(a api.Value) bool {
	return a.Kind == api.KindBool && a.N == 0
}

func truth(yes bool) api.Value {
	if yes {
		return api.Value{Kind: api.KindBool, N: 1}
	}
	return api.Value{Kind: api.KindBool, N: 0}
}

func unknown() api.Value {
	return api.Value{Kind: api.KindNull}
}

// Compare answers -1, 0, 1, as a is below, the same, above, and true; 0 and false, if the two can't be compared.
func Compare(a, b api.Value) (int, bool) {
	switch {
	case isNumber(a) && isNumber(b):
		return compareNumbers(a, b), true
	case a.Kind == api.KindText && b.Kind == api.KindText:
		return strings.Compare(a.Text, b.Text), true
	case a.Kind == api.KindBool && b.Kind == api.KindBool:
		return cmp.Compare(a.N, b.N), true
	}
	return 0, false
}

// Equal answers unknown, if one is null; else whether Compare says that they are the same.
func Equal(a, b api.Value) api.Value {
	if a.Kind == api.KindNull || b.Kind == api.KindNull {
		return unknown()
	}
	c, ok := Compare(a, b)
	return truth(ok && c == 0)
}

func isNumber(v api.Value) bool {
	return v.Kind == api.KindInt || v.Kind == api.KindDec
}

// compareNumbers holds whole parts and rests against each other, since a whole number in ten-thousandths may leave an int.
func compareNumbers(a, b api.Value) int {
	wholeA, restA := split(a)
	wholeB, restB := split(b)
	if wholeA != wholeB {
		return cmp.Compare(wholeA, wholeB)
	}
	return cmp.Compare(restA, restB)
}

// split cuts towards 0: the rest of a number below 0 is not above 0, so the pairs stand as the numbers do.
func split(v api.Value) (whole, rest int) {
	if v.Kind == api.KindInt {
		return v.N, 0
	}
	return v.N / api.Scale, v.N % api.Scale
}

// Order answers -1, 0, 1: the order of all values, those that may not be among them.
func Order(a, b api.Value) int {
	rankA, rankB := rank(a.Kind), rank(b.Kind)
	if rankA != rankB {
		return cmp.Compare(rankA, rankB)
	}
	if rankA == otherRank {
		return orderOthers(a, b)
	}
	c, _ := Compare(a, b)
	if c == 0 && isNumber(a) {
		// KindInt is the lesser of the two kinds of numbers.
		return cmp.Compare(a.Kind, b.Kind)
	}
	return c
}

func rank(kind int) int {
	if kind < 0 || kind >= len(ranks) {
		return otherRank
	}
	return ranks[kind]
}

func orderOthers(a, b api.Value) int {
	if a.Kind != b.Kind {
		return cmp.Compare(a.Kind, b.Kind)
	}
	if a.N != b.N {
		return cmp.Compare(a.N, b.N)
	}
	return strings.Compare(a.Text, b.Text)
}

// Show answers v's text, as the language writes it; "", if v may not be.
func Show(v api.Value) string {
	if !mayBe(v) {
		return ""
	}
	switch v.Kind {
	case api.KindBool:
		return strconv.FormatBool(True(v))
	case api.KindInt:
		return strconv.Itoa(v.N)
	case api.KindDec:
		return showDec(v.N)
	case api.KindText:
		return "'" + strings.ReplaceAll(v.Text, "'", "''") + "'"
	}
	return "null"
}

func showDec(n int) string {
	sign, size := "", uint(n)
	if n < 0 {
		// The least int has no opposite among ints, but its size is an uint.
		sign, size = "-", -size
	}
	whole := strconv.FormatUint(uint64(size/api.Scale), 10)
	// Scale added ahead keeps the rest's leading noughts.
	rest := strconv.FormatUint(uint64(api.Scale+size%api.Scale), 10)[1:]
	return sign + whole + "." + rest[:1] + strings.TrimRight(rest[1:], "0")
}
