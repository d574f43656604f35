package aggs

import "math/bits"

// wide is a whole number of 128 bits, in two's complement: a sum of ints may leave an int on its way and come back.
type wide struct {
	high, low uint64
}

func (w wide) plus(n int) wide {
	low, carry := bits.Add64(w.low, uint64(n), 0)
	high, _ := bits.Add64(w.high, sign(n), carry)
	return wide{high, low}
}

func (w wide) minus(n int) wide {
	low, borrow := bits.Sub64(w.low, uint64(n), 0)
	high, _ := bits.Sub64(w.high, sign(n), borrow)
	return wide{high, low}
}

// whole answers the number, and whether it is an int.
func (w wide) whole() (int, bool) {
	n := int(w.low)
	return n, w.high == sign(n)
}

// share answers so many times the number, divided by many, towards 0, and whether that is an int.
func (w wide) share(times, many int) (int, bool) {
	size, below := w.size()
	high, low := bits.Mul64(size.low, uint64(times))
	high += size.high * uint64(times)
	if high >= uint64(many) {
		return 0, false
	}
	n, _ := bits.Div64(high, low, uint64(many))
	if below {
		return int(-n), n <= 1<<63
	}
	return int(n), n < 1<<63
}

// size answers the number without its sign, and whether it is below 0.
func (w wide) size() (wide, bool) {
	if int(w.high) >= 0 {
		return w, false
	}
	low, borrow := bits.Sub64(0, w.low, 0)
	high, _ := bits.Sub64(0, w.high, borrow)
	return wide{high, low}, true
}

// sign answers the upper half of n as a wide number.
func sign(n int) uint64 {
	return uint64(n >> 63)
}
