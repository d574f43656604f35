package funcs

import (
	"cmp"

	"marquee/api"
	"marquee/arith"
)

func whole(n int) (api.Value, api.Errno) {
	return api.Value{Kind: api.KindInt, N: n}, api.OK
}

func abs(args ...api.Value) (api.Value, api.Errno) {
	if args[0].N < 0 {
		return arith.Neg(args[0])
	}
	return args[0], api.OK
}

func sign(args ...api.Value) (api.Value, api.Errno) {
	return whole(cmp.Compare(args[0].N, 0))
}

func toDec(args ...api.Value) (api.Value, api.Errno) { return arith.Dec(args[0]) }

func toInt(args ...api.Value) (api.Value, api.Errno) { return arith.Int(args[0]) }

func ceil(args ...api.Value) (api.Value, api.Errno) {
	n, rest := cut(args[0])
	if rest > 0 {
		n++
	}
	return whole(n)
}

func floor(args ...api.Value) (api.Value, api.Errno) {
	n, rest := cut(args[0])
	if rest < 0 {
		n--
	}
	return whole(n)
}

func round(args ...api.Value) (api.Value, api.Errno) {
	n, rest := cut(args[0])
	switch {
	case 2*rest >= api.Scale:
		n++
	case 2*rest <= -api.Scale:
		n--
	}
	return whole(n)
}

// cut answers a number's whole part, towards 0, and the ten-thousandths that are left. Only a dec leaves some, and its whole part is far from where an int ends.
func cut(v api.Value) (n, rest int) {
	if v.Kind == api.KindInt {
		return v.N, 0
	}
	return v.N / api.Scale, v.N % api.Scale
}
