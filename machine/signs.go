package machine

import (
	"marquee/api"
	"marquee/arith"
	"marquee/value"
)

func unary(sign string, a api.Value) (api.Value, api.Errno) {
	if sign == "not" {
		return value.Not(a), api.OK
	}
	return arith.Neg(a)
}

func binary(sign string, a, b api.Value) (api.Value, api.Errno) {
	switch sign {
	case "+":
		return arith.Add(a, b)
	case "-":
		return arith.Sub(a, b)
	case "*":
		return arith.Mul(a, b)
	case "/":
		return arith.Div(a, b)
	case "%":
		return arith.Mod(a, b)
	}
	return logical(sign, a, b), api.OK
}

// logical answers what a sign makes that has no errors: a truth, or unknown.
func logical(sign string, a, b api.Value) api.Value {
	switch sign {
	case "and":
		return value.And(a, b)
	case "or":
		return value.Or(a, b)
	case "=":
		return value.Equal(a, b)
	case "!=":
		return value.Not(value.Equal(a, b))
	}
	c, ok := value.Compare(a, b)
	if !ok {
		return api.Value{}
	}
	return truth(holds(sign, c))
}

// holds tells whether < <= > or >= holds of two values of which Compare says c.
func holds(sign string, c int) bool {
	switch sign {
	case "<":
		return c < 0
	case "<=":
		return c <= 0
	case ">":
		return c > 0
	}
	return c >= 0
}

func truth(yes bool) api.Value {
	if yes {
		return api.Value{Kind: api.KindBool, N: 1}
	}
	return api.Value{Kind: api.KindBool}
}
