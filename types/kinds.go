package types

import "marquee/api"

func isBool(kind int) bool { return kind == api.KindBool }

func isText(kind int) bool { return kind == api.KindText }

func isNumber(kind int) bool { return kind == api.KindInt || kind == api.KindDec }

// may tells whether each type is as asked, or that of null.
func may(as func(kind int) bool, kinds ...int) bool {
	for _, k := range kinds {
		if k != api.KindNull && !as(k) {
			return false
		}
	}
	return true
}

func compares(a, b int) bool {
	return may(isNumber, a, b) || may(isBool, a, b) || may(isText, a, b)
}

// comparesAll tells whether the first compares with each of the others, which among themselves may be unlike.
func comparesAll(first int, others ...int) bool {
	for _, k := range others {
		if !compares(first, k) {
			return false
		}
	}
	return true
}

// common answers the type that values of these types have together, and whether there is one.
func common(kinds ...int) (int, bool) {
	kind := api.KindNull
	for _, k := range kinds {
		switch {
		case k == api.KindNull || k == kind:
		case kind == api.KindNull:
			kind = k
		case isNumber(k) && isNumber(kind):
			kind = api.KindDec
		default:
			return api.KindNull, false
		}
	}
	return kind, true
}

// valuesOf leaves the conditions out of a case's types.
func valuesOf(kinds []int) []int {
	last := len(kinds) - 1
	values := []int{kinds[last]}
	for i := 1; i < last; i += 2 {
		values = append(values, kinds[i])
	}
	return values
}

func unary(sign string, kind int) (int, bool) {
	if sign == "not" {
		return api.KindBool, may(isBool, kind)
	}
	return kind, may(isNumber, kind)
}

func binary(sign string, a, b int) (int, bool) {
	switch sign {
	case "and", "or":
		return api.KindBool, may(isBool, a, b)
	case "+", "-", "*", "/", "%":
		kind, _ := common(a, b)
		return kind, may(isNumber, a, b)
	}
	return api.KindBool, compares(a, b)
}

// aggregate answers the type of an aggregate of one type, or of none (count of all). Null alone has no sum, and no least or first one, that has a type.
func aggregate(name string, kinds ...int) (int, bool) {
	if name == "count" {
		return api.KindInt, true
	}
	kind := kinds[0]
	switch name {
	case "sum":
		return kind, isNumber(kind)
	case "avg":
		return api.KindDec, isNumber(kind)
	case "min", "max":
		return kind, isNumber(kind) || isBool(kind) || isText(kind)
	}
	return kind, kind != api.KindNull
}
