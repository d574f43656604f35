package funcs

import "marquee/api"

func oneNumber(kinds ...int) bool { return len(kinds) == 1 && all(isNumber, kinds...) }

func oneText(kinds ...int) bool { return len(kinds) == 1 && all(isText, kinds...) }

func oneOfAny(kinds ...int) bool { return len(kinds) == 1 }

func someTexts(kinds ...int) bool { return len(kinds) >= 1 && all(isText, kinds...) }

func someAlike(kinds ...int) bool { return len(kinds) >= 1 && alike(kinds...) }

func twoAlike(kinds ...int) bool { return len(kinds) == 2 && alike(kinds...) }

func textAndPlaces(kinds ...int) bool {
	return len(kinds) == 3 && all(isText, kinds[0]) && all(isInt, kinds[1:]...)
}

func isNumber(kind int) bool { return kind == api.KindInt || kind == api.KindDec }

func isInt(kind int) bool { return kind == api.KindInt }

func isText(kind int) bool { return kind == api.KindText }

// areKinds tells whether all numbers are kinds.
func areKinds(kinds ...int) bool {
	for _, k := range kinds {
		if k < api.KindNull || k > api.KindText {
			return false
		}
	}
	return true
}

// all tells whether each kind is as asked, or KindNull, which fits everywhere.
func all(as func(kind int) bool, kinds ...int) bool {
	for _, k := range kinds {
		if k != api.KindNull && !as(k) {
			return false
		}
	}
	return true
}

func alike(kinds ...int) bool {
	_, ok := common(kinds...)
	return ok
}

// common answers the kind of kinds that are alike, and whether they are.
func common(kinds ...int) (int, bool) {
	kind := api.KindNull
	for _, k := range kinds {
		switch {
		case k == api.KindNull || k == kind:
		case kind == api.KindNull:
			kind = k
		case isNumber(k) && isNumber(kind):
			kind = api.KindDec
		default:
			return 0, false
		}
	}
	return kind, true
}
