package funcs

import "marquee/api"

// function is one row of the chapter's table.
type function struct {
	name    string
	takes   func(kinds ...int) bool
	answers int // a kind, ofFirst or ofAll
	does    func(args ...api.Value) (api.Value, api.Errno)
	// A function that does not see null is not asked where an argument is null.
	seesNull bool
}

// What a function answers, where no one kind says it; both are no kinds.
const (
	ofFirst = -1 // the kind of the first argument
	ofAll   = -2 // the kind of arguments that are alike
)

// table answers all functions by rising names.
func table() [18]function {
	return [...]function{
		{name: "abs", takes: oneNumber, answers: ofFirst, does: abs},
		{name: "ceil", takes: oneNumber, answers: api.KindInt, does: ceil},
		{name: "coalesce", takes: someAlike, answers: ofAll, does: coalesce, seesNull: true},
		{name: "concat", takes: someTexts, answers: api.KindText, does: concat},
		{name: "floor", takes: oneNumber, answers: api.KindInt, does: floor},
		{name: "greatest", takes: someAlike, answers: ofAll, does: greatest},
		{name: "least", takes: someAlike, answers: ofAll, does: least},
		{name: "length", takes: oneText, answers: api.KindInt, does: length},
		{name: "lower", takes: oneText, answers: api.KindText, does: lower},
		{name: "nullif", takes: twoAlike, answers: ofFirst, does: nullif, seesNull: true},
		{name: "round", takes: oneNumber, answers: api.KindInt, does: round},
		{name: "sign", takes: oneNumber, answers: api.KindInt, does: sign},
		{name: "substr", takes: textAndPlaces, answers: api.KindText, does: substr},
		{name: "todec", takes: oneNumber, answers: api.KindDec, does: toDec},
		{name: "toint", takes: oneNumber, answers: api.KindInt, does: toInt},
		{name: "totext", takes: oneOfAny, answers: api.KindText, does: toText},
		{name: "trim", takes: oneText, answers: api.KindText, does: trim},
		{name: "upper", takes: oneText, answers: api.KindText, does: upper},
	}
}

// kind answers the kind of what f answers for kinds that it takes.
func (f function) kind(kinds ...int) int {
	switch f.answers {
	case ofFirst:
		return kinds[0]
	case ofAll:
		kind, _ := common(kinds...)
		return kind
	}
	return f.answers
}
