package funcs_test

import (
	"slices"
	"testing"

	"marquee/api"
)

// The chapter's examples.
func TestExamples(t *testing.T) {
	checkCalls(t,
		good(dec(15000), "abs", dec(-15000)),
		bad(api.ErrOver, "abs", whole(leastInt)),
		good(whole(3), "round", dec(25000)),
		good(whole(-3), "round", dec(-25000)),
		good(dec(10000), "coalesce", null, whole(1), dec(25000)),
		good(dec(10000), "greatest", whole(1), dec(10000)),
		good(text("a"), "least", text("b"), text("a")),
		bad(api.ErrFunc, "least", whole(1), text("a")),
		good(whole(2), "length", text("aä")),
		good(text("bc"), "substr", text("abc"), whole(1), whole(5)),
		good(text("1.5"), "totext", dec(15000)),
		good(null, "totext", null),
		good(null, "nullif", whole(1), dec(10000)),
		good(null, "concat", text("a"), null),
		bad(api.ErrFunc, "sign"),
	)
}

// Promise 10.2: ErrFunc of a name that is none, whatever the arguments are.
func TestNoFunction(t *testing.T) {
	for _, name := range strangeNames() {
		checkCalls(t, bad(api.ErrFunc, name))
		for _, v := range slices.Concat(goodValues(), badValues(), kindless()) {
			checkCalls(t, bad(api.ErrFunc, name, v), bad(api.ErrFunc, name, v, v))
		}
	}
}

// Promise 10.2: ErrFunc of too few and too many.
func TestTooFewAndTooMany(t *testing.T) {
	checkCalls(t, bad(api.ErrFunc, "nullif", whole(1)), bad(api.ErrFunc, "substr", text("a")), bad(api.ErrFunc, "substr", text("a"), whole(1)))
	for _, name := range allNames() {
		checkCalls(t, call{name, nil, null, api.ErrFunc}, call{name, list(), null, api.ErrFunc})
	}
	eachFitting(func(name string, args []api.Value) {
		last := args[len(args)-1]
		switch name {
		case "coalesce", "concat", "greatest", "least":
			return
		}
		checkCalls(t, bad(api.ErrFunc, name, append(args, last)...), bad(api.ErrFunc, name, append(args, null)...))
	})
}

// Promise 10.2: a kind that does not fit comes ahead of a value that may not be, which comes ahead of null and ErrOver.
func TestKindsAheadOfValues(t *testing.T) {
	ill := api.Value{Kind: api.KindInt, N: 1, Text: "a"}
	checkCalls(t,
		bad(api.ErrFunc, "upper", ill),
		bad(api.ErrFunc, "abs", ill, ill),
		bad(api.ErrFunc, "least", ill, text("a")),
		bad(api.ErrFunc, "least", text("a"), ill),
		bad(api.ErrFunc, "coalesce", ill, null, yes),
		bad(api.ErrFunc, "substr", text("\xff"), whole(1)),
		bad(api.ErrFunc, "substr", text("\xff"), whole(1), dec(1)),
		bad(api.ErrFunc, "concat", text("\xff"), whole(1)),
		bad(api.ErrFunc, "nullif", text("\xff"), whole(1)),
		bad(api.ErrFunc, "greatest", api.Value{Kind: api.KindNull, N: 1}, api.Value{Kind: 5}),
		bad(api.ErrKind, "abs", ill),
		bad(api.ErrKind, "coalesce", whole(1), ill),
		bad(api.ErrKind, "coalesce", dec(1), whole(greatestInt), ill),
		bad(api.ErrKind, "greatest", dec(1), whole(greatestInt), ill),
		bad(api.ErrKind, "greatest", null, ill),
		bad(api.ErrKind, "nullif", null, ill),
		bad(api.ErrKind, "nullif", whole(1), ill),
		bad(api.ErrKind, "concat", long(api.MaxText), long(api.MaxText), text("\xff")),
		bad(api.ErrKind, "concat", long(api.MaxText+1)),
		bad(api.ErrKind, "concat", null, text("\xff")),
		bad(api.ErrKind, "totext", api.Value{Kind: api.KindBool, N: 2}),
		bad(api.ErrKind, "totext", api.Value{Kind: api.KindNull, N: 2}),
		bad(api.ErrKind, "length", long(api.MaxText+1)),
	)
}

// Promise 10.2: values that may not be, in each place of each function, with null in each other place, and with an error of the kinds.
func TestValuesThatMayNotBe(t *testing.T) {
	m := newModel()
	eachFitting(func(name string, args []api.Value) {
		for place := range args {
			for _, v := range append(badValues(), kindless()...) {
				l := with(args, place, v)
				_, err := m.kind(name, kindsOf(l))
				if err == api.OK {
					err = api.ErrKind
				}
				checkCalls(t, bad(err, name, l...))
				for other := range l {
					if other != place {
						checkCalls(t, bad(api.ErrFunc, name, with(l, other, api.Value{Kind: 5})...))
					}
				}
				if v.Kind >= api.KindNull && v.Kind <= api.KindText {
					nulls := with(make([]api.Value, len(l)), place, v)
					_, err := m.kind(name, kindsOf(nulls))
					if err == api.OK {
						err = api.ErrKind
					}
					checkCalls(t, bad(err, name, nulls...))
				}
			}
		}
	})
}

// Promise 10.2: null in each place of each function.
func TestNullInEachPlace(t *testing.T) {
	eachFitting(func(name string, args []api.Value) {
		if name == "coalesce" || name == "nullif" {
			return
		}
		for place := range args {
			checkCalls(t, good(null, name, with(args, place, null)...))
		}
		checkCalls(t, good(null, name, make([]api.Value, len(args))...))
	})
	for _, name := range []string{"greatest", "least", "concat"} {
		checkCalls(t, good(null, name, null), good(null, name, null, null, null))
	}
}

// Promise 10.2: null comes ahead of ErrOver, but of coalesce.
func TestNullAheadOfOver(t *testing.T) {
	for place := range 3 {
		over := slices.Insert(list(whole(greatestInt), dec(1)), place, null)
		checkCalls(t,
			good(null, "greatest", over...),
			good(null, "least", over...),
			bad(api.ErrOver, "coalesce", over...),
			good(null, "concat", slices.Insert(list(long(api.MaxText), text("a")), place, null)...),
		)
	}
}

// Promise 10.2: coalesce and nullif see null.
func TestSeenNulls(t *testing.T) {
	checkCalls(t,
		good(null, "coalesce", null),
		good(null, "coalesce", null, null, null),
		good(whole(1), "coalesce", null, null, whole(1), null),
		good(whole(1), "coalesce", whole(1), null),
		good(text(""), "coalesce", null, text(""), text("a")),
		good(no, "coalesce", null, no, yes),
		good(whole(0), "coalesce", whole(0), whole(1)),
		good(null, "nullif", null, null),
		good(null, "nullif", null, whole(0)),
		good(null, "nullif", null, text("")),
		good(whole(0), "nullif", whole(0), null),
		good(dec(leastInt), "nullif", dec(leastInt), null),
		good(text("a"), "nullif", text("a"), null),
		good(no, "nullif", no, null),
	)
}
