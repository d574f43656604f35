package funcs_test

import (
	"strings"
	"testing"

	"marquee/api"
)

// Promise 10.2: runes, not bytes.
func TestLength(t *testing.T) {
	checkCalls(t,
		good(whole(0), "length", text("")), good(whole(1), "length", text("a")), good(whole(1), "length", text("é")),
		good(whole(1), "length", text("日")), good(whole(1), "length", text("😀")), good(whole(4), "length", text("aé日😀")),
		good(whole(2), "length", text("e\u0301")), good(whole(1), "length", text("\ufffd")), good(whole(1), "length", text("\x00")),
		good(whole(api.MaxText), "length", long(api.MaxText)),
		good(whole(api.MaxText/4), "length", text(strings.Repeat("😀", api.MaxText/4))),
	)
}

// Promise 10.2: the letters from A to Z alone.
func TestLowerAndUpper(t *testing.T) {
	small, great := "abcdefghijklmnopqrstuvwxyz", "ABCDEFGHIJKLMNOPQRSTUVWXYZ"
	others := "@[`{/:09 _\x00\x7féÉß\u0131\u212a日😀"
	checkCalls(t,
		good(text(small), "lower", text(great)), good(text(great), "upper", text(small)),
		good(text(small), "lower", text(small)), good(text(great), "upper", text(great)),
		good(text(others), "lower", text(others)), good(text(others), "upper", text(others)),
		good(text("aé日😀zÉ"), "lower", text("Aé日😀ZÉ")), good(text("Aé日😀ZÉ"), "upper", text("aé日😀zÉ")),
		good(text(""), "lower", text("")), good(text(""), "upper", text("")),
		good(text(strings.Repeat("X", api.MaxText)), "upper", long(api.MaxText)),
	)
}

// Promise 10.2: the bytes 32 alone, and only at the ends.
func TestTrim(t *testing.T) {
	checkCalls(t,
		good(text(""), "trim", text("")), good(text(""), "trim", text(" ")), good(text(""), "trim", text("     ")),
		good(text("a"), "trim", text("a")), good(text("a"), "trim", text(" a")), good(text("a"), "trim", text("a  ")), good(text("a  b"), "trim", text("   a  b ")),
		good(text("\ta\t"), "trim", text(" \ta\t ")), good(text("\t \n"), "trim", text("\t \n")), good(text("\u00a0"), "trim", text(" \u00a0 ")),
		good(text("\u3000a\r"), "trim", text("\u3000a\r")), good(text("\x00"), "trim", text("\x00")),
		good(text(""), "trim", text(strings.Repeat(" ", api.MaxText))), good(text("é"), "trim", text(" é ")),
	)
}

// Promise 10.2: just as many bytes as a text may have, and one more.
func TestConcat(t *testing.T) {
	checkCalls(t,
		good(text("a"), "concat", text("a")), good(text(""), "concat", text("")), good(text("ab"), "concat", text("a"), text("b")),
		good(text("ba"), "concat", text("b"), text("a")), good(text("éa日😀"), "concat", text("é"), text("a"), text(""), text("日"), text("😀")),
		good(long(api.MaxText), "concat", long(api.MaxText)), good(long(api.MaxText), "concat", long(api.MaxText), text("")),
		good(long(api.MaxText), "concat", long(api.MaxText-1), text("x")), good(long(api.MaxText), "concat", text("x"), long(api.MaxText-1)),
		bad(api.ErrOver, "concat", long(api.MaxText), text("x")), bad(api.ErrOver, "concat", text("x"), long(api.MaxText)),
		bad(api.ErrOver, "concat", long(api.MaxText-1), text("é")), bad(api.ErrOver, "concat", long(api.MaxText), long(api.MaxText)),
		bad(api.ErrOver, "concat", long(api.MaxText), text("x"), text("")),
	)
	many := make([]api.Value, api.MaxText+1)
	for i := range many {
		many[i] = text("x")
	}
	checkCalls(t, good(long(api.MaxText), "concat", many[1:]...), bad(api.ErrOver, "concat", many...))
	for i := range many {
		many[i] = text("")
	}
	checkCalls(t, good(text(""), "concat", many...))
}

// Promise 10.2.
func TestSubstr(t *testing.T) {
	for _, c := range []struct {
		from, many int
		want       string
	}{
		{0, 4, "aé日😀"}, {0, 5, "aé日😀"}, {0, 3, "aé日"}, {0, 2, "aé"}, {0, 1, "a"}, {0, 0, ""},
		{1, 1, "é"}, {1, 2, "é日"}, {1, 3, "é日😀"}, {1, 4, "é日😀"}, {1, 0, ""}, {2, 1, "日"}, {3, 1, "😀"}, {3, 0, ""}, {3, 9, "😀"},
		{4, 1, ""}, {4, 0, ""}, {5, 1, ""}, {100, 100, ""},
		{-1, 2, "aé"}, {-1, 1, "a"}, {-5, 4, "aé日😀"}, {leastInt, 1, "a"}, {leastInt, greatestInt, "aé日😀"},
		{0, -1, ""}, {1, -1, ""}, {-1, -1, ""}, {4, -1, ""}, {0, leastInt, ""}, {leastInt, leastInt, ""},
		{0, greatestInt, "aé日😀"}, {1, greatestInt, "é日😀"}, {2, greatestInt - 1, "日😀"}, {greatestInt, 1, ""}, {greatestInt, greatestInt, ""}, {greatestInt, leastInt, ""}, {greatestInt - 1, 2, ""},
	} {
		checkCalls(t, good(text(c.want), "substr", text("aé日😀"), whole(c.from), whole(c.many)))
		checkCalls(t, good(text(""), "substr", text(""), whole(c.from), whole(c.many)))
	}
	checkCalls(t,
		good(long(api.MaxText), "substr", long(api.MaxText), whole(0), whole(api.MaxText)),
		good(text("x"), "substr", long(api.MaxText), whole(api.MaxText-1), whole(2)),
		good(text(""), "substr", long(api.MaxText), whole(api.MaxText), whole(2)),
		good(text("\ufffd"), "substr", text("a\ufffdb"), whole(1), whole(1)),
	)
}

// Promise 10.2: of each kind.
func TestToText(t *testing.T) {
	checkCalls(t,
		good(null, "totext", null), good(text("true"), "totext", yes), good(text("false"), "totext", no),
		good(text("0"), "totext", whole(0)), good(text("-17"), "totext", whole(-17)),
		good(text("9223372036854775807"), "totext", whole(greatestInt)), good(text("-9223372036854775808"), "totext", whole(leastInt)),
		good(text("0.0"), "totext", dec(0)), good(text("1.5"), "totext", dec(15000)), good(text("-0.0001"), "totext", dec(-1)), good(text("2.0"), "totext", dec(20000)), good(text("0.01"), "totext", dec(100)),
		good(text("922337203685477.5807"), "totext", dec(greatestInt)), good(text("-922337203685477.5808"), "totext", dec(leastInt)),
		good(text(""), "totext", text("")), good(text("it's"), "totext", text("it's")), good(text("'"), "totext", text("'")), good(text(" é日😀"), "totext", text(" é日😀")),
		good(text("null"), "totext", text("null")), good(long(api.MaxText), "totext", long(api.MaxText)),
		good(text(strings.Repeat("'", api.MaxText)), "totext", text(strings.Repeat("'", api.MaxText))),
	)
}
