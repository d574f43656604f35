package lex_test

import (
	"strings"
	"testing"

	"marquee/api"
)

// Promise 5.2: nothing, blanks and notes alone give no token.
func TestNothing(t *testing.T) {
	checkTaken(t, []taken{
		{"", nil},
		{" ", nil},
		{"\t\n\r ", nil},
		{"--", nil},
		{"-- a", nil},
		{"--\n", nil},
		{"-- a\n", nil},
		{"-- a\n-- b", nil},
		{"/**/", nil},
		{"/* a */", nil},
		{"/* a\nb */\t-- c\n/***/", nil},
		{"--/*", nil},
		{"-- /* a\n", nil},
		{"--'", nil},
		{"-- \xff\x00!", nil},
		{"/*'\xff\x00!*/", nil},
		{strings.Repeat(" ", 100000), nil},
		{strings.Repeat("/**/", 100000), nil},
		{strings.Repeat("--\n", 100000), nil},
	})
}

// Promise 5.2: a note of one line goes up to ahead of the next byte 10.
func TestLineNotes(t *testing.T) {
	checkTaken(t, []taken{
		{"a -> b -- c", list(name("a", 0), sign("->", 2), name("b", 5))},
		{"a--b\nc", list(name("a", 0), name("c", 5))},
		{"a--\nc", list(name("a", 0), name("c", 4))},
		{"a--b\rc", list(name("a", 0))},
		{"a--b\rc\nd", list(name("a", 0), name("d", 7))},
		{"a-- */ b\nd", list(name("a", 0), name("d", 9))},
		{"---\n1", list(whole(1, 4))},
		{"-->\n1", list(whole(1, 4))},
		{"- -1", list(sign("-", 0), sign("-", 2), whole(1, 3))},
		{"a---b", list(name("a", 0))},
		{"<--\n=", list(sign("<", 0), sign("=", 4))},
	})
}

// Promise 5.2: a note that /* begins goes up to the next */, and with it.
func TestNotes(t *testing.T) {
	checkTaken(t, []taken{
		{"a/**/b", list(name("a", 0), name("b", 5))},
		{"a/* x */b", list(name("a", 0), name("b", 8))},
		{"a/*/*/b", list(name("a", 0), name("b", 6))},
		{"a/*/ */b", list(name("a", 0), name("b", 7))},
		{"a/***/b", list(name("a", 0), name("b", 6))},
		{"a/*/**/b", list(name("a", 0), name("b", 7))},
		{"/*/* */*/", list(sign("*", 7), sign("/", 8))},
		{"/* -- */ a", list(name("a", 9))},
		{"/* ' */ a", list(name("a", 8))},
		{"/*\n*/a", list(name("a", 5))},
		{"1/*x*//2", list(whole(1, 0), sign("/", 6), whole(2, 7))},
		{"</**/=", list(sign("<", 0), sign("=", 5))},
		{"se/**/lect", list(name("se", 0), name("lect", 6))},
		{"*/", list(sign("*", 0), sign("/", 1))},
		{"* /*a*/ /", list(sign("*", 0), sign("/", 8))},
		{"/ *a", list(sign("/", 0), sign("*", 2), name("a", 3))},
	})
	checkRefused(t, []refused{
		{"/*", 0, api.ErrSign},
		{"/*/", 0, api.ErrSign},
		{"/* x", 0, api.ErrSign},
		{"/* x *", 0, api.ErrSign},
		{"/* x * /", 0, api.ErrSign},
		{"a /* x", 2, api.ErrSign},
		{"a/*/", 1, api.ErrSign},
		{"/**/ /*/", 5, api.ErrSign},
		{"/* a */ /* b", 8, api.ErrSign},
		{"/* 'a", 0, api.ErrSign},
		{"*/*", 1, api.ErrSign},
		{"1 /* \n -- */\n /*", 14, api.ErrSign},
	})
}

// Promise 5.2: blanks are the bytes 9, 10, 13 and 32.
func TestBlanks(t *testing.T) {
	checkTaken(t, []taken{
		{"a\tb", list(name("a", 0), name("b", 2))},
		{"a\nb", list(name("a", 0), name("b", 2))},
		{"a\rb", list(name("a", 0), name("b", 2))},
		{"a b", list(name("a", 0), name("b", 2))},
		{" \t\r\n a  ", list(name("a", 5))},
		{"< =", list(sign("<", 0), sign("=", 2))},
		{"'a' 'b'", list(text("a", 0), text("b", 4))},
	})
}

// Promise 5.2: texts, in which two ' one behind the other say one.
func TestTexts(t *testing.T) {
	checkTaken(t, []taken{
		{"''", list(text("", 0))},
		{"'a'", list(text("a", 0))},
		{"'it''s'", list(text("it's", 0))},
		{"'''s'", list(text("'s", 0))},
		{"'it'''", list(text("it'", 0))},
		{"''''", list(text("'", 0))},
		{"''''''", list(text("''", 0))},
		{"'a''''b'", list(text("a''b", 0))},
		{"'''a''b'''", list(text("'a'b'", 0))},
		{"'' ''", list(text("", 0), text("", 3))},
		{"'a'b", list(text("a", 0), name("b", 3))},
		{"'a'1", list(text("a", 0), whole(1, 3))},
		{"'--'", list(text("--", 0))},
		{"'/*'", list(text("/*", 0))},
		{"'\n\t\r\x00'", list(text("\n\t\r\x00", 0))},
		{"'é€😀'", list(text("é€😀", 0))},
		{"'SELECT'", list(text("SELECT", 0))},
		{"'\\'", list(text("\\", 0))},
		{"'\ufffd'", list(text("\ufffd", 0))},
		{"x = 'a';", list(name("x", 0), sign("=", 2), text("a", 4), sign(";", 7))},
	})
}

// Promise 5.2: a text that has no end is told at its first '.
func TestTextsWithoutEnd(t *testing.T) {
	checkRefused(t, []refused{
		{"'", 0, api.ErrText},
		{"'a", 0, api.ErrText},
		{"'''", 0, api.ErrText},
		{"'a''", 0, api.ErrText},
		{"'''''", 0, api.ErrText},
		{"'' '", 3, api.ErrText},
		{"'a'''' b", 0, api.ErrText},
		{"x = 'a", 4, api.ErrText},
		{"'a' 'b", 4, api.ErrText},
		{"'a -- '' \n", 0, api.ErrText},
		{"'\\''", 0, api.ErrText},
	})
}

// Promise 5.2: a text that is no runes, in itself and in what it says.
func TestTextsOfNoRunes(t *testing.T) {
	for _, s := range []string{"\xff", "\x80", "a\xc3", "\xc3'' \xa9", "\xc3''\xa9", "\xed\xa0\x80", "\xc0\x80", "\xf5\x80\x80\x80"} {
		checkRefused(t, []refused{{"'" + s + "'", 0, api.ErrText}, {"a '" + s + "' !", 2, api.ErrText}})
	}
}

// Promise 5.2: MaxText is counted in bytes of what the text says.
func TestLongTexts(t *testing.T) {
	x := strings.Repeat("x", api.MaxText)
	two := strings.Repeat("é", api.MaxText/2)
	quotes := strings.Repeat("''", api.MaxText)
	checkTaken(t, []taken{
		{"'" + x + "'", list(text(x, 0))},
		{"'" + two + "'", list(text(two, 0))},
		{"'" + quotes + "'", list(text(strings.Repeat("'", api.MaxText), 0))},
	})
	checkRefused(t, []refused{
		{"'" + x + "x'", 0, api.ErrText},
		{"'" + two + "x'", 0, api.ErrText},
		{"'" + quotes + "'''", 0, api.ErrText},
		{"a '" + strings.Repeat(x, 100) + "'", 2, api.ErrText},
	})
}

// Promise 5.2: each sign, alone and between others.
func TestSigns(t *testing.T) {
	for _, s := range theSigns() {
		end := 1 + len(s)
		checkTaken(t, []taken{
			{s, list(sign(s, 0))},
			{"a" + s + " b", list(name("a", 0), sign(s, 1), name("b", end+1))},
			{")" + s + ")", list(sign(")", 0), sign(s, 1), sign(")", end))},
		})
	}
}

// Promise 5.2: the longest sign that stands there.
func TestLongestSigns(t *testing.T) {
	checkTaken(t, []taken{
		{"<=", list(sign("<=", 0))},
		{"<==", list(sign("<=", 0), sign("=", 2))},
		{"<<=", list(sign("<", 0), sign("<=", 1))},
		{">==", list(sign(">=", 0), sign("=", 2))},
		{">>=", list(sign(">", 0), sign(">=", 1))},
		{"=<", list(sign("=", 0), sign("<", 1))},
		{"=>", list(sign("=", 0), sign(">", 1))},
		{"==", list(sign("=", 0), sign("=", 1))},
		{"<>", list(sign("<", 0), sign(">", 1))},
		{"!==", list(sign("!=", 0), sign("=", 2))},
		{"->=", list(sign("->", 0), sign("=", 2))},
		{"->>", list(sign("->", 0), sign(">", 2))},
		{"<-", list(sign("<", 0), sign("-", 1))},
		{"<->", list(sign("<", 0), sign("->", 1))},
		{">-", list(sign(">", 0), sign("-", 1))},
		{"- >", list(sign("-", 0), sign(">", 2))},
		{"-=", list(sign("-", 0), sign("=", 1))},
		{"+-", list(sign("+", 0), sign("-", 1))},
		{"#length(2)", list(sign("#", 0), name("length", 1), sign("(", 7), whole(2, 8), sign(")", 9))},
		{"[a]", list(sign("[", 0), name("a", 1), sign("]", 2))},
		{"a%b,c;", list(name("a", 0), sign("%", 1), name("b", 2), sign(",", 3), name("c", 4), sign(";", 5))},
	})
	checkRefused(t, []refused{{"!", 0, api.ErrSign}, {"!!=", 0, api.ErrSign}, {"<!", 1, api.ErrSign}, {"!<", 0, api.ErrSign}, {"! =", 0, api.ErrSign}, {"!/**/=", 0, api.ErrSign}, {"=!", 1, api.ErrSign}, {"!=!", 2, api.ErrSign}})
}
