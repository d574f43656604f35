package funcs

import (
	"strings"
	"unicode/utf8"

	"marquee/api"
	"marquee/value"
)

func text(s string) (api.Value, api.Errno) {
	return api.Value{Kind: api.KindText, Text: s}, api.OK
}

func length(args ...api.Value) (api.Value, api.Errno) {
	return whole(utf8.RuneCountInString(args[0].Text))
}

func lower(args ...api.Value) (api.Value, api.Errno) {
	return text(turned(args[0].Text, 'A', 'a'))
}

func upper(args ...api.Value) (api.Value, api.Errno) {
	return text(turned(args[0].Text, 'a', 'A'))
}

// turned takes the 26 letters from one byte on as those from another on. No rune of more bytes has such a byte in it.
func turned(s string, from, to byte) string {
	l := []byte(s)
	for i, c := range l {
		if c >= from && c < from+26 {
			l[i] = c - from + to
		}
	}
	return string(l)
}

func trim(args ...api.Value) (api.Value, api.Errno) {
	return text(strings.Trim(args[0].Text, " "))
}

// concat asks for the size of the whole ahead of laying it, so that it never lays more than a text may have.
func concat(args ...api.Value) (api.Value, api.Errno) {
	size := 0
	for _, v := range args {
		size += len(v.Text)
	}
	if size > api.MaxText {
		return api.Value{}, api.ErrOver
	}
	var s strings.Builder
	for _, v := range args {
		s.WriteString(v.Text)
	}
	return text(s.String())
}

func substr(args ...api.Value) (api.Value, api.Errno) {
	s := args[0].Text
	s = s[sizeOf(s, args[1].N):]
	return text(s[:sizeOf(s, args[2].N)])
}

// sizeOf answers how many bytes the first n runes of s have, or all, if there are no more.
func sizeOf(s string, n int) int {
	for at := range s {
		if n <= 0 {
			return at
		}
		n--
	}
	return len(s)
}

func toText(args ...api.Value) (api.Value, api.Errno) {
	if args[0].Kind == api.KindText {
		return args[0], api.OK
	}
	return text(value.Show(args[0]))
}
