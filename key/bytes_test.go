package key_test

import (
	"encoding/binary"
	"slices"
	"strings"
	"testing"

	"marquee/api"
	"marquee/key"
)

// Promise 4.1: the chapter's example and each kind by itself.
func TestEncodeCases(t *testing.T) {
	cases := []struct {
		row  []api.Value
		want string
	}{
		{nil, ""},
		{row(), ""},
		{row(null, yes, whole(1), text("ab")), "\x00\x01\x01\x02\x01\x00\x00\x00\x00\x00\x00\x00\x04\x02\x00ab"},
		{row(null), "\x00"},
		{row(null, null), "\x00\x00"},
		{row(no), "\x01\x00"},
		{row(yes), "\x01\x01"},
		{row(whole(0)), "\x02\x00\x00\x00\x00\x00\x00\x00\x00"},
		{row(whole(1)), "\x02\x01\x00\x00\x00\x00\x00\x00\x00"},
		{row(whole(-1)), "\x02\xff\xff\xff\xff\xff\xff\xff\xff"},
		{row(whole(-2)), "\x02\xfe\xff\xff\xff\xff\xff\xff\xff"},
		{row(whole(0x0102030405060708)), "\x02\x08\x07\x06\x05\x04\x03\x02\x01"},
		{row(whole(1<<63 - 1)), "\x02\xff\xff\xff\xff\xff\xff\xff\x7f"},
		{row(whole(-1 << 63)), "\x02\x00\x00\x00\x00\x00\x00\x00\x80"},
		{row(dec(10000)), "\x03\x10\x27\x00\x00\x00\x00\x00\x00"},
		{row(dec(1<<63 - 1)), "\x03\xff\xff\xff\xff\xff\xff\xff\x7f"},
		{row(dec(-1 << 63)), "\x03\x00\x00\x00\x00\x00\x00\x00\x80"},
		{row(text("")), "\x04\x00\x00"},
		{row(text("é")), "\x04\x02\x00\xc3\xa9"},
		{row(text("a"), text("")), "\x04\x01\x00a\x04\x00\x00"},
		{row(text(""), text("a")), "\x04\x00\x00\x04\x01\x00a"},
		{row(text(strings.Repeat("b", 258))), "\x04\x02\x01" + strings.Repeat("b", 258)},
		{row(text(longest())), "\x04\x00\x04" + longest()},
	}
	for _, c := range cases {
		if s, e := key.Encode(c.row); s != c.want || e != api.OK {
			t.Errorf("Encode(%#v): %q, %d, want %q", c.row, s, e, c.want)
		}
		if l, e := key.Decode(c.want); !slices.Equal(l, c.row) || e != api.OK {
			t.Errorf("Decode(%q): %#v, %d, want %#v", c.want, l, e, c.row)
		}
	}
}

// wantBytes says the chapter's words again by another means.
func wantBytes(l []api.Value) string {
	var b []byte
	for _, v := range l {
		b = append(b, byte(v.Kind))
		switch v.Kind {
		case api.KindBool:
			b = append(b, byte(v.N))
		case api.KindInt, api.KindDec:
			b = binary.LittleEndian.AppendUint64(b, uint64(v.N))
		case api.KindText:
			b = binary.LittleEndian.AppendUint16(b, uint16(len(v.Text)))
			b = append(b, v.Text...)
		}
	}
	return string(b)
}

// Promise 4.1.
func TestEncodeOfRowsThatMayBe(t *testing.T) {
	for _, l := range goodRows() {
		if s, e := key.Encode(l); s != wantBytes(l) || e != api.OK {
			t.Errorf("Encode(%#v): %q, %d, want %q", l, s, e, wantBytes(l))
		}
	}
}

// Promise 4.1: one value that may not be is enough, wherever it stands.
func TestEncodeRefusesWhatMayNotBe(t *testing.T) {
	for _, l := range badRows() {
		if s, e := key.Encode(l); s != "" || e != api.ErrRow {
			t.Errorf("Encode(%#v): %q, %d, want ErrRow", l, s, e)
		}
	}
}

// Promise 4.1: what no row has as its bytes.
func TestDecodeRefuses(t *testing.T) {
	number := strings.Repeat("\x00", 8)
	bad := []string{
		// It ends in the midst of a value.
		"\x01", "\x02", "\x03", "\x04",
		"\x02" + number[:1], "\x02" + number[:7], "\x03" + number[:7],
		"\x04\x00", "\x04\x01", "\x04\x01\x00", "\x04\x02\x00a", "\x04\x05\x00a", "\x04\x00\x01a", "\x04\xff\xffa",
		// It goes on behind one.
		"\x00\x05", "\x01\x01\x01", "\x02" + number + "\x02", "\x03" + number + "\xff", "\x04\x01\x00ab", "\x04\x00\x00\x04",
		// A kind that is none.
		"\x05", "\x06", "\x7f", "\x80", "\xff", "\x05" + number, "\x08\x00\x00", "\xfe\x01\x00a",
		// A value that may not be.
		"\x01\x02", "\x01\xff", "\x00\x01\x02", "\x04\x01\x00\xff", "\x04\x01\x00\xc3", "\x04\x02\x00a\xc3",
		"\x04\x01\x04" + longest() + "a",
		"\x04\xff\xff" + strings.Repeat("a", 1<<16-1),
	}
	for _, s := range bad {
		for _, ahead := range []string{"", "\x00", "\x01\x01", "\x04\x01\x00a"} {
			if l, e := key.Decode(ahead + s); len(l) != 0 || e != api.ErrRow {
				t.Errorf("Decode(%q): %#v, %d, want ErrRow", ahead+s, l, e)
			}
		}
	}
}

// Promise 4.1: a row's bytes that are cut at any place are taken just where a value ends.
func TestDecodeOfBytesThatAreCut(t *testing.T) {
	l := row(null, yes, whole(-7), text("ab"), dec(15000), text(""), no)
	s, _ := key.Encode(l)
	ends := map[int]int{0: 0}
	for n := range l {
		part, _ := key.Encode(l[:n+1])
		ends[len(part)] = n + 1
	}
	for i := range len(s) + 1 {
		got, e := key.Decode(s[:i])
		if n, ok := ends[i]; ok {
			if !slices.Equal(got, l[:n]) || e != api.OK {
				t.Errorf("Decode(%q): %#v, %d, want %#v", s[:i], got, e, l[:n])
			}
		} else if len(got) != 0 || e != api.ErrRow {
			t.Errorf("Decode(%q): %#v, %d, want ErrRow", s[:i], got, e)
		}
	}
}

// Promise 4.1: every text of one, two or three bytes is the bytes of just one row, or of none.
func TestDecodeOfFewBytes(t *testing.T) {
	taken := 0
	try := func(s string) {
		l, e := key.Decode(s)
		switch {
		case e == api.OK:
			taken++
			if again, e := key.Encode(l); again != s || e != api.OK {
				t.Errorf("Decode(%q): %#v, whose bytes are %q, %d", s, l, again, e)
			}
		case e != api.ErrRow || len(l) != 0:
			t.Errorf("Decode(%q): %#v, %d", s, l, e)
		}
	}
	for a := range 256 {
		try(string([]byte{byte(a)}))
		for b := range 256 {
			try(string([]byte{byte(a), byte(b)}))
			for c := range 256 {
				try(string([]byte{byte(a), byte(b), byte(c)}))
			}
		}
	}
	// One of 1 byte; of 2: two nulls, a truth (2); of 3: three nulls, a null and a truth (2 times 2), an empty text.
	if want := 1 + 3 + 6; taken != want {
		t.Errorf("%d were taken, want %d", taken, want)
	}
}
