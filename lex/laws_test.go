package lex_test

import (
	"math/big"
	"math/rand"
	"regexp"
	"slices"
	"strings"
	"testing"
	"unicode/utf8"

	"marquee/api"
	"marquee/lex"
)

// model reads a source by patterns of texts: the chapter's list in its order, over again at each byte.
func model(s string) ([]api.Token, int, api.Errno) {
	var l []api.Token
	for at := 0; at < len(s); {
		rest := s[at:]
		if m := modelBlank.FindString(rest); m != "" {
			at += len(m)
			continue
		}
		t, n, e := modelToken(rest)
		if e != api.OK {
			return nil, at, e
		}
		t.At = at
		l = append(l, t)
		at += n
	}
	return l, 0, api.OK
}

var (
	modelBlank  = regexp.MustCompile(`^(?s:[\t\n\r ]|--[^\n]*|/\*.*?\*/)`)
	modelName   = regexp.MustCompile(`^[a-zA-Z_][a-zA-Z0-9_]*`)
	modelPeriod = regexp.MustCompile(`^([0-9]+)(ms|[smhd])(?:[^a-zA-Z0-9_]|$)`)
	modelDec    = regexp.MustCompile(`^([0-9]+)\.([0-9]+)([a-zA-Z_]?)`)
	modelInt    = regexp.MustCompile(`^([0-9]+)([a-zA-Z_]?)`)
	modelText   = regexp.MustCompile(`^'((?:[^']|'')*)'(?:[^']|$)`)
	modelSign   = regexp.MustCompile(`^(?:<=|>=|!=|->|[<>=+*/%(),.;#\[\]-])`)
)

func modelToken(s string) (api.Token, int, api.Errno) {
	if strings.HasPrefix(s, "/*") {
		return api.Token{}, 0, api.ErrSign
	}
	if m := modelName.FindString(s); m != "" {
		if w := strings.ToLower(m); slices.Contains(theWords(), w) {
			return word(w, 0), len(m), api.OK
		}
		return name(m, 0), len(m), api.OK
	}
	if s[0] >= '0' && s[0] <= '9' {
		return modelNumber(s)
	}
	if s[0] == '\'' {
		return modelQuoted(s)
	}
	if m := modelSign.FindString(s); m != "" {
		return sign(m, 0), len(m), api.OK
	}
	return api.Token{}, 0, api.ErrSign
}

func modelNumber(s string) (api.Token, int, api.Errno) {
	kind, n, limit, bad := 0, 0, "9223372036854775807", false
	amount := new(big.Int)
	if m := modelPeriod.FindStringSubmatch(s); m != nil {
		kind, n, limit = api.TokenPeriod, len(m[1])+len(m[2]), "1099511627776"
		amount.SetString(m[1], 10)
		amount.Mul(amount, big.NewInt(map[string]int64{"ms": 1, "s": 1e3, "m": 6e4, "h": 36e5, "d": 864e5}[m[2]]))
	} else if m := modelDec.FindStringSubmatch(s); m != nil {
		kind, n, bad = api.TokenDec, len(m[1])+1+len(m[2]), len(m[2]) > 4 || m[3] != ""
		if !bad {
			amount.SetString((m[1] + m[2] + "000")[:len(m[1])+4], 10)
		}
	} else {
		m := modelInt.FindStringSubmatch(s)
		kind, n, bad = api.TokenInt, len(m[1]), m[2] != ""
		amount.SetString(m[1], 10)
	}
	most, _ := new(big.Int).SetString(limit, 10)
	switch {
	case bad || s[0] == '0' && len(modelInt.FindStringSubmatch(s)[1]) > 1:
		return api.Token{}, 0, api.ErrSign
	case amount.Cmp(most) > 0:
		return api.Token{}, 0, api.ErrNumber
	}
	return api.Token{Kind: kind, N: int(amount.Int64())}, n, api.OK
}

func modelQuoted(s string) (api.Token, int, api.Errno) {
	// A byte that is no rune is one that is no ' to the pattern, so such texts have their end, too.
	m := modelText.FindStringSubmatch(s)
	if m == nil {
		return api.Token{}, 0, api.ErrText
	}
	says := strings.ReplaceAll(m[1], "''", "'")
	if !utf8.ValidString(says) || len(says) > api.MaxText {
		return api.Token{}, 0, api.ErrText
	}
	return text(says, 0), len(m[1]) + 2, api.OK
}

// pieces are what sources are made of, so that errors are rare enough for long ones to be taken.
func pieces() []string {
	return slices.Concat(theWords(), theSigns(), strings.Fields("a B _ a1 x_y Trade 0 1 10 12 1.5 0.25 1.2345 1s 5ms 3m 2h 1d 'a' 'it''s' '' '''' 9223372036854775807 1099511627776ms"),
		[]string{" ", " ", " ", " ", " ", "\n", "\t", "\r", "/**/", "/* a */", "-- b\n", "--\n"})
}

func randomSource(chance *rand.Rand, from []string) string {
	var b strings.Builder
	for range chance.Intn(12) {
		b.WriteString(from[chance.Intn(len(from))])
	}
	return b.String()
}

func checkModel(t *testing.T, s string) (ok bool) {
	t.Helper()
	got, at, e := lex.Lex(s)
	want, wantAt, wantE := model(s)
	if !slices.Equal(got, want) || at != wantAt || e != wantE {
		t.Fatalf("Lex(%q): %#v, %d, %d, want %#v, %d, %d", s, got, at, e, want, wantAt, wantE)
	}
	return e == api.OK
}

// Promise 5.2: sources of all sorts, held against a reader that is written otherwise.
func TestModel(t *testing.T) {
	chance := rand.New(rand.NewSource(5))
	whole := pieces()
	small := strings.Split("a|s|m|ms|d|h|_|0|0|1|9|9999999999|.|.|'|'|'|-|-|/|*|*|<|=|>|!|(| |\n|é|\xff|\x00|A|5|1", "|")
	ok, bad := 0, 0
	for i := range 120000 {
		from := whole
		if i%2 == 1 {
			from = small
		}
		if checkModel(t, randomSource(chance, from)) {
			ok++
		} else {
			bad++
		}
	}
	if ok < 20000 || bad < 20000 {
		t.Errorf("%d were taken, %d refused", ok, bad)
	}
}

// Promise 5.2: all sources of at most four bytes out of some.
func TestAllShort(t *testing.T) {
	const bytes = "a_s10.'-/*<=>! \n#\xff"
	var all func(s string)
	all = func(s string) {
		checkModel(t, s)
		if len(s) == 4 {
			return
		}
		for i := range len(bytes) {
			all(s + bytes[i:i+1])
		}
	}
	all("")
}

// Promise 5.4: tokens that may be, shown and read again.
func TestLexOfShow(t *testing.T) {
	chance := rand.New(rand.NewSource(54))
	good := goodTokens()
	for range 5000 {
		var l []api.Token
		for range chance.Intn(20) {
			l = append(l, good[chance.Intn(len(good))])
		}
		s := lex.Show(l)
		if got, at, e := lex.Lex(s); !slices.Equal(apart(got), l) || at != 0 || e != api.OK {
			t.Fatalf("Show(%#v): %q, of which Lex says %#v, %d, %d", l, s, got, at, e)
		}
	}
}

// Promise 5.4: At rises, lies within the source, and is where the token begins.
func TestAtRises(t *testing.T) {
	chance := rand.New(rand.NewSource(541))
	from := pieces()
	for range 20000 {
		s := randomSource(chance, from)
		l, _, _ := lex.Lex(s)
		last := -1
		for i, x := range l {
			if x.At <= last || x.At >= len(s) {
				t.Fatalf("%q: %#v", s, l)
			}
			last = x.At
			again, _, _ := lex.Lex(s[x.At:])
			if !slices.Equal(apart(again), apart(l[i:])) {
				t.Fatalf("%q from %d on: %#v, want %#v", s, x.At, again, l[i:])
			}
		}
	}
}

// Promise 5.4: more blanks and notes, or others, where there are some already, change nothing but At.
func TestBlanksChangeNothing(t *testing.T) {
	chance := rand.New(rand.NewSource(542))
	good := goodTokens()
	blanks := []string{" ", "\t", "\n", "\r", "/**/", "/* ' -- */", "-- x'/*\n", "--\n", "\n\n", " \t /*!*/ "}
	for range 5000 {
		var l []api.Token
		var b strings.Builder
		for range chance.Intn(8) {
			for range 1 + chance.Intn(3) {
				b.WriteString(blanks[chance.Intn(len(blanks))])
			}
			x := good[chance.Intn(len(good))]
			l = append(l, x)
			// A blank of its own, since a - or a / would begin a note with what stands behind it.
			b.WriteString(lex.Show(list(x)) + " ")
		}
		if got, at, e := lex.Lex(b.String()); !slices.Equal(apart(got), l) || at != 0 || e != api.OK {
			t.Fatalf("Lex(%q): %#v, %d, %d, want %#v", b.String(), got, at, e, l)
		}
	}
}

// Promises 5.2 and 5.3 on the same arguments twice: nothing is kept.
func TestTwice(t *testing.T) {
	chance := rand.New(rand.NewSource(543))
	from := pieces()
	for range 2000 {
		s := randomSource(chance, from)
		a, at, e := lex.Lex(s)
		b, at2, e2 := lex.Lex(s)
		if !slices.Equal(a, b) || at != at2 || e != e2 || lex.Show(a) != lex.Show(b) {
			t.Fatalf("%q: %#v, %#v", s, a, b)
		}
	}
}
