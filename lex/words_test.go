package lex_test

import (
	"slices"
	"strings"
	"testing"

	"marquee/api"
	"marquee/lex"
)

// Promise 5.1.
func TestWords(t *testing.T) {
	got := lex.Words()
	if !slices.Equal(got, theWords()) {
		t.Errorf("Words(): %q", got)
	}
	for i := range got[1:] {
		if got[i] >= got[i+1] {
			t.Errorf("%q does not rise to %q", got[i], got[i+1])
		}
	}
}

// Promise 5.1: a list handed out may be changed by whoever holds it.
func TestWordsAreNew(t *testing.T) {
	a, b := lex.Words(), lex.Words()
	for i := range a {
		a[i] = "x"
	}
	_ = append(a[:0], "y")
	if !slices.Equal(b, theWords()) || !slices.Equal(lex.Words(), theWords()) {
		t.Errorf("%q, %q", b, lex.Words())
	}
	checkTaken(t, []taken{{"select x", list(word("select", 0), name("x", 7))}})
}

// Promise 5.2: each word is one in small and capital letters alike, and its text is in small ones.
func TestEachWord(t *testing.T) {
	for _, w := range theWords() {
		odd := strings.ToUpper(w[:1]) + w[1:]
		even := w[:1] + strings.ToUpper(w[1:])
		for _, s := range []string{w, strings.ToUpper(w), odd, even} {
			checkTaken(t, []taken{{s, list(word(w, 0))}, {" " + s + ",", list(word(w, 1), sign(",", 1+len(w)))}})
		}
	}
}

// Promise 5.2: names that begin with a word, end with one or are the beginning of one are names, as they stand.
func TestNamesNearWords(t *testing.T) {
	isWord := func(s string) bool { return slices.Contains(theWords(), strings.ToLower(s)) }
	for _, w := range theWords() {
		for _, s := range []string{w + "x", w + "1", w + "_", "_" + w, "x" + w, strings.ToUpper(w) + "X", w + w, w[:len(w)-1]} {
			if s != "" && !isWord(s) {
				checkTaken(t, []taken{{s, list(name(s, 0))}})
			}
		}
	}
}

// Promise 5.2: a letter, or _, with all letters, digits and _ that follow.
func TestNames(t *testing.T) {
	checkTaken(t, []taken{
		{"a", list(name("a", 0))},
		{"z", list(name("z", 0))},
		{"A", list(name("A", 0))},
		{"Z", list(name("Z", 0))},
		{"_", list(name("_", 0))},
		{"_1", list(name("_1", 0))},
		{"__", list(name("__", 0))},
		{"azAZ09_", list(name("azAZ09_", 0))},
		{"Trade trade", list(name("Trade", 0), name("trade", 6))},
		{"asc", list(name("asc", 0))},
		{"SELECT a1 >= 10s", list(word("select", 0), name("a1", 7), sign(">=", 10), period(10000, 13))},
		{"a.b", list(name("a", 0), sign(".", 1), name("b", 2))},
		{"a'b'", list(name("a", 0), text("b", 1))},
		{strings.Repeat("n", 5000), list(name(strings.Repeat("n", 5000), 0))},
	})
}

// Promise 5.2: what begins nothing is told at its byte, and what stands behind it plays no part.
func TestOtherBytes(t *testing.T) {
	begins := "\t\n\r '_-+*/%()<>=,.;[]#"
	for c := range 256 {
		s := string([]byte{byte(c)})
		if strings.Contains(begins, s) || c >= '0' && c <= '9' || c >= 'a' && c <= 'z' || c >= 'A' && c <= 'Z' {
			continue
		}
		checkRefused(t, []refused{{s, 0, api.ErrSign}, {"a " + s, 2, api.ErrSign}, {"a" + s, 1, api.ErrSign}, {"1" + s, 1, api.ErrSign}, {s + "'", 0, api.ErrSign}, {"1s" + s, 2, api.ErrSign}})
	}
	checkRefused(t, []refused{
		{"!", 0, api.ErrSign},
		{"! =", 0, api.ErrSign},
		{"a !", 2, api.ErrSign},
		{"é", 0, api.ErrSign},
		{"aé", 1, api.ErrSign},
		{"a:b", 1, api.ErrSign},
		{"\"a\"", 0, api.ErrSign},
		{"a \u00a0b", 2, api.ErrSign},
		{"\v", 0, api.ErrSign},
		{"\f", 0, api.ErrSign},
		{"\x00", 0, api.ErrSign},
		{"a\x80", 1, api.ErrSign},
	})
}

// Promise 5.2: of several errors the first of the source is told.
func TestFirstError(t *testing.T) {
	checkRefused(t, []refused{
		{"a ! 'b", 2, api.ErrSign},
		{"a 'b !", 2, api.ErrText},
		{"a 'b' ! 'c", 6, api.ErrSign},
		{"99999999999999999999 !", 0, api.ErrNumber},
		{"! 99999999999999999999", 0, api.ErrSign},
		{"1 2 03 'x", 4, api.ErrSign},
		{"/* x */ 'x", 8, api.ErrText},
		{"-- 'x\n /* y", 7, api.ErrSign},
		{"'\xff' 007", 0, api.ErrText},
	})
}
