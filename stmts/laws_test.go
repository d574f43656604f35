package stmts_test

import (
	"slices"
	"strings"
	"testing"

	"marquee/api"
	"marquee/lex"
	"marquee/stmts"
	"marquee/tree"
)

// ruled is a call that reads from a token on, with the rule that it reads.
type ruled struct {
	rule string
	face
}

// both are all of these calls.
func both() []ruled {
	return []ruled{{"P", patternFace()}, {"Stmt", stmtFace()}}
}

// Promise 8.3: what is read has its form; blanks and notes between tokens change nothing but At.
func TestForms(t *testing.T) {
	c := newChance(83)
	for _, f := range both() {
		for range 3000 {
			s := lex.Show(c.make(f.rule, c.Intn(80)))
			l := tokens(t, s)
			n, end, e := f.read(l, 0)
			if e != api.OK || end != len(l) || tree.Form(n) != f.form {
				t.Fatalf("%q: %s, %d, %d", s, inShort(n), end, e)
			}
			wide := "-- ;\n" + strings.ReplaceAll(s, " ", " /* ( */\n-- )\n\t") + " /* ; */"
			if m, end2, e2 := f.read(tokens(t, wide), 0); e2 != api.OK || end2 != end || !tree.Same(n, m) {
				t.Fatalf("%q: %s, %d, %d", wide, inShort(m), end2, e2)
			}
		}
	}
}

// Promise 8.3: blanks and notes between any two tokens of a source.
func TestBlanksAndNotes(t *testing.T) {
	source := strings.Join(samples(), ";") + ";"
	want, _, e := stmts.Source(source)
	if e != api.OK || len(want) != len(samples()) {
		t.Fatalf("%d, %d", len(want), e)
	}
	for _, between := range []string{" ", "\n", "\t\r\n ", " -- note ; (\n", " /* note ; ( */ ", "/**/", " --\n--\n/* */"} {
		var s strings.Builder
		for _, x := range tokens(t, source) {
			s.WriteString(between + lex.Show([]api.Token{x}) + between)
		}
		l, at, e := stmts.Source(s.String())
		if at != 0 || e != api.OK || !slices.EqualFunc(l, want, tree.Same) {
			t.Errorf("with %q between: %d, %d, %d", between, len(l), at, e)
		}
	}
}

// Rule R4: tokens that are handed in stay as they were, behind the end of their list, too, and none of those is read.
func TestTokensStay(t *testing.T) {
	c := newChance(84)
	for _, f := range both() {
		for range 2000 {
			whole := c.spoil(c.make(f.rule, c.Intn(60)))
			kept := slices.Clone(whole)
			end := c.Intn(len(whole) + 1)
			n, at, e := f.read(whole[:end], 0)
			if !slices.Equal(whole, kept) {
				t.Fatalf("%s were %s", brief(whole), brief(kept))
			}
			m, at2, e2 := f.read(slices.Clone(kept[:end]), 0)
			if at != at2 || e != e2 || !equal(n, m) {
				t.Fatalf("%s: %d, %d and %d, %d", brief(kept[:end]), at, e, at2, e2)
			}
		}
	}
}

// Rule R4: an answer shares no memory with the tokens, with another answer, or between its own lists; it may be changed by whoever holds it.
func TestAnswersAreNew(t *testing.T) {
	c := newChance(85)
	for _, f := range both() {
		for range 1000 {
			l := c.make(f.rule, c.Intn(80))
			n, _, _ := f.read(l, 0)
			want := tree.Copy(n)
			m, _, _ := f.read(l, 0)
			kept := slices.Clone(l)
			spoilTrees(t, n)
			if !equal(m, want) || !slices.Equal(l, kept) {
				t.Fatalf("%s: %s is changed with another answer", brief(l), inShort(m))
			}
			for i := range l {
				l[i] = api.Token{Kind: -1, Text: "changed", N: -1, At: -1}
			}
			if !equal(m, want) {
				t.Fatalf("%s: %s is changed with the tokens", brief(kept), inShort(m))
			}
			if again, _, _ := f.read(kept, 0); !equal(again, want) {
				t.Fatalf("%s: %s, want %s", brief(kept), inShort(again), inShort(want))
			}
		}
	}
}

// Rule R4: the same of the statements of a source.
func TestSourcesAreNew(t *testing.T) {
	source := strings.Join(samples(), ";") + ";"
	l, _, _ := stmts.Source(source)
	m, _, _ := stmts.Source(source)
	var want []api.Node
	for _, n := range m {
		want = append(want, tree.Copy(n))
	}
	spoilTrees(t, l...)
	for i := range l[:cap(l)] {
		l[:cap(l)][i] = api.Node{Kind: -1}
	}
	if again, _, _ := stmts.Source(source); !slices.EqualFunc(m, want, equal) || !slices.EqualFunc(again, want, equal) {
		t.Error("statements are changed with those of another answer")
	}
}

// spoilTrees changes all that stands within the trees, behind their lists' ends, too, once it has seen that each piece of memory stands in one list.
func spoilTrees(t *testing.T, l ...api.Node) {
	t.Helper()
	seen := map[*api.Node]int{}
	for _, n := range l {
		count(n, seen)
	}
	for at, many := range seen {
		if many != 1 {
			t.Fatalf("%s stands in %d lists", inShort(*at), many)
		}
	}
	for at := range seen {
		*at = api.Node{Kind: -1, Text: "changed", N: -1, At: -1}
	}
}

// count tells how many lists each piece of memory stands in.
func count(n api.Node, seen map[*api.Node]int) {
	l := n.Kids[:cap(n.Kids)]
	for i := range l {
		seen[&l[i]]++
	}
	for _, k := range n.Kids {
		count(k, seen)
	}
}

// Rule R5: the same is answered over again, whatever was asked between.
func TestTwice(t *testing.T) {
	c := newChance(86)
	for _, f := range both() {
		for range 1000 {
			l := c.spoil(c.make(f.rule, c.Intn(60)))
			at := c.Intn(len(l)+3) - 1
			n, end, e := f.read(l, at)
			stmts.Pattern(tokens(t, strings.Repeat("(", 200)), 0)
			stmts.Stmt(nil, 0)
			stmts.Source("select")
			if m, end2, e2 := f.read(l, at); end != end2 || e != e2 || !equal(n, m) {
				t.Fatalf("%s at %d: %d, %d and %d, %d", brief(l), at, end, e, end2, e2)
			}
		}
	}
}
