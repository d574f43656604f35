package stmts_test

import (
	"math"
	"slices"
	"strings"
	"testing"

	"marquee/api"
)

// cutAt answers the tokens of a source with | in it, and the places of the tokens ahead of which a | stands, or behind which the last one does.
func cutAt(t *testing.T, s string) ([]api.Token, []int) {
	t.Helper()
	var places []int
	pieces := strings.Split(s, "|")
	for i := range pieces[1:] {
		places = append(places, len(tokens(t, strings.Join(pieces[:i+1], " "))))
	}
	return tokens(t, strings.Join(pieces, " ")), places
}

// checkEndings: the first tokens of s alone, and with a stranger behind them or in the next one's place, end there if a | does, and lack something if none does.
func checkEndings(t *testing.T, f face, s string) {
	t.Helper()
	l, ends := cutAt(t, s)
	for many := range len(l) + 1 {
		lists := [][]api.Token{l[:many:many]}
		for _, x := range strangers() {
			lists = append(lists, append(l[:many:many], x), slices.Concat(l[:many], []api.Token{x}, l[min(many+1, len(l)):]))
		}
		for _, x := range lists {
			if slices.Contains(ends, many) {
				f.checkEnd(t, x, many)
			} else {
				f.checkError(t, x, 0, many, api.ErrSyntax)
			}
		}
	}
}

// checkRange: of the number behind the | the least and the most may be, those outside may not, which is seen at it.
func checkRange(t *testing.T, f face, s string, least, most int) {
	t.Helper()
	l, places := cutAt(t, s)
	place := places[0]
	for _, want := range []int{least, least + 1, most - 1, most} {
		l[place].N = want
		f.checkEnd(t, l, len(l))
		if n, _, _ := f.read(l, 0); !slices.Contains(numbers(n), want) {
			t.Errorf("%q: %d is not in %s", s, want, shape(n))
		}
	}
	for _, n := range []int{least - 1, most + 1, -1, -most, math.MinInt, math.MaxInt, 1 << 62} {
		l[place].N = n
		f.checkError(t, l, 0, place, api.ErrSyntax)
		f.checkError(t, l[:place+1], 0, place, api.ErrSyntax)
	}
}

// numbers are those of n and of all that stands within it.
func numbers(n api.Node) []int {
	l := []int{n.N}
	for _, k := range n.Kids {
		l = append(l, numbers(k)...)
	}
	return l
}

// list is a bounded list: what stands ahead of it and behind it, one of its things, and how many there may be.
type list struct {
	ahead, thing, behind string
	most                 int
}

// of answers the tokens of a list of that many things, and where the last one begins.
func (x list) of(t *testing.T, many int) ([]api.Token, int) {
	t.Helper()
	things := strings.Repeat(x.thing+", ", many-1)
	return tokens(t, x.ahead+things+x.thing+x.behind), len(tokens(t, x.ahead+things))
}

// checkList: one thing and the most may be; one more may not, which is seen at its first token, whatever that is; nor may a , be too many, or lack.
func checkList(t *testing.T, x list) {
	t.Helper()
	f := stmtFace()
	for _, many := range []int{1, 2, x.most} {
		l, last := x.of(t, many)
		f.checkEnd(t, l, len(l))
		if n, _, _ := f.read(l, 0); !slices.Contains(lengths(n), many) {
			t.Errorf("%q: no list of %d in %s", x.ahead, many, shape(n))
		}
		size := len(l) - last - len(tokens(t, x.behind))
		behind := last + size
		f.checkError(t, slices.Insert(slices.Clone(l), last, sign(",")), 0, last, api.ErrSyntax)
		f.checkError(t, slices.Concat(l[:behind], []api.Token{sign(",")}, l[behind:]), 0, behind+1, api.ErrSyntax)
		f.checkError(t, slices.Concat(l[:behind], []api.Token{sign(",")}), 0, behind+1, api.ErrSyntax)
	}
	l, last := x.of(t, x.most+1)
	f.checkError(t, l, 0, last, api.ErrSyntax)
	f.checkError(t, l[:last], 0, last, api.ErrSyntax)
	f.checkError(t, l[:last+1], 0, last, api.ErrSyntax)
	f.checkError(t, slices.Concat(l[:last], slices.Repeat([]api.Token{sign("(")}, 200)), 0, last, api.ErrSyntax)
	f.checkError(t, slices.Concat(l[:last], []api.Token{sign(",")}), 0, last, api.ErrSyntax)
	l, last = x.of(t, 2*x.most)
	f.checkError(t, l, 0, len(tokens(t, x.ahead))+(last-len(tokens(t, x.ahead)))/(2*x.most-1)*x.most, api.ErrSyntax)
	f.checkError(t, tokens(t, x.ahead+x.behind), 0, len(tokens(t, x.ahead)), api.ErrSyntax)
}

// lengths are how many kids n and all that stands within it have.
func lengths(n api.Node) []int {
	l := []int{len(n.Kids)}
	for _, k := range n.Kids {
		l = append(l, lengths(k)...)
	}
	return l
}

// checkOthers: in each place of s, and ahead of it, each other token, held against the model.
func checkOthers(t *testing.T, s string) {
	t.Helper()
	rules := rulesOf(chapter)
	l, _ := cutAt(t, s)
	for i := range l {
		for _, other := range vocabulary() {
			changed := slices.Clone(l)
			changed[i] = other
			checkModel(t, rules, stmtFace(), changed, 0)
			checkModel(t, rules, stmtFace(), slices.Insert(slices.Clone(l), i, other), 0)
		}
		checkModel(t, rules, stmtFace(), slices.Delete(slices.Clone(l), i, i+1), 0)
	}
}
