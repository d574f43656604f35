package stmts_test

import (
	"math"
	"slices"
	"strconv"
	"strings"
	"testing"

	"marquee/api"
	"marquee/tree"
)

// placesOf are the kinds and At of n and of all that stands within it, in pre-order, without what stands nowhere: Nones and empty Lists.
func placesOf(n api.Node) string {
	if n.Kind == api.None || n.Kind == api.List && len(n.Kids) == 0 {
		if n.At != 0 {
			return kindNames[n.Kind] + "@" + strconv.Itoa(n.At)
		}
		return ""
	}
	l := []string{kindNames[n.Kind] + "@" + strconv.Itoa(n.At)}
	for _, k := range n.Kids {
		if s := placesOf(k); s != "" {
			l = append(l, s)
		}
	}
	return strings.Join(l, " ")
}

func checkPlaces(t *testing.T, f face, l []taken) {
	t.Helper()
	for _, x := range l {
		n, end, e := f.read(tokens(t, x.s), 0)
		if got := placesOf(n); e != api.OK || end != len(tokens(t, x.s)) || got != x.want {
			t.Errorf("%q: %s, %d, want %s", x.s, got, e, x.want)
		}
	}
}

// Promise 8.1: where each tree of a pattern stands.
func TestPlacesOfPatterns(t *testing.T) {
	checkPlaces(t, patternFace(), []taken{
		{"  A", "event@2"}, {" a = A", "event@1 name@1"}, {" A(x)", "event@1 col@3"}, {" a=A(x > 1)", "event@1 binary@7 col@5 int@9 name@1"}, {" timer(5s)", "timer@1"}, {" every A", "every@1 event@7"}, {"every every A", "every@0 every@6 event@12"},
		{"A -> B", "then@2 event@0 event@5"}, {"A or B", "or@2 event@0 event@5"}, {"A and B", "and@2 event@0 event@6"}, {"A and not B", "and@2 event@0 not@6 event@10"}, {"A within 5s", "within@2 event@0"}, {"A within 5s within 6s", "within@12 within@2 event@0"},
		{"A -> B -> C", "then@7 then@2 event@0 event@5 event@10"}, {"A or B or C", "or@7 or@2 event@0 event@5 event@10"}, {"A and B and C", "and@8 and@2 event@0 event@6 event@12"}, {"A or B and C -> D", "then@13 or@2 event@0 and@7 event@5 event@11 event@16"},
		{"(A)", "event@1"}, {"( (a=A) )", "event@3 name@3"}, {"(A -> B)", "then@3 event@1 event@6"}, {"(A) within 5s", "within@4 event@1"}, {"every (A)", "every@0 event@7"}, {"(A) and not (B)", "and@4 event@1 not@8 event@13"}, {"(every A)", "every@1 event@7"}, {"(timer(5s)) or (A)", "or@12 timer@1 event@16"}, {"A((x))", "event@0 col@3"},
	})
}

// Promise 8.1: where each tree of a statement stands.
func TestPlacesOfStatements(t *testing.T) {
	checkPlaces(t, stmtFace(), []taken{
		{" create schema T (a int, b text)", "schema@1 column@18 column@25"},
		{" create window W#keepall as T", "window@1 name@28 view@16"},
		{"create window W #length(2) # time (5s)#unique(a, b) as T", "window@0 name@55 view@16 int@24 view@27 int@35 view@38 col@46 col@49"},
		{"create window W#sorted(3, a)#sorted(4, b desc) as T", "window@0 name@50 view@15 int@23 order@26 col@26 view@28 int@36 order@39 col@39"},
		{" create context C partition by a from E, b from F", "context@1 keyed@18 col@31 name@38 col@41 name@48"},
		{"create context C when (a) = b then c, when d then e from A", "context@0 categories@17 item@17 binary@26 col@23 col@28 item@38 col@43"},
		{"create context C start A(x) end B(y)", "context@0 spans@17 stream@23 col@25 stream@32 col@34"},
		{"create context C overlapping start A end B", "context@0 spans@17 stream@35 stream@41"},
		{"create context C start A within 5s", "context@0 spans@17 stream@23 timer@25"},
		{" select * from T", "select@1 star@8 list@15 stream@15"},
		{" insert into A select * from T", "select@1 name@13 star@22 list@29 stream@29"},
		{" context C select * from T", "select@1 star@18 list@25 stream@25"},
		{"context C insert into A select * from T", "select@0 name@22 star@31 list@38 stream@38"},
		{"select irstream a, (b) as c, d + e from T", "select@0 list@16 item@16 col@16 item@19 col@20 item@29 binary@31 col@29 col@33 list@40 stream@40"},
		{"select (a) + 1 from T", "select@0 list@7 item@7 binary@11 col@8 int@13 list@20 stream@20"},
		{"select * from A(x)#keepall as a, B as b", "select@0 star@7 list@14 stream@14 col@16 name@30 view@18 stream@33 name@38"},
		{"select * from pattern [a=A] as p", "select@0 star@7 pattern@14 event@23 name@23 name@31"},
		{"select * from pattern [ (A -> B) ]", "select@0 star@7 pattern@14 then@27 event@25 event@30"},
		{"select * from T where a = b", "select@0 star@7 list@14 stream@14 binary@24 col@22 col@26"},
		{"select * from T group by (a), b + c", "select@0 star@7 list@14 stream@14 list@25 col@26 binary@32 col@30 col@34"},
		{"select * from T having (a)", "select@0 star@7 list@14 stream@14 col@24"},
		{"select * from T order by (a) desc, b + c, d asc", "select@0 star@7 list@14 stream@14 list@25 order@25 col@26 order@35 binary@37 col@35 col@39 order@42 col@42"},
		{"select * from T output every 3 events", "select@0 star@7 list@14 stream@14 rate@16 name@31"},
		{"select * from T output last every 3s", "select@0 star@7 list@14 stream@14 rate@16 name@34"},
		{"select * from T output all every 1s order by a", "select@0 star@7 list@14 stream@14 list@45 order@45 col@45 rate@16 name@33"},
		{" on A delete from W", "delete@1 stream@4 stream@18"},
		{"on A(x) as a delete from W as w where (b)", "delete@0 stream@3 col@5 name@11 stream@25 name@30 col@39"},
		{" on A update W as w set a = (b), c = d + e where f", "update@1 stream@4 stream@13 name@18 list@24 set@24 col@29 set@33 binary@39 col@37 col@41 col@49"},
		{" on A select a, b as c from W as w", "onselect@1 stream@4 stream@28 name@33 list@13 item@13 col@13 item@16 col@16"},
		{"on A select * from W where a", "onselect@0 stream@3 stream@19 star@12 col@27"},
		{" on A merge W where a when matched then update set b = c when not matched then insert", "merge@1 stream@4 stream@12 col@20 list@51 set@51 col@55"},
	})
}

// Promise 8.1: At is a token's own, whatever it is.
func TestPlacesThatNoSourceHas(t *testing.T) {
	l := tokens(t, "select a from T # length ( 5 ) output every 3 events")
	for i := range l {
		l[i].At = []int{math.MinInt, -1, 7, math.MaxInt, 7, 0, -5, 3, 2, 1, 1 << 40, -3, -4}[i]
	}
	n, end, e := stmtFace().read(l, 0)
	want := "select@-9223372036854775808 list@-1 item@-1 col@-1 list@9223372036854775807 stream@9223372036854775807 view@7 int@3 rate@1 name@-4"
	if e != api.OK || end != len(l) || placesOf(n) != want {
		t.Errorf("%s, %d, %d", placesOf(n), end, e)
	}
}

// Promise 8.1: an at that is none.
func TestWhereItBegins(t *testing.T) {
	for _, f := range []face{patternFace(), stmtFace()} {
		for _, s := range []string{"", "A", "A -> B", ")", "(", "select * from T", "select", "on A delete from W where"} {
			l := tokens(t, s)
			for _, at := range []int{-1, -2, -1 - len(l), math.MinInt, math.MinInt + 1} {
				f.checkError(t, l, at, 0, api.ErrSyntax)
			}
			for _, at := range []int{len(l), len(l) + 1, len(l) + 2, 1000, math.MaxInt - 1, math.MaxInt} {
				f.checkError(t, l, at, len(l), api.ErrSyntax)
			}
		}
		f.checkError(t, nil, 0, 0, api.ErrSyntax)
		f.checkError(t, []api.Token{}, 0, 0, api.ErrSyntax)
		f.checkError(t, nil, 1, 0, api.ErrSyntax)
		f.checkError(t, nil, -1, 0, api.ErrSyntax)
	}
}

// Promise 8.1: in the middle of tokens the places are those of the whole list, and what stands ahead plays no part.
func TestInTheMiddle(t *testing.T) {
	l := tokens(t, "( every A ; select a from pattern [ B -> C ] ; on D delete from W where ; )")
	check := func(f face, at, end int, want string) {
		t.Helper()
		n, got, e := f.read(l, at)
		if e != api.OK || got != end || shape(n) != want || n.At != l[at].At && n.Kind != api.PatThen {
			t.Errorf("at %d: %s, %d, %d, want %s, %d", at, shape(n), got, e, want, end)
		}
	}
	check(patternFace(), 1, 3, "(every (event:A _ _))")
	check(patternFace(), 2, 3, "(event:A _ _)")
	check(patternFace(), 9, 12, "(then (event:B _ _) (event:C _ _))")
	check(patternFace(), 11, 12, "(event:C _ _)")
	check(stmtFace(), 4, 13, "(select/1 _ (list (item a)) (pattern (then (event:B _ _) (event:C _ _)) _) _ list _ list _)")
	for _, x := range [][2]int{{0, 3}, {3, 3}, {4, 4}, {7, 7}, {10, 10}, {12, 12}, {14, 14}, {20, 20}, {21, 21}, {22, 22}} {
		patternFace().checkError(t, l, x[0], x[1], api.ErrSyntax)
	}
	for _, x := range [][2]int{{0, 0}, {1, 1}, {3, 3}, {5, 5}, {13, 13}, {14, 20}, {16, 16}, {21, 21}, {22, 22}} {
		stmtFace().checkError(t, l, x[0], x[1], api.ErrSyntax)
	}
}

// samples are statements of each kind.
func samples() []string {
	var l []string
	for _, s := range slices.Concat(creates(), selects(), ons()) {
		l = append(l, strings.ReplaceAll(s, "|", " "))
	}
	return l
}

// Promise 8.1: a field that a token's kind does not name plays no part.
func TestFieldsThatPlayNoPart(t *testing.T) {
	for _, s := range samples() {
		l := tokens(t, s)
		want, end, _ := stmtFace().read(l, 0)
		for i := range l {
			switch l[i].Kind {
			case api.TokenInt, api.TokenPeriod:
				l[i].Text = []string{"events", "(", "a", "select"}[i%4]
			default:
				l[i].N = 5 + i
			}
		}
		if n, got, e := stmtFace().read(l, 0); e != api.OK || got != end || got != len(l) || !equal(n, want) {
			t.Errorf("%q: %s, %d, %d, want %s", s, shape(n), got, e, shape(want))
		}
	}
}

// Promise 8.1: in the place of a token there is none of another kind with its text and number.
func TestTextsOfOtherKinds(t *testing.T) {
	for _, x := range []struct {
		f       face
		sources []string
	}{{patternFace(), endings()}, {stmtFace(), slices.Concat(creates(), selects(), ons())}} {
		for _, s := range x.sources {
			l, ends := cutAt(t, s)
			for i, k := range l {
				for _, kind := range []int{api.TokenEnd, api.TokenPeriod, api.TokenSign, api.TokenWord} {
					changed := slices.Clone(l)
					changed[i].Kind = kind
					switch {
					case kind == k.Kind || k.Kind == api.TokenInt && kind == api.TokenPeriod: // a rate takes either
					case slices.Contains(ends, i):
						x.f.checkEnd(t, changed, i)
					default:
						x.f.checkError(t, changed, 0, i, api.ErrSyntax)
					}
				}
			}
		}
	}
}

// Promise 8.3: names of any length and of any text are read; up to MaxName bytes they have the form.
func TestLongNames(t *testing.T) {
	for many, fits := range map[int]bool{api.MaxName: true, api.MaxName + 1: false, 5000: false} {
		long := strings.Repeat("n", many)
		for _, f := range []face{patternFace(), stmtFace()} {
			sources := samples()
			if f.form == api.FormPattern {
				sources = []string{"A", "a = A", "A ( x )", "every A", "timer ( 5s ) -> A"}
			}
			for _, s := range sources {
				l := tokens(t, s)
				for i := range l {
					if l[i].Kind != api.TokenName || isFixed(l[i].Text) {
						continue
					}
					changed := slices.Clone(l)
					changed[i].Text = long
					n, end, e := f.read(changed, 0)
					if e != api.OK || end != len(l) || (tree.Form(n) == f.form) != fits {
						t.Errorf("%q with %d bytes at %d: %d, %d, the form %d", s, many, i, end, e, tree.Form(n))
					}
				}
			}
		}
	}
}

// isFixed tells whether a name of the samples is one that a rule asks for.
func isFixed(s string) bool {
	return slices.Contains(strings.Fields("keepall length time unique sorted int text asc"), s)
}
