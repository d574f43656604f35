package stmts_test

import (
	"strings"
	"testing"

	"marquee/api"
	"marquee/tree"
)

// viewSamples are all views with their shapes.
func viewSamples() []taken {
	return []taken{
		{"#keepall", "view:keepall"}, {"#lastevent", "view:lastevent"}, {"#firstevent", "view:firstevent"}, {"#length(2)", "(view:length int/2)"}, {"#length_batch(65536)", "(view:length_batch int/65536)"}, {"#time(10s)", "(view:time int:ms/10000)"}, {"#time_batch(5ms)", "(view:time_batch int:ms/5)"},
		{"#unique(a)", "(view:unique a)"}, {"#unique(a, b, a)", "(view:unique a b a)"}, {"#sorted(3, a)", "(view:sorted int/3 (order a))"}, {"#sorted(3, a desc)", "(view:sorted int/3 (order/1 a))"}, {"# sorted ( 1 , length DESC )", "(view:sorted int/1 (order/1 length))"},
	}
}

// Promise 8.1: each view, in a stream and in a window.
func TestViews(t *testing.T) {
	for _, x := range viewSamples() {
		stmtFace().checkTaken(t, []taken{
			{"select * from T" + x.s, "(select/1 _ star (list (stream:T _ _ " + x.want + ")) _ list _ list _)"},
			{"create window W" + x.s + " as T", "(window:W name:T " + x.want + ")"},
		})
	}
}

// Promise 8.1: what is no view, in a stream and in a window.
func TestNoViews(t *testing.T) {
	for _, s := range []string{
		"#|", "#|;", "#|nope(1)", "#|nope", "#|Length(5)", "#|KEEPALL", "#|(5)", "#|#keepall", "#|5", "#|'keepall'", "#|first", "#|last", "#|all", "#|window", "#|len", "#|lengthbatch(5)", "#|lengths(5)",
		"#length|", "#length |5", "#length|#keepall", "#length(|", "#length(|)", "#length(|0)", "#length(|65537)", "#length(|5s)", "#length(|a)", "#length(|-5)", "#length(|1.5)", "#length(|'5')", "#length(|(5))", "#length(5|", "#length(5|, 6)", "#length(5| 6)", "#length(5| + 1)", "#length(5| events)", "#length_batch|", "#length_batch(|)", "#length_batch(|0)", "#length_batch(|5s)", "#length_batch(5|",
		"#time|", "#time |5s", "#time(|", "#time(|)", "#time(|0s)", "#time(|0ms)", "#time(|5)", "#time(|5 ms)", "#time(|a)", "#time(|1.5)", "#time(5s|", "#time(5s|, 5s)", "#time(5s| 5s)", "#time_batch|", "#time_batch(|5)", "#time_batch(|0d)", "#time_batch(5s|",
		"#unique|", "#unique |a", "#unique(|", "#unique(|)", "#unique(|5)", "#unique(|5s)", "#unique(|'a')", "#unique(|(a))", "#unique(|*)", "#unique(|,)", "#unique(a|", "#unique(a| b)", "#unique(a|.b)", "#unique(a| desc)", "#unique(a| + 1)", "#unique(a,|", "#unique(a,|)", "#unique(a,|, b)", "#unique(a, b|", "#unique(|count)",
		"#sorted|", "#sorted |3", "#sorted(|", "#sorted(|)", "#sorted(|a)", "#sorted(|a, 3)", "#sorted(|0, a)", "#sorted(|65537, a)", "#sorted(|5s, a)", "#sorted(3|", "#sorted(3|)", "#sorted(3| a)", "#sorted(3, |", "#sorted(3, |)", "#sorted(3, |5)", "#sorted(3, |(a))", "#sorted(3, |desc)", "#sorted(3, a|", "#sorted(3, a|, b)", "#sorted(3, a|.b)", "#sorted(3, a| asc)", "#sorted(3, a| + 1)", "#sorted(3, a desc|", "#sorted(3, a desc| desc)", "#sorted(3, a desc|, b)",
	} {
		stmtFace().checkRefused(t, []string{"select * from T" + s, "create window W" + s + " as T", "select * from T#keepall" + s})
	}
	for _, s := range []string{"#keepall|(a)", "#lastevent|()", "#firstevent|(5)", "#length(5)|(6)", "#keepall| desc", "#keepall|.a", "#keepall| length(5)"} {
		stmtFace().checkRefused(t, []string{"create window W" + s + " as T"})
		ahead, _, _ := strings.Cut(s, "|")
		stmtFace().checkEnd(t, tokens(t, "select * from T"+strings.Replace(s, "|", " ", 1)), len(tokens(t, "select * from T"+ahead)))
	}
}

// Promise 8.1: each number and period of a view at the ends of its range, and outside it.
func TestRangesOfViews(t *testing.T) {
	for _, ahead := range []string{"select * from T", "create window W", "select * from A, B(x)#keepall"} {
		behind := " as T"
		checkRange(t, stmtFace(), ahead+"#length(|5)"+behind, 1, 1<<16)
		checkRange(t, stmtFace(), ahead+"#length_batch(|5)"+behind, 1, 1<<16)
		checkRange(t, stmtFace(), ahead+"#sorted(|5, a)"+behind, 1, 1<<16)
		checkRange(t, stmtFace(), ahead+"#time(|5s)"+behind, 1, 1<<40)
		checkRange(t, stmtFace(), ahead+"#time_batch(|5s)"+behind, 1, 1<<40)
	}
}

// Promise 8.1: as many views as may be, and one more, which is seen at its #.
func TestHowManyViews(t *testing.T) {
	for _, x := range viewSamples() {
		for _, s := range [][2]string{{"select * from T", " as t where a"}, {"select * from T#length_batch(9), U(x)", ""}, {"create window W", " as T"}} {
			for many := 1; many <= api.MaxViews; many++ {
				l := tokens(t, s[0]+strings.Repeat(x.s, many)+s[1])
				stmtFace().checkEnd(t, l, len(l))
				n, _, _ := stmtFace().read(l, 0)
				if got := strings.Count(shape(n), x.want); got != many {
					t.Errorf("%q: %d views in %s, want %d", x.s, got, shape(n), many)
				}
			}
			ahead := tokens(t, s[0]+strings.Repeat(x.s, api.MaxViews))
			for _, more := range []string{x.s, x.s + x.s, "#", "#nope", "#length(0)", "##", "#;"} {
				stmtFace().checkError(t, append(ahead[:len(ahead):len(ahead)], tokens(t, more+s[1])...), 0, len(ahead), api.ErrSyntax)
			}
		}
	}
	checkList(t, list{"select * from T#unique(", "a", ")", api.MaxColumns})
	checkList(t, list{"create window W#unique(", "a", ")#keepall as T", api.MaxColumns})
}

// Promise 8.1: two streams may have as many views as may be, each.
func TestViewsOfTwoStreams(t *testing.T) {
	l := tokens(t, "select * from A"+strings.Repeat("#keepall", api.MaxViews)+" as a, B"+strings.Repeat("#lastevent", api.MaxViews)+" as b")
	n, end, e := stmtFace().read(l, 0)
	if e != api.OK || end != len(l) || tree.Form(n) != api.FormStmt || strings.Count(shape(n), "view:") != 2*api.MaxViews {
		t.Errorf("%s, %d, %d", shape(n), end, e)
	}
}
