package stmts_test

import (
	"slices"
	"testing"

	"marquee/api"
)

// Promise 8.1: the chapter's examples of patterns.
func TestPatternExamples(t *testing.T) {
	patternFace().checkTaken(t, []taken{
		{"every a=A -> b=B within 5s", "(then (every (event:A _ name:a)) (within/5000 (event:B _ name:b)))"},
		{"A and not B or C", "(or (and (event:A _ _) (not (event:B _ _))) (event:C _ _))"},
		{"every (A -> B)", "(every (then (event:A _ _) (event:B _ _)))"},
	})
	patternFace().checkRefused(t, []string{"|not A"})
}

// Promise 8.1: the rules of events and timers.
func TestAtoms(t *testing.T) {
	patternFace().checkTaken(t, []taken{
		{"A", "(event:A _ _)"}, {"a=A", "(event:A _ name:a)"}, {"A = A", "(event:A _ name:A)"}, {"A(x)", "(event:A x _)"}, {"a=A(x > 1)", "(event:A (binary:> x int/1) name:a)"}, {"A((x))", "(event:A x _)"}, {"A(a = b)", "(event:A (binary:= a b) _)"}, {"A(f())", "(event:A call:f _)"}, {"A(count(*))", "(event:A agg:count _)"}, {"length=time", "(event:time _ name:length)"},
		{"timer(5s)", "timer/5000"}, {"timer(0ms)", "timer"}, {"timer ( 1d )", "timer/86400000"},
		{"(A)", "(event:A _ _)"}, {"((timer(1s)))", "timer/1000"}, {"(a=A(x))", "(event:A x name:a)"}, {"(A -> B)", "(then (event:A _ _) (event:B _ _))"},
		{"A| B", "(event:A _ _)"}, {"A| 5s", "(event:A _ _)"}, {"A(x)|(y)", "(event:A x _)"}, {"A(x)| = B", "(event:A x _)"}, {"a = A| = B", "(event:A _ name:a)"}, {"A|.b", "(event:A _ _)"}, {"A| not B", "(event:A _ _)"}, {"A| every B", "(event:A _ _)"}, {"A| as a", "(event:A _ _)"}, {"A|#keepall", "(event:A _ _)"}, {"A|, B", "(event:A _ _)"}, {"A|]", "(event:A _ _)"}, {"A|;", "(event:A _ _)"}, {"(A)|(x)", "(event:A _ _)"}, {"timer(5s)|(x)", "timer/5000"}, {"(a)| = A", "(event:a _ _)"}, {"A|)", "(event:A _ _)"},
	})
	patternFace().checkRefused(t, []string{
		"|", "|)", "|5", "|5s", "|'a'", "|->", "|and A", "|or A", "|within 5s", "|not A", "|= A", "|#", "|[A]", "|select", "|*", "|;",
		"a = |", "a = |(A)", "a = |timer(5s)", "a = |every A", "a = |= A", "a = |5", "a = |not A",
		"A(|", "A(|)", "A(x|", "A(x|, y)", "A(x| y)", "A(|5s", "A(|*)", "A(x = |)",
		"timer|", "timer |5s", "timer(|", "timer(|)", "timer(|5)", "timer(|5 ms)", "timer(|a)", "timer(|1.5)", "timer(|'5s')", "timer(5s|", "timer(5s|, 5s)", "timer(5s| 5s)", "timer |= A", "timer(|-5s)",
		"(|", "(|)", "(A|", "(A|, B)", "(A| B)", "((A)|", "(A|]", "(|not A)", "(|5)",
	})
}

// Promise 8.1: lines go from the left on, and bind as the rules say.
func TestLines(t *testing.T) {
	patternFace().checkTaken(t, []taken{
		{"A -> B -> C", "(then (then (event:A _ _) (event:B _ _)) (event:C _ _))"}, {"A -> (B -> C)", "(then (event:A _ _) (then (event:B _ _) (event:C _ _)))"},
		{"A or B or C", "(or (or (event:A _ _) (event:B _ _)) (event:C _ _))"}, {"A and B and C", "(and (and (event:A _ _) (event:B _ _)) (event:C _ _))"},
		{"A or B and C", "(or (event:A _ _) (and (event:B _ _) (event:C _ _)))"}, {"A and B or C", "(or (and (event:A _ _) (event:B _ _)) (event:C _ _))"}, {"(A or B) and C", "(and (or (event:A _ _) (event:B _ _)) (event:C _ _))"},
		{"A or B -> C or D", "(then (or (event:A _ _) (event:B _ _)) (or (event:C _ _) (event:D _ _)))"}, {"A and B -> C", "(then (and (event:A _ _) (event:B _ _)) (event:C _ _))"}, {"A and (B -> C)", "(and (event:A _ _) (then (event:B _ _) (event:C _ _)))"},
		{"A and not B", "(and (event:A _ _) (not (event:B _ _)))"}, {"A and not B and not C", "(and (and (event:A _ _) (not (event:B _ _))) (not (event:C _ _)))"}, {"A and not (B or C)", "(and (event:A _ _) (not (or (event:B _ _) (event:C _ _))))"}, {"A and not every B", "(and (event:A _ _) (not (every (event:B _ _))))"}, {"A and not timer(1s) within 2s", "(and (event:A _ _) (not (within/2000 timer/1000)))"}, {"A and not (B and not C)", "(and (event:A _ _) (not (and (event:B _ _) (not (event:C _ _)))))"},
		{"every A and B", "(and (every (event:A _ _)) (event:B _ _))"}, {"every A or B", "(or (every (event:A _ _)) (event:B _ _))"}, {"A and every B", "(and (event:A _ _) (every (event:B _ _)))"}, {"A -> every B", "(then (event:A _ _) (every (event:B _ _)))"},
		{"timer(1s) -> A", "(then timer/1000 (event:A _ _))"},
	})
	patternFace().checkRefused(t, []string{
		"A -> |", "A -> |-> B", "A -> |not B", "A -> |)", "A -> |and B", "A -> |5s", "A -> B -> |", "A or |", "A or |or B", "A or |not B", "A or |and B", "A or B or |5", "A and |", "A and |and B", "A and |or B", "A and |)", "A and not |", "A and not |not B", "A and not |and", "A and not |5s", "A and not |->", "A or B and |", "(A and |)", "(A or |)", "(A -> |)", "A and B and not |within 5s",
	})
}

// Promise 8.1: every takes what is as tight as it is, within what stands ahead of it.
func TestEveryAndWithin(t *testing.T) {
	patternFace().checkTaken(t, []taken{
		{"every A", "(every (event:A _ _))"}, {"every every A(x > 1)", "(every (every (event:A (binary:> x int/1) _)))"}, {"every timer(1s)", "(every timer/1000)"}, {"every a=A -> B", "(then (every (event:A _ name:a)) (event:B _ _))"},
		{"A within 5s", "(within/5000 (event:A _ _))"}, {"A within 0s", "(within (event:A _ _))"}, {"A within 5s within 6s", "(within/6000 (within/5000 (event:A _ _)))"}, {"A within 1ms within 2ms within 3ms", "(within/3 (within/2 (within/1 (event:A _ _))))"},
		{"every A within 5s", "(every (within/5000 (event:A _ _)))"}, {"(every A) within 5s", "(within/5000 (every (event:A _ _)))"}, {"(A -> B) within 5s", "(within/5000 (then (event:A _ _) (event:B _ _)))"}, {"A -> B within 5s", "(then (event:A _ _) (within/5000 (event:B _ _)))"}, {"A within 5s -> B", "(then (within/5000 (event:A _ _)) (event:B _ _))"}, {"A and B within 5s or C", "(or (and (event:A _ _) (within/5000 (event:B _ _))) (event:C _ _))"}, {"A within 5s and not B within 6s", "(and (within/5000 (event:A _ _)) (not (within/6000 (event:B _ _))))"}, {"timer(1s) within 2s", "(within/2000 timer/1000)"}, {"A(x) within 1s", "(within/1000 (event:A x _))"},
		{"A within 5s| 6s", "(within/5000 (event:A _ _))"}, {"A within 5s| every B", "(within/5000 (event:A _ _))"},
	})
	patternFace().checkRefused(t, []string{
		"every |", "every |)", "every |-> A", "every |not A", "every |and A", "every |or", "every |within 5s", "every |5s", "every every |", "every (|", "every (A|",
		"A within |", "A within |5", "A within |5 ms", "A within |1.5", "A within |a", "A within |(5s)", "A within |within 5s", "A within |every", "A within 5s within |", "A within 5s within |B", "A within |-5s",
	})
}

// Promise 8.1: a period at the ends of its range, and outside it.
func TestPeriodsOfPatterns(t *testing.T) {
	for _, s := range []string{"timer(|5s)", "A within |5s", "A within 5s within |5s", "every timer(|5s) -> A", "A and not B within |5s"} {
		checkRange(t, patternFace(), s, 0, api.MaxTime)
	}
}

// endings are patterns with a | behind each token behind which one may end.
func endings() []string {
	return []string{
		"A| -> B| -> C|", "A| or B| or C|", "A| and B| and not C| and D|", "every every A|", "A| within 5s| within 6s|", "every a| = A| within 5s|", "timer ( 5s )| -> timer ( 6s )|", "( A )|", "( ( A or B ) and C )| or D|",
		"A|( x )| and not every B|( y )|", "a| = A|( x )| -> b| = B|( y )| within 5s|", "every ( A -> B )|", "A| and not ( B )| or C|",
	}
}

// Promise 8.1: each rule with all that it asks for, with tokens too few, and with one in each place that may stand nowhere.
func TestEachRuleOfPatterns(t *testing.T) {
	for _, s := range endings() {
		checkEndings(t, patternFace(), s)
	}
}

// Promise 8.1: in each place each other token, held against the model.
func TestOtherTokensInPatterns(t *testing.T) {
	rules, all := rulesOf(chapter), vocabulary()
	for _, s := range endings() {
		l, _ := cutAt(t, s)
		for i := range l {
			for _, other := range all {
				changed := slices.Clone(l)
				changed[i] = other
				checkModel(t, rules, patternFace(), changed, 0)
				checkModel(t, rules, patternFace(), slices.Insert(slices.Clone(l), i, other), 0)
			}
			checkModel(t, rules, patternFace(), slices.Delete(slices.Clone(l), i, i+1), 0)
		}
	}
}
