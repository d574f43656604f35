/- Expressions, whole. -/
import Derived.Test.YtcicdapccondkaaUps
namespace Go.Proofs.Ytcicdapccondkaa
open Go.ChangeShapes Go.WideShapes Go.ChangeAt Go.RowKit
set_option linter.unusedSimpArgs false
set_option maxRecDepth 20000
set_option maxHeartbeats 4000000

theorem Reads.cong {rb : Nat} {ta : Option Addr} {cap : Nat} {T : List Tt} {k : FuncId} {g g' : Nat → Nat → Rz X} (h : Reads rb ta cap T k g) (e : ∀ i op, g' i op = g i op) : Reads rb ta cap T k g' := fun i op w r h1 h2 h3 => h i op w r h1 h2 ((e i op).symm.trans h3)
theorem tk_lt {T : List Tt} {i : Nat} (h : (tkI T i).1 ≠ (0, [], 0)) : i < T.length := by
  rcases Nat.lt_or_ge i T.length with h1 | h1
  · exact h1
  · rw [tkI_end h1] at h
    exact absurd rfl h
theorem wordP_any (rb : Nat) (ta : Option Addr) (cap : Nat) (T : List Tt) (E : Nat → Nat → Rz X) (hE : Reads rb ta cap T 16 E) (hU : Ups E) (f : Nat) : Reads rb ta cap T 92 (fun i op => wordP T (fun j => E j op) f i) := by
  refine (worded_any rb ta cap T _ _ (agg_any rb ta cap T E hE) (choice_any rb ta cap T E hE hU f)).cong fun i op => ?_
  unfold wordP
  by_cases h1 : (tkI T i).1.2.1 = [110, 117, 108, 108]
  · rw [if_pos h1, if_pos h1]; rfl
  rw [if_neg h1, if_neg h1]
  by_cases h2 : (tkI T i).1.2.1 = [102, 97, 108, 115, 101]
  · rw [if_pos h2, if_pos h2]; rfl
  rw [if_neg h2, if_neg h2]
  by_cases h3 : (tkI T i).1.2.1 = [116, 114, 117, 101]
  · rw [if_pos h3, if_pos h3]
  rw [if_neg h3, if_neg h3]
  by_cases h4 : aggW.contains (tkI T i).1.2.1 = true
  · rw [if_pos h4, if_pos h4]
    unfold aggG
    rw [if_pos (tk_lt (fun e => by rw [e] at h4; exact absurd h4 (by decide)))]
  rw [if_neg h4, if_neg h4]
  by_cases h5 : (tkI T i).1.2.1 = [99, 97, 115, 101]
  · rw [if_pos h5, if_pos h5]
    unfold choiceG
    rw [if_pos (tk_lt (fun e => by rw [e] at h5; exact absurd h5 (by decide)))]
  rw [if_neg h5, if_neg h5]
theorem primP_any (rb : Nat) (ta : Option Addr) (cap : Nat) (T : List Tt) (E : Nat → Nat → Rz X) (hE : Reads rb ta cap T 16 E) (hU : Ups E) (f : Nat) : Reads rb ta cap T 89 (primP T E f) := by
  refine (prim_any rb ta cap T _ _ _ (named_any rb ta cap T _ (list_any rb ta cap T E hE hU f)) (wordP_any rb ta cap T E hE hU f) (bracketed_any rb ta cap T E hE)).cong fun i op => ?_
  unfold primP
  by_cases h1 : (tkI T i).1.1 = 3
  · rw [if_pos h1, if_pos h1]
  rw [if_neg h1, if_neg h1]
  by_cases h2 : (tkI T i).1.1 = 4
  · rw [if_pos h2, if_pos h2]
  rw [if_neg h2, if_neg h2]
  by_cases h3 : (tkI T i).1.1 = 5
  · rw [if_pos h3, if_pos h3]
  rw [if_neg h3, if_neg h3]
  by_cases h4 : (tkI T i).1.1 = 1
  · rw [if_pos h4, if_pos h4]
    unfold namedG
    rw [if_pos (tk_lt (fun e => by rw [e] at h4; exact absurd h4 (by decide)))]
    rfl
  rw [if_neg h4, if_neg h4]
theorem sumP_any (rb : Nat) (ta : Option Addr) (cap : Nat) (T : List Tt) (E : Nat → Nat → Rz X) (hE : Reads rb ta cap T 16 E) (hU : Ups E) (f : Nat) : Reads rb ta cap T 77 (sumP T E f) :=
  sum_any rb ta cap T _ (prod_any rb ta cap T _ (minus_any rb ta cap T _ (primP_any rb ta cap T E hE hU f) f) f) f
theorem testP_any (rb : Nat) (ta : Option Addr) (cap : Nat) (T : List Tt) (E : Nat → Nat → Rz X) (hE : Reads rb ta cap T 16 E) (hU : Ups E) (f : Nat) : Reads rb ta cap T 75 (testP T E f) := by
  have hs := sumP_any rb ta cap T E hE hU f
  have hb := between_any rb ta cap T _ hs
  have hi := in_any rb ta cap T E f (list_any rb ta cap T E hE hU f) hU
  exact test_any rb ta cap T (sumP T E f) _ _ _ _ hs (isNull_any rb ta cap T) hb hi (notAmong_any rb ta cap T _ _ hb hi)
theorem orP_any (rb : Nat) (ta : Option Addr) (cap : Nat) (T : List Tt) (E : Nat → Nat → Rz X) (hE : Reads rb ta cap T 16 E) (hU : Ups E) (f : Nat) : Reads rb ta cap T 23 (orP T E f) :=
  or_any rb ta cap T _ (and_any rb ta cap T _ (not_any rb ta cap T _ (testP_any rb ta cap T E hE hU f) f) f) f
/-- The reader reads expressions as the function does. -/
theorem exP_any (rb : Nat) (ta : Option Addr) (cap : Nat) (T : List Tt) : ∀ f, Reads rb ta cap T 16 (exP T f)
  | 0 => fun i op w r _ _ h => by cases h
  | f + 1 => (expr_any rb ta cap T _ (orP_any rb ta cap T (exP T f) (exP_any rb ta cap T f) (exP_up T f) f)).cong fun i op => rfl
end Go.Proofs.Ytcicdapccondkaa
