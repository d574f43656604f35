/- How two values stand to each other: numbers, Compare, Equal and what they call, for any values: package value. -/
import Derived.Test.YtjphmbgennadcaaGreatDoorLogic
import Derived.Test.YtjphmbgennadcaaGreatDoorShelf
import Derived.Test.YtjphmbgennadcaaGreatDoorBase
import Derived.Deep.QuietTactic
import Derived.BigQuiet
import Derived.WalkSmall
namespace Go.Proofs.YtjphmbgennadcaaGreatDoor
open Go.ChangeShapes Go.WideShapes Go.ChangeAt Go.RowKit

def isNum (k : Int) : Bool := k == 2 || k == 3
/-- A number in ten-thousandths. -/
def sc (k n : Int) : Int := if k = 2 then 10000 * n else n
def cmpB (k k' : Int) : Bool := (isNum k && isNum k') || (k == 4 && k' == 4) || (k == 1 && k' == 1)
def cmpC (k n : Int) (t : ByteArray) (k' n' : Int) (t' : ByteArray) : Int :=
  if isNum k && isNum k' then Lib.compareInt (sc k n) (sc k' n') else if k == 4 && k' == 4 then Lib.compareBytes t.data.toList t'.data.toList else if k == 1 && k' == 1 then Lib.compareInt n n' else 0
def eqT (k n : Int) (t : ByteArray) (k' n' : Int) (t' : ByteArray) : Nat := if k == 0 || k' == 0 then 2 else if cmpB k k' && cmpC k n t k' n' t' == 0 then 1 else 0
theorem cls (k : Int) : (isNum k = true ∧ (k == 4) = false ∧ (k == 1) = false) ∨ (isNum k = false ∧ (k == 4) = true ∧ (k == 1) = false) ∨ (isNum k = false ∧ (k == 4) = false ∧ (k == 1) = true) ∨ (isNum k = false ∧ (k == 4) = false ∧ (k == 1) = false) := by
  by_cases h2 : k = 2
  · subst h2; simp [isNum]
  · by_cases h3 : k = 3
    · subst h3; simp [isNum]
    · by_cases h4 : k = 4
      · subst h4; simp [isNum]
      · by_cases h1 : k = 1
        · subst h1; simp [isNum]
        · simp [isNum, h1, h2, h3, h4]

theorem tdiv_of (x : Int) : (0 ≤ x ∧ x.tdiv 10000 = x / 10000) ∨ (x < 0 ∧ x.tdiv 10000 = -(-x / 10000)) := by
  by_cases h : 0 ≤ x
  · exact .inl ⟨h, Int.tdiv_eq_ediv_of_nonneg h⟩
  · refine .inr ⟨by omega, ?_⟩
    have e : (-(-x)).tdiv 10000 = -((-x).tdiv 10000) := Int.neg_tdiv _ _
    rw [Int.neg_neg] at e
    rw [e, Int.tdiv_eq_ediv_of_nonneg (by omega)]
theorem tmod_of (x : Int) : x.tmod 10000 = x - 10000 * x.tdiv 10000 := by have := Int.tmod_add_mul_tdiv x 10000; omega
theorem cmpI_of {a b c d : Int} (h1 : a < b ↔ c < d) (h2 : b < a ↔ d < c) : Lib.compareInt a b = Lib.compareInt c d := by
  unfold Lib.compareInt
  by_cases x : a < b
  · rw [if_pos x, if_pos (h1.1 x)]
  · rw [if_neg x, if_neg (fun y => x (h1.2 y))]
    by_cases y : a > b
    · rw [if_pos y, if_pos (h2.1 y)]
    · rw [if_neg y, if_neg (fun z => y (h2.2 z))]
/-- Whole parts first, rests then: the numbers themselves. -/
theorem lex_ne {x y : Int} (h : x.tdiv 10000 ≠ y.tdiv 10000) : Lib.compareInt (x.tdiv 10000) (y.tdiv 10000) = Lib.compareInt x y := by
  rcases tdiv_of x with ⟨a, b⟩ | ⟨a, b⟩ <;> rcases tdiv_of y with ⟨c, d⟩ | ⟨c, d⟩ <;> rw [b, d] at h ⊢ <;> apply cmpI_of <;> omega
theorem lex_eq {x y : Int} (h : x.tdiv 10000 = y.tdiv 10000) : Lib.compareInt (x.tmod 10000) (y.tmod 10000) = Lib.compareInt x y := by
  rw [tmod_of, tmod_of, h]; apply cmpI_of <;> omega
theorem sc_tdiv (k n : Int) : (sc k n).tdiv 10000 = if k = 2 then n else n.tdiv 10000 := by
  unfold sc; split
  · rw [Int.mul_comm]; exact Int.mul_tdiv_cancel n (by omega)
  · rfl
theorem sc_tmod (k n : Int) : (sc k n).tmod 10000 = if k = 2 then 0 else n.tmod 10000 := by
  unfold sc; split
  · exact Int.mul_tmod_right 10000 n
  · rfl

set_option maxHeartbeats 400000 in
theorem isNumber_any (k n : Int) (t : ByteArray) (w : World) : Calls Tryz.prog 137 #[.agg #[.int .i64 k, .int .i64 n, .string t]] w fun e w' => e = .returned (.bool (isNum k)) ∧ w' = w.alloc (.cells #[.int .i64 k, .int .i64 n, .string t] 34) := by
  by_cases h2 : k = 2
  · subst h2
    go_enter Tryz.func137, Tryz.ntmps137
    go_wp2
    go_ret
    exact ⟨rfl, rfl⟩
  · have hz : (k == 2) = false := by simpa using h2
    go_enter Tryz.func137, Tryz.ntmps137
    go_wp2
    go_ret
    exact ⟨by simp [isNum, hz], rfl⟩

set_option maxHeartbeats 400000 in
theorem split_any (k n : Int) (t : ByteArray) (w : World) (h1 : -9223372036854775808 ≤ n) (h2 : n ≤ 9223372036854775807) : Calls Tryz.prog 151 #[.agg #[.int .i64 k, .int .i64 n, .string t]] w fun e w' => e = .returned (.tuple #[.int .i64 ((sc k n).tdiv 10000), .int .i64 ((sc k n).tmod 10000)]) ∧ Below w.heap.size w w' := by
  rw [sc_tdiv, sc_tmod]
  by_cases hk : k = 2
  · subst hk
    go_enter Tryz.func151, Tryz.ntmps151
    go_wp2
    go_ret2
    exact ⟨rfl, (Bel.out (by repeat (first | exact Bel.refl _ | refine Bel.drew ?_ | refine Bel.drewN ?_ _ | refine Bel.alloc ?_ _ | refine Bel.setCell ?_ (by simp <;> omega) _ | refine Bel.step ?_ (by assumption))))⟩
  · have hz : (k == 2) = false := by simpa using hk
    rw [if_neg hk, if_neg hk]
    go_enter Tryz.func151, Tryz.ntmps151
    go_wp2
    go_quiet (fail)
    go_wp2
    go_ret2
    exact ⟨rfl, (Bel.out (by repeat (first | exact Bel.refl _ | refine Bel.drew ?_ | refine Bel.drewN ?_ _ | refine Bel.alloc ?_ _ | refine Bel.setCell ?_ (by simp <;> omega) _ | refine Bel.step ?_ (by assumption))))⟩

set_option maxHeartbeats 1000000 in
theorem compareNumbers_any (k n k' n' : Int) (t t' : ByteArray) (w : World) (h1 : -9223372036854775808 ≤ n) (h2 : n ≤ 9223372036854775807) (h3 : -9223372036854775808 ≤ n') (h4 : n' ≤ 9223372036854775807) : Calls Tryz.prog 138 #[.agg #[.int .i64 k, .int .i64 n, .string t], .agg #[.int .i64 k', .int .i64 n', .string t']] w fun e w' => e = .returned (.int .i64 (Lib.compareInt (sc k n) (sc k' n'))) ∧ Below w.heap.size w w' := by
  by_cases hq : (sc k n).tdiv 10000 = (sc k' n').tdiv 10000
  · have HR : Hid (Lib.compareInt ((sc k n).tmod 10000) ((sc k' n').tmod 10000) = Lib.compareInt (sc k n) (sc k' n')) := lex_eq hq
    have hz : ((sc k n).tdiv 10000 != (sc k' n').tdiv 10000) = false := by simpa using hq
    clear hq
    go_enter Tryz.func138, Tryz.ntmps138
    go_wp2_with fail
    refine (split_any k n t _ h1 h2).mono ?_
    rintro e w1 ⟨rfl, hb1⟩
    obtain ⟨hc1, hf1⟩ := bcell hb1
    go_wp2_with fail
    refine (split_any k' n' t' _ h3 h4).mono ?_
    rintro e w2 ⟨rfl, hb2⟩
    go_wp2_with fail
    refine (Tryz.cmp_Compare_int _ _ _).mono ?_
    rintro e w3 ⟨rfl, rfl⟩
    go_wp2
    go_ret
    exact ⟨ret_int HR.out, (Bel.out (by repeat (first | exact Bel.refl _ | refine Bel.drew ?_ | refine Bel.drewN ?_ _ | refine Bel.alloc ?_ _ | refine Bel.setCell ?_ (by simp <;> omega) _ | refine Bel.step ?_ (by assumption))))⟩
  · have HR : Hid (Lib.compareInt ((sc k n).tdiv 10000) ((sc k' n').tdiv 10000) = Lib.compareInt (sc k n) (sc k' n')) := lex_ne hq
    have hz : ((sc k n).tdiv 10000 != (sc k' n').tdiv 10000) = true := by simpa using hq
    clear hq
    go_enter Tryz.func138, Tryz.ntmps138
    go_wp2_with fail
    refine (split_any k n t _ h1 h2).mono ?_
    rintro e w1 ⟨rfl, hb1⟩
    obtain ⟨hc1, hf1⟩ := bcell hb1
    go_wp2_with fail
    refine (split_any k' n' t' _ h3 h4).mono ?_
    rintro e w2 ⟨rfl, hb2⟩
    go_wp2_with fail
    refine (Tryz.cmp_Compare_int _ _ _).mono ?_
    rintro e w3 ⟨rfl, rfl⟩
    go_wp2
    go_ret
    exact ⟨ret_int HR.out, (Bel.out (by repeat (first | exact Bel.refl _ | refine Bel.drew ?_ | refine Bel.drewN ?_ _ | refine Bel.alloc ?_ _ | refine Bel.setCell ?_ (by simp <;> omega) _ | refine Bel.step ?_ (by assumption))))⟩

set_option maxHeartbeats 4000000 in
theorem Compare_any (k n k' n' : Int) (t t' : ByteArray) (w : World) (h1 : -9223372036854775808 ≤ n) (h2 : n ≤ 9223372036854775807) (h3 : -9223372036854775808 ≤ n') (h4 : n' ≤ 9223372036854775807) : Calls Tryz.prog 117 #[.agg #[.int .i64 k, .int .i64 n, .string t], .agg #[.int .i64 k', .int .i64 n', .string t']] w fun e w' => e = .returned (.tuple #[.int .i64 (cmpC k n t k' n' t'), .bool (cmpB k k')]) ∧ Below w.heap.size w w' := by
  unfold cmpC cmpB
  rcases cls k with ⟨a, b, c⟩ | ⟨a, b, c⟩ | ⟨a, b, c⟩ | ⟨a, b, c⟩ <;> rcases cls k' with ⟨a', b', c'⟩ | ⟨a', b', c'⟩ | ⟨a', b', c'⟩ | ⟨a', b', c'⟩
  all_goals simp only [a, b, c, a', b', c', Bool.and_true, Bool.and_false, Bool.or_false, Bool.or_true, if_true, Bool.false_eq_true, if_false]
  all_goals
    go_enter Tryz.func117, Tryz.ntmps117
    go_wp2_with (first | (go_at_call 137; refine (isNumber_any _ _ _ _).mono ?_; rintro e w' ⟨rfl, rfl⟩) | (go_at_call 138; refine (compareNumbers_any _ _ _ _ _ _ _ h1 h2 h3 h4).mono ?_; rintro e w' ⟨rfl, hb⟩) | (go_at_call 139; refine (Tryz.strings_Compare _ _ _).mono ?_; rintro e w' ⟨rfl, rfl⟩) | (go_at_call 96; refine (Tryz.cmp_Compare_int _ _ _).mono ?_; rintro e w' ⟨rfl, rfl⟩))
    go_ret2
    exact ⟨rfl, (Bel.out (by repeat (first | exact Bel.refl _ | refine Bel.drew ?_ | refine Bel.drewN ?_ _ | refine Bel.alloc ?_ _ | refine Bel.setCell ?_ (by simp <;> omega) _ | refine Bel.step ?_ (by assumption))))⟩
end Go.Proofs.YtjphmbgennadcaaGreatDoor
