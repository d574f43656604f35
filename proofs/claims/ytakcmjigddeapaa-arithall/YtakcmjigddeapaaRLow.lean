/- The small functions of the document's own answer: what is wrong with two values, numbers as decimals, sums, differences. -/
import Derived.Test.YtakcmjigddeapaaArith
import Derived.Deep.QuietTactic
namespace Go.Proofs.Ytakcmjigddeapaa
open Go.ChangeShapes Go.WideShapes Go.ChangeAt Go.RowKit

def isN (k : Int) : Bool := decide (k = 2 ∨ k = 3)
set_option maxHeartbeats 400000 in
theorem refNumber_any (k n : Int) (t : ByteArray) (w : World) : Calls Try.prog 46 #[.agg #[.int .i64 k, .int .i64 n, .string t]] w fun e w' => e = .returned (.bool (isN k)) ∧ w' = w.alloc (.cells #[.int .i64 k, .int .i64 n, .string t] 23) := by
  unfold isN
  by_cases h2 : k = 2
  · subst h2
    go_enter Try.func46, Try.ntmps46
    go_wp2
    go_ret
    exact ⟨rfl, rfl⟩
  · by_cases h3 : k = 3
    · subst h3
      go_enter Try.func46, Try.ntmps46
      go_wp2
      go_ret
      exact ⟨rfl, rfl⟩
    · go_enter Try.func46, Try.ntmps46
      go_wp2
      go_ret
      exact ⟨by simp [h2, h3], rfl⟩

def fst3 (k k' n' : Int) (div : Bool) : Int × Bool := if (st2 k k').2 then ((st2 k k').1, true) else if div && decide (n' = 0) then (21, true) else (0, false)

set_option maxHeartbeats 8000000 in
theorem first_any (k n : Int) (t : ByteArray) (k' n' : Int) (t' : ByteArray) (div : Bool) (w : World) : Calls Try.prog 30 #[.agg #[.int .i64 k, .int .i64 n, .string t], .agg #[.int .i64 k', .int .i64 n', .string t'], .bool div] w fun e w' => e = .returned (.tuple #[.int .i64 (fst3 k k' n' div).1, .bool (fst3 k k' n' div).2]) ∧ Below w.heap.size w w' := by
  have hN2 : isN 2 = true := rfl
  have hN3 : isN 3 = true := rfl
  have hN0 : isN 0 = false := rfl
  have hoth : ∀ k : Int, (k ≠ 2 ∧ k ≠ 3 ∧ k ≠ 0) → isN k = false := by
    intro k h; unfold isN; simp; omega
  cases div with
  | false =>
    rcases four k with rfl | rfl | rfl | hk <;> rcases four k' with rfl | rfl | rfl | hk'
    all_goals
      try have hNk := hoth _ hk
      try have hNk' := hoth _ hk'
      try obtain ⟨h2, h3, h0⟩ := hk
      try obtain ⟨h2', h3', h0'⟩ := hk'
      clear hoth
      go_enter Try.func30, Try.ntmps30
      go_wp2_with (go_at_call 46; refine (refNumber_any _ _ _ _).mono ?_; rintro e w' ⟨rfl, rfl⟩)
      go_ret2
      exact ⟨by simp [fst3, st2, st1, *], (Bel.out (by repeat (first | exact Bel.refl _ | refine Bel.drew ?_ | refine Bel.drewN ?_ _ | refine Bel.alloc ?_ _ | refine Bel.setCell ?_ (by simp <;> omega) _ | refine Bel.step ?_ (by assumption))))⟩
  | true =>
    by_cases hz : n' = 0
    · subst hz
      rcases four k with rfl | rfl | rfl | hk <;> rcases four k' with rfl | rfl | rfl | hk'
      all_goals
        try have hNk := hoth _ hk
        try have hNk' := hoth _ hk'
        try obtain ⟨h2, h3, h0⟩ := hk
        try obtain ⟨h2', h3', h0'⟩ := hk'
        clear hoth
        go_enter Try.func30, Try.ntmps30
        go_wp2_with (go_at_call 46; refine (refNumber_any _ _ _ _).mono ?_; rintro e w' ⟨rfl, rfl⟩)
        go_ret2
        exact ⟨by simp [fst3, st2, st1, *], (Bel.out (by repeat (first | exact Bel.refl _ | refine Bel.drew ?_ | refine Bel.drewN ?_ _ | refine Bel.alloc ?_ _ | refine Bel.setCell ?_ (by simp <;> omega) _ | refine Bel.step ?_ (by assumption))))⟩
    · rcases four k with rfl | rfl | rfl | hk <;> rcases four k' with rfl | rfl | rfl | hk'
      all_goals
        try have hNk := hoth _ hk
        try have hNk' := hoth _ hk'
        try obtain ⟨h2, h3, h0⟩ := hk
        try obtain ⟨h2', h3', h0'⟩ := hk'
        clear hoth
        go_enter Try.func30, Try.ntmps30
        go_wp2_with (go_at_call 46; refine (refNumber_any _ _ _ _).mono ?_; rintro e w' ⟨rfl, rfl⟩)
        go_ret2
        exact ⟨by simp [fst3, st2, st1, *], (Bel.out (by repeat (first | exact Bel.refl _ | refine Bel.drew ?_ | refine Bel.drewN ?_ _ | refine Bel.alloc ?_ _ | refine Bel.setCell ?_ (by simp <;> omega) _ | refine Bel.step ?_ (by assumption))))⟩

def rdN (k n : Int) : Int := if k = 3 then n else IntKind.i64.wrap (n * 10000)
set_option maxHeartbeats 1000000 in
theorem rdec_any (k n : Int) (t : ByteArray) (hn : In n) (w : World) : Calls Try.prog 45 #[.agg #[.int .i64 k, .int .i64 n, .string t]] w fun e w' => e = .returned (.tuple #[.int .i64 (rdN k n), .bool (fits (up 3 k n))]) ∧ Below w.heap.size w w' := by
  unfold rdN up
  by_cases hk : k = 3
  · subst hk
    rw [if_pos rfl, if_pos rfl, fits_of_in hn]
    go_enter Try.func45, Try.ntmps45
    go_wp2
    go_ret2
    exact ⟨rfl, (Bel.out (by repeat (first | exact Bel.refl _ | refine Bel.drew ?_ | refine Bel.drewN ?_ _ | refine Bel.alloc ?_ _ | refine Bel.setCell ?_ (by simp <;> omega) _ | refine Bel.step ?_ (by assumption))))⟩
  · rw [if_neg hk, if_neg hk]
    rcases Int.lt_or_le 922337203685477 n with h1 | h1
    · have hf : fits (n * 10000) = false := by unfold fits; simp; omega
      rw [hf]
      have g1 : (n ≤ (922337203685477 : Int)) = False := by simp; omega
      clear h1 hf
      go_enter Try.func45, Try.ntmps45
      go_wp2
      go_quiet (fail)
      go_wp2
      go_ret2
      exact ⟨rfl, (Bel.out (by repeat (first | exact Bel.refl _ | refine Bel.drew ?_ | refine Bel.drewN ?_ _ | refine Bel.alloc ?_ _ | refine Bel.setCell ?_ (by simp <;> omega) _ | refine Bel.step ?_ (by assumption))))⟩
    · have g1 : (n ≤ (922337203685477 : Int)) = True := by simp; omega
      rcases Int.lt_or_le n (-922337203685477) with h2 | h2
      · have hf : fits (n * 10000) = false := by unfold fits; simp; omega
        rw [hf]
        have g2 : ((-922337203685477 : Int) ≤ n) = False := by simp; omega
        clear h1 h2 hf
        go_enter Try.func45, Try.ntmps45
        go_wp2
        go_quiet (fail)
        go_wp2
        go_ret2
        exact ⟨rfl, (Bel.out (by repeat (first | exact Bel.refl _ | refine Bel.drew ?_ | refine Bel.drewN ?_ _ | refine Bel.alloc ?_ _ | refine Bel.setCell ?_ (by simp <;> omega) _ | refine Bel.step ?_ (by assumption))))⟩
      · have hf : fits (n * 10000) = true := by unfold fits; simp; omega
        rw [hf]
        have g2 : ((-922337203685477 : Int) ≤ n) = True := by simp; omega
        clear h1 h2 hf
        go_enter Try.func45, Try.ntmps45
        go_wp2
        go_quiet (fail)
        go_wp2
        go_ret2
        exact ⟨rfl, (Bel.out (by repeat (first | exact Bel.refl _ | refine Bel.drew ?_ | refine Bel.drewN ?_ _ | refine Bel.alloc ?_ _ | refine Bel.setCell ?_ (by simp <;> omega) _ | refine Bel.step ?_ (by assumption))))⟩
theorem rdN_in {k n : Int} (hn : In n) : In (rdN k n) := by
  unfold rdN; split
  · exact hn
  · unfold In; rw [IntKind.wrap_i64]; omega
theorem rdN_eq {k n : Int} (h : fits (up 3 k n) = true) : rdN k n = up 3 k n := by
  unfold rdN up at *
  split
  · rfl
  · rename_i hk
    rw [if_neg hk] at h
    have := in_of_fits h
    unfold In at this
    rw [IntKind.wrap_i64]; omega

set_option maxHeartbeats 1000000 in
theorem decs_any (k n : Int) (t : ByteArray) (k' n' : Int) (t' : ByteArray) (hn : In n) (hn' : In n') (w : World) : Calls Try.prog 35 #[.agg #[.int .i64 k, .int .i64 n, .string t], .agg #[.int .i64 k', .int .i64 n', .string t']] w fun e w' => e = .returned (.tuple #[.int .i64 (rdN k n), .int .i64 (rdN k' n'), .bool (fits (up 3 k n) && fits (up 3 k' n'))]) ∧ Below w.heap.size w w' := by
  have hx := fun w => rdec_any k n t hn w
  have hy := fun w => rdec_any k' n' t' hn' w
  generalize rdN k n = X at *
  generalize rdN k' n' = Y at *
  generalize fits (up 3 k' n') = b' at *
  cases hb : fits (up 3 k n) with
  | true =>
    rw [hb] at hx
    go_enter Try.func35, Try.ntmps35
    go_wp2_with fail
    refine (hx _).mono ?_
    rintro e w1 ⟨rfl, hb1⟩
    obtain ⟨hc1, hf1⟩ := bcell hb1
    go_wp2_with fail
    refine (hy _).mono ?_
    rintro e w2 ⟨rfl, hb2⟩
    go_wp2
    exact bodyPost_ret (v := .tuple #[.int .i64 X, .int .i64 Y, .bool b']) (by simp [results, Try.results35, go_sem]) rfl ⟨by simp, (Bel.out (by repeat (first | exact Bel.refl _ | refine Bel.drew ?_ | refine Bel.drewN ?_ _ | refine Bel.alloc ?_ _ | refine Bel.setCell ?_ (by simp <;> omega) _ | refine Bel.step ?_ (by assumption))))⟩
  | false =>
    rw [hb] at hx
    go_enter Try.func35, Try.ntmps35
    go_wp2_with fail
    refine (hx _).mono ?_
    rintro e w1 ⟨rfl, hb1⟩
    obtain ⟨hc1, hf1⟩ := bcell hb1
    go_wp2_with fail
    refine (hy _).mono ?_
    rintro e w2 ⟨rfl, hb2⟩
    go_wp2
    exact bodyPost_ret (v := .tuple #[.int .i64 X, .int .i64 Y, .bool false]) (by simp [results, Try.results35, go_sem]) rfl ⟨by simp, (Bel.out (by repeat (first | exact Bel.refl _ | refine Bel.drew ?_ | refine Bel.drewN ?_ _ | refine Bel.alloc ?_ _ | refine Bel.setCell ?_ (by simp <;> omega) _ | refine Bel.step ?_ (by assumption))))⟩

set_option maxHeartbeats 400000 in
theorem of_ok (k n : Int) (w : World) : Calls Try.prog 31 #[.int .i64 k, .int .i64 n, .bool true] w fun e w' => e = .returned (.tuple #[.agg #[.int .i64 k, .int .i64 n, .string ⟨#[]⟩], .int .i64 0]) ∧ Below w.heap.size w w' := by
  go_enter Try.func31, Try.ntmps31
  go_wp2
  exact bodyPost_ret (v := .tuple #[.agg #[.int .i64 k, .int .i64 n, .string ⟨#[]⟩], .int .i64 0]) (by simp [results, Try.results31, go_sem]) rfl ⟨rfl, (Bel.out (by repeat (first | exact Bel.refl _ | refine Bel.drew ?_ | refine Bel.drewN ?_ _ | refine Bel.alloc ?_ _ | refine Bel.setCell ?_ (by simp <;> omega) _ | refine Bel.step ?_ (by assumption))))⟩
set_option maxHeartbeats 400000 in
theorem of_over (k n : Int) (w : World) : Calls Try.prog 31 #[.int .i64 k, .int .i64 n, .bool false] w fun e w' => e = .returned (.tuple #[.agg #[.int .i64 0, .int .i64 0, .string ⟨#[]⟩], .int .i64 20]) ∧ Below w.heap.size w w' := by
  go_enter Try.func31, Try.ntmps31
  go_wp2
  exact bodyPost_ret (v := .tuple #[.agg #[.int .i64 0, .int .i64 0, .string ⟨#[]⟩], .int .i64 20]) (by simp [results, Try.results31, go_sem]) rfl ⟨rfl, (Bel.out (by repeat (first | exact Bel.refl _ | refine Bel.drew ?_ | refine Bel.drewN ?_ _ | refine Bel.alloc ?_ _ | refine Bel.setCell ?_ (by simp <;> omega) _ | refine Bel.step ?_ (by assumption))))⟩
theorem of_fin (k n x : Int) (w : World) (h : fits x = true → n = x) : Calls Try.prog 31 #[.int .i64 k, .int .i64 n, .bool (fits x)] w fun e w' => e = .returned (.tuple #[.agg #[.int .i64 (fin k x).1, .int .i64 (fin k x).2.1, .string ⟨#[]⟩], .int .i64 (fin k x).2.2]) ∧ Below w.heap.size w w' := by
  unfold fin
  cases hx : fits x with
  | true =>
    refine (of_ok k n w).mono ?_
    rintro e w' ⟨rfl, hb⟩
    exact ⟨by rw [h hx]; rfl, hb⟩
  | false =>
    refine (of_over k n w).mono ?_
    rintro e w' ⟨rfl, hb⟩
    exact ⟨rfl, hb⟩
end Go.Proofs.Ytakcmjigddeapaa
