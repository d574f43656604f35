/- The document's own comparing: what its functions give for any values. -/
import Derived.Test.YtejniencggnkiaaDoorOrd2
import Derived.Test.YtejniencggnkiaaDoorOrdMath
namespace Go.Proofs.YtejniencggnkiaaDoor
open Go.ChangeShapes Go.WideShapes Go.ChangeAt Go.RowKit
attribute [local go_sem ↓] Go.wp_at_zero Go.wp_at_succ

theorem bl_of : ∀ a b : List UInt8, Op.bytesLess a b = (Lib.compareBytes a b == -1) ∧ (a == b) = (Lib.compareBytes a b == 0)
  | [], [] => by decide
  | [], _ :: _ => by simp [Op.bytesLess, Lib.compareBytes]
  | _ :: _, [] => by simp [Op.bytesLess, Lib.compareBytes]
  | x :: a, y :: b => by
    obtain ⟨i1, i2⟩ := bl_of a b
    unfold Op.bytesLess Lib.compareBytes
    by_cases h : x < y
    · have hne : ¬ x = y := fun e => by subst e; rw [UInt8.lt_iff_toNat_lt] at h; omega
      simp [h, hne]
    · by_cases h' : y < x
      · have hne : ¬ x = y := fun e => by subst e; rw [UInt8.lt_iff_toNat_lt] at h'; omega
        simp [h, h', hne]
      · have e : x = y := by
          rw [UInt8.lt_iff_toNat_lt] at h h'
          exact UInt8.toNat_inj.1 (by omega)
        subst e
        simp only [h, if_false, decide_false, beq_self_eq_true, Bool.true_and, Bool.false_or, i1, List.cons_beq_cons, i2, true_and]

set_option maxHeartbeats 400000 in
theorem ints_any (a b : Int) (w : World) : Calls Tryd.prog 48 #[.int .i64 a, .int .i64 b] w fun e w' => e = .returned (.int .i64 (Lib.compareInt a b)) ∧ Below w.heap.size w w' := by
  rcases ci_spec a b with ⟨h, e⟩ | ⟨h, e⟩ | ⟨h, e⟩ <;> rw [e] <;> clear e
  · go_enter Tryd.func48, Tryd.ntmps48
    go_wp2
    go_ret
    exact ⟨rfl, Below.refl _ _⟩
  · have h1 : ¬ a < b := by omega
    have h2 : ¬ b < a := by omega
    clear h
    go_enter Tryd.func48, Tryd.ntmps48
    go_wp2
    go_ret
    exact ⟨rfl, Below.refl _ _⟩
  · have h1 : ¬ a < b := by omega
    go_enter Tryd.func48, Tryd.ntmps48
    go_wp2
    go_ret
    exact ⟨rfl, Below.refl _ _⟩

set_option maxHeartbeats 400000 in
theorem texts_any (a b : ByteArray) (w : World) : Calls Tryd.prog 47 #[.string a, .string b] w fun e w' => e = .returned (.int .i64 (Lib.compareBytes a.data.toList b.data.toList)) ∧ Below w.heap.size w w' := by
  obtain ⟨h1, h2⟩ := bl_of a.toList b.toList
  have hr := cb_range a.toList b.toList
  rw [← Lib.toList_data a, ← Lib.toList_data b]
  generalize Lib.compareBytes a.toList b.toList = c at *
  have hc : c = -1 ∨ c = 0 ∨ c = 1 := by omega
  clear hr
  rcases hc with rfl | rfl | rfl
  · have e1 : Op.bytesLess a.toList b.toList = true := by rw [h1]; rfl
    clear h1 h2
    go_enter Tryd.func47, Tryd.ntmps47
    go_wp2
    go_ret
    exact ⟨rfl, Below.refl _ _⟩
  · have e1 : Op.bytesLess a.toList b.toList = false := by rw [h1]; rfl
    have e2 : (a.toList == b.toList) = true := by rw [h2]; rfl
    clear h1 h2
    go_enter Tryd.func47, Tryd.ntmps47
    go_wp2
    go_ret
    exact ⟨rfl, Below.refl _ _⟩
  · have e1 : Op.bytesLess a.toList b.toList = false := by rw [h1]; rfl
    have e2 : (a.toList == b.toList) = false := by rw [h2]; rfl
    clear h1 h2
    go_enter Tryd.func47, Tryd.ntmps47
    go_wp2
    go_ret
    exact ⟨rfl, Below.refl _ _⟩

set_option maxHeartbeats 400000 in
theorem rNumber_any (k n : Int) (t : ByteArray) (w : World) : Calls Tryd.prog 45 #[.agg #[.int .i64 k, .int .i64 n, .string t]] w fun e w' => e = .returned (.bool (isNum k)) ∧ Below w.heap.size w w' := by
  by_cases h2 : k = 2
  · subst h2
    go_enter Tryd.func45, Tryd.ntmps45
    go_wp2
    go_ret
    exact ⟨rfl, (Bel.out (by repeat (first | exact Bel.refl _ | refine Bel.drew ?_ | refine Bel.drewN ?_ _ | refine Bel.alloc ?_ _ | refine Bel.setCell ?_ (by simp <;> omega) _ | refine Bel.step ?_ (by assumption))))⟩
  · have hz : (k == 2) = false := by simpa using h2
    go_enter Tryd.func45, Tryd.ntmps45
    go_wp2
    go_ret
    exact ⟨by simp [isNum, hz], (Bel.out (by repeat (first | exact Bel.refl _ | refine Bel.drew ?_ | refine Bel.drewN ?_ _ | refine Bel.alloc ?_ _ | refine Bel.setCell ?_ (by simp <;> omega) _ | refine Bel.step ?_ (by assumption))))⟩

theorem tm_bound (n : Int) : -10000 < n.tmod 10000 ∧ n.tmod 10000 < 10000 := by
  rw [tmod_of]; rcases tdiv_of n with ⟨a, e⟩ | ⟨a, e⟩ <;> rw [e] <;> omega
theorem td_bound {n : Int} (h1 : -9223372036854775808 ≤ n) (h2 : n ≤ 9223372036854775807) : -922337203685478 ≤ n.tdiv 10000 ∧ n.tdiv 10000 ≤ 922337203685478 := by
  rcases tdiv_of n with ⟨a, e⟩ | ⟨a, e⟩ <;> rw [e] <;> omega
theorem ed_neg {n : Int} (h : n.tmod 10000 < 0) : n.tdiv 10000 - 1 = n / 10000 ∧ n.tmod 10000 + 10000 = n % 10000 := by
  rw [tmod_of] at h ⊢; rcases tdiv_of n with ⟨a, e⟩ | ⟨a, e⟩ <;> rw [e] at h ⊢ <;> omega
theorem ed_pos {n : Int} (h : ¬ n.tmod 10000 < 0) : n.tdiv 10000 = n / 10000 ∧ n.tmod 10000 = n % 10000 := by
  rw [tmod_of] at h ⊢; rcases tdiv_of n with ⟨a, e⟩ | ⟨a, e⟩ <;> rw [e] at h ⊢ <;> omega
theorem ret_two {a b c d : Int} (h : a = c) (h' : b = d) : Ending.returned (.tuple #[.int .i64 a, .int .i64 b]) = .returned (.tuple #[.int .i64 c, .int .i64 d]) := by rw [h, h']
set_option maxHeartbeats 1000000 in
theorem rSplit_any (k n : Int) (t : ByteArray) (w : World) (h1 : -9223372036854775808 ≤ n) (h2 : n ≤ 9223372036854775807) : Calls Tryd.prog 63 #[.agg #[.int .i64 k, .int .i64 n, .string t]] w fun e w' => e = .returned (.tuple #[.int .i64 (sc k n / 10000), .int .i64 (sc k n % 10000)]) ∧ Below w.heap.size w w' := by
  by_cases hk : k = 2
  · subst hk
    have e1 : sc 2 n / 10000 = n := by unfold sc; rw [if_pos rfl]; omega
    have e2 : sc 2 n % 10000 = 0 := by unfold sc; rw [if_pos rfl]; omega
    rw [e1, e2]
    clear e1 e2
    go_enter Tryd.func63, Tryd.ntmps63
    go_wp2
    go_ret2
    exact ⟨rfl, (Bel.out (by repeat (first | exact Bel.refl _ | refine Bel.drew ?_ | refine Bel.drewN ?_ _ | refine Bel.alloc ?_ _ | refine Bel.setCell ?_ (by simp <;> omega) _ | refine Bel.step ?_ (by assumption))))⟩
  · have hz : (k == 2) = false := by simpa using hk
    have e1 : sc k n = n := by unfold sc; rw [if_neg hk]
    rw [e1]
    clear e1
    have tb := tm_bound n
    have db := td_bound h1 h2
    by_cases hm : n.tmod 10000 < 0
    · have HE : Hid (n.tdiv 10000 - 1 = n / 10000 ∧ n.tmod 10000 + 10000 = n % 10000) := ed_neg hm
      go_enter Tryd.func63, Tryd.ntmps63
      go_wp2
      go_quiet (fail)
      go_wp2
      go_ret2
      exact ⟨ret_two HE.out.1 HE.out.2, (Bel.out (by repeat (first | exact Bel.refl _ | refine Bel.drew ?_ | refine Bel.drewN ?_ _ | refine Bel.alloc ?_ _ | refine Bel.setCell ?_ (by simp <;> omega) _ | refine Bel.step ?_ (by assumption))))⟩
    · have HE : Hid (n.tdiv 10000 = n / 10000 ∧ n.tmod 10000 = n % 10000) := ed_pos hm
      go_enter Tryd.func63, Tryd.ntmps63
      go_wp2
      go_quiet (fail)
      go_wp2
      go_ret2
      exact ⟨ret_two HE.out.1 HE.out.2, (Bel.out (by repeat (first | exact Bel.refl _ | refine Bel.drew ?_ | refine Bel.drewN ?_ _ | refine Bel.alloc ?_ _ | refine Bel.setCell ?_ (by simp <;> omega) _ | refine Bel.step ?_ (by assumption))))⟩
theorem lexE {x y : Int} : (Lib.compareInt (x / 10000) (y / 10000) ≠ 0 → Lib.compareInt (x / 10000) (y / 10000) = Lib.compareInt x y) ∧ (Lib.compareInt (x / 10000) (y / 10000) = 0 → Lib.compareInt (x % 10000) (y % 10000) = Lib.compareInt x y) := by
  rcases ci_spec (x / 10000) (y / 10000) with ⟨a, e⟩ | ⟨a, e⟩ | ⟨a, e⟩
  · exact ⟨fun _ => by apply cmpI_of <;> omega, fun h => by omega⟩
  · exact ⟨fun h => absurd e h, fun _ => by apply cmpI_of <;> omega⟩
  · exact ⟨fun _ => by apply cmpI_of <;> omega, fun h => by omega⟩
set_option maxHeartbeats 1000000 in
theorem rNumbers_any (k n k' n' : Int) (t t' : ByteArray) (w : World) (h1 : -9223372036854775808 ≤ n) (h2 : n ≤ 9223372036854775807) (h3 : -9223372036854775808 ≤ n') (h4 : n' ≤ 9223372036854775807) : Calls Tryd.prog 46 #[.agg #[.int .i64 k, .int .i64 n, .string t], .agg #[.int .i64 k', .int .i64 n', .string t']] w fun e w' => e = .returned (.int .i64 (Lib.compareInt (sc k n) (sc k' n'))) ∧ Below w.heap.size w w' := by
  have hL := @lexE (sc k n) (sc k' n')
  generalize hq : (Lib.compareInt (sc k n / 10000) (sc k' n' / 10000) != 0) = q
  cases q
  · have HR : Hid (Lib.compareInt (sc k n % 10000) (sc k' n' % 10000) = Lib.compareInt (sc k n) (sc k' n')) := hL.2 (by simpa using hq)
    clear hL
    go_enter Tryd.func46, Tryd.ntmps46
    go_wp2_with fail
    refine (rSplit_any k n t _ h1 h2).mono ?_
    rintro e w1 ⟨rfl, hb1⟩
    obtain ⟨hc1, hf1⟩ := bcell hb1
    go_wp2_with fail
    refine (rSplit_any k' n' t' _ h3 h4).mono ?_
    rintro e w2 ⟨rfl, hb2⟩
    clear hc1 hf1
    go_wp2_with fail
    refine (ints_any _ _ _).mono ?_
    rintro e w3 ⟨rfl, hb3⟩
    go_wp2_with fail
    refine (ints_any _ _ _).mono ?_
    rintro e w4 ⟨rfl, hb4⟩
    go_wp2
    go_ret
    exact ⟨ret_int HR.out, (Bel.out (by repeat (first | exact Bel.refl _ | refine Bel.drew ?_ | refine Bel.drewN ?_ _ | refine Bel.alloc ?_ _ | refine Bel.setCell ?_ (by simp <;> omega) _ | refine Bel.step ?_ (by assumption))))⟩
  · have HR : Hid (Lib.compareInt (sc k n / 10000) (sc k' n' / 10000) = Lib.compareInt (sc k n) (sc k' n')) := hL.1 (by simpa using hq)
    clear hL
    go_enter Tryd.func46, Tryd.ntmps46
    go_wp2_with fail
    refine (rSplit_any k n t _ h1 h2).mono ?_
    rintro e w1 ⟨rfl, hb1⟩
    obtain ⟨hc1, hf1⟩ := bcell hb1
    go_wp2_with fail
    refine (rSplit_any k' n' t' _ h3 h4).mono ?_
    rintro e w2 ⟨rfl, hb2⟩
    clear hc1 hf1
    go_wp2_with fail
    refine (ints_any _ _ _).mono ?_
    rintro e w3 ⟨rfl, hb3⟩
    go_wp2
    go_ret
    exact ⟨ret_int HR.out, (Bel.out (by repeat (first | exact Bel.refl _ | refine Bel.drew ?_ | refine Bel.drewN ?_ _ | refine Bel.alloc ?_ _ | refine Bel.setCell ?_ (by simp <;> omega) _ | refine Bel.step ?_ (by assumption))))⟩
end Go.Proofs.YtejniencggnkiaaDoor
