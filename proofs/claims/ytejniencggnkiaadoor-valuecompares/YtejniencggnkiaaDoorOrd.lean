/- The order of all values, package value's Equal, rank, orderOthers and Order, for any values. -/
import Derived.Test.YtejniencggnkiaaDoorAwake
import Derived.Test.YtejniencggnkiaaDoorFrame
namespace Go.Proofs.YtejniencggnkiaaDoor
open Go.ChangeShapes Go.WideShapes Go.ChangeAt Go.RowKit
attribute [local go_sem ↓] Go.wp_at_zero Go.wp_at_succ

theorem Ranks.below {w w' : World} (h : Ranks w) (hb : Below w.heap.size w w') : Ranks w' := tabBelow h hb
theorem ranks2 {w wx : World} {c0 c1 c2 d0 d1 d2 : Value} (hK : Ranks w) (hS : wx.cell? ⟨w.heap.size, 0, none⟩ = some c0 ∧ wx.cell? ⟨w.heap.size, 1, none⟩ = some c1 ∧ wx.cell? ⟨w.heap.size, 2, none⟩ = some c2 ∧ wx.cell? ⟨w.heap.size + 1, 0, none⟩ = some d0 ∧ wx.cell? ⟨w.heap.size + 1, 1, none⟩ = some d1 ∧ wx.cell? ⟨w.heap.size + 1, 2, none⟩ = some d2 ∧ w.heap.size + 2 ≤ wx.heap.size ∧ Below w.heap.size w wx) : Ranks wx := hK.below (last2 hS)
def rkS (k : Int) : Int := if k = 0 then 0 else if k = 1 then 1 else if k = 2 then 2 else if k = 3 then 2 else if k = 4 then 3 else 4
def othC (k n : Int) (t : ByteArray) (k' n' : Int) (t' : ByteArray) : Int :=
  if k != k' then Lib.compareInt k k' else if n != n' then Lib.compareInt n n' else Lib.compareBytes t.data.toList t'.data.toList
def ordC (k n : Int) (t : ByteArray) (k' n' : Int) (t' : ByteArray) : Int :=
  if rkS k != rkS k' then Lib.compareInt (rkS k) (rkS k') else if rkS k == 4 then othC k n t k' n' t' else if cmpC k n t k' n' t' == 0 && isNum k then Lib.compareInt k k' else cmpC k n t k' n' t'

set_option maxHeartbeats 1000000 in
theorem Equal_any (k n k' n' : Int) (t t' : ByteArray) (w : World) (h1 : -9223372036854775808 ≤ n) (h2 : n ≤ 9223372036854775807) (h3 : -9223372036854775808 ≤ n') (h4 : n' ≤ 9223372036854775807) : Calls Tryd.prog 24 #[.agg #[.int .i64 k, .int .i64 n, .string t], .agg #[.int .i64 k', .int .i64 n', .string t']] w fun e w' => e = .returned (.agg #[.int .i64 (tk (eqT k n t k' n' t')), .int .i64 (tn (eqT k n t k' n' t')), .string ⟨#[]⟩]) ∧ Below w.heap.size w w' := by
  by_cases a0 : k = 0
  · have e0 : eqT k n t k' n' t' = 2 := by unfold eqT; simp [a0]
    rw [e0]
    have z0 : (k == 0) = true := by simp [a0]
    clear a0
    go_enter Tryd.func24, Tryd.ntmps24
    go_wp2_with (first | (go_at_call 36; refine (unknown_any _).mono ?_; rintro e w' ⟨rfl, rfl⟩))
    exact bodyPost_ret (v := .agg #[.int .i64 0, .int .i64 0, .string ⟨#[]⟩]) (by simp [results, Tryd.results24, go_sem]) rfl ⟨rfl, (Bel.out (by repeat (first | exact Bel.refl _ | refine Bel.drew ?_ | refine Bel.drewN ?_ _ | refine Bel.alloc ?_ _ | refine Bel.setCell ?_ (by simp <;> omega) _ | refine Bel.step ?_ (by assumption))))⟩
  have z0 : (k == 0) = false := by simpa using a0
  by_cases b0 : k' = 0
  · have e0 : eqT k n t k' n' t' = 2 := by unfold eqT; simp [b0]
    rw [e0]
    have z1 : (k' == 0) = true := by simp [b0]
    clear a0 b0
    go_enter Tryd.func24, Tryd.ntmps24
    go_wp2_with (first | (go_at_call 36; refine (unknown_any _).mono ?_; rintro e w' ⟨rfl, rfl⟩))
    exact bodyPost_ret (v := .agg #[.int .i64 0, .int .i64 0, .string ⟨#[]⟩]) (by simp [results, Tryd.results24, go_sem]) rfl ⟨rfl, (Bel.out (by repeat (first | exact Bel.refl _ | refine Bel.drew ?_ | refine Bel.drewN ?_ _ | refine Bel.alloc ?_ _ | refine Bel.setCell ?_ (by simp <;> omega) _ | refine Bel.step ?_ (by assumption))))⟩
  have z1 : (k' == 0) = false := by simpa using b0
  have e0 : eqT k n t k' n' t' = if cmpB k k' && cmpC k n t k' n' t' == 0 then 1 else 0 := by unfold eqT; simp [z0, z1]
  rw [e0]
  clear a0 b0 e0
  generalize hB : cmpB k k' = bb
  generalize hC : (cmpC k n t k' n' t' == 0) = cc
  have HCmp := fun W => Compare_any k n k' n' t t' W h1 h2 h3 h4
  rw [hB] at HCmp
  clear hB
  cases bb <;> cases cc
  · go_enter Tryd.func24, Tryd.ntmps24
    go_wp2_with fail
    refine (HCmp _).mono ?_
    rintro e w1 ⟨rfl, hb1⟩
    clear HCmp
    obtain ⟨hc1, hf1⟩ := bcell hb1
    have hz1 : w.heap.size + 2 < w1.heap.size := by have := hb1.size; simp at this; omega
    go_wp2_with (first | (go_at_call 37; refine (truth_false _).mono ?_; rintro e w' ⟨rfl, rfl⟩))
    exact bodyPost_ret (v := .agg #[.int .i64 1, .int .i64 0, .string ⟨#[]⟩]) (by simp [results, Tryd.results24, go_sem, hc1, hz1]) rfl ⟨rfl, (Bel.out (by repeat (first | exact Bel.refl _ | refine Bel.drew ?_ | refine Bel.drewN ?_ _ | refine Bel.alloc ?_ _ | refine Bel.setCell ?_ (by simp <;> omega) _ | refine Bel.step ?_ (by assumption))))⟩
  · go_enter Tryd.func24, Tryd.ntmps24
    go_wp2_with fail
    refine (HCmp _).mono ?_
    rintro e w1 ⟨rfl, hb1⟩
    clear HCmp
    obtain ⟨hc1, hf1⟩ := bcell hb1
    have hz1 : w.heap.size + 2 < w1.heap.size := by have := hb1.size; simp at this; omega
    go_wp2_with (first | (go_at_call 37; refine (truth_false _).mono ?_; rintro e w' ⟨rfl, rfl⟩))
    exact bodyPost_ret (v := .agg #[.int .i64 1, .int .i64 0, .string ⟨#[]⟩]) (by simp [results, Tryd.results24, go_sem, hc1, hz1]) rfl ⟨rfl, (Bel.out (by repeat (first | exact Bel.refl _ | refine Bel.drew ?_ | refine Bel.drewN ?_ _ | refine Bel.alloc ?_ _ | refine Bel.setCell ?_ (by simp <;> omega) _ | refine Bel.step ?_ (by assumption))))⟩
  · go_enter Tryd.func24, Tryd.ntmps24
    go_wp2_with fail
    refine (HCmp _).mono ?_
    rintro e w1 ⟨rfl, hb1⟩
    clear HCmp
    obtain ⟨hc1, hf1⟩ := bcell hb1
    have hz1 : w.heap.size + 2 < w1.heap.size := by have := hb1.size; simp at this; omega
    go_wp2_with (first | (go_at_call 37; refine (truth_false _).mono ?_; rintro e w' ⟨rfl, rfl⟩))
    exact bodyPost_ret (v := .agg #[.int .i64 1, .int .i64 0, .string ⟨#[]⟩]) (by simp [results, Tryd.results24, go_sem, hc1, hz1]) rfl ⟨rfl, (Bel.out (by repeat (first | exact Bel.refl _ | refine Bel.drew ?_ | refine Bel.drewN ?_ _ | refine Bel.alloc ?_ _ | refine Bel.setCell ?_ (by simp <;> omega) _ | refine Bel.step ?_ (by assumption))))⟩
  · go_enter Tryd.func24, Tryd.ntmps24
    go_wp2_with fail
    refine (HCmp _).mono ?_
    rintro e w1 ⟨rfl, hb1⟩
    clear HCmp
    obtain ⟨hc1, hf1⟩ := bcell hb1
    have hz1 : w.heap.size + 2 < w1.heap.size := by have := hb1.size; simp at this; omega
    go_wp2_with (first | (go_at_call 37; refine (truth_true _).mono ?_; rintro e w' ⟨rfl, rfl⟩))
    exact bodyPost_ret (v := .agg #[.int .i64 1, .int .i64 1, .string ⟨#[]⟩]) (by simp [results, Tryd.results24, go_sem, hc1, hz1]) rfl ⟨rfl, (Bel.out (by repeat (first | exact Bel.refl _ | refine Bel.drew ?_ | refine Bel.drewN ?_ _ | refine Bel.alloc ?_ _ | refine Bel.setCell ?_ (by simp <;> omega) _ | refine Bel.step ?_ (by assumption))))⟩

set_option maxHeartbeats 400000 in
theorem rank_0 (w : World) (hK : Ranks w) : Calls Tryd.prog 50 #[.int .i64 0] w fun e w' => e = .returned (.int .i64 0) ∧ w' = w := by
  have hc : w.cell? ⟨0, 0, none⟩ = some (.int .i64 0) := Lib.TabIs.cell hK (by kernel_rfl) 0 (by decide)
  go_enter Tryd.func50, Tryd.ntmps50
  go_wp2
  go_ret
  exact ⟨rfl, rfl⟩

set_option maxHeartbeats 400000 in
theorem rank_1 (w : World) (hK : Ranks w) : Calls Tryd.prog 50 #[.int .i64 1] w fun e w' => e = .returned (.int .i64 1) ∧ w' = w := by
  have hc : w.cell? ⟨0, 1, none⟩ = some (.int .i64 1) := Lib.TabIs.cell hK (by kernel_rfl) 1 (by decide)
  go_enter Tryd.func50, Tryd.ntmps50
  go_wp2
  go_ret
  exact ⟨rfl, rfl⟩

set_option maxHeartbeats 400000 in
theorem rank_2 (w : World) (hK : Ranks w) : Calls Tryd.prog 50 #[.int .i64 2] w fun e w' => e = .returned (.int .i64 2) ∧ w' = w := by
  have hc : w.cell? ⟨0, 2, none⟩ = some (.int .i64 2) := Lib.TabIs.cell hK (by kernel_rfl) 2 (by decide)
  go_enter Tryd.func50, Tryd.ntmps50
  go_wp2
  go_ret
  exact ⟨rfl, rfl⟩

set_option maxHeartbeats 400000 in
theorem rank_3 (w : World) (hK : Ranks w) : Calls Tryd.prog 50 #[.int .i64 3] w fun e w' => e = .returned (.int .i64 2) ∧ w' = w := by
  have hc : w.cell? ⟨0, 3, none⟩ = some (.int .i64 2) := Lib.TabIs.cell hK (by kernel_rfl) 3 (by decide)
  go_enter Tryd.func50, Tryd.ntmps50
  go_wp2
  go_ret
  exact ⟨rfl, rfl⟩

set_option maxHeartbeats 400000 in
theorem rank_4 (w : World) (hK : Ranks w) : Calls Tryd.prog 50 #[.int .i64 4] w fun e w' => e = .returned (.int .i64 3) ∧ w' = w := by
  have hc : w.cell? ⟨0, 4, none⟩ = some (.int .i64 3) := Lib.TabIs.cell hK (by kernel_rfl) 4 (by decide)
  go_enter Tryd.func50, Tryd.ntmps50
  go_wp2
  go_ret
  exact ⟨rfl, rfl⟩

set_option maxHeartbeats 400000 in
theorem rank_neg (k : Int) (w : World) (h : k < 0) : Calls Tryd.prog 50 #[.int .i64 k] w fun e w' => e = .returned (.int .i64 4) ∧ w' = w := by
  go_enter Tryd.func50, Tryd.ntmps50
  go_wp2
  go_ret
  exact ⟨rfl, rfl⟩

set_option maxHeartbeats 400000 in
theorem rank_big (k : Int) (w : World) (h : 5 ≤ k) : Calls Tryd.prog 50 #[.int .i64 k] w fun e w' => e = .returned (.int .i64 4) ∧ w' = w := by
  have hz : ¬ k < 0 := by omega
  go_enter Tryd.func50, Tryd.ntmps50
  go_wp2
  go_ret
  exact ⟨rfl, rfl⟩

theorem rank_any (k : Int) (w : World) (hK : Ranks w) : Calls Tryd.prog 50 #[.int .i64 k] w fun e w' => e = .returned (.int .i64 (rkS k)) ∧ Below w.heap.size w w' := by
  have fin : ∀ r : Int, (Calls Tryd.prog 50 #[.int .i64 k] w fun e w' => e = .returned (.int .i64 r) ∧ w' = w) → r = rkS k → Calls Tryd.prog 50 #[.int .i64 k] w fun e w' => e = .returned (.int .i64 (rkS k)) ∧ Below w.heap.size w w' := fun r h e => by
    rw [← e]; exact h.mono fun _ _ x => ⟨x.1, by rw [x.2]; exact Below.refl _ _⟩
  by_cases k0 : k = 0
  · subst k0; exact fin _ (rank_0 w hK) rfl
  by_cases k1 : k = 1
  · subst k1; exact fin _ (rank_1 w hK) rfl
  by_cases k2 : k = 2
  · subst k2; exact fin _ (rank_2 w hK) rfl
  by_cases k3 : k = 3
  · subst k3; exact fin _ (rank_3 w hK) rfl
  by_cases k4 : k = 4
  · subst k4; exact fin _ (rank_4 w hK) rfl
  have e : 4 = rkS k := by unfold rkS; simp [k0, k1, k2, k3, k4]
  rcases Int.lt_or_le k 0 with h | h
  · exact fin _ (rank_neg k w h) e
  · exact fin _ (rank_big k w (by omega)) e

set_option maxHeartbeats 1000000 in
theorem orderOthers_any (k n k' n' : Int) (t t' : ByteArray) (w : World) : Calls Tryd.prog 51 #[.agg #[.int .i64 k, .int .i64 n, .string t], .agg #[.int .i64 k', .int .i64 n', .string t']] w fun e w' => e = .returned (.int .i64 (othC k n t k' n' t')) ∧ Below w.heap.size w w' := by
  unfold othC
  generalize ha : (k != k') = a
  generalize hb : (n != n') = b
  cases a <;> cases b
  all_goals simp only [Bool.false_eq_true, if_false, if_true]
  all_goals
    go_enter Tryd.func51, Tryd.ntmps51
    go_wp2_with (first | (go_at_call 44; refine (Tryd.cmp_Compare_int _ _ _).mono ?_; rintro e w' ⟨rfl, rfl⟩) | (go_at_call 43; refine (Tryd.strings_Compare _ _ _).mono ?_; rintro e w' ⟨rfl, rfl⟩))
    go_ret
    exact ⟨rfl, (Bel.out (by repeat (first | exact Bel.refl _ | refine Bel.drew ?_ | refine Bel.drewN ?_ _ | refine Bel.alloc ?_ _ | refine Bel.setCell ?_ (by simp <;> omega) _ | refine Bel.step ?_ (by assumption))))⟩
end Go.Proofs.YtejniencggnkiaaDoor
