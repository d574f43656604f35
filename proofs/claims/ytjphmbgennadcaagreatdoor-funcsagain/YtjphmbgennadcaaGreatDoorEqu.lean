/- The order of all values, package value's Equal, rank, orderOthers and Order, for any values. -/
import Derived.Test.YtjphmbgennadcaaGreatDoorMay
namespace Go.Proofs.YtjphmbgennadcaaGreatDoor
open Go.ChangeShapes Go.WideShapes Go.ChangeAt Go.RowKit
attribute [local go_sem ↓] Go.wp_at_zero Go.wp_at_succ

set_option maxHeartbeats 1000000 in
theorem Equal_any (k n k' n' : Int) (t t' : ByteArray) (w : World) (h1 : -9223372036854775808 ≤ n) (h2 : n ≤ 9223372036854775807) (h3 : -9223372036854775808 ≤ n') (h4 : n' ≤ 9223372036854775807) : Calls Tryz.prog 95 #[.agg #[.int .i64 k, .int .i64 n, .string t], .agg #[.int .i64 k', .int .i64 n', .string t']] w fun e w' => e = .returned (.agg #[.int .i64 (tk (eqT k n t k' n' t')), .int .i64 (tn (eqT k n t k' n' t')), .string ⟨#[]⟩]) ∧ Below w.heap.size w w' := by
  by_cases a0 : k = 0
  · have e0 : eqT k n t k' n' t' = 2 := by unfold eqT; simp [a0]
    rw [e0]
    have z0 : (k == 0) = true := by simp [a0]
    clear a0
    go_enter Tryz.func95, Tryz.ntmps95
    go_wp2_with (first | (go_at_call 118; refine (unknown_any _).mono ?_; rintro e w' ⟨rfl, rfl⟩))
    exact bodyPost_ret (v := .agg #[.int .i64 0, .int .i64 0, .string ⟨#[]⟩]) (by simp [results, Tryz.results95, go_sem]) rfl ⟨rfl, (Bel.out (by repeat (first | exact Bel.refl _ | refine Bel.drew ?_ | refine Bel.drewN ?_ _ | refine Bel.alloc ?_ _ | refine Bel.setCell ?_ (by simp <;> omega) _ | refine Bel.step ?_ (by assumption))))⟩
  have z0 : (k == 0) = false := by simpa using a0
  by_cases b0 : k' = 0
  · have e0 : eqT k n t k' n' t' = 2 := by unfold eqT; simp [b0]
    rw [e0]
    have z1 : (k' == 0) = true := by simp [b0]
    clear a0 b0
    go_enter Tryz.func95, Tryz.ntmps95
    go_wp2_with (first | (go_at_call 118; refine (unknown_any _).mono ?_; rintro e w' ⟨rfl, rfl⟩))
    exact bodyPost_ret (v := .agg #[.int .i64 0, .int .i64 0, .string ⟨#[]⟩]) (by simp [results, Tryz.results95, go_sem]) rfl ⟨rfl, (Bel.out (by repeat (first | exact Bel.refl _ | refine Bel.drew ?_ | refine Bel.drewN ?_ _ | refine Bel.alloc ?_ _ | refine Bel.setCell ?_ (by simp <;> omega) _ | refine Bel.step ?_ (by assumption))))⟩
  have z1 : (k' == 0) = false := by simpa using b0
  have e0 : eqT k n t k' n' t' = if cmpB k k' && cmpC k n t k' n' t' == 0 then 1 else 0 := by unfold eqT; simp [z0, z1]
  rw [e0]
  clear a0 b0 e0
  generalize hB : cmpB k k' = bb
  generalize hC : (cmpC k n t k' n' t' == 0) = cc
  have HCmp := fun W => Compare_any k n k' n' t t' W h1 h2 h3 h4
  rw [hB] at HCmp
  clear hB
  cases bb <;> cases cc
  · go_enter Tryz.func95, Tryz.ntmps95
    go_wp2_with fail
    refine (HCmp _).mono ?_
    rintro e w1 ⟨rfl, hb1⟩
    clear HCmp
    obtain ⟨hc1, hf1⟩ := bcell hb1
    have hz1 : w.heap.size + 2 < w1.heap.size := by have := hb1.size; simp at this; omega
    go_wp2_with (first | (go_at_call 119; refine (truth_false _).mono ?_; rintro e w' ⟨rfl, rfl⟩))
    exact bodyPost_ret (v := .agg #[.int .i64 1, .int .i64 0, .string ⟨#[]⟩]) (by simp [results, Tryz.results95, go_sem, hc1, hz1]) rfl ⟨rfl, (Bel.out (by repeat (first | exact Bel.refl _ | refine Bel.drew ?_ | refine Bel.drewN ?_ _ | refine Bel.alloc ?_ _ | refine Bel.setCell ?_ (by simp <;> omega) _ | refine Bel.step ?_ (by assumption))))⟩
  · go_enter Tryz.func95, Tryz.ntmps95
    go_wp2_with fail
    refine (HCmp _).mono ?_
    rintro e w1 ⟨rfl, hb1⟩
    clear HCmp
    obtain ⟨hc1, hf1⟩ := bcell hb1
    have hz1 : w.heap.size + 2 < w1.heap.size := by have := hb1.size; simp at this; omega
    go_wp2_with (first | (go_at_call 119; refine (truth_false _).mono ?_; rintro e w' ⟨rfl, rfl⟩))
    exact bodyPost_ret (v := .agg #[.int .i64 1, .int .i64 0, .string ⟨#[]⟩]) (by simp [results, Tryz.results95, go_sem, hc1, hz1]) rfl ⟨rfl, (Bel.out (by repeat (first | exact Bel.refl _ | refine Bel.drew ?_ | refine Bel.drewN ?_ _ | refine Bel.alloc ?_ _ | refine Bel.setCell ?_ (by simp <;> omega) _ | refine Bel.step ?_ (by assumption))))⟩
  · go_enter Tryz.func95, Tryz.ntmps95
    go_wp2_with fail
    refine (HCmp _).mono ?_
    rintro e w1 ⟨rfl, hb1⟩
    clear HCmp
    obtain ⟨hc1, hf1⟩ := bcell hb1
    have hz1 : w.heap.size + 2 < w1.heap.size := by have := hb1.size; simp at this; omega
    go_wp2_with (first | (go_at_call 119; refine (truth_false _).mono ?_; rintro e w' ⟨rfl, rfl⟩))
    exact bodyPost_ret (v := .agg #[.int .i64 1, .int .i64 0, .string ⟨#[]⟩]) (by simp [results, Tryz.results95, go_sem, hc1, hz1]) rfl ⟨rfl, (Bel.out (by repeat (first | exact Bel.refl _ | refine Bel.drew ?_ | refine Bel.drewN ?_ _ | refine Bel.alloc ?_ _ | refine Bel.setCell ?_ (by simp <;> omega) _ | refine Bel.step ?_ (by assumption))))⟩
  · go_enter Tryz.func95, Tryz.ntmps95
    go_wp2_with fail
    refine (HCmp _).mono ?_
    rintro e w1 ⟨rfl, hb1⟩
    clear HCmp
    obtain ⟨hc1, hf1⟩ := bcell hb1
    have hz1 : w.heap.size + 2 < w1.heap.size := by have := hb1.size; simp at this; omega
    go_wp2_with (first | (go_at_call 119; refine (truth_true _).mono ?_; rintro e w' ⟨rfl, rfl⟩))
    exact bodyPost_ret (v := .agg #[.int .i64 1, .int .i64 1, .string ⟨#[]⟩]) (by simp [results, Tryz.results95, go_sem, hc1, hz1]) rfl ⟨rfl, (Bel.out (by repeat (first | exact Bel.refl _ | refine Bel.drew ?_ | refine Bel.drewN ?_ _ | refine Bel.alloc ?_ _ | refine Bel.setCell ?_ (by simp <;> omega) _ | refine Bel.step ?_ (by assumption))))⟩

end Go.Proofs.YtjphmbgennadcaaGreatDoor
