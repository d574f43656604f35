/- The text of a token (show). -/
import Derived.Test.YthhbeejfnpcbhaaGreatDoorShw
namespace Go.Proofs.YthhbeejfnpcbhaaGreatDoor
open Go.ChangeShapes Go.WideShapes Go.ChangeAt Go.RowKit

set_option maxRecDepth 20000 in
set_option maxHeartbeats 4000000 in
theorem show_1 (t : List UInt8) (n a : Int) (w : World) : Calls Tryz.prog 21 #[.agg #[.int .i64 1, .string (bsA t), .int .i64 n, .int .i64 a]] w fun e w' => e = .returned (.string (bsA t)) ∧ Below w.heap.size w w' := by
  go_enter Tryz.func21, Tryz.ntmps21
  go_wp2
  go_ret
  exact ⟨rfl, (Bel.out (by repeat (first | exact Bel.refl _ | assumption | refine Bel.drew ?_ | refine Bel.drewN ?_ _ | refine Bel.alloc ?_ _ | refine Bel.setCell ?_ (by simp <;> omega) _ | refine Bel.step ?_ (by assumption))))⟩
set_option maxRecDepth 20000 in
set_option maxHeartbeats 4000000 in
theorem show_2 (t : List UInt8) (n a : Int) (w : World) : Calls Tryz.prog 21 #[.agg #[.int .i64 2, .string (bsA t), .int .i64 n, .int .i64 a]] w fun e w' => e = .returned (.string (bsA t)) ∧ Below w.heap.size w w' := by
  go_enter Tryz.func21, Tryz.ntmps21
  go_wp2
  go_ret
  exact ⟨rfl, (Bel.out (by repeat (first | exact Bel.refl _ | assumption | refine Bel.drew ?_ | refine Bel.drewN ?_ _ | refine Bel.alloc ?_ _ | refine Bel.setCell ?_ (by simp <;> omega) _ | refine Bel.step ?_ (by assumption))))⟩
set_option maxRecDepth 20000 in
set_option maxHeartbeats 4000000 in
theorem show_6 (t : List UInt8) (n a : Int) (w : World) : Calls Tryz.prog 21 #[.agg #[.int .i64 6, .string (bsA t), .int .i64 n, .int .i64 a]] w fun e w' => e = .returned (.string (bsA t)) ∧ Below w.heap.size w w' := by
  go_enter Tryz.func21, Tryz.ntmps21
  go_wp2
  go_ret
  exact ⟨rfl, (Bel.out (by repeat (first | exact Bel.refl _ | assumption | refine Bel.drew ?_ | refine Bel.drewN ?_ _ | refine Bel.alloc ?_ _ | refine Bel.setCell ?_ (by simp <;> omega) _ | refine Bel.step ?_ (by assumption))))⟩
set_option maxRecDepth 20000 in
set_option maxHeartbeats 4000000 in
theorem show_3 (t : List UInt8) (n a : Int) (w : World) (hR : Rdy w) (h1 : -9223372036854775808 ≤ n) (h2 : n ≤ 9223372036854775807) : Calls Tryz.prog 21 #[.agg #[.int .i64 3, .string (bsA t), .int .i64 n, .int .i64 a]] w fun e w' => e = .returned (.string (bsA (Lib.itoa n))) ∧ Below w.heap.size w w' := by
  go_enter Tryz.func21, Tryz.ntmps21
  go_wp2_with fail
  refine ((fun W h => vShow_2 n h1 h2 W h) _ (hR.alloc _)).mono ?_
  rintro e w1 ⟨rfl, hb1⟩
  go_wp2
  go_ret
  exact ⟨rfl, (Bel.out (by repeat (first | exact Bel.refl _ | assumption | refine Bel.drew ?_ | refine Bel.drewN ?_ _ | refine Bel.alloc ?_ _ | refine Bel.setCell ?_ (by simp <;> omega) _ | refine Bel.step ?_ (by assumption))))⟩
set_option maxRecDepth 20000 in
set_option maxHeartbeats 4000000 in
theorem show_4 (t : List UInt8) (n a : Int) (w : World) (hR : Rdy w) (h1 : -9223372036854775808 ≤ n) (h2 : n ≤ 9223372036854775807) : Calls Tryz.prog 21 #[.agg #[.int .i64 4, .string (bsA t), .int .i64 n, .int .i64 a]] w fun e w' => e = .returned (.string (bsA (decS n))) ∧ Below w.heap.size w w' := by
  go_enter Tryz.func21, Tryz.ntmps21
  go_wp2_with fail
  refine ((fun W h => vShow_3 n h1 h2 W h) _ (hR.alloc _)).mono ?_
  rintro e w1 ⟨rfl, hb1⟩
  go_wp2
  go_ret
  exact ⟨rfl, (Bel.out (by repeat (first | exact Bel.refl _ | assumption | refine Bel.drew ?_ | refine Bel.drewN ?_ _ | refine Bel.alloc ?_ _ | refine Bel.setCell ?_ (by simp <;> omega) _ | refine Bel.step ?_ (by assumption))))⟩
set_option maxRecDepth 20000 in
set_option maxHeartbeats 4000000 in
theorem show_5 (t : List UInt8) (n a : Int) (w : World) (hR : Rdy w) (hl : t.length ≤ 1024) (hv : Lib.validD t = true) : Calls Tryz.prog 21 #[.agg #[.int .i64 5, .string (bsA t), .int .i64 n, .int .i64 a]] w fun e w' => e = .returned (.string (bsA (39 :: (dbl t ++ [39])))) ∧ Below w.heap.size w w' := by
  go_enter Tryz.func21, Tryz.ntmps21
  go_wp2_with fail
  refine ((fun W h => vShow_4 t W h hl hv) _ (hR.alloc _)).mono ?_
  rintro e w1 ⟨rfl, hb1⟩
  go_wp2
  go_ret
  exact ⟨rfl, (Bel.out (by repeat (first | exact Bel.refl _ | assumption | refine Bel.drew ?_ | refine Bel.drewN ?_ _ | refine Bel.alloc ?_ _ | refine Bel.setCell ?_ (by simp <;> omega) _ | refine Bel.step ?_ (by assumption))))⟩
set_option maxRecDepth 20000 in
set_option maxHeartbeats 4000000 in
theorem show_5n (t : List UInt8) (n a : Int) (w : World) (hR : Rdy w) (hl : t.length ≤ 1048576000) (hv : ¬ (t.length ≤ 1024 ∧ Lib.validD t = true)) : Calls Tryz.prog 21 #[.agg #[.int .i64 5, .string (bsA t), .int .i64 n, .int .i64 a]] w fun e w' => e = .returned (.string (bsA [])) ∧ Below w.heap.size w w' := by
  go_enter Tryz.func21, Tryz.ntmps21
  go_wp2_with fail
  refine ((fun W h => vShow_4n t W h hl hv) _ (hR.alloc _)).mono ?_
  rintro e w1 ⟨rfl, hb1⟩
  go_wp2
  go_ret
  exact ⟨rfl, (Bel.out (by repeat (first | exact Bel.refl _ | assumption | refine Bel.drew ?_ | refine Bel.drewN ?_ _ | refine Bel.alloc ?_ _ | refine Bel.setCell ?_ (by simp <;> omega) _ | refine Bel.step ?_ (by assumption))))⟩
theorem itoa_any (n : Int) (w : World) (hR : Rdy w) (h1 : -9223372036854775808 ≤ n) (h2 : n ≤ 9223372036854775807) : Calls Tryz.prog 41 #[.int .i64 n] w fun e w' => e = .returned (.string (bsA (Lib.itoa n))) ∧ Below w.heap.size w w' := by
  refine (Tryz.strconv_Itoa n h1 h2 w hR.pow).mono ?_
  rintro e w2 ⟨rfl, q, os, rfl⟩
  exact ⟨rfl, below_grow w q os⟩
set_option maxRecDepth 20000 in
set_option maxHeartbeats 4000000 in
theorem show_7 (t : List UInt8) (n a : Int) (w : World) (hR : Rdy w) (h1 : -9223372036854775808 ≤ n) (h2 : n ≤ 9223372036854775807) : Calls Tryz.prog 21 #[.agg #[.int .i64 7, .string (bsA t), .int .i64 n, .int .i64 a]] w fun e w' => e = .returned (.string (bsA (Lib.itoa n ++ [109, 115]))) ∧ Below w.heap.size w w' := by
  have hsz : (bsA (Lib.itoa n)).size ≤ 21 := by
    rw [bsA_size]
    unfold Lib.itoa
    split
    · have := digits20 n.natAbs (by omega); simp; omega
    · have := digits20 n.toNat (by omega); omega
  have a1 := addOk (bsA (Lib.itoa n)) ⟨#[109, 115]⟩ 21 2 hsz (by decide) (by omega)
  have a2 : bsA (Lib.itoa n) ++ ⟨#[109, 115]⟩ = bsA (Lib.itoa n ++ [109, 115]) := app_bsA (Lib.itoa n) [109, 115]
  go_enter Tryz.func21, Tryz.ntmps21
  go_wp2_with fail
  refine (itoa_any n _ (hR.alloc _) h1 h2).mono ?_
  rintro e w2 ⟨rfl, hb2⟩
  go_wp2
  go_ret
  exact ⟨rfl, (Bel.out (by repeat (first | exact Bel.refl _ | assumption | refine Bel.drew ?_ | refine Bel.drewN ?_ _ | refine Bel.alloc ?_ _ | refine Bel.setCell ?_ (by simp <;> omega) _ | refine Bel.step ?_ (by assumption))))⟩
set_option maxRecDepth 20000 in
set_option maxHeartbeats 4000000 in
theorem show_x (k : Int) (t : List UInt8) (n a : Int) (w : World) (h1 : (k == 1) = false) (h2 : (k == 2) = false) (h3 : (k == 3) = false) (h4 : (k == 4) = false) (h5 : (k == 5) = false) (h6 : (k == 6) = false) (h7 : (k == 7) = false) : Calls Tryz.prog 21 #[.agg #[.int .i64 k, .string (bsA t), .int .i64 n, .int .i64 a]] w fun e w' => e = .returned (.string (bsA [])) ∧ Below w.heap.size w w' := by
  go_enter Tryz.func21, Tryz.ntmps21
  go_wp2
  go_ret
  exact ⟨rfl, (Bel.out (by repeat (first | exact Bel.refl _ | assumption | refine Bel.drew ?_ | refine Bel.drewN ?_ _ | refine Bel.alloc ?_ _ | refine Bel.setCell ?_ (by simp <;> omega) _ | refine Bel.step ?_ (by assumption))))⟩
theorem show_any (t : Tk) (a : Int) (w : World) (hR : Rdy w) (h1 : -9223372036854775808 ≤ t.2.2) (h2 : t.2.2 ≤ 9223372036854775807) (hl : t.2.1.length ≤ 1048576000) : Calls Tryz.prog 21 #[tkV t a] w fun e w' => e = .returned (.string (bsA (shP t))) ∧ Below w.heap.size w w' := by
  obtain ⟨k, x, n⟩ := t
  dsimp only at h1 h2 hl
  unfold tkV
  dsimp only
  by_cases k1 : k = 1
  · subst k1; exact show_1 x n a w
  by_cases k2 : k = 2
  · subst k2; exact show_2 x n a w
  by_cases k6 : k = 6
  · subst k6; exact show_6 x n a w
  by_cases k3 : k = 3
  · subst k3; exact show_3 x n a w hR h1 h2
  by_cases k4 : k = 4
  · subst k4; exact show_4 x n a w hR h1 h2
  by_cases k5 : k = 5
  · subst k5
    by_cases hv : x.length ≤ 1024 ∧ Lib.validD x = true
    · have e : shP (5, x, n) = 39 :: (dbl x ++ [39]) := by unfold shP; simp [hv]
      rw [e]
      exact show_5 x n a w hR hv.1 hv.2
    · have e : shP (5, x, n) = [] := by unfold shP; simp [hv]
      rw [e]
      exact show_5n x n a w hR hl hv
  by_cases k7 : k = 7
  · subst k7; exact show_7 x n a w hR h1 h2
  have e : shP (k, x, n) = [] := by unfold shP; simp [k1, k2, k3, k4, k5, k6, k7]
  rw [e]
  exact show_x k x n a w (by simpa using k1) (by simpa using k2) (by simpa using k3) (by simpa using k4) (by simpa using k5) (by simpa using k6) (by simpa using k7)
end Go.Proofs.YthhbeejfnpcbhaaGreatDoor
