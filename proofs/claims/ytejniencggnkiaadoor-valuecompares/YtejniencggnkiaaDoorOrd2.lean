/- Order of package value, for any two values. -/
import Derived.Test.YtejniencggnkiaaDoorOrd
namespace Go.Proofs.YtejniencggnkiaaDoor
open Go.ChangeShapes Go.WideShapes Go.ChangeAt Go.RowKit
attribute [local go_sem ↓] Go.wp_at_zero Go.wp_at_succ

theorem isNumber_b (k n : Int) (t : ByteArray) (w : World) : Calls Tryd.prog 41 #[.agg #[.int .i64 k, .int .i64 n, .string t]] w fun e w' => e = .returned (.bool (isNum k)) ∧ Below w.heap.size w w' :=
  (isNumber_any k n t w).mono fun e w' h => ⟨h.1, by rw [h.2]; exact (Below.refl _ _).alloc (Nat.le_refl _) _⟩
set_option maxHeartbeats 4000000 in
theorem Order_any (k n k' n' : Int) (t t' : ByteArray) (w : World) (h1 : -9223372036854775808 ≤ n) (h2 : n ≤ 9223372036854775807) (h3 : -9223372036854775808 ≤ n') (h4 : n' ≤ 9223372036854775807) (hK : Ranks w) : Calls Tryd.prog 26 #[.agg #[.int .i64 k, .int .i64 n, .string t], .agg #[.int .i64 k', .int .i64 n', .string t']] w fun e w' => e = .returned (.int .i64 (ordC k n t k' n' t')) ∧ Below w.heap.size w w' := by
  unfold ordC
  generalize ha : (rkS k != rkS k') = a
  generalize hb4 : (rkS k == 4) = b
  generalize hc0 : (cmpC k n t k' n' t' == 0) = c
  generalize hi : isNum k = i
  cases a
  · cases b
    · cases c <;> cases i
      all_goals simp only [Bool.false_eq_true, if_false, if_true, Bool.and_true, Bool.and_false]
      all_goals
        go_enter Tryd.func26, Tryd.ntmps26
        go_wp2_with fail
        go_region_held3 (fun w' => w'.cell? ⟨w.heap.size, 0, none⟩ = some (.int .i64 k) ∧ w'.cell? ⟨w.heap.size, 1, none⟩ = some (.int .i64 n) ∧ w'.cell? ⟨w.heap.size, 2, none⟩ = some (.string t) ∧ w'.cell? ⟨w.heap.size + 1, 0, none⟩ = some (.int .i64 k') ∧ w'.cell? ⟨w.heap.size + 1, 1, none⟩ = some (.int .i64 n') ∧ w'.cell? ⟨w.heap.size + 1, 2, none⟩ = some (.string t') ∧ w.heap.size + 2 ≤ w'.heap.size ∧ Below w.heap.size w w') (first | exact keep2 (by assumption) hb | exact keep2d (boxes2 w _ _ _ _ _ _)) (first | (go_at_call 50; refine (rank_any _ _ ?_).mono ?_; (exact ranks2 hK (by assumption)); rintro e w' ⟨rfl, hb⟩))
        go_wp2_with fail
        refine (Compare_any k n k' n' t t' _ h1 h2 h3 h4).mono ?_
        rintro e w5 ⟨rfl, hb5⟩
        have S5 := keep2 (by assumption) hb5
        go_wp2_with (first | (go_at_call 44; refine (Tryd.cmp_Compare_int _ _ _).mono ?_; rintro e w' ⟨rfl, rfl⟩) | (go_at_call 41; refine (isNumber_b _ _ _ _).mono ?_; rintro e w' ⟨rfl, hb6⟩; have S6 := keep2 S5 hb6))
        go_ret
        exact ⟨rfl, (Bel.out (by repeat (first | exact Bel.refl _ | refine Bel.drew ?_ | refine Bel.drewN ?_ _ | refine Bel.alloc ?_ _ | refine Bel.setCell ?_ (by simp <;> omega) _ | refine Bel.step ?_ (by assumption))))⟩
    · simp only [Bool.false_eq_true, if_false, if_true]
      go_enter Tryd.func26, Tryd.ntmps26
      go_wp2_with fail
      go_region_held3 (fun w' => w'.cell? ⟨w.heap.size, 0, none⟩ = some (.int .i64 k) ∧ w'.cell? ⟨w.heap.size, 1, none⟩ = some (.int .i64 n) ∧ w'.cell? ⟨w.heap.size, 2, none⟩ = some (.string t) ∧ w'.cell? ⟨w.heap.size + 1, 0, none⟩ = some (.int .i64 k') ∧ w'.cell? ⟨w.heap.size + 1, 1, none⟩ = some (.int .i64 n') ∧ w'.cell? ⟨w.heap.size + 1, 2, none⟩ = some (.string t') ∧ w.heap.size + 2 ≤ w'.heap.size ∧ Below w.heap.size w w') (first | exact keep2 (by assumption) hb | exact keep2d (boxes2 w _ _ _ _ _ _)) (first | (go_at_call 50; refine (rank_any _ _ ?_).mono ?_; (exact ranks2 hK (by assumption)); rintro e w' ⟨rfl, hb⟩))
      go_wp2_with (first | (go_at_call 51; refine (orderOthers_any _ _ _ _ _ _ _).mono ?_; rintro e w' ⟨rfl, hb5⟩))
      go_ret
      exact ⟨rfl, (Bel.out (by repeat (first | exact Bel.refl _ | refine Bel.drew ?_ | refine Bel.drewN ?_ _ | refine Bel.alloc ?_ _ | refine Bel.setCell ?_ (by simp <;> omega) _ | refine Bel.step ?_ (by assumption))))⟩
  · simp only [if_true]
    go_enter Tryd.func26, Tryd.ntmps26
    go_wp2_with fail
    go_region_held3 (fun w' => w'.cell? ⟨w.heap.size, 0, none⟩ = some (.int .i64 k) ∧ w'.cell? ⟨w.heap.size, 1, none⟩ = some (.int .i64 n) ∧ w'.cell? ⟨w.heap.size, 2, none⟩ = some (.string t) ∧ w'.cell? ⟨w.heap.size + 1, 0, none⟩ = some (.int .i64 k') ∧ w'.cell? ⟨w.heap.size + 1, 1, none⟩ = some (.int .i64 n') ∧ w'.cell? ⟨w.heap.size + 1, 2, none⟩ = some (.string t') ∧ w.heap.size + 2 ≤ w'.heap.size ∧ Below w.heap.size w w') (first | exact keep2 (by assumption) hb | exact keep2d (boxes2 w _ _ _ _ _ _)) (first | (go_at_call 50; refine (rank_any _ _ ?_).mono ?_; (exact ranks2 hK (by assumption)); rintro e w' ⟨rfl, hb⟩))
    go_wp2_with (go_at_call 44; refine (Tryd.cmp_Compare_int _ _ _).mono ?_; rintro e w' ⟨rfl, rfl⟩)
    go_ret
    exact ⟨rfl, last2 (by assumption)⟩
end Go.Proofs.YtejniencggnkiaaDoor
