/- PROVED HERE: two values that may be have the same text only if they are the same; one that may not be has none (ValueUnlike returns true). -/
import Derived.Test.YtejniencggnkiaaDoorUnl
import Derived.Test.YtejniencggnkiaaDoorRMay
import Derived.Test.YtejniencggnkiaaDoorAwake
import Derived.Test.YtejniencggnkiaaDoorFrame
namespace Go.Proofs.YtejniencggnkiaaDoor
open Go.Shelf Go.ChangeShapes Go.WideShapes Go.ChangeAt Go.RowKit Go.Joins
attribute [local go_sem ↓] Go.wp_at_zero Go.wp_at_succ

set_option maxHeartbeats 4000000 in
theorem unl_ff (hRu : RunesSaid) (k n k' n' : Int) (t t' : ByteArray) (w : World) (hR : Ready w) (h1 : -9223372036854775808 ≤ n) (h2 : n ≤ 9223372036854775807) (h3 : -9223372036854775808 ≤ n') (h4 : n' ≤ 9223372036854775807) (ma : mayS k n t = false) (mb : mayS k' n' t' = false) : Calls Tryd.prog 8 #[.agg #[.int .i64 k, .int .i64 n, .string t], .agg #[.int .i64 k', .int .i64 n', .string t']] w fun e w' => e = .returned (.bool true) ∧ Below w.heap.size w w' := by
  have e1 := showS_no ma
  have e2 := showS_no mb
  have S0 := boxes2 w (.int .i64 k) (.int .i64 n) (.string t) (.int .i64 k') (.int .i64 n') (.string t')
  go_enter Tryd.func8, Tryd.ntmps8
  go_wp2_with (first | (go_at_call 10; refine (rMay_any hRu _ _ _ _).mono ?_; rintro e w' ⟨rfl, hb⟩; have SN := keep2 (by assumption) hb) | (go_at_call 11; refine (Show_any _ _ _ (by omega) (by omega) _ ?_).mono ?_; (exact ready2 hR (by assumption)); rintro e w' ⟨rfl, hb⟩; have SN := keep2 (by assumption) hb) | (go_at_call 13; refine (awake_any _ ?_).mono ?_; (exact ready2 hR (by assumption)); rintro e w' ⟨rfl, hb⟩; have SN := keep2 (by assumption) hb))
  all_goals go_ret
  all_goals exact ⟨by simp, last2 (by assumption)⟩

set_option maxHeartbeats 4000000 in
theorem unl_ft (hRu : RunesSaid) (k n k' n' : Int) (t t' : ByteArray) (w : World) (hR : Ready w) (h1 : -9223372036854775808 ≤ n) (h2 : n ≤ 9223372036854775807) (h3 : -9223372036854775808 ≤ n') (h4 : n' ≤ 9223372036854775807) (ma : mayS k n t = false) (mb : mayS k' n' t' = true) : Calls Tryd.prog 8 #[.agg #[.int .i64 k, .int .i64 n, .string t], .agg #[.int .i64 k', .int .i64 n', .string t']] w fun e w' => e = .returned (.bool true) ∧ Below w.heap.size w w' := by
  have e1 := showS_no ma

  have S0 := boxes2 w (.int .i64 k) (.int .i64 n) (.string t) (.int .i64 k') (.int .i64 n') (.string t')
  go_enter Tryd.func8, Tryd.ntmps8
  go_wp2_with (first | (go_at_call 10; refine (rMay_any hRu _ _ _ _).mono ?_; rintro e w' ⟨rfl, hb⟩; have SN := keep2 (by assumption) hb) | (go_at_call 11; refine (Show_any _ _ _ (by omega) (by omega) _ ?_).mono ?_; (exact ready2 hR (by assumption)); rintro e w' ⟨rfl, hb⟩; have SN := keep2 (by assumption) hb) | (go_at_call 13; refine (awake_any _ ?_).mono ?_; (exact ready2 hR (by assumption)); rintro e w' ⟨rfl, hb⟩; have SN := keep2 (by assumption) hb))
  all_goals go_ret
  all_goals exact ⟨by simp, last2 (by assumption)⟩

set_option maxHeartbeats 4000000 in
theorem unl_tf (hRu : RunesSaid) (k n k' n' : Int) (t t' : ByteArray) (w : World) (hR : Ready w) (h1 : -9223372036854775808 ≤ n) (h2 : n ≤ 9223372036854775807) (h3 : -9223372036854775808 ≤ n') (h4 : n' ≤ 9223372036854775807) (ma : mayS k n t = true) (mb : mayS k' n' t' = false) : Calls Tryd.prog 8 #[.agg #[.int .i64 k, .int .i64 n, .string t], .agg #[.int .i64 k', .int .i64 n', .string t']] w fun e w' => e = .returned (.bool true) ∧ Below w.heap.size w w' := by

  have e2 := showS_no mb
  have S0 := boxes2 w (.int .i64 k) (.int .i64 n) (.string t) (.int .i64 k') (.int .i64 n') (.string t')
  go_enter Tryd.func8, Tryd.ntmps8
  go_wp2_with (first | (go_at_call 10; refine (rMay_any hRu _ _ _ _).mono ?_; rintro e w' ⟨rfl, hb⟩; have SN := keep2 (by assumption) hb) | (go_at_call 11; refine (Show_any _ _ _ (by omega) (by omega) _ ?_).mono ?_; (exact ready2 hR (by assumption)); rintro e w' ⟨rfl, hb⟩; have SN := keep2 (by assumption) hb) | (go_at_call 13; refine (awake_any _ ?_).mono ?_; (exact ready2 hR (by assumption)); rintro e w' ⟨rfl, hb⟩; have SN := keep2 (by assumption) hb))
  all_goals go_ret
  all_goals exact ⟨by simp, last2 (by assumption)⟩

set_option maxHeartbeats 4000000 in
theorem unl_same (hRu : RunesSaid) (k n : Int) (t : ByteArray) (w : World) (hR : Ready w) (h1 : -9223372036854775808 ≤ n) (h2 : n ≤ 9223372036854775807)  (ma : mayS k n t = true) (_mb : mayS k n t = true)  : Calls Tryd.prog 8 #[.agg #[.int .i64 k, .int .i64 n, .string t], .agg #[.int .i64 k, .int .i64 n, .string t]] w fun e w' => e = .returned (.bool true) ∧ Below w.heap.size w w' := by
  have S0 := boxes2 w (.int .i64 k) (.int .i64 n) (.string t) (.int .i64 k) (.int .i64 n) (.string t)
  go_enter Tryd.func8, Tryd.ntmps8
  go_wp2_with (first | (go_at_call 10; refine (rMay_any hRu _ _ _ _).mono ?_; rintro e w' ⟨rfl, hb⟩; have SN := keep2 (by assumption) hb))
  go_region_held3 (fun w' => w'.cell? ⟨w.heap.size, 0, none⟩ = some (.int .i64 k) ∧ w'.cell? ⟨w.heap.size, 1, none⟩ = some (.int .i64 n) ∧ w'.cell? ⟨w.heap.size, 2, none⟩ = some (.string t) ∧ w'.cell? ⟨w.heap.size + 1, 0, none⟩ = some (.int .i64 k) ∧ w'.cell? ⟨w.heap.size + 1, 1, none⟩ = some (.int .i64 n) ∧ w'.cell? ⟨w.heap.size + 1, 2, none⟩ = some (.string t) ∧ w.heap.size + 2 ≤ w'.heap.size ∧ Below w.heap.size w w') (first | exact keep2 (by assumption) hb | exact keep2d (by assumption)) (first | (go_at_call 11; refine (Show_any _ _ _ (by omega) (by omega) _ ?_).mono ?_; (exact ready2 hR (by assumption)); rintro e w' ⟨rfl, hb⟩) | (go_at_call 13; refine (awake_any _ ?_).mono ?_; (exact ready2 hR (by assumption)); rintro e w' ⟨rfl, hb⟩))
  all_goals go_wp2
  all_goals go_ret
  all_goals exact ⟨by simp, last2 (by assumption)⟩

set_option maxHeartbeats 4000000 in
theorem unl_k (hRu : RunesSaid) (k n k' n' : Int) (t t' : ByteArray) (w : World) (hR : Ready w) (h1 : -9223372036854775808 ≤ n) (h2 : n ≤ 9223372036854775807) (h3 : -9223372036854775808 ≤ n') (h4 : n' ≤ 9223372036854775807) (ma : mayS k n t = true) (mb : mayS k' n' t' = true) (hk : (k == k') = false) (_hne : ¬ showS k n t = showS k' n' t') (hnb : (showS k n t == showS k' n' t') = false) : Calls Tryd.prog 8 #[.agg #[.int .i64 k, .int .i64 n, .string t], .agg #[.int .i64 k', .int .i64 n', .string t']] w fun e w' => e = .returned (.bool true) ∧ Below w.heap.size w w' := by
  have S0 := boxes2 w (.int .i64 k) (.int .i64 n) (.string t) (.int .i64 k') (.int .i64 n') (.string t')
  go_enter Tryd.func8, Tryd.ntmps8
  go_wp2_with (first | (go_at_call 10; refine (rMay_any hRu _ _ _ _).mono ?_; rintro e w' ⟨rfl, hb⟩; have SN := keep2 (by assumption) hb))
  go_region_held3 (fun w' => w'.cell? ⟨w.heap.size, 0, none⟩ = some (.int .i64 k) ∧ w'.cell? ⟨w.heap.size, 1, none⟩ = some (.int .i64 n) ∧ w'.cell? ⟨w.heap.size, 2, none⟩ = some (.string t) ∧ w'.cell? ⟨w.heap.size + 1, 0, none⟩ = some (.int .i64 k') ∧ w'.cell? ⟨w.heap.size + 1, 1, none⟩ = some (.int .i64 n') ∧ w'.cell? ⟨w.heap.size + 1, 2, none⟩ = some (.string t') ∧ w.heap.size + 2 ≤ w'.heap.size ∧ Below w.heap.size w w') (first | exact keep2 (by assumption) hb | exact keep2d (by assumption)) (first | (go_at_call 11; refine (Show_any _ _ _ (by omega) (by omega) _ ?_).mono ?_; (exact ready2 hR (by assumption)); rintro e w' ⟨rfl, hb⟩) | (go_at_call 13; refine (awake_any _ ?_).mono ?_; (exact ready2 hR (by assumption)); rintro e w' ⟨rfl, hb⟩))
  all_goals go_wp2
  all_goals go_ret
  all_goals exact ⟨by simp, last2 (by assumption)⟩

set_option maxHeartbeats 4000000 in
theorem unl_n (hRu : RunesSaid) (k n n' : Int) (t t' : ByteArray) (w : World) (hR : Ready w) (h1 : -9223372036854775808 ≤ n) (h2 : n ≤ 9223372036854775807) (h3 : -9223372036854775808 ≤ n') (h4 : n' ≤ 9223372036854775807) (ma : mayS k n t = true) (mb : mayS k n' t' = true) (hk : (n == n') = false) (_hne : ¬ showS k n t = showS k n' t') (hnb : (showS k n t == showS k n' t') = false) : Calls Tryd.prog 8 #[.agg #[.int .i64 k, .int .i64 n, .string t], .agg #[.int .i64 k, .int .i64 n', .string t']] w fun e w' => e = .returned (.bool true) ∧ Below w.heap.size w w' := by
  have S0 := boxes2 w (.int .i64 k) (.int .i64 n) (.string t) (.int .i64 k) (.int .i64 n') (.string t')
  go_enter Tryd.func8, Tryd.ntmps8
  go_wp2_with (first | (go_at_call 10; refine (rMay_any hRu _ _ _ _).mono ?_; rintro e w' ⟨rfl, hb⟩; have SN := keep2 (by assumption) hb))
  go_region_held3 (fun w' => w'.cell? ⟨w.heap.size, 0, none⟩ = some (.int .i64 k) ∧ w'.cell? ⟨w.heap.size, 1, none⟩ = some (.int .i64 n) ∧ w'.cell? ⟨w.heap.size, 2, none⟩ = some (.string t) ∧ w'.cell? ⟨w.heap.size + 1, 0, none⟩ = some (.int .i64 k) ∧ w'.cell? ⟨w.heap.size + 1, 1, none⟩ = some (.int .i64 n') ∧ w'.cell? ⟨w.heap.size + 1, 2, none⟩ = some (.string t') ∧ w.heap.size + 2 ≤ w'.heap.size ∧ Below w.heap.size w w') (first | exact keep2 (by assumption) hb | exact keep2d (by assumption)) (first | (go_at_call 11; refine (Show_any _ _ _ (by omega) (by omega) _ ?_).mono ?_; (exact ready2 hR (by assumption)); rintro e w' ⟨rfl, hb⟩) | (go_at_call 13; refine (awake_any _ ?_).mono ?_; (exact ready2 hR (by assumption)); rintro e w' ⟨rfl, hb⟩))
  all_goals go_wp2
  all_goals go_ret
  all_goals exact ⟨by simp, last2 (by assumption)⟩

set_option maxHeartbeats 4000000 in
theorem unl_t (hRu : RunesSaid) (k n : Int) (t t' : ByteArray) (w : World) (hR : Ready w) (h1 : -9223372036854775808 ≤ n) (h2 : n ≤ 9223372036854775807)  (ma : mayS k n t = true) (mb : mayS k n t' = true) (_hk : ¬ t = t') (hk2 : (t.toList == t'.toList) = false) (_hne : ¬ showS k n t = showS k n t') (hnb : (showS k n t == showS k n t') = false) : Calls Tryd.prog 8 #[.agg #[.int .i64 k, .int .i64 n, .string t], .agg #[.int .i64 k, .int .i64 n, .string t']] w fun e w' => e = .returned (.bool true) ∧ Below w.heap.size w w' := by
  have S0 := boxes2 w (.int .i64 k) (.int .i64 n) (.string t) (.int .i64 k) (.int .i64 n) (.string t')
  go_enter Tryd.func8, Tryd.ntmps8
  go_wp2_with (first | (go_at_call 10; refine (rMay_any hRu _ _ _ _).mono ?_; rintro e w' ⟨rfl, hb⟩; have SN := keep2 (by assumption) hb))
  go_region_held3 (fun w' => w'.cell? ⟨w.heap.size, 0, none⟩ = some (.int .i64 k) ∧ w'.cell? ⟨w.heap.size, 1, none⟩ = some (.int .i64 n) ∧ w'.cell? ⟨w.heap.size, 2, none⟩ = some (.string t) ∧ w'.cell? ⟨w.heap.size + 1, 0, none⟩ = some (.int .i64 k) ∧ w'.cell? ⟨w.heap.size + 1, 1, none⟩ = some (.int .i64 n) ∧ w'.cell? ⟨w.heap.size + 1, 2, none⟩ = some (.string t') ∧ w.heap.size + 2 ≤ w'.heap.size ∧ Below w.heap.size w w') (first | exact keep2 (by assumption) hb | exact keep2d (by assumption)) (first | (go_at_call 11; refine (Show_any _ _ _ (by omega) (by omega) _ ?_).mono ?_; (exact ready2 hR (by assumption)); rintro e w' ⟨rfl, hb⟩) | (go_at_call 13; refine (awake_any _ ?_).mono ?_; (exact ready2 hR (by assumption)); rintro e w' ⟨rfl, hb⟩))
  all_goals go_wp2
  all_goals go_ret
  all_goals exact ⟨by simp, last2 (by assumption)⟩

theorem valueUnlike_walk (hRu : RunesSaid) (k n k' n' : Int) (t t' : ByteArray) (w : World) (hR : Ready w) (h1 : -9223372036854775808 ≤ n) (h2 : n ≤ 9223372036854775807) (h3 : -9223372036854775808 ≤ n') (h4 : n' ≤ 9223372036854775807) : Calls Tryd.prog 8 #[.agg #[.int .i64 k, .int .i64 n, .string t], .agg #[.int .i64 k', .int .i64 n', .string t']] w fun e w' => e = .returned (.bool true) ∧ Below w.heap.size w w' := by
  cases ma : mayS k n t with
  | false =>
    cases mb : mayS k' n' t' with
    | false => exact unl_ff hRu k n k' n' t t' w hR h1 h2 h3 h4 ma mb
    | true => exact unl_ft hRu k n k' n' t t' w hR h1 h2 h3 h4 ma mb
  | true =>
    cases mb : mayS k' n' t' with
    | false => exact unl_tf hRu k n k' n' t t' w hR h1 h2 h3 h4 ma mb
    | true =>
      by_cases e : showS k n t = showS k' n' t'
      · obtain ⟨rfl, rfl, rfl⟩ := unlike ma mb e
        exact unl_same hRu k n t w hR h1 h2 ma mb
      · have eb : (showS k n t == showS k' n' t') = false := by simpa using e
        by_cases hk : k = k'
        · subst hk
          by_cases hn : n = n'
          · subst hn
            have ht : ¬ t = t' := fun x => e (by rw [x])
            exact unl_t hRu k n t t' w hR h1 h2 ma mb ht (by rw [Lib.toList_data, Lib.toList_data]; exact beq_eq_false_iff_ne.2 (fun x => ht (str_ext x))) e eb
          · exact unl_n hRu k n n' t t' w hR h1 h2 h3 h4 ma mb (by simpa using hn) e eb
        · exact unl_k hRu k n k' n' t t' w hR h1 h2 h3 h4 ma mb (by simpa using hk) e eb
end Go.Proofs.YtejniencggnkiaaDoor
