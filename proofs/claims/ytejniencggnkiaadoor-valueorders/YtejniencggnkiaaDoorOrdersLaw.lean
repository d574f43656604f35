/- PROVED HERE: the order of all values holds over any three values, turned round it is the opposite, and a value stands to itself as the same (ValueOrders returns true). -/
import Derived.Test.YtejniencggnkiaaDoorThree
import Derived.Test.YtejniencggnkiaaDoorOrd2
import Derived.Test.YtejniencggnkiaaDoorOrdMath
namespace Go.Proofs.YtejniencggnkiaaDoor
open Go.Shelf Go.ChangeShapes Go.WideShapes Go.ChangeAt Go.RowKit Go.Joins
attribute [local go_sem ↓] Go.wp_at_zero Go.wp_at_succ
theorem ranks3 {w wx : World} {b c d : Nat} {c0 c1 c2 d0 d1 d2 g0 g1 g2 : Value} (hK : Ranks w) (hS : wx.cell? ⟨b, 0, none⟩ = some c0 ∧ wx.cell? ⟨b, 1, none⟩ = some c1 ∧ wx.cell? ⟨b, 2, none⟩ = some c2 ∧ wx.cell? ⟨c, 0, none⟩ = some d0 ∧ wx.cell? ⟨c, 1, none⟩ = some d1 ∧ wx.cell? ⟨c, 2, none⟩ = some d2 ∧ wx.cell? ⟨d, 0, none⟩ = some g0 ∧ wx.cell? ⟨d, 1, none⟩ = some g1 ∧ wx.cell? ⟨d, 2, none⟩ = some g2 ∧ b < wx.heap.size ∧ c < wx.heap.size ∧ d < wx.heap.size ∧ Below w.heap.size w wx) : Ranks wx := hK.below (last3 hS)

set_option maxHeartbeats 16000000 in
theorem orders_1 (k n k' n' k'' n'' : Int) (t t' t'' : ByteArray) (w : World) (hR : Ready w) (hK : Ranks w) (h1 : -9223372036854775808 ≤ n) (h2 : n ≤ 9223372036854775807) (h3 : -9223372036854775808 ≤ n') (h4 : n' ≤ 9223372036854775807) (_h5 : -9223372036854775808 ≤ n'') (_h6 : n'' ≤ 9223372036854775807) (g1 : 0 < ordC k n t k' n' t') : Calls Tryd.prog 7 #[.agg #[.int .i64 k, .int .i64 n, .string t, .int .i64 k', .int .i64 n', .string t', .int .i64 k'', .int .i64 n'', .string t'']] w fun e w' => e = .returned (.bool true) ∧ Below w.heap.size w w' := by
  have r1 := ord_range k n t k' n' t'
  have r2 := ord_range k' n' t' k'' n'' t''
  have r3 := ord_range k n t k'' n'' t''
  have a1 := ord_anti k n t k' n' t'
  have a2 := ord_refl k n t
  generalize hX : ordC k n t k' n' t' = X at *
  generalize hY : ordC k' n' t' k n t = Y at *
  generalize hU : ordC k' n' t' k'' n'' t'' = U at *
  generalize hZ : ordC k n t k'' n'' t'' = Z at *
  subst a1
  have hwr : IntKind.i64.wrap X = X := by rw [IntKind.wrap_i64]; omega
  go_enter Tryd.func7, Tryd.ntmps7
  go_wp2_with fail
  go_cut [3, 4, 5] from 6 to 11 (fun s3 s4 s5 wx => ∃ b c d : Nat, s3 = .pointer (some ⟨b, 0, none⟩) ∧ s4 = .pointer (some ⟨c, 0, none⟩) ∧ s5 = .pointer (some ⟨d, 0, none⟩) ∧ wx.cell? ⟨b, 0, none⟩ = some (.int .i64 k) ∧ wx.cell? ⟨b, 1, none⟩ = some (.int .i64 n) ∧ wx.cell? ⟨b, 2, none⟩ = some (.string t) ∧ wx.cell? ⟨c, 0, none⟩ = some (.int .i64 k') ∧ wx.cell? ⟨c, 1, none⟩ = some (.int .i64 n') ∧ wx.cell? ⟨c, 2, none⟩ = some (.string t') ∧ wx.cell? ⟨d, 0, none⟩ = some (.int .i64 k'') ∧ wx.cell? ⟨d, 1, none⟩ = some (.int .i64 n'') ∧ wx.cell? ⟨d, 2, none⟩ = some (.string t'') ∧ b < wx.heap.size ∧ c < wx.heap.size ∧ d < wx.heap.size ∧ Below w.heap.size w wx)
  case first =>
    go_region_held3 (fun w' => w'.cell? ⟨w.heap.size, 0, none⟩ = some (.int .i64 k) ∧ w'.cell? ⟨w.heap.size, 1, none⟩ = some (.int .i64 n) ∧ w'.cell? ⟨w.heap.size, 2, none⟩ = some (.string t) ∧ w'.cell? ⟨w.heap.size, 3, none⟩ = some (.int .i64 k') ∧ w'.cell? ⟨w.heap.size, 4, none⟩ = some (.int .i64 n') ∧ w'.cell? ⟨w.heap.size, 5, none⟩ = some (.string t') ∧ w'.cell? ⟨w.heap.size, 6, none⟩ = some (.int .i64 k'') ∧ w'.cell? ⟨w.heap.size, 7, none⟩ = some (.int .i64 n'') ∧ w'.cell? ⟨w.heap.size, 8, none⟩ = some (.string t'')) (first | go_keep | (refine ⟨?_, ?_, ?_, ?_, ?_, ?_, ?_, ?_, ?_⟩ <;> go_simp)) (fail)
    all_goals go_wp2_with fail
    all_goals go_meet
    all_goals exact ⟨_, _, _, rfl, rfl, rfl, by go_simp, by go_simp, by go_simp, by go_simp, by go_simp, by go_simp, by go_simp, by go_simp, by go_simp, by simp <;> omega, by simp <;> omega, by simp <;> omega, (Bel.out (by repeat (first | exact Bel.refl _ | refine Bel.drew ?_ | refine Bel.drewN ?_ _ | refine Bel.alloc ?_ _ | refine Bel.setCell ?_ (by simp <;> omega) _ | refine Bel.step ?_ (by assumption))))⟩
  case rest =>
  obtain ⟨b, c, d, rfl, rfl, rfl, hcut⟩ := hcut
  go_wp2_with fail
  go_region_held3 (fun w' => w'.cell? ⟨b, 0, none⟩ = some (.int .i64 k) ∧ w'.cell? ⟨b, 1, none⟩ = some (.int .i64 n) ∧ w'.cell? ⟨b, 2, none⟩ = some (.string t) ∧ w'.cell? ⟨c, 0, none⟩ = some (.int .i64 k') ∧ w'.cell? ⟨c, 1, none⟩ = some (.int .i64 n') ∧ w'.cell? ⟨c, 2, none⟩ = some (.string t') ∧ w'.cell? ⟨d, 0, none⟩ = some (.int .i64 k'') ∧ w'.cell? ⟨d, 1, none⟩ = some (.int .i64 n'') ∧ w'.cell? ⟨d, 2, none⟩ = some (.string t'') ∧ b < w'.heap.size ∧ c < w'.heap.size ∧ d < w'.heap.size ∧ Below w.heap.size w w') (first | exact keep3 (by assumption) hb | exact keep3d hcut) (first | (go_at_call 26; refine (Order_any _ _ _ _ _ _ _ (by omega) (by omega) (by omega) (by omega) ?_).mono ?_; (exact ranks3 hK (by assumption)); rintro e w' ⟨rfl, hb⟩))
  rename_i S2
  go_wp2_with (first | (go_at_call 26; refine (Order_any _ _ _ _ _ _ _ (by omega) (by omega) (by omega) (by omega) ?_).mono ?_; (exact ranks3 hK (by assumption)); rintro e w' ⟨rfl, hb⟩; have SN := keep3 (by assumption) hb) | (go_at_call 13; refine (awake_any _ ?_).mono ?_; (exact ready3 hR (by assumption)); rintro e w' ⟨rfl, hb⟩; have SN := keep3 (by assumption) hb))
  go_ret
  exact ⟨by simp, last3 (by assumption)⟩

set_option maxHeartbeats 16000000 in
theorem orders_2 (k n k' n' k'' n'' : Int) (t t' t'' : ByteArray) (w : World) (hR : Ready w) (hK : Ranks w) (h1 : -9223372036854775808 ≤ n) (h2 : n ≤ 9223372036854775807) (h3 : -9223372036854775808 ≤ n') (h4 : n' ≤ 9223372036854775807) (h5 : -9223372036854775808 ≤ n'') (h6 : n'' ≤ 9223372036854775807) (g1 : ¬ 0 < ordC k n t k' n' t') (g2 : 0 < ordC k' n' t' k'' n'' t'') : Calls Tryd.prog 7 #[.agg #[.int .i64 k, .int .i64 n, .string t, .int .i64 k', .int .i64 n', .string t', .int .i64 k'', .int .i64 n'', .string t'']] w fun e w' => e = .returned (.bool true) ∧ Below w.heap.size w w' := by
  have r1 := ord_range k n t k' n' t'
  have r2 := ord_range k' n' t' k'' n'' t''
  have r3 := ord_range k n t k'' n'' t''
  have a1 := ord_anti k n t k' n' t'
  have a2 := ord_refl k n t
  generalize hX : ordC k n t k' n' t' = X at *
  generalize hY : ordC k' n' t' k n t = Y at *
  generalize hU : ordC k' n' t' k'' n'' t'' = U at *
  generalize hZ : ordC k n t k'' n'' t'' = Z at *
  subst a1
  have hwr : IntKind.i64.wrap X = X := by rw [IntKind.wrap_i64]; omega
  go_enter Tryd.func7, Tryd.ntmps7
  go_wp2_with fail
  go_cut [3, 4, 5] from 6 to 11 (fun s3 s4 s5 wx => ∃ b c d : Nat, s3 = .pointer (some ⟨b, 0, none⟩) ∧ s4 = .pointer (some ⟨c, 0, none⟩) ∧ s5 = .pointer (some ⟨d, 0, none⟩) ∧ wx.cell? ⟨b, 0, none⟩ = some (.int .i64 k) ∧ wx.cell? ⟨b, 1, none⟩ = some (.int .i64 n) ∧ wx.cell? ⟨b, 2, none⟩ = some (.string t) ∧ wx.cell? ⟨c, 0, none⟩ = some (.int .i64 k') ∧ wx.cell? ⟨c, 1, none⟩ = some (.int .i64 n') ∧ wx.cell? ⟨c, 2, none⟩ = some (.string t') ∧ wx.cell? ⟨d, 0, none⟩ = some (.int .i64 k'') ∧ wx.cell? ⟨d, 1, none⟩ = some (.int .i64 n'') ∧ wx.cell? ⟨d, 2, none⟩ = some (.string t'') ∧ b < wx.heap.size ∧ c < wx.heap.size ∧ d < wx.heap.size ∧ Below w.heap.size w wx)
  case first =>
    go_region_held3 (fun w' => w'.cell? ⟨w.heap.size, 0, none⟩ = some (.int .i64 k) ∧ w'.cell? ⟨w.heap.size, 1, none⟩ = some (.int .i64 n) ∧ w'.cell? ⟨w.heap.size, 2, none⟩ = some (.string t) ∧ w'.cell? ⟨w.heap.size, 3, none⟩ = some (.int .i64 k') ∧ w'.cell? ⟨w.heap.size, 4, none⟩ = some (.int .i64 n') ∧ w'.cell? ⟨w.heap.size, 5, none⟩ = some (.string t') ∧ w'.cell? ⟨w.heap.size, 6, none⟩ = some (.int .i64 k'') ∧ w'.cell? ⟨w.heap.size, 7, none⟩ = some (.int .i64 n'') ∧ w'.cell? ⟨w.heap.size, 8, none⟩ = some (.string t'')) (first | go_keep | (refine ⟨?_, ?_, ?_, ?_, ?_, ?_, ?_, ?_, ?_⟩ <;> go_simp)) (fail)
    all_goals go_wp2_with fail
    all_goals go_meet
    all_goals exact ⟨_, _, _, rfl, rfl, rfl, by go_simp, by go_simp, by go_simp, by go_simp, by go_simp, by go_simp, by go_simp, by go_simp, by go_simp, by simp <;> omega, by simp <;> omega, by simp <;> omega, (Bel.out (by repeat (first | exact Bel.refl _ | refine Bel.drew ?_ | refine Bel.drewN ?_ _ | refine Bel.alloc ?_ _ | refine Bel.setCell ?_ (by simp <;> omega) _ | refine Bel.step ?_ (by assumption))))⟩
  case rest =>
  obtain ⟨b, c, d, rfl, rfl, rfl, hcut⟩ := hcut
  go_wp2_with fail
  go_region_held3 (fun w' => w'.cell? ⟨b, 0, none⟩ = some (.int .i64 k) ∧ w'.cell? ⟨b, 1, none⟩ = some (.int .i64 n) ∧ w'.cell? ⟨b, 2, none⟩ = some (.string t) ∧ w'.cell? ⟨c, 0, none⟩ = some (.int .i64 k') ∧ w'.cell? ⟨c, 1, none⟩ = some (.int .i64 n') ∧ w'.cell? ⟨c, 2, none⟩ = some (.string t') ∧ w'.cell? ⟨d, 0, none⟩ = some (.int .i64 k'') ∧ w'.cell? ⟨d, 1, none⟩ = some (.int .i64 n'') ∧ w'.cell? ⟨d, 2, none⟩ = some (.string t'') ∧ b < w'.heap.size ∧ c < w'.heap.size ∧ d < w'.heap.size ∧ Below w.heap.size w w') (first | exact keep3 (by assumption) hb | exact keep3d hcut) (first | (go_at_call 26; refine (Order_any _ _ _ _ _ _ _ (by omega) (by omega) (by omega) (by omega) ?_).mono ?_; (exact ranks3 hK (by assumption)); rintro e w' ⟨rfl, hb⟩))
  rename_i S2
  go_wp2_with (first | (go_at_call 26; refine (Order_any _ _ _ _ _ _ _ (by omega) (by omega) (by omega) (by omega) ?_).mono ?_; (exact ranks3 hK (by assumption)); rintro e w' ⟨rfl, hb⟩; have SN := keep3 (by assumption) hb) | (go_at_call 13; refine (awake_any _ ?_).mono ?_; (exact ready3 hR (by assumption)); rintro e w' ⟨rfl, hb⟩; have SN := keep3 (by assumption) hb))
  go_ret
  exact ⟨by simp, last3 (by assumption)⟩

set_option maxHeartbeats 16000000 in
theorem orders_3 (k n k' n' k'' n'' : Int) (t t' t'' : ByteArray) (w : World) (hR : Ready w) (hK : Ranks w) (h1 : -9223372036854775808 ≤ n) (h2 : n ≤ 9223372036854775807) (h3 : -9223372036854775808 ≤ n') (h4 : n' ≤ 9223372036854775807) (h5 : -9223372036854775808 ≤ n'') (h6 : n'' ≤ 9223372036854775807) (g1 : ¬ 0 < ordC k n t k' n' t') (g2 : ¬ 0 < ordC k' n' t' k'' n'' t'') (g3 : ordC k n t k'' n'' t'' ≤ 0) : Calls Tryd.prog 7 #[.agg #[.int .i64 k, .int .i64 n, .string t, .int .i64 k', .int .i64 n', .string t', .int .i64 k'', .int .i64 n'', .string t'']] w fun e w' => e = .returned (.bool true) ∧ Below w.heap.size w w' := by
  have r1 := ord_range k n t k' n' t'
  have r2 := ord_range k' n' t' k'' n'' t''
  have r3 := ord_range k n t k'' n'' t''
  have a1 := ord_anti k n t k' n' t'
  have a2 := ord_refl k n t
  generalize hX : ordC k n t k' n' t' = X at *
  generalize hY : ordC k' n' t' k n t = Y at *
  generalize hU : ordC k' n' t' k'' n'' t'' = U at *
  generalize hZ : ordC k n t k'' n'' t'' = Z at *
  subst a1
  have hwr : IntKind.i64.wrap X = X := by rw [IntKind.wrap_i64]; omega
  go_enter Tryd.func7, Tryd.ntmps7
  go_wp2_with fail
  go_cut [3, 4, 5] from 6 to 11 (fun s3 s4 s5 wx => ∃ b c d : Nat, s3 = .pointer (some ⟨b, 0, none⟩) ∧ s4 = .pointer (some ⟨c, 0, none⟩) ∧ s5 = .pointer (some ⟨d, 0, none⟩) ∧ wx.cell? ⟨b, 0, none⟩ = some (.int .i64 k) ∧ wx.cell? ⟨b, 1, none⟩ = some (.int .i64 n) ∧ wx.cell? ⟨b, 2, none⟩ = some (.string t) ∧ wx.cell? ⟨c, 0, none⟩ = some (.int .i64 k') ∧ wx.cell? ⟨c, 1, none⟩ = some (.int .i64 n') ∧ wx.cell? ⟨c, 2, none⟩ = some (.string t') ∧ wx.cell? ⟨d, 0, none⟩ = some (.int .i64 k'') ∧ wx.cell? ⟨d, 1, none⟩ = some (.int .i64 n'') ∧ wx.cell? ⟨d, 2, none⟩ = some (.string t'') ∧ b < wx.heap.size ∧ c < wx.heap.size ∧ d < wx.heap.size ∧ Below w.heap.size w wx)
  case first =>
    go_region_held3 (fun w' => w'.cell? ⟨w.heap.size, 0, none⟩ = some (.int .i64 k) ∧ w'.cell? ⟨w.heap.size, 1, none⟩ = some (.int .i64 n) ∧ w'.cell? ⟨w.heap.size, 2, none⟩ = some (.string t) ∧ w'.cell? ⟨w.heap.size, 3, none⟩ = some (.int .i64 k') ∧ w'.cell? ⟨w.heap.size, 4, none⟩ = some (.int .i64 n') ∧ w'.cell? ⟨w.heap.size, 5, none⟩ = some (.string t') ∧ w'.cell? ⟨w.heap.size, 6, none⟩ = some (.int .i64 k'') ∧ w'.cell? ⟨w.heap.size, 7, none⟩ = some (.int .i64 n'') ∧ w'.cell? ⟨w.heap.size, 8, none⟩ = some (.string t'')) (first | go_keep | (refine ⟨?_, ?_, ?_, ?_, ?_, ?_, ?_, ?_, ?_⟩ <;> go_simp)) (fail)
    all_goals go_wp2_with fail
    all_goals go_meet
    all_goals exact ⟨_, _, _, rfl, rfl, rfl, by go_simp, by go_simp, by go_simp, by go_simp, by go_simp, by go_simp, by go_simp, by go_simp, by go_simp, by simp <;> omega, by simp <;> omega, by simp <;> omega, (Bel.out (by repeat (first | exact Bel.refl _ | refine Bel.drew ?_ | refine Bel.drewN ?_ _ | refine Bel.alloc ?_ _ | refine Bel.setCell ?_ (by simp <;> omega) _ | refine Bel.step ?_ (by assumption))))⟩
  case rest =>
  obtain ⟨b, c, d, rfl, rfl, rfl, hcut⟩ := hcut
  go_wp2_with fail
  go_region_held3 (fun w' => w'.cell? ⟨b, 0, none⟩ = some (.int .i64 k) ∧ w'.cell? ⟨b, 1, none⟩ = some (.int .i64 n) ∧ w'.cell? ⟨b, 2, none⟩ = some (.string t) ∧ w'.cell? ⟨c, 0, none⟩ = some (.int .i64 k') ∧ w'.cell? ⟨c, 1, none⟩ = some (.int .i64 n') ∧ w'.cell? ⟨c, 2, none⟩ = some (.string t') ∧ w'.cell? ⟨d, 0, none⟩ = some (.int .i64 k'') ∧ w'.cell? ⟨d, 1, none⟩ = some (.int .i64 n'') ∧ w'.cell? ⟨d, 2, none⟩ = some (.string t'') ∧ b < w'.heap.size ∧ c < w'.heap.size ∧ d < w'.heap.size ∧ Below w.heap.size w w') (first | exact keep3 (by assumption) hb | exact keep3d hcut) (first | (go_at_call 26; refine (Order_any _ _ _ _ _ _ _ (by omega) (by omega) (by omega) (by omega) ?_).mono ?_; (exact ranks3 hK (by assumption)); rintro e w' ⟨rfl, hb⟩))
  rename_i S2
  go_wp2_with (first | (go_at_call 26; refine (Order_any _ _ _ _ _ _ _ (by omega) (by omega) (by omega) (by omega) ?_).mono ?_; (exact ranks3 hK (by assumption)); rintro e w' ⟨rfl, hb⟩; have SN := keep3 (by assumption) hb) | (go_at_call 13; refine (awake_any _ ?_).mono ?_; (exact ready3 hR (by assumption)); rintro e w' ⟨rfl, hb⟩; have SN := keep3 (by assumption) hb))
  go_ret
  exact ⟨by simp, last3 (by assumption)⟩

theorem valueOrders_walk (k n k' n' k'' n'' : Int) (t t' t'' : ByteArray) (w : World) (hR : Ready w) (hK : Ranks w) (h1 : -9223372036854775808 ≤ n) (h2 : n ≤ 9223372036854775807) (h3 : -9223372036854775808 ≤ n') (h4 : n' ≤ 9223372036854775807) (h5 : -9223372036854775808 ≤ n'') (h6 : n'' ≤ 9223372036854775807) : Calls Tryd.prog 7 #[.agg #[.int .i64 k, .int .i64 n, .string t, .int .i64 k', .int .i64 n', .string t', .int .i64 k'', .int .i64 n'', .string t'']] w fun e w' => e = .returned (.bool true) ∧ Below w.heap.size w w' := by
  by_cases g1 : 0 < ordC k n t k' n' t'
  · exact orders_1 k n k' n' k'' n'' t t' t'' w hR hK h1 h2 h3 h4 h5 h6 g1
  by_cases g2 : 0 < ordC k' n' t' k'' n'' t''
  · exact orders_2 k n k' n' k'' n'' t t' t'' w hR hK h1 h2 h3 h4 h5 h6 g1 g2
  exact orders_3 k n k' n' k'' n'' t t' t'' w hR hK h1 h2 h3 h4 h5 h6 g1 g2 (ord_trans (k' := k') (n' := n') (t' := t') (by omega) (by omega))

set_option maxRecDepth 100000 in
theorem valueOrders_contract (H : Type) (enc : TypeId × Value → H) (W : World) (base : Nat) (args : Array Value) (ds gs : List (DataW H)) (before : List MemPlace)
    (hval : ∀ (j : Nat) t v, Tryd.f7.params[j]? = some t → args[j]? = some v → Value.okWide Tryd.prog W .any base t v)
    (hW : DataW.Whole enc Tryd.prog Tryd.f7.params.toList Rows.valueOrdersSpec.vars false W args.toList ds gs before) (hL : laidMetH Tryd.prog Rows.valueOrdersRow.laid W) (hsh : W.ShapedOpen Tryd.prog) :
    Calls Tryd.prog 7 args W fun e W' => ∃ v, e = .returned v ∧ Rows.valueOrdersSpec.post enc Tryd.prog Tryd.f7 false true false false W args v W' := by
  have hW' := hW
  obtain ⟨p, q, hA0, hV, rfl, hfz, hnd⟩ := hW
  have hA : DataW.TrodAll enc Tryd.prog W 0 (fun _ => true) true Tryd.f7.params.toList args.toList ds p := hA0
  rw [Tryd.params7] at hA hval
  obtain ⟨v0, d0, rfl, rfl, h0⟩ := trodAll_one hA
  obtain ⟨rfl, rfl⟩ := trodVars_none hV
  obtain ⟨k, n, k', n', k'', n'', t, t', t'', rfl, rfl, wn, wn', wn''⟩ := open_arr (hval 0 35 v0 rfl rfl) h0
  clear hA0
  simp only [List.append_nil] at hW'
  have hR : Ready W := ready_of (Lib.laidMet.reads hL (.tail _ (.tail _ (.head _)))) (Lib.laidMet.reads hL (.tail _ (.tail _ (.tail _ (.head _))))) (Lib.laidMet.reads hL (.tail _ (.tail _ (.tail _ (.tail _ (.tail _ (.head _))))))) hsh
  have hK : Ranks W := ranks_of (Lib.laidMet.reads hL (.tail _ (.tail _ (.tail _ (.tail _ (.head _))))))
  refine (valueOrders_walk k n k' n' k'' n'' t t' t'' W hR hK (bounds_i64 wn).1 (bounds_i64 wn).2 (bounds_i64 wn').1 (bounds_i64 wn').2 (bounds_i64 wn'').1 (bounds_i64 wn'').2).mono fun e W' ⟨he, hb⟩ => ?_
  subst he
  refine ⟨_, rfl, _, _, _, [], [], [], hW', ?_, ?_, ?_, hb.frame _, fun h => by cases h⟩
  · exact trodAll_mk1 (shut_bool Tryd.underlying4 true)
  · exact trodAll_mk1 (Below.trod laidOut (by kernel_rfl) (of_decide_eq_true (by kernel_rfl)) h0 hb (fun x hx => by cases hx))
  · rfl
theorem valueOrders_reads (os : Os) {H : Type} (enc : TypeId × Value → H) :
    ∃ places, DataW.whole enc Tryd.prog ((laidW Tryd.prog os).forCall (fun _ _ => 0) ⟨#[], #[.agg #[.int .i64 0, .int .i64 0, .string ⟨#[]⟩, .int .i64 0, .int .i64 0, .string ⟨#[]⟩, .int .i64 0, .int .i64 0, .string ⟨#[]⟩]], []⟩).memory Tryd.f7.params.toList Rows.valueOrdersSpec.vars false #[Value.agg #[.int .i64 0, .int .i64 0, .string ⟨#[]⟩, .int .i64 0, .int .i64 0, .string ⟨#[]⟩, .int .i64 0, .int .i64 0, .string ⟨#[]⟩]].toList 8 =
      some ([.agg [.agg [.lit (.int .i64 0), .lit (.int .i64 0), .lit (.string [])], .agg [.lit (.int .i64 0), .lit (.int .i64 0), .lit (.string [])], .agg [.lit (.int .i64 0), .lit (.int .i64 0), .lit (.string [])]]], [], places) := ⟨[], by kernel_rfl⟩
set_option maxRecDepth 100000 in
theorem valueOrders_lifted (os : Os) (started : os.Started) (H : Type) (enc : TypeId × Value → H) (F : Stop.Interp) :
    ReturnsInHanded {} Tryd.checked os 7 .any ((OpenSpec.ofChange Rows.valueOrdersSpec).preRow enc Tryd.prog Tryd.f7 Rows.valueOrdersRow.domain false Rows.valueOrdersRow.laid) (((OpenSpec.ofChange Rows.valueOrdersSpec).at F).post enc Tryd.prog Tryd.f7 false true false false) := by
  obtain ⟨places, hx⟩ := valueOrders_reads os enc
  refine returnsInHanded_of_row (C := Tryd.checked) (s := OpenSpec.ofChange Rows.valueOrdersSpec) own started (by kernel_rfl) Tryd.func7
    (witness_row_atRef (enc := enc) (C := Tryd.checked) false (laidW Tryd.prog os) #[.agg #[.int .i64 0, .int .i64 0, .string ⟨#[]⟩, .int .i64 0, .int .i64 0, .string ⟨#[]⟩, .int .i64 0, .int .i64 0, .string ⟨#[]⟩]] rfl (by kernel_rfl) (by kernel_rfl) (by kernel_rfl)
      (OpenSpec.preRow_of_cond 8 hx (by kernel_rfl) (fun k hk => by cases hk) (by kernel_rfl) (laid_met6 os _))) ?_
  intro W base args ds gs before hval hW _ _ _ hL hsh _
  exact valueOrders_contract H enc W base args ds gs before hval hW hL hsh
theorem valueOrders_said : Rows.ValueOrdersSaid :=
  OpenClaim.holds_of_cond 7 Tryd.f7 rfl rfl rfl rfl rfl rfl rfl ⟨rfl, rfl, rfl, rfl, rfl⟩ rfl rfl rfl rfl rfl (by kernel_rfl) Tryd.func7 (by kernel_rfl)
    (of_decide_eq_true (by kernel_rfl)) (by unfold Func.isWrapper; rw [if_neg (of_decide_eq_false (by kernel_rfl))]; exact ⟨rfl, rfl⟩)
    (fun os started H enc _ F => by rw [OpenClaim.pre_eq_preRow]; exact valueOrders_lifted os started H enc F)
theorem valueOrders_plain (f : FuncId) (fn : Func) (hf : Tryd.pinned.checked.prog.funcNamed "marquee/marqueelaw01.ValueOrders" = some f) (hfn : Tryd.pinned.checked.prog.funcs[f]? = some fn) :
    false = Tryd.pinned.checked.prog.looks [] ∧ ∀ (j : Nat) t, fn.params[j]? = some t → Tryd.pinned.checked.prog.wantsStandIn t = false := by
  obtain rfl : f = 7 := Option.some.inj ((show Tryd.prog.funcNamed "marquee/marqueelaw01.ValueOrders" = some 7 by kernel_rfl).symm.trans hf) |>.symm
  obtain rfl : fn = Tryd.f7 := (Option.some.inj (Tryd.func7.symm.trans hfn)).symm
  refine ⟨by kernel_rfl, fun j t ht => ?_⟩
  rw [Tryd.params7] at ht
  obtain rfl : t = 35 := by simpa using Array.mem_of_getElem? ht
  exact (show Tryd.prog.wantsStandIn 35 = false by kernel_rfl)
theorem valueOrders_card : Rows.ValueOrdersCardSaid :=
  Claim7.holds_tied_plain_at .later [] _ _ _ _ valueOrders_said (fun _ h => by cases h) (by kernel_rfl) (fun _ h => by cases h) valueOrders_row_tie rfl ⟨rfl, rfl⟩ (by kernel_rfl) rfl valueOrders_plain (by kernel_rfl)
#print axioms valueOrders_card
end Go.Proofs.YtejniencggnkiaaDoor
