/- The document's own Compare, Equal and Order, for any two values. -/
import Derived.Test.YtejniencggnkiaaDoorRCmp
namespace Go.Proofs.YtejniencggnkiaaDoor
open Go.ChangeShapes Go.WideShapes Go.ChangeAt Go.RowKit
attribute [local go_sem ↓] Go.wp_at_zero Go.wp_at_succ

set_option maxHeartbeats 4000000 in
theorem rCompare_any (k n k' n' : Int) (t t' : ByteArray) (w : World) (h1 : -9223372036854775808 ≤ n) (h2 : n ≤ 9223372036854775807) (h3 : -9223372036854775808 ≤ n') (h4 : n' ≤ 9223372036854775807) : Calls Tryd.prog 23 #[.agg #[.int .i64 k, .int .i64 n, .string t], .agg #[.int .i64 k', .int .i64 n', .string t']] w fun e w' => e = .returned (.tuple #[.int .i64 (cmpC k n t k' n' t'), .bool (cmpB k k')]) ∧ Below w.heap.size w w' := by
  unfold cmpC cmpB
  have S0 := boxes2 w (.int .i64 k) (.int .i64 n) (.string t) (.int .i64 k') (.int .i64 n') (.string t')
  rcases cls k with ⟨a, b, c⟩ | ⟨a, b, c⟩ | ⟨a, b, c⟩ | ⟨a, b, c⟩ <;> rcases cls k' with ⟨a', b', c'⟩ | ⟨a', b', c'⟩ | ⟨a', b', c'⟩ | ⟨a', b', c'⟩
  all_goals simp only [a, b, c, a', b', c', Bool.and_true, Bool.and_false, Bool.or_false, Bool.or_true, if_true, Bool.false_eq_true, if_false]
  all_goals
    go_enter Tryd.func23, Tryd.ntmps23
    go_wp2_with (first | (go_at_call 45; refine (rNumber_any _ _ _ _).mono ?_; rintro e w' ⟨rfl, hb⟩; have SN := keep2 (by assumption) hb) | (go_at_call 46; refine (rNumbers_any _ _ _ _ _ _ _ h1 h2 h3 h4).mono ?_; rintro e w' ⟨rfl, hb⟩; have SN := keep2 (by assumption) hb) | (go_at_call 47; refine (texts_any _ _ _).mono ?_; rintro e w' ⟨rfl, hb⟩; have SN := keep2 (by assumption) hb) | (go_at_call 48; refine (ints_any _ _ _).mono ?_; rintro e w' ⟨rfl, hb⟩; have SN := keep2 (by assumption) hb))
    go_ret2
    exact ⟨rfl, (Bel.out (by repeat (first | exact Bel.refl _ | refine Bel.drew ?_ | refine Bel.drewN ?_ _ | refine Bel.alloc ?_ _ | refine Bel.setCell ?_ (by simp <;> omega) _ | refine Bel.step ?_ (by assumption))))⟩

set_option maxHeartbeats 1000000 in
theorem rEqual_any (k n k' n' : Int) (t t' : ByteArray) (w : World) (h1 : -9223372036854775808 ≤ n) (h2 : n ≤ 9223372036854775807) (h3 : -9223372036854775808 ≤ n') (h4 : n' ≤ 9223372036854775807) : Calls Tryd.prog 25 #[.agg #[.int .i64 k, .int .i64 n, .string t], .agg #[.int .i64 k', .int .i64 n', .string t']] w fun e w' => e = .returned (.agg #[.int .i64 (tk (eqT k n t k' n' t')), .int .i64 (tn (eqT k n t k' n' t')), .string ⟨#[]⟩]) ∧ Below w.heap.size w w' := by
  by_cases a0 : k = 0
  · have e0 : eqT k n t k' n' t' = 2 := by unfold eqT; simp [a0]
    rw [e0]
    have z0 : (k == 0) = true := by simp [a0]
    clear a0
    go_enter Tryd.func25, Tryd.ntmps25
    go_wp2
    exact bodyPost_ret (v := .agg #[.int .i64 0, .int .i64 0, .string ⟨#[]⟩]) (by simp [results, Tryd.results25, go_sem]) rfl ⟨rfl, (Bel.out (by repeat (first | exact Bel.refl _ | refine Bel.drew ?_ | refine Bel.drewN ?_ _ | refine Bel.alloc ?_ _ | refine Bel.setCell ?_ (by simp <;> omega) _ | refine Bel.step ?_ (by assumption))))⟩
  have z0 : (k == 0) = false := by simpa using a0
  by_cases b0 : k' = 0
  · have e0 : eqT k n t k' n' t' = 2 := by unfold eqT; simp [b0]
    rw [e0]
    have z1 : (k' == 0) = true := by simp [b0]
    clear a0 b0
    go_enter Tryd.func25, Tryd.ntmps25
    go_wp2
    exact bodyPost_ret (v := .agg #[.int .i64 0, .int .i64 0, .string ⟨#[]⟩]) (by simp [results, Tryd.results25, go_sem]) rfl ⟨rfl, (Bel.out (by repeat (first | exact Bel.refl _ | refine Bel.drew ?_ | refine Bel.drewN ?_ _ | refine Bel.alloc ?_ _ | refine Bel.setCell ?_ (by simp <;> omega) _ | refine Bel.step ?_ (by assumption))))⟩
  have z1 : (k' == 0) = false := by simpa using b0
  have e0 : eqT k n t k' n' t' = if cmpB k k' && cmpC k n t k' n' t' == 0 then 1 else 0 := by unfold eqT; simp [z0, z1]
  rw [e0]
  clear a0 b0 e0
  generalize hB : cmpB k k' = bb
  generalize hC : (cmpC k n t k' n' t' == 0) = cc
  have HCmp := fun W => rCompare_any k n k' n' t t' W h1 h2 h3 h4
  rw [hB] at HCmp
  clear hB
  cases bb <;> cases cc
  · go_enter Tryd.func25, Tryd.ntmps25
    go_wp2_with fail
    refine (HCmp _).mono ?_
    rintro e w1 ⟨rfl, hb1⟩
    clear HCmp
    obtain ⟨hc1, hf1⟩ := bcell hb1
    have hz1 : w.heap.size + 2 < w1.heap.size := by have := hb1.size; simp at this; omega
    go_wp2_with (first | (go_at_call 49; refine (refTruth_false _).mono ?_; rintro e w' ⟨rfl, rfl⟩))
    exact bodyPost_ret (v := .agg #[.int .i64 1, .int .i64 0, .string ⟨#[]⟩]) (by simp [results, Tryd.results25, go_sem, hc1, hz1]) rfl ⟨rfl, (Bel.out (by repeat (first | exact Bel.refl _ | refine Bel.drew ?_ | refine Bel.drewN ?_ _ | refine Bel.alloc ?_ _ | refine Bel.setCell ?_ (by simp <;> omega) _ | refine Bel.step ?_ (by assumption))))⟩
  · go_enter Tryd.func25, Tryd.ntmps25
    go_wp2_with fail
    refine (HCmp _).mono ?_
    rintro e w1 ⟨rfl, hb1⟩
    clear HCmp
    obtain ⟨hc1, hf1⟩ := bcell hb1
    have hz1 : w.heap.size + 2 < w1.heap.size := by have := hb1.size; simp at this; omega
    go_wp2_with (first | (go_at_call 49; refine (refTruth_false _).mono ?_; rintro e w' ⟨rfl, rfl⟩))
    exact bodyPost_ret (v := .agg #[.int .i64 1, .int .i64 0, .string ⟨#[]⟩]) (by simp [results, Tryd.results25, go_sem, hc1, hz1]) rfl ⟨rfl, (Bel.out (by repeat (first | exact Bel.refl _ | refine Bel.drew ?_ | refine Bel.drewN ?_ _ | refine Bel.alloc ?_ _ | refine Bel.setCell ?_ (by simp <;> omega) _ | refine Bel.step ?_ (by assumption))))⟩
  · go_enter Tryd.func25, Tryd.ntmps25
    go_wp2_with fail
    refine (HCmp _).mono ?_
    rintro e w1 ⟨rfl, hb1⟩
    clear HCmp
    obtain ⟨hc1, hf1⟩ := bcell hb1
    have hz1 : w.heap.size + 2 < w1.heap.size := by have := hb1.size; simp at this; omega
    go_wp2_with (first | (go_at_call 49; refine (refTruth_false _).mono ?_; rintro e w' ⟨rfl, rfl⟩))
    exact bodyPost_ret (v := .agg #[.int .i64 1, .int .i64 0, .string ⟨#[]⟩]) (by simp [results, Tryd.results25, go_sem, hc1, hz1]) rfl ⟨rfl, (Bel.out (by repeat (first | exact Bel.refl _ | refine Bel.drew ?_ | refine Bel.drewN ?_ _ | refine Bel.alloc ?_ _ | refine Bel.setCell ?_ (by simp <;> omega) _ | refine Bel.step ?_ (by assumption))))⟩
  · go_enter Tryd.func25, Tryd.ntmps25
    go_wp2_with fail
    refine (HCmp _).mono ?_
    rintro e w1 ⟨rfl, hb1⟩
    clear HCmp
    obtain ⟨hc1, hf1⟩ := bcell hb1
    have hz1 : w.heap.size + 2 < w1.heap.size := by have := hb1.size; simp at this; omega
    go_wp2_with (first | (go_at_call 49; refine (refTruth_true _).mono ?_; rintro e w' ⟨rfl, rfl⟩))
    exact bodyPost_ret (v := .agg #[.int .i64 1, .int .i64 1, .string ⟨#[]⟩]) (by simp [results, Tryd.results25, go_sem, hc1, hz1]) rfl ⟨rfl, (Bel.out (by repeat (first | exact Bel.refl _ | refine Bel.drew ?_ | refine Bel.drewN ?_ _ | refine Bel.alloc ?_ _ | refine Bel.setCell ?_ (by simp <;> omega) _ | refine Bel.step ?_ (by assumption))))⟩

set_option maxHeartbeats 400000 in
theorem rRank_0 (w : World) : Calls Tryd.prog 52 #[.int .i64 0] w fun e w' => e = .returned (.int .i64 0) ∧ w' = w := by

  go_enter Tryd.func52, Tryd.ntmps52
  go_wp2
  go_ret
  exact ⟨rfl, rfl⟩

set_option maxHeartbeats 400000 in
theorem rRank_1 (w : World) : Calls Tryd.prog 52 #[.int .i64 1] w fun e w' => e = .returned (.int .i64 1) ∧ w' = w := by

  go_enter Tryd.func52, Tryd.ntmps52
  go_wp2
  go_ret
  exact ⟨rfl, rfl⟩

set_option maxHeartbeats 400000 in
theorem rRank_2 (w : World) : Calls Tryd.prog 52 #[.int .i64 2] w fun e w' => e = .returned (.int .i64 2) ∧ w' = w := by

  go_enter Tryd.func52, Tryd.ntmps52
  go_wp2
  go_ret
  exact ⟨rfl, rfl⟩

set_option maxHeartbeats 400000 in
theorem rRank_3 (w : World) : Calls Tryd.prog 52 #[.int .i64 3] w fun e w' => e = .returned (.int .i64 2) ∧ w' = w := by

  go_enter Tryd.func52, Tryd.ntmps52
  go_wp2
  go_ret
  exact ⟨rfl, rfl⟩

set_option maxHeartbeats 400000 in
theorem rRank_4 (w : World) : Calls Tryd.prog 52 #[.int .i64 4] w fun e w' => e = .returned (.int .i64 3) ∧ w' = w := by

  go_enter Tryd.func52, Tryd.ntmps52
  go_wp2
  go_ret
  exact ⟨rfl, rfl⟩

set_option maxHeartbeats 400000 in
theorem rRank_other (k : Int) (w : World) (h0 : (k == 0) = false) (h1 : (k == 1) = false) (h2 : (k == 2) = false) (h3 : (k == 3) = false) (h4 : (k == 4) = false) : Calls Tryd.prog 52 #[.int .i64 k] w fun e w' => e = .returned (.int .i64 4) ∧ w' = w := by
  go_enter Tryd.func52, Tryd.ntmps52
  go_wp2
  go_ret
  exact ⟨rfl, rfl⟩

theorem rRank_any (k : Int) (w : World) : Calls Tryd.prog 52 #[.int .i64 k] w fun e w' => e = .returned (.int .i64 (rkS k)) ∧ Below w.heap.size w w' := by
  have fin : ∀ r : Int, (Calls Tryd.prog 52 #[.int .i64 k] w fun e w' => e = .returned (.int .i64 r) ∧ w' = w) → r = rkS k → Calls Tryd.prog 52 #[.int .i64 k] w fun e w' => e = .returned (.int .i64 (rkS k)) ∧ Below w.heap.size w w' := fun r h e => by
    rw [← e]; exact h.mono fun _ _ x => ⟨x.1, by rw [x.2]; exact Below.refl _ _⟩
  by_cases k0 : k = 0
  · subst k0; exact fin _ (rRank_0 w) rfl
  by_cases k1 : k = 1
  · subst k1; exact fin _ (rRank_1 w) rfl
  by_cases k2 : k = 2
  · subst k2; exact fin _ (rRank_2 w) rfl
  by_cases k3 : k = 3
  · subst k3; exact fin _ (rRank_3 w) rfl
  by_cases k4 : k = 4
  · subst k4; exact fin _ (rRank_4 w) rfl
  have e : 4 = rkS k := by unfold rkS; simp [k0, k1, k2, k3, k4]
  exact fin _ (rRank_other k w (by simpa using k0) (by simpa using k1) (by simpa using k2) (by simpa using k3) (by simpa using k4)) e

theorem ci_bne (x y : Int) : (Lib.compareInt x y != 0) = (x != y) := by
  rcases ci_spec x y with ⟨a, e⟩ | ⟨a, e⟩ | ⟨a, e⟩ <;> rw [e]
  · have : ¬ x = y := by omega
    simp [this]
  · simp [a]
  · have : ¬ x = y := by omega
    simp [this]
theorem rk_0 {k k' : Int} (hr : rkS k = rkS k') (h : k = 0) : k' = 0 := by
  subst h
  rcases kinds k' with rfl | rfl | rfl | rfl | rfl | ⟨b0, b1, b2, b3, b4⟩
  all_goals first | rfl | (exfalso; simp [rkS, *] at hr; done)
theorem rk_cmp {k k' : Int} (hr : rkS k = rkS k') (h : k ≠ 0) : cmpB k k' = (rkS k != 4) := by
  rcases kinds k with rfl | rfl | rfl | rfl | rfl | ⟨a0, a1, a2, a3, a4⟩ <;> rcases kinds k' with rfl | rfl | rfl | rfl | rfl | ⟨b0, b1, b2, b3, b4⟩
  all_goals first | (exfalso; simp [rkS, *] at hr; done) | (exfalso; exact h rfl) | decide | simp [cmpB, isNum, rkS, *]

set_option maxHeartbeats 4000000 in
theorem rOrder_any (k n k' n' : Int) (t t' : ByteArray) (w : World) (h1 : -9223372036854775808 ≤ n) (h2 : n ≤ 9223372036854775807) (h3 : -9223372036854775808 ≤ n') (h4 : n' ≤ 9223372036854775807) : Calls Tryd.prog 27 #[.agg #[.int .i64 k, .int .i64 n, .string t], .agg #[.int .i64 k', .int .i64 n', .string t']] w fun e w' => e = .returned (.int .i64 (ordC k n t k' n' t')) ∧ Below w.heap.size w w' := by
  have hb1 := ci_bne (rkS k) (rkS k')
  by_cases hr : rkS k = rkS k'
  · have ha : (Lib.compareInt (rkS k) (rkS k') != 0) = false := by rw [hb1]; simpa using hr
    by_cases h0 : k = 0
    · have HV : Hid (0 = ordC k n t k' n' t') := by
        have h0' := rk_0 hr h0
        subst h0 h0'
        show 0 = _
        unfold ordC; simp [rkS, cmpC, isNum]
      have z0 : (k == 0) = true := by simpa using h0
      clear hb1 hr h0
      go_enter Tryd.func27, Tryd.ntmps27
      go_wp2_with fail
      go_region_held3 (fun w' => w'.cell? ⟨w.heap.size, 0, none⟩ = some (.int .i64 k) ∧ w'.cell? ⟨w.heap.size, 1, none⟩ = some (.int .i64 n) ∧ w'.cell? ⟨w.heap.size, 2, none⟩ = some (.string t) ∧ w'.cell? ⟨w.heap.size + 1, 0, none⟩ = some (.int .i64 k') ∧ w'.cell? ⟨w.heap.size + 1, 1, none⟩ = some (.int .i64 n') ∧ w'.cell? ⟨w.heap.size + 1, 2, none⟩ = some (.string t') ∧ w.heap.size + 2 ≤ w'.heap.size ∧ Below w.heap.size w w') (first | exact keep2 (by assumption) hb | exact keep2d (boxes2 w _ _ _ _ _ _)) (first | (go_at_call 52; refine (rRank_any _ _).mono ?_; rintro e w' ⟨rfl, hb⟩) | (go_at_call 48; refine (ints_any _ _ _).mono ?_; rintro e w' ⟨rfl, hb⟩))
      go_wp2_with (first | (go_at_call 23; refine (rCompare_any _ _ _ _ _ _ _ h1 h2 h3 h4).mono ?_; rintro e w' ⟨rfl, hb⟩; have SN := keep2 (by assumption) hb) | (go_at_call 45; refine (rNumber_any _ _ _ _).mono ?_; rintro e w' ⟨rfl, hb⟩; have SN := keep2 (by assumption) hb) | (go_at_call 48; refine (ints_any _ _ _).mono ?_; rintro e w' ⟨rfl, hb⟩; have SN := keep2 (by assumption) hb) | (go_at_call 47; refine (texts_any _ _ _).mono ?_; rintro e w' ⟨rfl, hb⟩; have SN := keep2 (by assumption) hb))
      go_ret
      exact ⟨ret_int HV.out, (Bel.out (by repeat (first | exact Bel.refl _ | refine Bel.drew ?_ | refine Bel.drewN ?_ _ | refine Bel.alloc ?_ _ | refine Bel.setCell ?_ (by simp <;> omega) _ | refine Bel.step ?_ (by assumption))))⟩
    have hcb := rk_cmp hr h0
    have z0 : (k == 0) = false := by simpa using h0
    have hr' : (rkS k != rkS k') = false := by simpa using hr
    cases h4b : (rkS k == 4) with
    | true =>
      have hcb' : cmpB k k' = false := by rw [hcb]; simpa using h4b
      have c1 := ci_bne k k'
      have c2 := ci_bne n n'
      have ho : ordC k n t k' n' t' = othC k n t k' n' t' := by unfold ordC; rw [hr', h4b]; simp
      cases d1 : (k != k') with
      | true =>
        have HV : Hid (Lib.compareInt k k' = ordC k n t k' n' t') := by show _ = _; rw [ho, othC, d1, if_pos rfl]
        rw [d1] at c1
        clear hb1 hr h0 hcb hr' c2 ho d1 h4b
        go_enter Tryd.func27, Tryd.ntmps27
        go_wp2_with fail
        go_region_held3 (fun w' => w'.cell? ⟨w.heap.size, 0, none⟩ = some (.int .i64 k) ∧ w'.cell? ⟨w.heap.size, 1, none⟩ = some (.int .i64 n) ∧ w'.cell? ⟨w.heap.size, 2, none⟩ = some (.string t) ∧ w'.cell? ⟨w.heap.size + 1, 0, none⟩ = some (.int .i64 k') ∧ w'.cell? ⟨w.heap.size + 1, 1, none⟩ = some (.int .i64 n') ∧ w'.cell? ⟨w.heap.size + 1, 2, none⟩ = some (.string t') ∧ w.heap.size + 2 ≤ w'.heap.size ∧ Below w.heap.size w w') (first | exact keep2 (by assumption) hb | exact keep2d (boxes2 w _ _ _ _ _ _)) (first | (go_at_call 52; refine (rRank_any _ _).mono ?_; rintro e w' ⟨rfl, hb⟩) | (go_at_call 48; refine (ints_any _ _ _).mono ?_; rintro e w' ⟨rfl, hb⟩))
        go_wp2_with (first | (go_at_call 23; refine (rCompare_any _ _ _ _ _ _ _ h1 h2 h3 h4).mono ?_; rintro e w' ⟨rfl, hb⟩; have SN := keep2 (by assumption) hb) | (go_at_call 45; refine (rNumber_any _ _ _ _).mono ?_; rintro e w' ⟨rfl, hb⟩; have SN := keep2 (by assumption) hb) | (go_at_call 48; refine (ints_any _ _ _).mono ?_; rintro e w' ⟨rfl, hb⟩; have SN := keep2 (by assumption) hb) | (go_at_call 47; refine (texts_any _ _ _).mono ?_; rintro e w' ⟨rfl, hb⟩; have SN := keep2 (by assumption) hb))
        go_ret
        exact ⟨ret_int HV.out, (Bel.out (by repeat (first | exact Bel.refl _ | refine Bel.drew ?_ | refine Bel.drewN ?_ _ | refine Bel.alloc ?_ _ | refine Bel.setCell ?_ (by simp <;> omega) _ | refine Bel.step ?_ (by assumption))))⟩
      | false =>
        rw [d1] at c1
        cases d2 : (n != n') with
        | true =>
          have HV : Hid (Lib.compareInt n n' = ordC k n t k' n' t') := by show _ = _; rw [ho, othC, d1, d2]; simp
          rw [d2] at c2
          clear hb1 hr h0 hcb hr' ho d1 d2 h4b
          go_enter Tryd.func27, Tryd.ntmps27
          go_wp2_with fail
          go_region_held3 (fun w' => w'.cell? ⟨w.heap.size, 0, none⟩ = some (.int .i64 k) ∧ w'.cell? ⟨w.heap.size, 1, none⟩ = some (.int .i64 n) ∧ w'.cell? ⟨w.heap.size, 2, none⟩ = some (.string t) ∧ w'.cell? ⟨w.heap.size + 1, 0, none⟩ = some (.int .i64 k') ∧ w'.cell? ⟨w.heap.size + 1, 1, none⟩ = some (.int .i64 n') ∧ w'.cell? ⟨w.heap.size + 1, 2, none⟩ = some (.string t') ∧ w.heap.size + 2 ≤ w'.heap.size ∧ Below w.heap.size w w') (first | exact keep2 (by assumption) hb | exact keep2d (boxes2 w _ _ _ _ _ _)) (first | (go_at_call 52; refine (rRank_any _ _).mono ?_; rintro e w' ⟨rfl, hb⟩) | (go_at_call 48; refine (ints_any _ _ _).mono ?_; rintro e w' ⟨rfl, hb⟩))
          go_wp2_with (first | (go_at_call 23; refine (rCompare_any _ _ _ _ _ _ _ h1 h2 h3 h4).mono ?_; rintro e w' ⟨rfl, hb⟩; have SN := keep2 (by assumption) hb) | (go_at_call 45; refine (rNumber_any _ _ _ _).mono ?_; rintro e w' ⟨rfl, hb⟩; have SN := keep2 (by assumption) hb) | (go_at_call 48; refine (ints_any _ _ _).mono ?_; rintro e w' ⟨rfl, hb⟩; have SN := keep2 (by assumption) hb) | (go_at_call 47; refine (texts_any _ _ _).mono ?_; rintro e w' ⟨rfl, hb⟩; have SN := keep2 (by assumption) hb))
          go_ret
          exact ⟨ret_int HV.out, (Bel.out (by repeat (first | exact Bel.refl _ | refine Bel.drew ?_ | refine Bel.drewN ?_ _ | refine Bel.alloc ?_ _ | refine Bel.setCell ?_ (by simp <;> omega) _ | refine Bel.step ?_ (by assumption))))⟩
        | false =>
          have HV : Hid (Lib.compareBytes t.data.toList t'.data.toList = ordC k n t k' n' t') := by show _ = _; rw [ho, othC, d1, d2]; simp
          rw [d2] at c2
          clear hb1 hr h0 hcb hr' ho d1 d2 h4b
          go_enter Tryd.func27, Tryd.ntmps27
          go_wp2_with fail
          go_region_held3 (fun w' => w'.cell? ⟨w.heap.size, 0, none⟩ = some (.int .i64 k) ∧ w'.cell? ⟨w.heap.size, 1, none⟩ = some (.int .i64 n) ∧ w'.cell? ⟨w.heap.size, 2, none⟩ = some (.string t) ∧ w'.cell? ⟨w.heap.size + 1, 0, none⟩ = some (.int .i64 k') ∧ w'.cell? ⟨w.heap.size + 1, 1, none⟩ = some (.int .i64 n') ∧ w'.cell? ⟨w.heap.size + 1, 2, none⟩ = some (.string t') ∧ w.heap.size + 2 ≤ w'.heap.size ∧ Below w.heap.size w w') (first | exact keep2 (by assumption) hb | exact keep2d (boxes2 w _ _ _ _ _ _)) (first | (go_at_call 52; refine (rRank_any _ _).mono ?_; rintro e w' ⟨rfl, hb⟩) | (go_at_call 48; refine (ints_any _ _ _).mono ?_; rintro e w' ⟨rfl, hb⟩))
          go_wp2_with (first | (go_at_call 23; refine (rCompare_any _ _ _ _ _ _ _ h1 h2 h3 h4).mono ?_; rintro e w' ⟨rfl, hb⟩; have SN := keep2 (by assumption) hb) | (go_at_call 45; refine (rNumber_any _ _ _ _).mono ?_; rintro e w' ⟨rfl, hb⟩; have SN := keep2 (by assumption) hb) | (go_at_call 48; refine (ints_any _ _ _).mono ?_; rintro e w' ⟨rfl, hb⟩; have SN := keep2 (by assumption) hb) | (go_at_call 47; refine (texts_any _ _ _).mono ?_; rintro e w' ⟨rfl, hb⟩; have SN := keep2 (by assumption) hb))
          go_ret
          exact ⟨ret_int HV.out, (Bel.out (by repeat (first | exact Bel.refl _ | refine Bel.drew ?_ | refine Bel.drewN ?_ _ | refine Bel.alloc ?_ _ | refine Bel.setCell ?_ (by simp <;> omega) _ | refine Bel.step ?_ (by assumption))))⟩
    | false =>
      have hcb' : cmpB k k' = true := by rw [hcb]; simpa using h4b
      have ho : ordC k n t k' n' t' = if cmpC k n t k' n' t' == 0 && isNum k then Lib.compareInt k k' else cmpC k n t k' n' t' := by unfold ordC; rw [hr', h4b]; simp
      cases d1 : (cmpC k n t k' n' t' == 0) with
      | true =>
        cases d2 : isNum k with
        | true =>
          have HV : Hid (Lib.compareInt k k' = ordC k n t k' n' t') := by show _ = _; rw [ho, d1, d2]; simp
          clear hb1 hr h0 hcb hr' ho h4b
          go_enter Tryd.func27, Tryd.ntmps27
          go_wp2_with fail
          go_region_held3 (fun w' => w'.cell? ⟨w.heap.size, 0, none⟩ = some (.int .i64 k) ∧ w'.cell? ⟨w.heap.size, 1, none⟩ = some (.int .i64 n) ∧ w'.cell? ⟨w.heap.size, 2, none⟩ = some (.string t) ∧ w'.cell? ⟨w.heap.size + 1, 0, none⟩ = some (.int .i64 k') ∧ w'.cell? ⟨w.heap.size + 1, 1, none⟩ = some (.int .i64 n') ∧ w'.cell? ⟨w.heap.size + 1, 2, none⟩ = some (.string t') ∧ w.heap.size + 2 ≤ w'.heap.size ∧ Below w.heap.size w w') (first | exact keep2 (by assumption) hb | exact keep2d (boxes2 w _ _ _ _ _ _)) (first | (go_at_call 52; refine (rRank_any _ _).mono ?_; rintro e w' ⟨rfl, hb⟩) | (go_at_call 48; refine (ints_any _ _ _).mono ?_; rintro e w' ⟨rfl, hb⟩))
          go_wp2_with (first | (go_at_call 23; refine (rCompare_any _ _ _ _ _ _ _ h1 h2 h3 h4).mono ?_; rintro e w' ⟨rfl, hb⟩; have SN := keep2 (by assumption) hb) | (go_at_call 45; refine (rNumber_any _ _ _ _).mono ?_; rintro e w' ⟨rfl, hb⟩; have SN := keep2 (by assumption) hb) | (go_at_call 48; refine (ints_any _ _ _).mono ?_; rintro e w' ⟨rfl, hb⟩; have SN := keep2 (by assumption) hb) | (go_at_call 47; refine (texts_any _ _ _).mono ?_; rintro e w' ⟨rfl, hb⟩; have SN := keep2 (by assumption) hb))
          go_ret
          exact ⟨ret_int HV.out, (Bel.out (by repeat (first | exact Bel.refl _ | refine Bel.drew ?_ | refine Bel.drewN ?_ _ | refine Bel.alloc ?_ _ | refine Bel.setCell ?_ (by simp <;> omega) _ | refine Bel.step ?_ (by assumption))))⟩
        | false =>
          have HV : Hid (cmpC k n t k' n' t' = ordC k n t k' n' t') := by show _ = _; rw [ho, d1, d2]; simp
          clear hb1 hr h0 hcb hr' ho h4b
          go_enter Tryd.func27, Tryd.ntmps27
          go_wp2_with fail
          go_region_held3 (fun w' => w'.cell? ⟨w.heap.size, 0, none⟩ = some (.int .i64 k) ∧ w'.cell? ⟨w.heap.size, 1, none⟩ = some (.int .i64 n) ∧ w'.cell? ⟨w.heap.size, 2, none⟩ = some (.string t) ∧ w'.cell? ⟨w.heap.size + 1, 0, none⟩ = some (.int .i64 k') ∧ w'.cell? ⟨w.heap.size + 1, 1, none⟩ = some (.int .i64 n') ∧ w'.cell? ⟨w.heap.size + 1, 2, none⟩ = some (.string t') ∧ w.heap.size + 2 ≤ w'.heap.size ∧ Below w.heap.size w w') (first | exact keep2 (by assumption) hb | exact keep2d (boxes2 w _ _ _ _ _ _)) (first | (go_at_call 52; refine (rRank_any _ _).mono ?_; rintro e w' ⟨rfl, hb⟩) | (go_at_call 48; refine (ints_any _ _ _).mono ?_; rintro e w' ⟨rfl, hb⟩))
          go_wp2_with (first | (go_at_call 23; refine (rCompare_any _ _ _ _ _ _ _ h1 h2 h3 h4).mono ?_; rintro e w' ⟨rfl, hb⟩; have SN := keep2 (by assumption) hb) | (go_at_call 45; refine (rNumber_any _ _ _ _).mono ?_; rintro e w' ⟨rfl, hb⟩; have SN := keep2 (by assumption) hb) | (go_at_call 48; refine (ints_any _ _ _).mono ?_; rintro e w' ⟨rfl, hb⟩; have SN := keep2 (by assumption) hb) | (go_at_call 47; refine (texts_any _ _ _).mono ?_; rintro e w' ⟨rfl, hb⟩; have SN := keep2 (by assumption) hb))
          go_ret
          exact ⟨ret_int HV.out, (Bel.out (by repeat (first | exact Bel.refl _ | refine Bel.drew ?_ | refine Bel.drewN ?_ _ | refine Bel.alloc ?_ _ | refine Bel.setCell ?_ (by simp <;> omega) _ | refine Bel.step ?_ (by assumption))))⟩
      | false =>
        have HV : Hid (cmpC k n t k' n' t' = ordC k n t k' n' t') := by show _ = _; rw [ho, d1]; simp
        clear hb1 hr h0 hcb hr' ho h4b
        go_enter Tryd.func27, Tryd.ntmps27
        go_wp2_with fail
        go_region_held3 (fun w' => w'.cell? ⟨w.heap.size, 0, none⟩ = some (.int .i64 k) ∧ w'.cell? ⟨w.heap.size, 1, none⟩ = some (.int .i64 n) ∧ w'.cell? ⟨w.heap.size, 2, none⟩ = some (.string t) ∧ w'.cell? ⟨w.heap.size + 1, 0, none⟩ = some (.int .i64 k') ∧ w'.cell? ⟨w.heap.size + 1, 1, none⟩ = some (.int .i64 n') ∧ w'.cell? ⟨w.heap.size + 1, 2, none⟩ = some (.string t') ∧ w.heap.size + 2 ≤ w'.heap.size ∧ Below w.heap.size w w') (first | exact keep2 (by assumption) hb | exact keep2d (boxes2 w _ _ _ _ _ _)) (first | (go_at_call 52; refine (rRank_any _ _).mono ?_; rintro e w' ⟨rfl, hb⟩) | (go_at_call 48; refine (ints_any _ _ _).mono ?_; rintro e w' ⟨rfl, hb⟩))
        go_wp2_with (first | (go_at_call 23; refine (rCompare_any _ _ _ _ _ _ _ h1 h2 h3 h4).mono ?_; rintro e w' ⟨rfl, hb⟩; have SN := keep2 (by assumption) hb) | (go_at_call 45; refine (rNumber_any _ _ _ _).mono ?_; rintro e w' ⟨rfl, hb⟩; have SN := keep2 (by assumption) hb) | (go_at_call 48; refine (ints_any _ _ _).mono ?_; rintro e w' ⟨rfl, hb⟩; have SN := keep2 (by assumption) hb) | (go_at_call 47; refine (texts_any _ _ _).mono ?_; rintro e w' ⟨rfl, hb⟩; have SN := keep2 (by assumption) hb))
        go_ret
        exact ⟨ret_int HV.out, (Bel.out (by repeat (first | exact Bel.refl _ | refine Bel.drew ?_ | refine Bel.drewN ?_ _ | refine Bel.alloc ?_ _ | refine Bel.setCell ?_ (by simp <;> omega) _ | refine Bel.step ?_ (by assumption))))⟩
  · have ha : (Lib.compareInt (rkS k) (rkS k') != 0) = true := by rw [hb1]; simpa using hr
    have hr' : (rkS k != rkS k') = true := by simpa using hr
    have HV : Hid (Lib.compareInt (rkS k) (rkS k') = ordC k n t k' n' t') := by show _ = _; unfold ordC; rw [hr']; simp
    clear hb1 hr hr'
    go_enter Tryd.func27, Tryd.ntmps27
    go_wp2_with fail
    go_region_held3 (fun w' => w'.cell? ⟨w.heap.size, 0, none⟩ = some (.int .i64 k) ∧ w'.cell? ⟨w.heap.size, 1, none⟩ = some (.int .i64 n) ∧ w'.cell? ⟨w.heap.size, 2, none⟩ = some (.string t) ∧ w'.cell? ⟨w.heap.size + 1, 0, none⟩ = some (.int .i64 k') ∧ w'.cell? ⟨w.heap.size + 1, 1, none⟩ = some (.int .i64 n') ∧ w'.cell? ⟨w.heap.size + 1, 2, none⟩ = some (.string t') ∧ w.heap.size + 2 ≤ w'.heap.size ∧ Below w.heap.size w w') (first | exact keep2 (by assumption) hb | exact keep2d (boxes2 w _ _ _ _ _ _)) (first | (go_at_call 52; refine (rRank_any _ _).mono ?_; rintro e w' ⟨rfl, hb⟩) | (go_at_call 48; refine (ints_any _ _ _).mono ?_; rintro e w' ⟨rfl, hb⟩))
    go_wp2_with (first | (go_at_call 23; refine (rCompare_any _ _ _ _ _ _ _ h1 h2 h3 h4).mono ?_; rintro e w' ⟨rfl, hb⟩; have SN := keep2 (by assumption) hb) | (go_at_call 45; refine (rNumber_any _ _ _ _).mono ?_; rintro e w' ⟨rfl, hb⟩; have SN := keep2 (by assumption) hb) | (go_at_call 48; refine (ints_any _ _ _).mono ?_; rintro e w' ⟨rfl, hb⟩; have SN := keep2 (by assumption) hb) | (go_at_call 47; refine (texts_any _ _ _).mono ?_; rintro e w' ⟨rfl, hb⟩; have SN := keep2 (by assumption) hb))
    go_ret
    exact ⟨ret_int HV.out, (Bel.out (by repeat (first | exact Bel.refl _ | refine Bel.drew ?_ | refine Bel.drewN ?_ _ | refine Bel.alloc ?_ _ | refine Bel.setCell ?_ (by simp <;> omega) _ | refine Bel.step ?_ (by assumption))))⟩
end Go.Proofs.YtejniencggnkiaaDoor
