/- The forms of four small trees. -/
import Derived.Test.YtcemogaacicnfaaGreatDoorNme
import Derived.Test.YtcemogaacicnfaaGreatDoorCpy
namespace Go.Proofs.YtcemogaacicnfaaGreatDoor
set_option maxRecDepth 20000
set_option maxHeartbeats 4000000
open Go.ChangeShapes Go.WideShapes Go.ChangeAt Go.RowKit

theorem EqualPl_0 (a b : Option Addr) (c c' : Nat) (F : Value) (w : World) : Calls Tryz.prog 85 #[.slice a 0 c, .slice b 0 c', F] w fun e w' => e = .returned (.bool true) ∧ Below w.heap.size w w' := by
  go_enter Tryz.func85, Tryz.ntmps85
  go_wp2
  refine wp_loop_rounds 1 ?_
  rw [rounds_succ]
  go_wp2
  go_ret
  exact ⟨rfl, Below.refl _ _⟩
theorem EqualPl_ne (a b : Option Addr) (m c c' : Nat) (F : Value) (w : World) (h : ((m : Int) == 1) = false) : Calls Tryz.prog 85 #[.slice a m c, .slice b 1 c', F] w fun e w' => e = .returned (.bool false) ∧ Below w.heap.size w w' := by
  go_enter Tryz.func85, Tryz.ntmps85
  go_wp2
  go_ret
  exact ⟨rfl, Below.refl _ _⟩
theorem are_0 (a b : Option Addr) (c c' : Nat) (w : World) : Calls Tryz.prog 40 #[.slice a 0 c, .slice b 0 c'] w fun e w' => e = .returned (.bool true) ∧ Below w.heap.size w w' := by
  have h1 := EqualPl_0 a b c c' (.func (.func 86) #[] #[]) w
  go_enter Tryz.func40, Tryz.ntmps40
  go_wp2_with fail
  refine h1.mono ?_
  rintro e w1 ⟨rfl, hb1⟩
  go_wp2
  go_ret
  exact ⟨rfl, hb1⟩
theorem are_01 (a b : Option Addr) (c c' : Nat) (w : World) : Calls Tryz.prog 40 #[.slice a 0 c, .slice b 1 c'] w fun e w' => e = .returned (.bool false) ∧ Below w.heap.size w w' := by
  have h1 := EqualPl_ne a b 0 c c' (.func (.func 86) #[] #[]) w (by decide)
  go_enter Tryz.func40, Tryz.ntmps40
  go_wp2_with fail
  refine h1.mono ?_
  rintro e w1 ⟨rfl, hb1⟩
  go_wp2
  go_ret
  exact ⟨rfl, hb1⟩
theorem within_any (n lo hi : Int) (w : World) : Calls Tryz.prog 54 #[.int .i64 n, .int .i64 lo, .int .i64 hi] w fun e w' => e = .returned (.bool (decide (lo ≤ n) && decide (n ≤ hi))) ∧ w' = w := by
  by_cases h1 : lo ≤ n
  · by_cases h2 : n ≤ hi
    · rw [decide_eq_true h1, decide_eq_true h2]
      go_enter Tryz.func54, Tryz.ntmps54
      go_wp2
      go_ret
      exact ⟨rfl, rfl⟩
    · rw [decide_eq_true h1, decide_eq_false h2]
      go_enter Tryz.func54, Tryz.ntmps54
      go_wp2
      go_ret
      exact ⟨rfl, rfl⟩
  · rw [decide_eq_false h1]
    go_enter Tryz.func54, Tryz.ntmps54
    go_wp2
    go_ret
    exact ⟨rfl, rfl⟩
theorem isFlag_0 (w : World) : Calls Tryz.prog 41 #[.int .i64 0] w fun e w' => e = .returned (.bool true) ∧ w' = w := by
  have h1 := within_any 0 0 1 w
  go_enter Tryz.func41, Tryz.ntmps41
  go_wp2_with fail
  refine h1.mono ?_
  rintro e w1 ⟨rfl, rfl⟩
  go_wp2
  go_ret
  exact ⟨rfl, rfl⟩
theorem sel_name : s_nameS ⟨#[83, 101, 108, 101, 99, 116]⟩ = true := by decide +kernel
theorem sel_tk : tkN [83, 101, 108, 101, 99, 116] = (2, [115, 101, 108, 101, 99, 116], 0) := by decide +kernel
theorem isId_sel (w : World) (hR : Rdy w) : Calls Tryz.prog 89 #[.string ⟨#[83, 101, 108, 101, 99, 116]⟩] w fun e w' => e = .returned (.bool false) ∧ Below w.heap.size w w' := by
  have h1 := Name_any ⟨#[83, 101, 108, 101, 99, 116]⟩ w
  rw [sel_name] at h1
  have h2 := Lex_nm 83 [101, 108, 101, 99, 116] w hR (by decide) (by decide) (by decide)
  unfold LexOne at h2
  rw [sel_tk] at h2
  change Calls Tryz.prog 121 #[.string ⟨#[83, 101, 108, 101, 99, 116]⟩] w _ at h2
  go_enter Tryz.func89, Tryz.ntmps89
  go_wp2_with fail
  refine h1.mono ?_
  rintro e w1 ⟨rfl, rfl⟩
  clear h1
  go_wp2_with fail
  refine h2.mono ?_
  rintro e w2 ⟨⟨g, off, cap, rfl, c0, c1, c2, c3⟩, hb2⟩
  clear h2
  go_wp2
  go_ret
  exact ⟨rfl, hb2⟩
theorem isExpr_5 (w : World) : Calls Tryz.prog 23 #[.agg #[.int .i64 3, .string ⟨#[]⟩, .int .i64 5, .int .i64 0, .slice none 0 0]] w fun e w' => e = .returned (.bool true) ∧ Below w.heap.size w w' := by
  go_enter Tryz.func23, Tryz.ntmps23
  go_wp2_with fail
  refine (are_0 none none 0 0 _).mono ?_
  rintro e w1 ⟨rfl, hb1⟩
  have hB1 : Below w.heap.size w w1 := ((Below.refl _ w).alloc (Nat.le_refl _) _).trans (hb1.mono (by simp))
  have bo := (Box5.new w (.int .i64 3) (.string ⟨#[]⟩) (.int .i64 5) (.int .i64 0) (.slice none 0 0) 24).below hb1
  have x0 := bo.c0
  have x1 := bo.c1
  have x2 := bo.c2
  have x3 := bo.c3
  have x4 := bo.c4
  go_wp2
  go_ret
  exact ⟨rfl, hB1⟩
theorem isExpr_m (w : World) : Calls Tryz.prog 23 #[.agg #[.int .i64 3, .string ⟨#[]⟩, .int .i64 (-1), .int .i64 0, .slice none 0 0]] w fun e w' => e = .returned (.bool false) ∧ Below w.heap.size w w' := by
  go_enter Tryz.func23, Tryz.ntmps23
  go_wp2
  go_ret
  exact ⟨rfl, Bel.out (by repeat (first | exact Bel.refl _ | assumption | refine Bel.drew ?_ | refine Bel.drewN ?_ _ | refine Bel.alloc ?_ _ | refine Bel.setCell ?_ (by simp <;> omega) _ | refine Bel.step ?_ (by assumption)))⟩
theorem hasId_sel (w : World) (hR : Rdy w) : Calls Tryz.prog 48 #[.agg #[.int .i64 6, .string ⟨#[83, 101, 108, 101, 99, 116]⟩, .int .i64 0, .int .i64 0, .slice none 0 0]] w fun e w' => e = .returned (.bool false) ∧ Below w.heap.size w w' := by
  go_enter Tryz.func48, Tryz.ntmps48
  go_wp2_with fail
  refine (isId_sel _ (hR.alloc _)).mono ?_
  rintro e w1 ⟨rfl, hb1⟩
  have hB1 : Below w.heap.size w w1 := ((Below.refl _ w).alloc (Nat.le_refl _) _).trans (hb1.mono (by simp))
  have bo := (Box5.new w (.int .i64 6) (.string ⟨#[83, 101, 108, 101, 99, 116]⟩) (.int .i64 0) (.int .i64 0) (.slice none 0 0) 24).below hb1
  have x0 := bo.c0
  have x1 := bo.c1
  have x2 := bo.c2
  have x3 := bo.c3
  have x4 := bo.c4
  go_wp2
  go_ret
  exact ⟨rfl, hB1⟩
theorem isOwnCol_sel (w : World) (hR : Rdy w) : Calls Tryz.prog 43 #[.agg #[.int .i64 6, .string ⟨#[83, 101, 108, 101, 99, 116]⟩, .int .i64 0, .int .i64 0, .slice none 0 0]] w fun e w' => e = .returned (.bool false) ∧ Below w.heap.size w w' := by
  go_enter Tryz.func43, Tryz.ntmps43
  go_wp2_with fail
  refine (hasId_sel _ (hR.alloc _)).mono ?_
  rintro e w1 ⟨rfl, hb1⟩
  have hB1 : Below w.heap.size w w1 := ((Below.refl _ w).alloc (Nat.le_refl _) _).trans (hb1.mono (by simp))
  have bo := (Box5.new w (.int .i64 6) (.string ⟨#[83, 101, 108, 101, 99, 116]⟩) (.int .i64 0) (.int .i64 0) (.slice none 0 0) 24).below hb1
  have x0 := bo.c0
  have x1 := bo.c1
  have x2 := bo.c2
  have x3 := bo.c3
  have x4 := bo.c4
  go_wp2
  go_ret
  exact ⟨rfl, hB1⟩
theorem isColOf_sel (w : World) (hR : Rdy w) : Calls Tryz.prog 44 #[.agg #[.int .i64 6, .string ⟨#[83, 101, 108, 101, 99, 116]⟩, .int .i64 0, .int .i64 0, .slice none 0 0]] w fun e w' => e = .returned (.bool false) ∧ Below w.heap.size w w' := by
  go_enter Tryz.func44, Tryz.ntmps44
  go_wp2_with fail
  refine (hasId_sel _ (hR.alloc _)).mono ?_
  rintro e w1 ⟨rfl, hb1⟩
  have hB1 : Below w.heap.size w w1 := ((Below.refl _ w).alloc (Nat.le_refl _) _).trans (hb1.mono (by simp))
  have bo := (Box5.new w (.int .i64 6) (.string ⟨#[83, 101, 108, 101, 99, 116]⟩) (.int .i64 0) (.int .i64 0) (.slice none 0 0) 24).below hb1
  have x0 := bo.c0
  have x1 := bo.c1
  have x2 := bo.c2
  have x3 := bo.c3
  have x4 := bo.c4
  go_wp2
  go_ret
  exact ⟨rfl, hB1⟩
theorem isExpr_sel (w : World) (hR : Rdy w) : Calls Tryz.prog 23 #[.agg #[.int .i64 6, .string ⟨#[83, 101, 108, 101, 99, 116]⟩, .int .i64 0, .int .i64 0, .slice none 0 0]] w fun e w' => e = .returned (.bool false) ∧ Below w.heap.size w w' := by
  go_enter Tryz.func23, Tryz.ntmps23
  go_wp2_with fail
  refine (isOwnCol_sel _ (hR.alloc _)).mono ?_
  rintro e w1 ⟨rfl, hb1⟩
  have hB1 : Below w.heap.size w w1 := ((Below.refl _ w).alloc (Nat.le_refl _) _).trans (hb1.mono (by simp))
  have bo := (Box5.new w (.int .i64 6) (.string ⟨#[83, 101, 108, 101, 99, 116]⟩) (.int .i64 0) (.int .i64 0) (.slice none 0 0) 24).below hb1
  have x0 := bo.c0
  have x1 := bo.c1
  have x2 := bo.c2
  have x3 := bo.c3
  have x4 := bo.c4
  go_wp2_with fail
  refine (isColOf_sel _ (hR.below hB1)).mono ?_
  rintro e w2 ⟨rfl, hb2⟩
  have hB2 := hB1.trans (hb2.mono hB1.size)
  have bo := bo.below hb2
  have x0 := bo.c0
  have x1 := bo.c1
  have x2 := bo.c2
  have x3 := bo.c3
  have x4 := bo.c4
  go_wp2
  go_ret
  exact ⟨rfl, hB2⟩
theorem isCountOfAll_sum (w : World) : Calls Tryz.prog 90 #[.agg #[.int .i64 14, .string ⟨#[115, 117, 109]⟩, .int .i64 0, .int .i64 0, .slice none 0 0]] w fun e w' => e = .returned (.bool false) ∧ Below w.heap.size w w' := by
  go_enter Tryz.func90, Tryz.ntmps90
  go_wp2
  go_ret
  exact ⟨rfl, Bel.out (by repeat (first | exact Bel.refl _ | assumption | refine Bel.drew ?_ | refine Bel.drewN ?_ _ | refine Bel.alloc ?_ _ | refine Bel.setCell ?_ (by simp <;> omega) _ | refine Bel.step ?_ (by assumption)))⟩
theorem isAgg_sum (w : World) : Calls Tryz.prog 49 #[.agg #[.int .i64 14, .string ⟨#[115, 117, 109]⟩, .int .i64 0, .int .i64 0, .slice none 0 0]] w fun e w' => e = .returned (.bool false) ∧ Below w.heap.size w w' := by
  have bo := Box5.new w (.int .i64 14) (.string ⟨#[115, 117, 109]⟩) (.int .i64 0) (.int .i64 0) (.slice none 0 0) 24
  go_enter Tryz.func49, Tryz.ntmps49
  go_wp2_with (go_at_call 41; refine (isFlag_0 _).mono ?_; rintro e w1 ⟨rfl, rfl⟩)
  refine (are_01 none _ 0 1 _).mono ?_
  rintro e w2 ⟨rfl, hb2⟩
  have hA : Below w.heap.size w ((w.alloc (Obj.cells #[Value.int IntKind.i64 14, Value.string { data := #[115, 117, 109] }, Value.int IntKind.i64 0, Value.int IntKind.i64 0, Value.slice none 0 0] 24)).alloc (Obj.cells #[Value.func (.func 23) #[] #[]] 49)) := ((Below.refl _ w).alloc (Nat.le_refl _) _).alloc (by simp) _
  have hB2 := hA.trans (hb2.mono hA.size)
  have bo := (bo.below ((Below.refl _ _).alloc (Nat.le_refl _) (Obj.cells #[Value.func (.func 23) #[] #[]] 49))).below hb2
  have x0 := bo.c0
  have x1 := bo.c1
  have x2 := bo.c2
  have x3 := bo.c3
  have x4 := bo.c4
  clear hA
  go_wp2_with fail
  refine (isCountOfAll_sum _).mono ?_
  rintro e w3 ⟨rfl, hb3⟩
  have hB3 := hB2.trans (hb3.mono hB2.size)
  go_wp2
  go_ret
  exact ⟨rfl, hB3⟩
theorem isExpr_sum (w : World) : Calls Tryz.prog 23 #[.agg #[.int .i64 14, .string ⟨#[115, 117, 109]⟩, .int .i64 0, .int .i64 0, .slice none 0 0]] w fun e w' => e = .returned (.bool false) ∧ Below w.heap.size w w' := by
  go_enter Tryz.func23, Tryz.ntmps23
  go_wp2_with fail
  refine (isAgg_sum _).mono ?_
  rintro e w1 ⟨rfl, hb1⟩
  have hB1 : Below w.heap.size w w1 := ((Below.refl _ w).alloc (Nat.le_refl _) _).trans (hb1.mono (by simp))
  have bo := (Box5.new w (.int .i64 14) (.string ⟨#[115, 117, 109]⟩) (.int .i64 0) (.int .i64 0) (.slice none 0 0) 24).below hb1
  have x0 := bo.c0
  have x1 := bo.c1
  have x2 := bo.c2
  have x3 := bo.c3
  have x4 := bo.c4
  go_wp2
  go_ret
  exact ⟨rfl, hB1⟩
theorem isPattern_m (w : World) : Calls Tryz.prog 24 #[.agg #[.int .i64 3, .string ⟨#[]⟩, .int .i64 (-1), .int .i64 0, .slice none 0 0]] w fun e w' => e = .returned (.bool false) ∧ Below w.heap.size w w' := by
  go_enter Tryz.func24, Tryz.ntmps24
  go_wp2
  go_ret
  exact ⟨rfl, Bel.out (by repeat (first | exact Bel.refl _ | assumption | refine Bel.drew ?_ | refine Bel.drewN ?_ _ | refine Bel.alloc ?_ _ | refine Bel.setCell ?_ (by simp <;> omega) _ | refine Bel.step ?_ (by assumption)))⟩
theorem isStmt_m (w : World) : Calls Tryz.prog 25 #[.agg #[.int .i64 3, .string ⟨#[]⟩, .int .i64 (-1), .int .i64 0, .slice none 0 0]] w fun e w' => e = .returned (.bool false) ∧ Below w.heap.size w w' := by
  go_enter Tryz.func25, Tryz.ntmps25
  go_wp2
  go_ret
  exact ⟨rfl, Bel.out (by repeat (first | exact Bel.refl _ | assumption | refine Bel.drew ?_ | refine Bel.drewN ?_ _ | refine Bel.alloc ?_ _ | refine Bel.setCell ?_ (by simp <;> omega) _ | refine Bel.step ?_ (by assumption)))⟩
theorem isPattern_sel (w : World) : Calls Tryz.prog 24 #[.agg #[.int .i64 6, .string ⟨#[83, 101, 108, 101, 99, 116]⟩, .int .i64 0, .int .i64 0, .slice none 0 0]] w fun e w' => e = .returned (.bool false) ∧ Below w.heap.size w w' := by
  go_enter Tryz.func24, Tryz.ntmps24
  go_wp2
  go_ret
  exact ⟨rfl, Bel.out (by repeat (first | exact Bel.refl _ | assumption | refine Bel.drew ?_ | refine Bel.drewN ?_ _ | refine Bel.alloc ?_ _ | refine Bel.setCell ?_ (by simp <;> omega) _ | refine Bel.step ?_ (by assumption)))⟩
theorem isStmt_sel (w : World) : Calls Tryz.prog 25 #[.agg #[.int .i64 6, .string ⟨#[83, 101, 108, 101, 99, 116]⟩, .int .i64 0, .int .i64 0, .slice none 0 0]] w fun e w' => e = .returned (.bool false) ∧ Below w.heap.size w w' := by
  go_enter Tryz.func25, Tryz.ntmps25
  go_wp2
  go_ret
  exact ⟨rfl, Bel.out (by repeat (first | exact Bel.refl _ | assumption | refine Bel.drew ?_ | refine Bel.drewN ?_ _ | refine Bel.alloc ?_ _ | refine Bel.setCell ?_ (by simp <;> omega) _ | refine Bel.step ?_ (by assumption)))⟩
theorem isPattern_sum (w : World) : Calls Tryz.prog 24 #[.agg #[.int .i64 14, .string ⟨#[115, 117, 109]⟩, .int .i64 0, .int .i64 0, .slice none 0 0]] w fun e w' => e = .returned (.bool false) ∧ Below w.heap.size w w' := by
  go_enter Tryz.func24, Tryz.ntmps24
  go_wp2
  go_ret
  exact ⟨rfl, Bel.out (by repeat (first | exact Bel.refl _ | assumption | refine Bel.drew ?_ | refine Bel.drewN ?_ _ | refine Bel.alloc ?_ _ | refine Bel.setCell ?_ (by simp <;> omega) _ | refine Bel.step ?_ (by assumption)))⟩
theorem isStmt_sum (w : World) : Calls Tryz.prog 25 #[.agg #[.int .i64 14, .string ⟨#[115, 117, 109]⟩, .int .i64 0, .int .i64 0, .slice none 0 0]] w fun e w' => e = .returned (.bool false) ∧ Below w.heap.size w w' := by
  go_enter Tryz.func25, Tryz.ntmps25
  go_wp2
  go_ret
  exact ⟨rfl, Bel.out (by repeat (first | exact Bel.refl _ | assumption | refine Bel.drew ?_ | refine Bel.drewN ?_ _ | refine Bel.alloc ?_ _ | refine Bel.setCell ?_ (by simp <;> omega) _ | refine Bel.step ?_ (by assumption)))⟩
theorem Form_5 (w : World) : Calls Tryz.prog 8 #[.agg #[.int .i64 3, .string ⟨#[]⟩, .int .i64 5, .int .i64 0, .slice none 0 0]] w fun e w' => e = .returned (.int .i64 1) ∧ Below w.heap.size w w' := by
  go_enter Tryz.func8, Tryz.ntmps8
  go_wp2_with fail
  refine (isExpr_5 _).mono ?_
  rintro e w1 ⟨rfl, hb1⟩
  have hB1 : Below w.heap.size w w1 := ((Below.refl _ w).alloc (Nat.le_refl _) _).trans (hb1.mono (by simp))
  have bo := (Box5.new w (.int .i64 3) (.string ⟨#[]⟩) (.int .i64 5) (.int .i64 0) (.slice none 0 0) 24).below hb1
  have x0 := bo.c0
  have x1 := bo.c1
  have x2 := bo.c2
  have x3 := bo.c3
  have x4 := bo.c4
  go_wp2
  go_ret
  exact ⟨rfl, hB1⟩
theorem Form_m (w : World) : Calls Tryz.prog 8 #[.agg #[.int .i64 3, .string ⟨#[]⟩, .int .i64 (-1), .int .i64 0, .slice none 0 0]] w fun e w' => e = .returned (.int .i64 0) ∧ Below w.heap.size w w' := by
  go_enter Tryz.func8, Tryz.ntmps8
  go_wp2_with fail
  refine (isExpr_m _).mono ?_
  rintro e w1 ⟨rfl, hb1⟩
  have hB1 : Below w.heap.size w w1 := ((Below.refl _ w).alloc (Nat.le_refl _) _).trans (hb1.mono (by simp))
  have bo := (Box5.new w (.int .i64 3) (.string ⟨#[]⟩) (.int .i64 (-1)) (.int .i64 0) (.slice none 0 0) 24).below hb1
  have x0 := bo.c0
  have x1 := bo.c1
  have x2 := bo.c2
  have x3 := bo.c3
  have x4 := bo.c4
  go_wp2_with fail
  refine (isPattern_m _).mono ?_
  rintro e w2 ⟨rfl, hb2⟩
  have hB2 := hB1.trans (hb2.mono hB1.size)
  have bo := bo.below hb2
  have x0 := bo.c0
  have x1 := bo.c1
  have x2 := bo.c2
  have x3 := bo.c3
  have x4 := bo.c4
  go_wp2_with fail
  refine (isStmt_m _).mono ?_
  rintro e w3 ⟨rfl, hb3⟩
  have hB3 := hB2.trans (hb3.mono hB2.size)
  have bo := bo.below hb3
  have x0 := bo.c0
  have x1 := bo.c1
  have x2 := bo.c2
  have x3 := bo.c3
  have x4 := bo.c4
  go_wp2
  go_ret
  exact ⟨rfl, hB3⟩
theorem Form_sel (w : World) (hR : Rdy w) : Calls Tryz.prog 8 #[.agg #[.int .i64 6, .string ⟨#[83, 101, 108, 101, 99, 116]⟩, .int .i64 0, .int .i64 0, .slice none 0 0]] w fun e w' => e = .returned (.int .i64 0) ∧ Below w.heap.size w w' := by
  go_enter Tryz.func8, Tryz.ntmps8
  go_wp2_with fail
  refine (isExpr_sel _ (hR.alloc _)).mono ?_
  rintro e w1 ⟨rfl, hb1⟩
  have hB1 : Below w.heap.size w w1 := ((Below.refl _ w).alloc (Nat.le_refl _) _).trans (hb1.mono (by simp))
  have bo := (Box5.new w (.int .i64 6) (.string ⟨#[83, 101, 108, 101, 99, 116]⟩) (.int .i64 0) (.int .i64 0) (.slice none 0 0) 24).below hb1
  have x0 := bo.c0
  have x1 := bo.c1
  have x2 := bo.c2
  have x3 := bo.c3
  have x4 := bo.c4
  go_wp2_with fail
  refine (isPattern_sel _).mono ?_
  rintro e w2 ⟨rfl, hb2⟩
  have hB2 := hB1.trans (hb2.mono hB1.size)
  have bo := bo.below hb2
  have x0 := bo.c0
  have x1 := bo.c1
  have x2 := bo.c2
  have x3 := bo.c3
  have x4 := bo.c4
  go_wp2_with fail
  refine (isStmt_sel _).mono ?_
  rintro e w3 ⟨rfl, hb3⟩
  have hB3 := hB2.trans (hb3.mono hB2.size)
  have bo := bo.below hb3
  have x0 := bo.c0
  have x1 := bo.c1
  have x2 := bo.c2
  have x3 := bo.c3
  have x4 := bo.c4
  go_wp2
  go_ret
  exact ⟨rfl, hB3⟩
theorem Form_sum (w : World) : Calls Tryz.prog 8 #[.agg #[.int .i64 14, .string ⟨#[115, 117, 109]⟩, .int .i64 0, .int .i64 0, .slice none 0 0]] w fun e w' => e = .returned (.int .i64 0) ∧ Below w.heap.size w w' := by
  go_enter Tryz.func8, Tryz.ntmps8
  go_wp2_with fail
  refine (isExpr_sum _).mono ?_
  rintro e w1 ⟨rfl, hb1⟩
  have hB1 : Below w.heap.size w w1 := ((Below.refl _ w).alloc (Nat.le_refl _) _).trans (hb1.mono (by simp))
  have bo := (Box5.new w (.int .i64 14) (.string ⟨#[115, 117, 109]⟩) (.int .i64 0) (.int .i64 0) (.slice none 0 0) 24).below hb1
  have x0 := bo.c0
  have x1 := bo.c1
  have x2 := bo.c2
  have x3 := bo.c3
  have x4 := bo.c4
  go_wp2_with fail
  refine (isPattern_sum _).mono ?_
  rintro e w2 ⟨rfl, hb2⟩
  have hB2 := hB1.trans (hb2.mono hB1.size)
  have bo := bo.below hb2
  have x0 := bo.c0
  have x1 := bo.c1
  have x2 := bo.c2
  have x3 := bo.c3
  have x4 := bo.c4
  go_wp2_with fail
  refine (isStmt_sum _).mono ?_
  rintro e w3 ⟨rfl, hb3⟩
  have hB3 := hB2.trans (hb3.mono hB2.size)
  have bo := bo.below hb3
  have x0 := bo.c0
  have x1 := bo.c1
  have x2 := bo.c2
  have x3 := bo.c3
  have x4 := bo.c4
  go_wp2
  go_ret
  exact ⟨rfl, hB3⟩
end Go.Proofs.YtcemogaacicnfaaGreatDoor
