/- What the law texts share: two boxes that a region reads; and 'awake', the chapter's examples, is true. -/
import Derived.Test.YtejniencggnkiaaDoorShow
import Derived.Deep.RegionHeld3
import Derived.Deep.DrawnRows
namespace Go.Proofs.YtejniencggnkiaaDoor
open Go.ChangeShapes Go.WideShapes Go.ChangeAt Go.RowKit
attribute [local go_sem ↓] Go.wp_at_zero Go.wp_at_succ

theorem keep2 {w wx w' : World} {c0 c1 c2 d0 d1 d2 : Value} (hS : wx.cell? ⟨w.heap.size, 0, none⟩ = some c0 ∧ wx.cell? ⟨w.heap.size, 1, none⟩ = some c1 ∧ wx.cell? ⟨w.heap.size, 2, none⟩ = some c2 ∧ wx.cell? ⟨w.heap.size + 1, 0, none⟩ = some d0 ∧ wx.cell? ⟨w.heap.size + 1, 1, none⟩ = some d1 ∧ wx.cell? ⟨w.heap.size + 1, 2, none⟩ = some d2 ∧ w.heap.size + 2 ≤ wx.heap.size ∧ Below w.heap.size w wx) (hb : Below wx.heap.size wx w') : w'.cell? ⟨w.heap.size, 0, none⟩ = some c0 ∧ w'.cell? ⟨w.heap.size, 1, none⟩ = some c1 ∧ w'.cell? ⟨w.heap.size, 2, none⟩ = some c2 ∧ w'.cell? ⟨w.heap.size + 1, 0, none⟩ = some d0 ∧ w'.cell? ⟨w.heap.size + 1, 1, none⟩ = some d1 ∧ w'.cell? ⟨w.heap.size + 1, 2, none⟩ = some d2 ∧ w.heap.size + 2 ≤ w'.heap.size ∧ Below w.heap.size w w' := by
  obtain ⟨h0, h1, h2, h3, h4, h5, hs, hB⟩ := hS
  refine ⟨?_, ?_, ?_, ?_, ?_, ?_, ?_, hB.trans (hb.mono (by omega))⟩
  · rw [hb.cell (by simp; omega)]; exact h0
  · rw [hb.cell (by simp; omega)]; exact h1
  · rw [hb.cell (by simp; omega)]; exact h2
  · rw [hb.cell (by simp; omega)]; exact h3
  · rw [hb.cell (by simp; omega)]; exact h4
  · rw [hb.cell (by simp; omega)]; exact h5
  · have := hb.size; omega
theorem keep2d {w wx : World} {c0 c1 c2 d0 d1 d2 : Value} (hS : wx.cell? ⟨w.heap.size, 0, none⟩ = some c0 ∧ wx.cell? ⟨w.heap.size, 1, none⟩ = some c1 ∧ wx.cell? ⟨w.heap.size, 2, none⟩ = some c2 ∧ wx.cell? ⟨w.heap.size + 1, 0, none⟩ = some d0 ∧ wx.cell? ⟨w.heap.size + 1, 1, none⟩ = some d1 ∧ wx.cell? ⟨w.heap.size + 1, 2, none⟩ = some d2 ∧ w.heap.size + 2 ≤ wx.heap.size ∧ Below w.heap.size w wx) : wx.drew.cell? ⟨w.heap.size, 0, none⟩ = some c0 ∧ wx.drew.cell? ⟨w.heap.size, 1, none⟩ = some c1 ∧ wx.drew.cell? ⟨w.heap.size, 2, none⟩ = some c2 ∧ wx.drew.cell? ⟨w.heap.size + 1, 0, none⟩ = some d0 ∧ wx.drew.cell? ⟨w.heap.size + 1, 1, none⟩ = some d1 ∧ wx.drew.cell? ⟨w.heap.size + 1, 2, none⟩ = some d2 ∧ w.heap.size + 2 ≤ wx.drew.heap.size ∧ Below w.heap.size w wx.drew :=
  ⟨hS.1, hS.2.1, hS.2.2.1, hS.2.2.2.1, hS.2.2.2.2.1, hS.2.2.2.2.2.1, hS.2.2.2.2.2.2.1, hS.2.2.2.2.2.2.2.drew⟩
theorem boxes2 (w : World) (c0 c1 c2 d0 d1 d2 : Value) : ((w.alloc (.cells #[c0, c1, c2] 23)).alloc (.cells #[d0, d1, d2] 23)).cell? ⟨w.heap.size, 0, none⟩ = some c0 ∧ ((w.alloc (.cells #[c0, c1, c2] 23)).alloc (.cells #[d0, d1, d2] 23)).cell? ⟨w.heap.size, 1, none⟩ = some c1 ∧ ((w.alloc (.cells #[c0, c1, c2] 23)).alloc (.cells #[d0, d1, d2] 23)).cell? ⟨w.heap.size, 2, none⟩ = some c2 ∧ ((w.alloc (.cells #[c0, c1, c2] 23)).alloc (.cells #[d0, d1, d2] 23)).cell? ⟨w.heap.size + 1, 0, none⟩ = some d0 ∧ ((w.alloc (.cells #[c0, c1, c2] 23)).alloc (.cells #[d0, d1, d2] 23)).cell? ⟨w.heap.size + 1, 1, none⟩ = some d1 ∧ ((w.alloc (.cells #[c0, c1, c2] 23)).alloc (.cells #[d0, d1, d2] 23)).cell? ⟨w.heap.size + 1, 2, none⟩ = some d2 ∧ w.heap.size + 2 ≤ ((w.alloc (.cells #[c0, c1, c2] 23)).alloc (.cells #[d0, d1, d2] 23)).heap.size ∧ Below w.heap.size w ((w.alloc (.cells #[c0, c1, c2] 23)).alloc (.cells #[d0, d1, d2] 23)) := by
  refine ⟨by go_simp, by go_simp, by go_simp, by go_simp, by go_simp, by go_simp, by simp, ((Below.refl _ _).alloc (Nat.le_refl _) _).alloc (by simp) _⟩
theorem ready2 {w wx : World} {c0 c1 c2 d0 d1 d2 : Value} (hR : Ready w) (hS : wx.cell? ⟨w.heap.size, 0, none⟩ = some c0 ∧ wx.cell? ⟨w.heap.size, 1, none⟩ = some c1 ∧ wx.cell? ⟨w.heap.size, 2, none⟩ = some c2 ∧ wx.cell? ⟨w.heap.size + 1, 0, none⟩ = some d0 ∧ wx.cell? ⟨w.heap.size + 1, 1, none⟩ = some d1 ∧ wx.cell? ⟨w.heap.size + 1, 2, none⟩ = some d2 ∧ w.heap.size + 2 ≤ wx.heap.size ∧ Below w.heap.size w wx) : Ready wx := hR.below hS.2.2.2.2.2.2.2
theorem last2 {w wx : World} {c0 c1 c2 d0 d1 d2 : Value} (hS : wx.cell? ⟨w.heap.size, 0, none⟩ = some c0 ∧ wx.cell? ⟨w.heap.size, 1, none⟩ = some c1 ∧ wx.cell? ⟨w.heap.size, 2, none⟩ = some c2 ∧ wx.cell? ⟨w.heap.size + 1, 0, none⟩ = some d0 ∧ wx.cell? ⟨w.heap.size + 1, 1, none⟩ = some d1 ∧ wx.cell? ⟨w.heap.size + 1, 2, none⟩ = some d2 ∧ w.heap.size + 2 ≤ wx.heap.size ∧ Below w.heap.size w wx) : Below w.heap.size w wx := hS.2.2.2.2.2.2.2

theorem d1 : Lib.decDigits 1 = [49] := by rw [Lib.decDigits, dif_pos (by decide)]; rfl
theorem d15 : Lib.decDigits 15 = [49, 53] := by rw [Lib.decDigits, dif_neg (by decide)]; show Lib.decDigits 1 ++ _ = _; rw [d1]; rfl
theorem d150 : Lib.decDigits 150 = [49, 53, 48] := by rw [Lib.decDigits, dif_neg (by decide)]; show Lib.decDigits 15 ++ _ = _; rw [d15]; rfl
theorem d1500 : Lib.decDigits 1500 = [49, 53, 48, 48] := by rw [Lib.decDigits, dif_neg (by decide)]; show Lib.decDigits 150 ++ _ = _; rw [d150]; rfl
theorem d15000 : Lib.decDigits 15000 = [49, 53, 48, 48, 48] := by rw [Lib.decDigits, dif_neg (by decide)]; show Lib.decDigits 1500 ++ _ = _; rw [d1500]; rfl
theorem show_dec : showS 3 15000 ⟨#[]⟩ = [49, 46, 53] := by
  have hm : mayS 3 15000 ⟨#[]⟩ = true := by decide +kernel
  rw [showS_3 hm]
  have e : decS 15000 = decL 15000 := rfl
  have e2 : decL 15000 = Lib.decDigits 1 ++ [46] ++ ((Lib.decDigits 15000).drop 1).take 1 ++ Lib.trimRightB (((Lib.decDigits 15000).drop 1).drop 1) 48 := rfl
  rw [e, e2, d1, d15000]; rfl
theorem show_text : showS 4 0 ⟨#[105, 116, 39, 115]⟩ = [39, 105, 116, 39, 39, 115, 39] := by
  have hm : mayS 4 0 ⟨#[105, 116, 39, 115]⟩ = true := by decide +kernel
  rw [showS_4 hm]; rfl
theorem check_9 : mayS 9 0 ⟨#[]⟩ = false := by decide +kernel

set_option maxHeartbeats 4000000 in
theorem awake_any (w : World) (hR : Ready w) : Calls Tryd.prog 13 #[] w fun e w' => e = .returned (.bool true) ∧ Below w.heap.size w w' := by
  have f1 : cmpC 2 1 ⟨#[]⟩ 3 15000 ⟨#[]⟩ = -1 := by decide
  have f2 : cmpB 2 3 = true := by decide
  have f3 : tk (notT (lg 1 1)) = 1 := by decide
  have f4 : tn (notT (lg 1 1)) = 0 := by decide
  have f5 : tk (andT (lg 0 0) (lg 1 0)) = 1 := by decide
  have f6 : tn (andT (lg 0 0) (lg 1 0)) = 0 := by decide
  have f7 : tk (orT (lg 0 0) (lg 1 1)) = 1 := by decide
  have f8 : tn (orT (lg 0 0) (lg 1 1)) = 1 := by decide
  have f9 := show_dec
  have f10 := show_text
  have f11 := check_9
  go_enter Tryd.func13, Tryd.ntmps13
  go_wp2_with fail
  refine (Compare_any _ _ _ _ _ _ _ (by omega) (by omega) (by omega) (by omega)).mono ?_
  rintro e w1 ⟨rfl, hb1⟩
  have S0 := keep2 (boxes2 w _ _ _ _ _ _) hb1
  go_wp2_with fail
  go_region_held3 (fun w' => w'.cell? ⟨w.heap.size, 0, none⟩ = some (.int .i64 0) ∧ w'.cell? ⟨w.heap.size, 1, none⟩ = some (.int .i64 0) ∧ w'.cell? ⟨w.heap.size, 2, none⟩ = some (.string ⟨#[]⟩) ∧ w'.cell? ⟨w.heap.size + 1, 0, none⟩ = some (.int .i64 1) ∧ w'.cell? ⟨w.heap.size + 1, 1, none⟩ = some (.int .i64 1) ∧ w'.cell? ⟨w.heap.size + 1, 2, none⟩ = some (.string ⟨#[]⟩) ∧ w.heap.size + 2 ≤ w'.heap.size ∧ Below w.heap.size w w') (first | exact keep2 (by assumption) hb | exact keep2d S0) (first | (go_at_call 14; refine (Not_any _ _ _ _).mono ?_; rintro e w' ⟨rfl, hb⟩) | (go_at_call 16; refine (And_any _ _ _ _ _ _ _).mono ?_; rintro e w' ⟨rfl, hb⟩) | (go_at_call 18; refine (Or_any _ _ _ _ _ _ _).mono ?_; rintro e w' ⟨rfl, hb⟩) | (go_at_call 11; refine (Show_any _ _ _ (by omega) (by omega) _ ?_).mono ?_; (exact ready2 hR (by assumption)); rintro e w' ⟨rfl, hb⟩) | (go_at_call 9; refine (Check_any _ _ _ _ ?_).mono ?_; (exact ready2 hR (by assumption)); rintro e w' ⟨rfl, hb⟩))
  go_wp2
  go_ret
  exact ⟨by simp, last2 (by assumption)⟩
end Go.Proofs.YtejniencggnkiaaDoor
