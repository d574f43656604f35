/- For any value: Check and Show of package value answer what the document's own answer. -/
import Derived.Test.YtejniencggnkiaaDoorRShow
import Derived.Test.YtejniencggnkiaaDoorAwake
import Derived.Test.YtejniencggnkiaaDoorFrame
namespace Go.Proofs.YtejniencggnkiaaDoor
open Go.Shelf Go.ChangeShapes Go.WideShapes Go.ChangeAt Go.RowKit Go.Joins
attribute [local go_sem ↓] Go.wp_at_zero Go.wp_at_succ
theorem keep1 {w wx w' : World} {c0 c1 c2 : Value} (hS : wx.cell? ⟨w.heap.size, 0, none⟩ = some c0 ∧ wx.cell? ⟨w.heap.size, 1, none⟩ = some c1 ∧ wx.cell? ⟨w.heap.size, 2, none⟩ = some c2 ∧ w.heap.size + 1 ≤ wx.heap.size ∧ Below w.heap.size w wx) (hb : Below wx.heap.size wx w') : w'.cell? ⟨w.heap.size, 0, none⟩ = some c0 ∧ w'.cell? ⟨w.heap.size, 1, none⟩ = some c1 ∧ w'.cell? ⟨w.heap.size, 2, none⟩ = some c2 ∧ w.heap.size + 1 ≤ w'.heap.size ∧ Below w.heap.size w w' := by
  obtain ⟨h0, h1, h2, hs, hB⟩ := hS
  refine ⟨?_, ?_, ?_, ?_, hB.trans (hb.mono (by omega))⟩
  · rw [hb.cell (by simp; omega)]; exact h0
  · rw [hb.cell (by simp; omega)]; exact h1
  · rw [hb.cell (by simp; omega)]; exact h2
  · have := hb.size; omega
theorem keep1d {w wx : World} {c0 c1 c2 : Value} (hS : wx.cell? ⟨w.heap.size, 0, none⟩ = some c0 ∧ wx.cell? ⟨w.heap.size, 1, none⟩ = some c1 ∧ wx.cell? ⟨w.heap.size, 2, none⟩ = some c2 ∧ w.heap.size + 1 ≤ wx.heap.size ∧ Below w.heap.size w wx) : wx.drew.cell? ⟨w.heap.size, 0, none⟩ = some c0 ∧ wx.drew.cell? ⟨w.heap.size, 1, none⟩ = some c1 ∧ wx.drew.cell? ⟨w.heap.size, 2, none⟩ = some c2 ∧ w.heap.size + 1 ≤ wx.drew.heap.size ∧ Below w.heap.size w wx.drew := ⟨hS.1, hS.2.1, hS.2.2.1, hS.2.2.2.1, hS.2.2.2.2.drew⟩
theorem boxes1 (w : World) (c0 c1 c2 : Value) : (w.alloc (.cells #[c0, c1, c2] 23)).cell? ⟨w.heap.size, 0, none⟩ = some c0 ∧ (w.alloc (.cells #[c0, c1, c2] 23)).cell? ⟨w.heap.size, 1, none⟩ = some c1 ∧ (w.alloc (.cells #[c0, c1, c2] 23)).cell? ⟨w.heap.size, 2, none⟩ = some c2 ∧ w.heap.size + 1 ≤ (w.alloc (.cells #[c0, c1, c2] 23)).heap.size ∧ Below w.heap.size w (w.alloc (.cells #[c0, c1, c2] 23)) := ⟨by go_simp, by go_simp, by go_simp, by simp, (Below.refl _ _).alloc (Nat.le_refl _) _⟩
theorem ready1 {w wx : World} {c0 c1 c2 : Value} (hR : Ready w) (hS : wx.cell? ⟨w.heap.size, 0, none⟩ = some c0 ∧ wx.cell? ⟨w.heap.size, 1, none⟩ = some c1 ∧ wx.cell? ⟨w.heap.size, 2, none⟩ = some c2 ∧ w.heap.size + 1 ≤ wx.heap.size ∧ Below w.heap.size w wx) : Ready wx := hR.below hS.2.2.2.2
theorem last1 {w wx : World} {c0 c1 c2 : Value} (hS : wx.cell? ⟨w.heap.size, 0, none⟩ = some c0 ∧ wx.cell? ⟨w.heap.size, 1, none⟩ = some c1 ∧ wx.cell? ⟨w.heap.size, 2, none⟩ = some c2 ∧ w.heap.size + 1 ≤ wx.heap.size ∧ Below w.heap.size w wx) : Below w.heap.size w wx := hS.2.2.2.2

set_option maxHeartbeats 4000000 in
theorem valueShows_walk (hRu : RunesSaid) (k n : Int) (t : ByteArray) (w : World) (hR : Ready w) (h1 : -9223372036854775808 ≤ n) (h2 : n ≤ 9223372036854775807) : Calls Tryd.prog 3 #[.agg #[.int .i64 k, .int .i64 n, .string t]] w fun e w' => e = .returned (.bool true) ∧ Below w.heap.size w w' := by
  generalize hm : mayS k n t = m
  cases m
  all_goals
    go_enter Tryd.func3, Tryd.ntmps3
    go_wp2
    go_region_held3 (fun w' => w'.cell? ⟨w.heap.size, 0, none⟩ = some (.int .i64 k) ∧ w'.cell? ⟨w.heap.size, 1, none⟩ = some (.int .i64 n) ∧ w'.cell? ⟨w.heap.size, 2, none⟩ = some (.string t) ∧ w.heap.size + 1 ≤ w'.heap.size ∧ Below w.heap.size w w') (first | exact keep1 (by assumption) hb | exact keep1d (boxes1 w _ _ _)) (first | (go_at_call 9; refine (Check_any _ _ _ _ ?_).mono ?_; (exact ready1 hR (by assumption)); rintro e w' ⟨rfl, hb⟩) | (go_at_call 10; refine (rMay_any hRu _ _ _ _).mono ?_; rintro e w' ⟨rfl, hb⟩) | (go_at_call 11; refine (Show_any _ _ _ h1 h2 _ ?_).mono ?_; (exact ready1 hR (by assumption)); rintro e w' ⟨rfl, hb⟩) | (go_at_call 12; refine (rShow_any hRu _ _ _ h1 h2 _).mono ?_; rintro e w' ⟨rfl, hb⟩) | (go_at_call 13; refine (awake_any _ ?_).mono ?_; (exact ready1 hR (by assumption)); rintro e w' ⟨rfl, hb⟩))
    go_wp2
    go_ret
    exact ⟨by simp, last1 (by assumption)⟩
end Go.Proofs.YtejniencggnkiaaDoor
