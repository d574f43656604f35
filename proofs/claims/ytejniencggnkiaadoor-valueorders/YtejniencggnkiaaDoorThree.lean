/- Three boxes that a region reads; an array of three values opened: for the laws over three values. -/
import Derived.Test.YtejniencggnkiaaDoorAwake
import Derived.Test.YtejniencggnkiaaDoorFrame
import Derived.Deep.CutRange
namespace Go.Proofs.YtejniencggnkiaaDoor
open Go.Shelf Go.ChangeShapes Go.WideShapes Go.ChangeAt Go.RowKit Go.Joins

theorem keep3 {w wx w' : World} {b c d : Nat} {c0 c1 c2 d0 d1 d2 g0 g1 g2 : Value} (hS : wx.cell? ⟨b, 0, none⟩ = some c0 ∧ wx.cell? ⟨b, 1, none⟩ = some c1 ∧ wx.cell? ⟨b, 2, none⟩ = some c2 ∧ wx.cell? ⟨c, 0, none⟩ = some d0 ∧ wx.cell? ⟨c, 1, none⟩ = some d1 ∧ wx.cell? ⟨c, 2, none⟩ = some d2 ∧ wx.cell? ⟨d, 0, none⟩ = some g0 ∧ wx.cell? ⟨d, 1, none⟩ = some g1 ∧ wx.cell? ⟨d, 2, none⟩ = some g2 ∧ b < wx.heap.size ∧ c < wx.heap.size ∧ d < wx.heap.size ∧ Below w.heap.size w wx) (hb : Below wx.heap.size wx w') : w'.cell? ⟨b, 0, none⟩ = some c0 ∧ w'.cell? ⟨b, 1, none⟩ = some c1 ∧ w'.cell? ⟨b, 2, none⟩ = some c2 ∧ w'.cell? ⟨c, 0, none⟩ = some d0 ∧ w'.cell? ⟨c, 1, none⟩ = some d1 ∧ w'.cell? ⟨c, 2, none⟩ = some d2 ∧ w'.cell? ⟨d, 0, none⟩ = some g0 ∧ w'.cell? ⟨d, 1, none⟩ = some g1 ∧ w'.cell? ⟨d, 2, none⟩ = some g2 ∧ b < w'.heap.size ∧ c < w'.heap.size ∧ d < w'.heap.size ∧ Below w.heap.size w w' := by
  obtain ⟨h0, h1, h2, h3, h4, h5, h6, h7, h8, sb, sc, sd, hB⟩ := hS
  have hz := hB.size
  have hz2 := hb.size
  refine ⟨?_, ?_, ?_, ?_, ?_, ?_, ?_, ?_, ?_, by omega, by omega, by omega, hB.trans (hb.mono hz)⟩
  · rw [hb.cell (by simpa using sb)]; exact h0
  · rw [hb.cell (by simpa using sb)]; exact h1
  · rw [hb.cell (by simpa using sb)]; exact h2
  · rw [hb.cell (by simpa using sc)]; exact h3
  · rw [hb.cell (by simpa using sc)]; exact h4
  · rw [hb.cell (by simpa using sc)]; exact h5
  · rw [hb.cell (by simpa using sd)]; exact h6
  · rw [hb.cell (by simpa using sd)]; exact h7
  · rw [hb.cell (by simpa using sd)]; exact h8
theorem keep3d {w wx : World} {b c d : Nat} {c0 c1 c2 d0 d1 d2 g0 g1 g2 : Value} (hS : wx.cell? ⟨b, 0, none⟩ = some c0 ∧ wx.cell? ⟨b, 1, none⟩ = some c1 ∧ wx.cell? ⟨b, 2, none⟩ = some c2 ∧ wx.cell? ⟨c, 0, none⟩ = some d0 ∧ wx.cell? ⟨c, 1, none⟩ = some d1 ∧ wx.cell? ⟨c, 2, none⟩ = some d2 ∧ wx.cell? ⟨d, 0, none⟩ = some g0 ∧ wx.cell? ⟨d, 1, none⟩ = some g1 ∧ wx.cell? ⟨d, 2, none⟩ = some g2 ∧ b < wx.heap.size ∧ c < wx.heap.size ∧ d < wx.heap.size ∧ Below w.heap.size w wx) : wx.drew.cell? ⟨b, 0, none⟩ = some c0 ∧ wx.drew.cell? ⟨b, 1, none⟩ = some c1 ∧ wx.drew.cell? ⟨b, 2, none⟩ = some c2 ∧ wx.drew.cell? ⟨c, 0, none⟩ = some d0 ∧ wx.drew.cell? ⟨c, 1, none⟩ = some d1 ∧ wx.drew.cell? ⟨c, 2, none⟩ = some d2 ∧ wx.drew.cell? ⟨d, 0, none⟩ = some g0 ∧ wx.drew.cell? ⟨d, 1, none⟩ = some g1 ∧ wx.drew.cell? ⟨d, 2, none⟩ = some g2 ∧ b < wx.drew.heap.size ∧ c < wx.drew.heap.size ∧ d < wx.drew.heap.size ∧ Below w.heap.size w wx.drew := by
  obtain ⟨h0, h1, h2, h3, h4, h5, h6, h7, h8, sb, sc, sd, hB⟩ := hS
  exact ⟨h0, h1, h2, h3, h4, h5, h6, h7, h8, sb, sc, sd, hB.drew⟩
theorem last3 {w wx : World} {b c d : Nat} {c0 c1 c2 d0 d1 d2 g0 g1 g2 : Value} (hS : wx.cell? ⟨b, 0, none⟩ = some c0 ∧ wx.cell? ⟨b, 1, none⟩ = some c1 ∧ wx.cell? ⟨b, 2, none⟩ = some c2 ∧ wx.cell? ⟨c, 0, none⟩ = some d0 ∧ wx.cell? ⟨c, 1, none⟩ = some d1 ∧ wx.cell? ⟨c, 2, none⟩ = some d2 ∧ wx.cell? ⟨d, 0, none⟩ = some g0 ∧ wx.cell? ⟨d, 1, none⟩ = some g1 ∧ wx.cell? ⟨d, 2, none⟩ = some g2 ∧ b < wx.heap.size ∧ c < wx.heap.size ∧ d < wx.heap.size ∧ Below w.heap.size w wx) : Below w.heap.size w wx := by
  obtain ⟨h0, h1, h2, h3, h4, h5, h6, h7, h8, sb, sc, sd, hB⟩ := hS
  exact hB
theorem ready3 {w wx : World} {b c d : Nat} {c0 c1 c2 d0 d1 d2 g0 g1 g2 : Value} (hR : Ready w) (hS : wx.cell? ⟨b, 0, none⟩ = some c0 ∧ wx.cell? ⟨b, 1, none⟩ = some c1 ∧ wx.cell? ⟨b, 2, none⟩ = some c2 ∧ wx.cell? ⟨c, 0, none⟩ = some d0 ∧ wx.cell? ⟨c, 1, none⟩ = some d1 ∧ wx.cell? ⟨c, 2, none⟩ = some d2 ∧ wx.cell? ⟨d, 0, none⟩ = some g0 ∧ wx.cell? ⟨d, 1, none⟩ = some g1 ∧ wx.cell? ⟨d, 2, none⟩ = some g2 ∧ b < wx.heap.size ∧ c < wx.heap.size ∧ d < wx.heap.size ∧ Below w.heap.size w wx) : Ready wx := hR.below (last3 hS)

theorem cells35 : Tryd.prog.cellsOf 35 = 9 := by kernel_rfl
theorem laidOut : laidOutB Tryd.prog = true := by kernel_rfl
theorem okWide_arr {W : World} {base : Nat} {v : Value} (h : Value.okWide Tryd.prog W .any base 35 v) : ∃ cs, v = .agg cs ∧ cs.size = 9 := by
  simp only [Value.okWide, Tryd.underlying35] at h
  obtain ⟨cs, h1, h2, _⟩ := h
  exact ⟨cs, h1, h2.trans cells35⟩
theorem array9 {cs : Array Value} (h : cs.size = 9) : ∃ a b c d e f g h i, cs = #[a, b, c, d, e, f, g, h, i] := by
  obtain ⟨l⟩ := cs
  match l, h with
  | [a, b, c, d, e, f, g, h, i], _ => exact ⟨a, b, c, d, e, f, g, h, i, rfl⟩
section
variable {H : Type} {enc : TypeId × Value → H}
set_option maxRecDepth 100000 in
theorem open_cells {W : World} {sp : Nat → Bool} {held : Bool} {m : Nat} {v0 v1 v2 : Value} {x : DataW H × List MemPlace} (h : DataW.trod enc Tryd.prog W 0 sp held m 23 [v0, v1, v2] = some x) :
    ∃ (k n : Int) (t : ByteArray), v0 = .int .i64 k ∧ v1 = .int .i64 n ∧ v2 = .string t ∧ x = (.agg [.lit (.int .i64 k), .lit (.int .i64 n), .lit (.string t.data.toList)], []) ∧ (Lit.int .i64 k).wf = true ∧ (Lit.int .i64 n).wf = true ∧ t.size ≤ maxLen := by
  obtain ⟨y0, y1, y2, q, rfl, _, h0, h1, h2⟩ := Go.Deep.trod_struct3 Tryd.underlying23 h
  obtain ⟨k, e0, rfl, wk⟩ := DataW.trod_int Tryd.underlying3 h0
  obtain ⟨n, e1, rfl, wn⟩ := DataW.trod_int Tryd.underlying3 h1
  obtain ⟨t, e2, rfl, wt⟩ := DataW.trod_string Tryd.underlying9 h2
  simp only [cells3, show Tryd.prog.cellsOf 9 = 1 from by kernel_rfl, List.drop_zero, List.take_succ_cons, List.take_zero, List.drop_succ_cons, List.cons.injEq, and_true] at e0 e1 e2
  exact ⟨k, n, t, e0, e1, e2, rfl, wk, wn, wt⟩
set_option maxRecDepth 100000 in
/-- An array of three values that came in. -/
theorem open_arr {W : World} {base : Nat} {v : Value} {d : DataW H} {p : List MemPlace} (hv : Value.okWide Tryd.prog W .any base 35 v) (h : DataW.Trod enc Tryd.prog W 0 (fun _ => true) true 35 v d p) :
    ∃ (k n k' n' k'' n'' : Int) (t t' t'' : ByteArray), v = .agg #[.int .i64 k, .int .i64 n, .string t, .int .i64 k', .int .i64 n', .string t', .int .i64 k'', .int .i64 n'', .string t''] ∧ p = [] ∧ (Lit.int .i64 n).wf = true ∧ (Lit.int .i64 n').wf = true ∧ (Lit.int .i64 n'').wf = true := by
  obtain ⟨cs, rfl, hsz⟩ := okWide_arr hv
  obtain ⟨a0, a1, a2, a3, a4, a5, a6, a7, a8, rfl⟩ := array9 hsz
  obtain ⟨fuel, hf⟩ := h
  obtain ⟨xs, m, rfl, hx, _, hxl, hall⟩ := DataW.trod_array Tryd.underlying35 hf
  simp only [cells23, Value.cells] at hall
  have g0 := hall 0 (by omega)
  have g1 := hall 1 (by omega)
  have g2 := hall 2 (by omega)
  match xs, hxl with
  | [x0, x1, x2], _ =>
    obtain ⟨k, n, t, rfl, rfl, rfl, rfl, _, wn, _⟩ := open_cells (by simpa using g0)
    obtain ⟨k', n', t', rfl, rfl, rfl, rfl, _, wn', _⟩ := open_cells (by simpa using g1)
    obtain ⟨k'', n'', t'', rfl, rfl, rfl, rfl, _, wn'', _⟩ := open_cells (by simpa using g2)
    simp only [Prod.mk.injEq] at hx
    exact ⟨k, n, k', n', k'', n'', t, t', t'', rfl, by rw [hx.2]; rfl, wn, wn', wn''⟩
end
end Go.Proofs.YtejniencggnkiaaDoor
