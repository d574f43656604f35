/- Two rows in an array, schemas in a slice, an event: opened. -/
import Derived.Test.YtjncoihppmbijaaDoorFrame
namespace Go.Proofs.YtjncoihppmbijaaDoor
open Go.Shelf Go.ChangeShapes Go.WideShapes Go.ChangeAt Go.RowKit Go.Lib Go.Joins Go.Deep

theorem cells46 : Tryd.prog.cellsOf 46 = 2 := by kernel_rfl
theorem cells33 : Tryd.prog.cellsOf 33 = 1 := by kernel_rfl
theorem cells39 : Tryd.prog.cellsOf 39 = 2 := by kernel_rfl
theorem okWide_arr {W : World} {base : Nat} {v : Value} (h : Value.okWide Tryd.prog W .any base 46 v) : ∃ cs, v = .agg cs ∧ cs.size = 2 := by
  simp only [Value.okWide, Tryd.underlying46] at h
  obtain ⟨cs, h1, h2, _⟩ := h
  exact ⟨cs, h1, h2.trans cells46⟩
theorem arr2 {cs : Array Value} (h : cs.size = 2) : ∃ a b, cs = #[a, b] := by
  obtain ⟨l⟩ := cs
  match l, h with
  | [a, b], _ => exact ⟨a, b, rfl⟩
section
variable {H : Type} {enc : TypeId × Value → H}
set_option maxRecDepth 100000 in
theorem open_rows2 {W : World} {base : Nat} {v : Value} {d : DataW H} {p : List MemPlace} (hv : Value.okWide Tryd.prog W .any base 46 v) (h : DataW.Trod enc Tryd.prog W 0 (fun _ => true) true 46 v d p) :
    ∃ b1 m1 q1 k1 n1 t1 b2 m2 q2 k2 n2 t2, v = .agg #[.slice b1 m1 q1, .slice b2 m2 q2] ∧ m1 ≤ 9223372036854775807 ∧ m2 ≤ 9223372036854775807 ∧ ValsAt W b1 m1 k1 n1 t1 ∧ ValsAt W b2 m2 k2 n2 t2 := by
  obtain ⟨cs, rfl, hsz⟩ := okWide_arr hv
  obtain ⟨a0, a1, rfl⟩ := arr2 hsz
  obtain ⟨fuel, hf⟩ := h
  obtain ⟨xs, m, rfl, hx, _, hxl, hall⟩ := DataW.trod_array Tryd.underlying46 hf
  simp only [cells33, Value.cells] at hall
  have g0 := hall 0 (by omega)
  have g1 := hall 1 (by omega)
  match xs, hxl with
  | [x0, x1], _ =>
    obtain ⟨b1, m1, q1, k1, n1, t1, e1, h1, v1⟩ := open_vals (v := a0) (by simpa using g0)
    obtain ⟨b2, m2, q2, k2, n2, t2, e2, h2, v2⟩ := open_vals (v := a1) (by simpa using g1)
    subst e1 e2
    exact ⟨b1, m1, q1, k1, n1, t1, b2, m2, q2, k2, n2, t2, rfl, h1, h2, v1, v2⟩
end
end Go.Proofs.YtjncoihppmbijaaDoor
