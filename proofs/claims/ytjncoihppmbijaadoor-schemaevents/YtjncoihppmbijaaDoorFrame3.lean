/- Schemas in a slice, an event: opened. -/
import Derived.Test.YtjncoihppmbijaaDoorFrame
import Derived.Test.YtjncoihppmbijaaDoorSch
import Derived.SizedLaws
namespace Go.Proofs.YtjncoihppmbijaaDoor
open Go.Shelf Go.ChangeShapes Go.WideShapes Go.ChangeAt Go.RowKit Go.Lib Go.Joins Go.Deep

theorem cells39 : Tryd.prog.cellsOf 39 = 2 := by kernel_rfl
theorem bytes52 : Tryd.prog.bytesOf 52 = 24 := by kernel_rfl
theorem weightsAll_mem {H : Type} {P : Program} {e : TypeId} : ∀ {l : List (DataW H)} {d : DataW H}, d ∈ l → ∀ n ∈ d.weights P e, n ∈ DataW.weightsAll P e l
  | d' :: r, d, hd, n, hn => by
    simp only [DataW.weightsAll, List.mem_append]
    rcases List.mem_cons.1 hd with rfl | h
    · exact Or.inl hn
    · exact Or.inr (weightsAll_mem h n hn)
section
variable {H : Type} {enc : TypeId × Value → H} {W : World} {base : Nat} {spare : Nat → Bool} {held : Bool}
theorem cols_weight {fuel : Nat} {a : Option Addr} {len cap : Nat} {x : DataW H × List MemPlace} (h : DataW.trod enc Tryd.prog W base spare held fuel 22 [.slice a len cap] = some x) (hw : ∀ y ∈ x.1.weights Tryd.prog 22, y ≤ reachBytes) :
    len * 24 ≤ 140737488355328 := by
  rcases open_slice Tryd.underlying22 h with ⟨hcs, _⟩ | ⟨a', len', cap', m, nn, D, Pl, hcs, _, hl, hm, hmm, hx, _⟩
  · have e : len = 0 := by
      simp only [List.cons.injEq, Value.slice.injEq, and_true] at hcs
      exact hcs.2.1
    omega
  have e : len = len' := by
    simp only [List.cons.injEq, Value.slice.injEq, and_true] at hcs
    exact hcs.2.1
  subst e
  have hle : len ≤ m := by rw [hmm]; split <;> omega
  have := hw ((len + (m - len)) * 24) (by
    rw [hx]
    simp [DataW.weights, Tryd.underlying22, bytes52])
  have hr : reachBytes = 140737488351232 := rfl
  rw [hr] at this
  omega
/-- A slice of schemas that came in. -/
theorem open_schemas {b0 : Nat} {v : Value} {d : DataW H} {p : List MemPlace} (hv : Value.okWide Tryd.prog W .any b0 37 v) (h : DataW.Trod enc Tryd.prog W base spare held 37 v d p) (hw : ∀ y ∈ d.weights Tryd.prog 37, y ≤ reachBytes) :
    ∃ a len cap S, v = .slice a len cap ∧ len ≤ 9223372036854775807 ∧ SchsAt W a len S := by
  obtain ⟨a0, len0, cap0, rfl⟩ := okWide_slice Tryd.underlying37 hv
  obtain ⟨fuel, hf⟩ := h
  rcases open_slice_pairs Tryd.underlying37 Tryd.underlying24 cells24 rfl rfl cells9 cells22 (by simpa [Value.cells] using hf) with ⟨hcs, _⟩ | ⟨a, len, cap, m, n, V0, V1, D0, D1, P0, P1, hcs, _, hl, hm, hmm, hx, hall⟩
  · refine ⟨none, 0, 0, fun _ => schZ, ?_, by omega, Or.inl rfl⟩
    simpa using hcs
  have hle : len ≤ m := by rw [hmm]; split <;> omega
  have hvv : Value.slice a0 len0 cap0 = .slice (some a) len cap := by simpa using hcs
  have hml : cap ≤ 9223372036854775807 := by have := hm; unfold maxLen at this; omega
  have hd : d = .slice ((List.range len).map fun i => .agg [D0 i, D1 i]) ((List.range (m - len)).map fun j => .agg [D0 (len + j), D1 (len + j)]) := by
    simp only [Prod.mk.injEq] at hx
    exact hx.1
  have hin : Inhabited Sch := ⟨schZ⟩
  obtain ⟨S, hS⟩ := choose_lt (α := Sch) (n := len) (p := fun i s => V0 i = .string s.sn ∧ V1 i = .slice s.a s.len s.cap ∧ s.len * 24 ≤ 140737488355328 ∧ ColsAt W s.a s.len s.nm s.kd) (fun i hi => by
    obtain ⟨_, _, g0, g1⟩ := hall i (by omega)
    obtain ⟨s, e, _, _⟩ := DataW.trod_string Tryd.underlying9 g0
    obtain ⟨a', len', cap', nm, kd, e1, _, hc⟩ := open_cols g1
    rw [e1] at g1
    refine ⟨⟨s, a', len', cap', nm, kd⟩, by simpa using e, e1, cols_weight g1 (fun y hy => hw y ?_), hc⟩
    rw [hd]
    have hmem : DataW.agg [D0 i, D1 i] ∈ (List.range len).map fun i => DataW.agg [D0 i, D1 i] := List.mem_map.2 ⟨i, List.mem_range.2 hi, rfl⟩
    simp only [DataW.weights, Tryd.underlying37, List.mem_cons, List.mem_append]
    refine Or.inr (Or.inl (weightsAll_mem hmem _ ?_))
    simp only [DataW.weights, Tryd.underlying24]
    exact DataW.weights_mem_each (j := 1) (t := 22) (d := D1 i) rfl rfl y hy)
  refine ⟨some a, len, cap, S, hvv, by omega, ?_⟩
  rcases Nat.eq_zero_or_pos len with h0 | h0
  · exact Or.inl h0
  obtain ⟨b, off, spot⟩ := a
  have hspot : spot = none := by simpa [Addr.add] using World.cell?_spot (hall 0 (by omega)).1
  subst hspot
  refine Or.inr ⟨b, off, rfl, fun i hi => ?_⟩
  have g := hall i (by omega)
  have gs := hS i hi
  rw [add_plain, add_plain, gs.1, gs.2.1] at g
  exact ⟨g.1, g.2.1, gs.2.2.1, gs.2.2.2⟩
/-- An event that came in. -/
theorem open_event {b0 : Nat} {v : Value} {d : DataW H} {p : List MemPlace} (hv : Value.okWide Tryd.prog W .any b0 39 v) (h : DataW.Trod enc Tryd.prog W base spare held 39 v d p) :
    ∃ en a len cap k n t, v = .agg #[.string en, .slice a len cap] ∧ len ≤ 9223372036854775807 ∧ ValsAt W a len k n t := by
  obtain ⟨c0, c1, y0, y1, m, rfl, rfl, rfl, hy0, hy1⟩ := open_agg2 Tryd.underlying39 (by kernel_rfl) cells39 hv h
  obtain ⟨sn, e0, _, _⟩ := DataW.trod_string Tryd.underlying9 hy0
  obtain ⟨a, len, cap, k, n, t, rfl, hl, hc⟩ := open_vals hy1
  simp only [List.cons.injEq, and_true] at e0
  subst e0
  exact ⟨sn, a, len, cap, k, n, t, rfl, hl, hc⟩
end
end Go.Proofs.YtjncoihppmbijaaDoor
