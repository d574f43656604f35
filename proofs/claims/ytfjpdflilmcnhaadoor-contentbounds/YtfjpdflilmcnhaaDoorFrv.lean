/- A view that came in, opened. -/
import Derived.Test.YtfjpdflilmcnhaaDoorFrm
import Derived.Test.YtfjpdflilmcnhaaDoorMgF
namespace Go.Proofs.YtfjpdflilmcnhaaDoor
open Go.ChangeShapes Go.WideShapes Go.ChangeAt Go.RowKit

theorem cells24 : Tryd.prog.cellsOf 24 = 4 := by kernel_rfl
section
variable {H : Type} {enc : TypeId × Value → H} {W : World} {base : Nat} {spare : Nat → Bool} {held : Bool}
theorem weigh2 (t e z : Nat) {fuel : Nat} {a : Option Addr} {len cap : Nat} {x : DataW H × List MemPlace} (ht : Tryd.prog.underlying t = some (.slice e)) (hb : Tryd.prog.bytesOf e = z) (h : DataW.trod enc Tryd.prog W base spare held fuel t [.slice a len cap] = some x) (hw : ∀ y ∈ x.1.weights Tryd.prog t, y ≤ reachBytes) :
    len * z ≤ 140737488351232 := by
  rcases Deep.open_slice ht h with ⟨hcs, _⟩ | ⟨a', len', cap', m, nn, D, Pl, hcs, _, hl, hm, hmm, hx, _⟩
  · have e : len = 0 := by
      simp only [List.cons.injEq, Value.slice.injEq, and_true] at hcs
      exact hcs.2.1
    subst e
    rw [Nat.zero_mul]; omega
  have e : len = len' := by
    simp only [List.cons.injEq, Value.slice.injEq, and_true] at hcs
    exact hcs.2.1
  subst e
  have hle : len ≤ m := by rw [hmm]; split <;> omega
  have h1 := hw ((len + (m - len)) * z) (by
    rw [hx]
    simp [DataW.weights, ht, hb])
  have hr : reachBytes = 140737488351232 := rfl
  rw [hr] at h1
  have h2 : len * z ≤ (len + (m - len)) * z := Nat.mul_le_mul_right _ (by omega)
  omega
set_option maxRecDepth 100000 in
/-- Numbers that came in. -/
theorem open_ns {fuel : Nat} {v : Value} {x : DataW H × List MemPlace} (h : DataW.trod enc Tryd.prog W base spare held fuel 22 [v] = some x) :
    ∃ a cap zs, v = .slice a zs.length cap ∧ NsAt W a zs := by
  rcases Deep.open_slice Tryd.underlying22 h with ⟨hcs, _⟩ | ⟨a, len, cap, m, nn, D, Pl, hcs, _, hl, hm, hmm, hx, hall⟩
  · refine ⟨none, 0, [], ?_, Or.inl rfl⟩
    simpa using hcs
  have hle : len ≤ m := by rw [hmm]; split <;> omega
  have hv : v = .slice (some a) len cap := by simpa using hcs
  have each : ∀ i, i < len → ∃ q : Int, W.cell? (a.add i) = some (.int .i64 q) := by
    intro i hi
    obtain ⟨cs', h1, h2⟩ := hall i (by omega)
    rw [cells3] at h1
    obtain ⟨_, hlen, hcell⟩ := World.cells?_some h1
    match cs', hlen with
    | [v0], _ =>
      obtain ⟨z0, e0, _, _⟩ := DataW.trod_int Tryd.underlying3 h2
      have c0 := hcell 0 (by omega)
      rw [Deep.add_add] at c0
      simp only [List.cons.injEq, and_true] at e0
      subst e0
      exact ⟨z0, by simpa using c0⟩
  obtain ⟨q, hq⟩ := Deep.choose_lt each
  have hrl : ((List.range len).map q).length = len := by simp
  refine ⟨some a, cap, (List.range len).map q, by rw [hrl]; exact hv, ?_⟩
  rcases Nat.eq_zero_or_pos len with h0 | h0
  · exact Or.inl (by simp [h0])
  obtain ⟨b, off, spot⟩ := a
  have hspot : spot = none := by simpa [Addr.add] using World.cell?_spot (hq 0 (by omega))
  subst hspot
  refine Or.inr ⟨b, off, rfl, fun i hi => ?_⟩
  rw [hrl] at hi
  have g := hq i hi
  rw [add_plain] at g
  rw [g, List.getElem?_map, List.getElem?_range hi]; rfl
set_option maxRecDepth 100000 in
/-- A view that came in. -/
theorem open_view {b0 : Nat} {v : Value} {d : DataW H} {p : List MemPlace} (hv : Value.okWide Tryd.prog W .any b0 24 v) (h : DataW.Trod enc Tryd.prog W base spare held 24 v d p) (hw : ∀ y ∈ d.weights Tryd.prog 24, y ≤ reachBytes) :
    ∃ k n a cap zs b, v = vwV k n a (List.length zs) cap b ∧ (List.length zs) * 8 ≤ 140737488351232 ∧ NsAt W a zs := by
  obtain ⟨c0, c1, c2, c3, y0, y1, y2, y3, m, rfl, rfl, rfl, hy0, hy1, hy2, hy3⟩ := Joins.open_agg4 Tryd.underlying24 (by kernel_rfl) cells24 hv h
  obtain ⟨k, e0, _, _⟩ := DataW.trod_int Tryd.underlying3 hy0
  obtain ⟨n, e1, _, _⟩ := DataW.trod_int Tryd.underlying3 hy1
  obtain ⟨a, cap, zs, rfl, hz⟩ := open_ns hy2
  obtain ⟨b, e3, _⟩ := DataW.trod_bool Tryd.underlying4 hy3
  simp only [List.cons.injEq, and_true] at e0 e1 e3
  subst e0 e1 e3
  have hlw := weigh2 22 3 8 Tryd.underlying22 (by kernel_rfl) hy2 (fun y hy => hw y (by
    simp only [DataW.weights, Tryd.underlying24]
    exact DataW.weights_mem_each (j := 2) (t := 22) (d := y2.1) rfl rfl y hy))
  exact ⟨k, n, a, cap, zs, b, rfl, hlw, hz⟩
end
end Go.Proofs.YtfjpdflilmcnhaaDoor
