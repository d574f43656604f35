/- Arrivals opened, with the bounds of their numbers; the table of ranks. -/
import Derived.Test.YtfjpdflilmcnhaaDoorFrv
import Derived.Test.YtfjpdflilmcnhaaDoorVat
import Derived.Test.YtfjpdflilmcnhaaDoorMgH
import Derived.Lib.LaidIn
import Derived.Lib.LaidU8
import Derived.Lib.LaidTab
namespace Go.Proofs.YtfjpdflilmcnhaaDoor
open Go.ChangeShapes Go.WideShapes Go.ChangeAt Go.RowKit

open Go.Lib Go.Joins Go.Deep Go.Shelf
section
variable {H : Type} {enc : TypeId × Value → H} {W : World} {base : Nat} {spare : Nat → Bool} {held : Bool}
set_option maxRecDepth 100000 in
/-- A row that came in. -/
theorem open_valsR {fuel : Nat} {v : Value} {x : DataW H × List MemPlace} (h : DataW.trod enc Tryd.prog W base spare held fuel 38 [v] = some x) :
    ∃ a cap r, v = .slice a r.length cap ∧ RowAt W a r ∧ ∀ v ∈ r, -9223372036854775808 ≤ v.2.1 ∧ v.2.1 ≤ 9223372036854775807 := by
  rcases open_slice Tryd.underlying38 h with ⟨hcs, _⟩ | ⟨a, len, cap, m, nn, D, Pl, hcs, _, hl, hm, hmm, hx, hall⟩
  · refine ⟨none, 0, [], ?_, Or.inl rfl, fun v hv => by cases hv⟩
    simpa using hcs
  have hle : len ≤ m := by rw [hmm]; split <;> omega
  have hv : v = .slice (some a) len cap := by simpa using hcs
  have each : ∀ i, i < len → ∃ q : Int × Int × ByteArray, (W.cell? (a.add (i * 3)) = some (.int .i64 q.1) ∧ W.cell? (a.add (i * 3 + 1)) = some (.int .i64 q.2.1) ∧ W.cell? (a.add (i * 3 + 2)) = some (.string q.2.2)) ∧ (-9223372036854775808 ≤ q.2.1 ∧ q.2.1 ≤ 9223372036854775807) := by
    intro i hi
    obtain ⟨cs', h1, h2⟩ := hall i (by omega)
    rw [cells46] at h1
    obtain ⟨_, hlen, hcell⟩ := World.cells?_some h1
    obtain ⟨xs, k, hk, hxy, _, hxl, hf⟩ := DataW.trod_struct Tryd.underlying46 h2
    match xs, hxl, cs', hlen with
    | [y0, y1, y2], _, [v0, v1, v2], _ =>
      have g0 := hf 0 _ rfl
      have g1 := hf 1 _ rfl
      have g2 := hf 2 _ rfl
      simp [cells3, cells9] at g0 g1 g2
      obtain ⟨z0, e0, _, _⟩ := DataW.trod_int Tryd.underlying3 g0
      obtain ⟨z1, e1, _, wz1⟩ := DataW.trod_int Tryd.underlying3 g1
      obtain ⟨z2, e2, _, _⟩ := DataW.trod_string Tryd.underlying9 g2
      have c0 := hcell 0 (by omega)
      have c1 := hcell 1 (by omega)
      have c2 := hcell 2 (by omega)
      rw [add_add] at c0 c1 c2
      simp only [List.cons.injEq, and_true] at e0 e1 e2
      subst e0 e1 e2
      exact ⟨(z0, z1, z2), ⟨by simpa using c0, by simpa using c1, by simpa using c2⟩, bounds_i64 wz1⟩
  obtain ⟨q, hq⟩ := choose_lt each
  have hva : ValsAt W (some a) len (fun i => (q i).1) (fun i => (q i).2.1) (fun i => (q i).2.2) := by
    rcases Nat.eq_zero_or_pos len with h0 | h0
    · exact Or.inl h0
    obtain ⟨b, off, spot⟩ := a
    have hspot : spot = none := by simpa [Addr.add] using World.cell?_spot (hq 0 (by omega)).1.1
    subst hspot
    refine Or.inr ⟨b, off, rfl, fun i hi => ?_⟩
    have g := (hq i hi).1
    rw [Go.WideShapes.add_plain, Go.WideShapes.add_plain, Go.WideShapes.add_plain] at g
    exact g
  obtain ⟨r, hrl, hra, hrv⟩ := row_of_vals q hva
  refine ⟨some a, cap, r, by rw [hrl]; exact hv, hra, fun v hv => ?_⟩
  obtain ⟨i, hi, rfl⟩ := List.getElem_of_mem hv
  have h1 := (hrv i (by omega)).2.1
  have h2 := (hq i (by omega)).2
  unfold nAt at h1
  rw [List.getD_eq_getElem?_getD, List.getElem?_eq_getElem hi] at h1
  rw [← h1] at h2
  exact h2
set_option maxRecDepth 100000 in
/-- Arrivals that came in. -/
theorem open_arrsR {b0 : Nat} {v : Value} {d : DataW H} {p : List MemPlace} (hv : Value.okWide Tryd.prog W .any b0 31 v) (h : DataW.Trod enc Tryd.prog W base spare held 31 v d p) (hw : ∀ y ∈ d.weights Tryd.prog 31, y ≤ reachBytes) :
    ∃ a cap l, v = .slice a l.length cap ∧ l.length ≤ 9223372036854775807 ∧ ArsAt W a l ∧ (∀ x ∈ l, x.row.length * 32 ≤ 140737488355328) ∧ Rng l := by
  obtain ⟨a, len, cap, rfl⟩ := okWide_slice Tryd.underlying31 hv
  obtain ⟨fuel, hf⟩ := h
  have hf' : DataW.trod enc Tryd.prog W base spare held fuel 31 [.slice a len cap] = some (d, p) := by simpa [Value.cells] using hf
  rcases open_slice Tryd.underlying31 hf' with ⟨hcs, _⟩ | ⟨a, l1, c1, m, nn, D, Pl, hcs, _, hl, hm, hmm, hx, hall⟩
  · simp only [List.cons.injEq, and_true, Value.slice.injEq] at hcs
    obtain ⟨rfl, rfl, rfl⟩ := hcs
    exact ⟨none, 0, [], rfl, Nat.zero_le _, ⟨Or.inl rfl, (fun x hx => by cases hx)⟩, (fun x hx => by cases hx), (fun x hx => by cases hx)⟩
  simp only [List.cons.injEq, and_true, Value.slice.injEq] at hcs
  obtain ⟨rfl, rfl, rfl⟩ := hcs
  have hle : len ≤ m := by rw [hmm]; split <;> omega
  have hml : cap ≤ 9223372036854775807 := by have := hm; unfold maxLen at this; omega
  have hd : d = .slice ((List.range len).map D) ((List.range (m - len)).map fun j => D (len + j)) := by
    have := congrArg Prod.fst hx; exact this
  have each : ∀ i, i < len → ∃ q : Arv, (W.cell? (a.add (i * 3)) = some (.int .i64 q.seq) ∧ W.cell? (a.add (i * 3 + 1)) = some (.int .i64 q.time) ∧ W.cell? (a.add (i * 3 + 2)) = some (.slice q.a q.row.length q.cap)) ∧ RowAt W q.a q.row ∧ q.row.length * 32 ≤ 140737488355328 ∧ ∀ v ∈ q.row, -9223372036854775808 ≤ v.2.1 ∧ v.2.1 ≤ 9223372036854775807 := by
    intro i hi
    obtain ⟨cs', h1, h2⟩ := hall i (by omega)
    rw [cells40] at h1
    obtain ⟨_, hlen, hcell⟩ := World.cells?_some h1
    obtain ⟨xs, k, hk', hxy, _, hxl, hff⟩ := DataW.trod_struct Tryd.underlying40 h2
    match xs, hxl, cs', hlen with
    | [y0, y1, y2], _, [v0, v1, v2], _ =>
      have g0 := hff 0 _ rfl
      have g1 := hff 1 _ rfl
      have g2 := hff 2 _ rfl
      simp [cells3, cells38] at g0 g1 g2
      obtain ⟨z0, e0, _, _⟩ := DataW.trod_int Tryd.underlying3 g0
      obtain ⟨z1, e1, _, _⟩ := DataW.trod_int Tryd.underlying3 g1
      obtain ⟨a2, cap2, r2, e2, hr2, hb2⟩ := open_valsR g2
      have c0 := hcell 0 (by omega)
      have c1 := hcell 1 (by omega)
      have c2 := hcell 2 (by omega)
      rw [add_add] at c0 c1 c2
      simp only [List.cons.injEq, and_true] at e0 e1
      subst e0 e1 e2
      have hD : D i = .agg [y0.1, y1.1, y2.1] := by
        have := congrArg Prod.fst hxy; simpa using this
      have hmem : D i ∈ (List.range len).map D := List.mem_map_of_mem (List.mem_range.2 hi)
      have hlw := weigh 38 46 32 Tryd.underlying38 (by kernel_rfl) g2 (fun y hy => hw y (by
        rw [hd]
        simp only [DataW.weights, Tryd.underlying31, List.mem_cons, List.mem_append]
        refine Or.inr (Or.inl (weightsAll_mem hmem _ ?_))
        rw [hD]
        simp only [DataW.weights, Tryd.underlying40]
        exact DataW.weights_mem_each (j := 2) (t := 38) (d := y2.1) rfl rfl y hy))
      exact ⟨⟨z0, z1, a2, cap2, r2⟩, ⟨by simpa using c0, by simpa using c1, by simpa using c2⟩, hr2, hlw, hb2⟩
  haveI : Inhabited Arv := ⟨arZ⟩
  obtain ⟨q, hq⟩ := choose_lt each
  have hrl : ((List.range len).map q).length = len := by simp
  have hat : ∀ i, i < len → aAt ((List.range len).map q) i = q i := fun i hi => by
    unfold aAt
    rw [List.getD_eq_getElem?_getD, List.getElem?_map, List.getElem?_range hi]; rfl
  refine ⟨some a, cap, (List.range len).map q, by rw [hrl], by rw [hrl]; omega, ⟨?_, fun x hx => ?_⟩, fun x hx => ?_, fun x hx => ?_⟩
  · rcases Nat.eq_zero_or_pos len with h0 | h0
    · exact Or.inl (by simp [h0])
    obtain ⟨b, off, spot⟩ := a
    have hspot : spot = none := by simpa [Addr.add] using World.cell?_spot (hq 0 (by omega)).1.1
    subst hspot
    refine Or.inr ⟨b, off, rfl, fun i hi => ?_⟩
    rw [hrl] at hi
    have g := (hq i hi).1
    rw [Go.WideShapes.add_plain, Go.WideShapes.add_plain, Go.WideShapes.add_plain] at g
    rw [hat i hi]
    exact g
  · obtain ⟨i, hi, rfl⟩ := List.mem_map.1 hx
    exact (hq i (List.mem_range.1 hi)).2.1
  · obtain ⟨i, hi, rfl⟩ := List.mem_map.1 hx
    exact (hq i (List.mem_range.1 hi)).2.2.1
  · obtain ⟨i, hi, rfl⟩ := List.mem_map.1 hx
    exact (hq i (List.mem_range.1 hi)).2.2.2
end
theorem tabIs_of_reads {W : World} {name : String} {k : IntKind} {zs : List Int} {g : Nat} {t e : TypeId} {n : Nat} (hg : Tryd.prog.globalNamed name = some g) (hty : (Tryd.prog.globals[g]?).map (·.type) = some t)
    (ht : Tryd.prog.underlying t = some (.array n e)) (he : Tryd.prog.underlying e = some (.int k)) (hce : Tryd.prog.cellsOf e = 1) (hct : Tryd.prog.cellsOf t = n)
    (h : VarReads Tryd.prog W name (tabData k zs)) : TabIs Tryd.prog W name k zs := by
  obtain ⟨g', t', cs, fuel, p, hg', hty', hvar, hd⟩ := h
  obtain rfl := Option.some.inj (hg.symm.trans hg')
  obtain rfl := Option.some.inj (hty.symm.trans hty')
  have hcs := cells_of_tab ht he hce hct hd
  unfold TabIs
  rw [hvar, ← hcs]

theorem ranks_eq : (Rows.laid_marquee_value_ranks : DataW Unit) = tabData .i64 [0, 1, 2, 2, 3] := by kernel_rfl
theorem ranks_of {W : World} (h1 : VarReads Tryd.prog W "marquee/value.ranks" Rows.laid_marquee_value_ranks) : Ranks W :=
  tabIs_of_reads (g := 0) (t := 108) (e := 3) (n := 5) (by kernel_rfl) (by kernel_rfl) Tryd.underlying108 Tryd.underlying3 (by kernel_rfl) (by kernel_rfl) (ranks_eq ▸ h1)
end Go.Proofs.YtfjpdflilmcnhaaDoor
