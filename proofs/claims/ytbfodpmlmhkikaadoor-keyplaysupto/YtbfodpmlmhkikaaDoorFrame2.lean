/- The steps that come in, opened. -/
import Derived.Test.YtbfodpmlmhkikaaDoorFrame
import Derived.Test.YtbfodpmlmhkikaaDoorPMem
namespace Go.Proofs.YtbfodpmlmhkikaaDoor
open Go.Shelf Go.ChangeShapes Go.WideShapes Go.ChangeAt Go.RowKit Go.Lib Go.Joins Go.Deep

theorem cells44 : Tryd.prog.cellsOf 44 = 3 := by kernel_rfl
theorem cells22 : Tryd.prog.cellsOf 22 = 1 := by kernel_rfl
theorem bulk_mem {H : Type} {d : DataW H} {l : List (DataW H)} (h : d ∈ l) : Rows.uptoBulk d ≤ Rows.uptoBulkAll l := by
  induction l with
  | nil => cases h
  | cons x l ih =>
    simp only [Rows.uptoBulkAll]
    rcases List.mem_cons.1 h with rfl | h
    · omega
    · have := ih h; omega
section
variable {H : Type} {enc : TypeId × Value → H} {W : World} {base : Nat} {spare : Nat → Bool} {held : Bool}
set_option maxRecDepth 100000 in
theorem open_ops {b0 : Nat} {v : Value} {d : DataW H} {p : List MemPlace} (hv : Value.okWide Tryd.prog W .any b0 36 v) (h : DataW.Trod enc Tryd.prog W base spare held 36 v d p) (hk : Rows.uptoBulk d ≤ 1048576) :
    ∃ a cap len o, v = .slice a len cap ∧ len ≤ 1048576 ∧ (len = 0 ∨ ∃ b off, a = some ⟨b, off, none⟩ ∧ OpsAt W b off len o) := by
  obtain ⟨a, len, cap, rfl⟩ := okWide_slice Tryd.underlying36 hv
  obtain ⟨fuel, hf⟩ := h
  have hf' : DataW.trod enc Tryd.prog W base spare held fuel 36 [.slice a len cap] = some (d, p) := by simpa [Value.cells] using hf
  rcases open_slice Tryd.underlying36 hf' with ⟨hcs, _⟩ | ⟨a, l1, c1, m, nn, D, Pl, hcs, _, hl, hm, hmm, hx, hall⟩
  · simp only [List.cons.injEq, and_true, Value.slice.injEq] at hcs
    obtain ⟨rfl, rfl, rfl⟩ := hcs
    exact ⟨none, 0, 0, fun _ => ⟨0, 0, none, 0, []⟩, rfl, Nat.zero_le _, Or.inl rfl⟩
  simp only [List.cons.injEq, and_true, Value.slice.injEq] at hcs
  obtain ⟨rfl, rfl, rfl⟩ := hcs
  have hle : len ≤ m := by rw [hmm]; split <;> omega
  have hd : d = .slice ((List.range len).map D) ((List.range (m - len)).map fun j => D (len + j)) := by
    have := congrArg Prod.fst hx; exact this
  have hDm : ∀ i, i < len → Rows.uptoBulk (D i) ≤ 1048576 := fun i hi => by
    have h1 := bulk_mem (List.mem_map_of_mem (f := D) (List.mem_range.2 hi))
    rw [hd] at hk
    simp only [Rows.uptoBulk] at hk
    omega
  have hlk : len ≤ 1048576 := by
    have := bulk_len ((List.range len).map D)
    rw [hd] at hk
    simp only [Rows.uptoBulk] at hk
    simp at this; omega
  have each : ∀ i, i < len → ∃ q : OpV, (W.cell? (a.add (i * 3)) = some (.int .i64 q.kind) ∧ W.cell? (a.add (i * 3 + 1)) = some (.int .i64 q.n) ∧ W.cell? (a.add (i * 3 + 2)) = some (.slice q.a q.row.length q.cap)) ∧ RowAt W q.a q.row ∧ IntR q.row ∧ q.row.length ≤ 1048576 ∧ (-9223372036854775808 ≤ q.n ∧ q.n ≤ 9223372036854775807) := by
    intro i hi
    obtain ⟨cs', h1, h2⟩ := hall i (by omega)
    rw [cells44] at h1
    obtain ⟨_, hlen, hcell⟩ := World.cells?_some h1
    obtain ⟨xs, k, hk', hxy, _, hxl, hff⟩ := DataW.trod_struct Tryd.underlying44 h2
    have hDi := hDm i hi
    match xs, hxl, cs', hlen with
    | [y0, y1, y2], _, [v0, v1, v2], _ =>
      have g0 := hff 0 _ rfl
      have g1 := hff 1 _ rfl
      have g2 := hff 2 _ rfl
      simp [cells3, cells22] at g0 g1 g2
      obtain ⟨z0, e0, _, _⟩ := DataW.trod_int Tryd.underlying3 g0
      obtain ⟨z1, e1, _, w1⟩ := DataW.trod_int Tryd.underlying3 g1
      obtain ⟨a2, cap2, r2, e2, _, hr2, hi2, hu2⟩ := open_vals g2
      have c0 := hcell 0 (by omega)
      have c1 := hcell 1 (by omega)
      have c2 := hcell 2 (by omega)
      rw [add_add] at c0 c1 c2
      simp only [List.cons.injEq, and_true] at e0 e1
      subst e0 e1 e2
      have hD : D i = .agg [y0.1, y1.1, y2.1] := by
        have := congrArg Prod.fst hxy; simpa using this
      rw [hD] at hDi
      simp only [Rows.uptoBulk, Rows.uptoBulkAll] at hDi
      exact ⟨⟨z0, z1, a2, cap2, r2⟩, ⟨by simpa using c0, by simpa using c1, by simpa using c2⟩, hr2, hi2, by dsimp only; omega, wf_int w1⟩
  haveI : Inhabited OpV := ⟨⟨0, 0, none, 0, []⟩⟩
  obtain ⟨q, hq⟩ := choose_lt each
  refine ⟨some a, cap, len, q, rfl, hlk, ?_⟩
  rcases Nat.eq_zero_or_pos len with h0 | h0
  · exact Or.inl h0
  obtain ⟨b, off, spot⟩ := a
  have hspot : spot = none := by simpa [Addr.add] using World.cell?_spot (hq 0 (by omega)).1.1
  subst hspot
  refine Or.inr ⟨b, off, rfl, ⟨fun i hi => ?_, fun i hi => ?_, fun i hi => ?_, fun i hi => (hq i hi).2.1, fun i hi => (hq i hi).2.2.1, fun i hi => (hq i hi).2.2.2.1, fun i hi => (hq i hi).2.2.2.2⟩⟩
  · have g := (hq i hi).1.1; rw [add_plain] at g; exact g
  · have g := (hq i hi).1.2.1; rw [add_plain] at g; exact g
  · have g := (hq i hi).1.2.2; rw [add_plain] at g; exact g
end
end Go.Proofs.YtbfodpmlmhkikaaDoor
