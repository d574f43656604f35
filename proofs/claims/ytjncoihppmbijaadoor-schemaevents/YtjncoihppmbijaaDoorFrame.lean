/- What the rows share: schemas and rows opened, the tables that the rows list, a world that holds them. -/
import Derived.Test.YtjncoihppmbijaaDoorCards
import Derived.Test.YtjncoihppmbijaaDoorTie
import Derived.Test.YtjncoihppmbijaaDoorMay
import Derived.Test.YtjncoihppmbijaaDoorMem
import Derived.Lib.LaidIn
import Derived.Lib.LaidU8T
import Derived.Lib.SmallJoins
import Derived.Deep.DeepHandedRow
import Derived.Deep.DeepWitnessRowRef
import Derived.Deep.SlicePairs
import Derived.ProofKit
import Derived.OpenShut
namespace Go.Proofs.YtjncoihppmbijaaDoor
open Go.Shelf Go.ChangeShapes Go.WideShapes Go.ChangeAt Go.RowKit Go.Lib Go.Joins Go.Deep

theorem own : ownKnob Tryd.prog.godebug = none := by kernel_rfl
theorem laidOut : laidOutB Tryd.prog = true := by kernel_rfl
theorem cells24 : Tryd.prog.cellsOf 24 = 2 := by kernel_rfl
theorem cells52 : Tryd.prog.cellsOf 52 = 2 := by kernel_rfl
theorem cells50 : Tryd.prog.cellsOf 50 = 3 := by kernel_rfl
theorem cells22 : Tryd.prog.cellsOf 22 = 1 := by kernel_rfl
theorem cells9 : Tryd.prog.cellsOf 9 = 1 := by kernel_rfl
theorem cells3 : Tryd.prog.cellsOf 3 = 1 := by kernel_rfl

section
variable {H : Type} {enc : TypeId × Value → H} {W : World} {base : Nat} {spare : Nat → Bool} {held : Bool}
/-- A slice of columns that came in. -/
theorem open_cols {fuel : Nat} {v : Value} {x : DataW H × List MemPlace} (h : DataW.trod enc Tryd.prog W base spare held fuel 22 [v] = some x) :
    ∃ a len cap nm kd, v = .slice a len cap ∧ len ≤ 9223372036854775807 ∧ ColsAt W a len nm kd := by
  rcases open_slice_pairs Tryd.underlying22 Tryd.underlying52 cells52 rfl rfl cells9 cells3 h with ⟨hcs, _⟩ | ⟨a, len, cap, m, n, V0, V1, D0, D1, P0, P1, hcs, _, hl, hm, hmm, _, hall⟩
  · refine ⟨none, 0, 0, fun _ => ByteArray.empty, fun _ => 0, ?_, by omega, Or.inl rfl⟩
    simpa using hcs
  have hle : len ≤ m := by rw [hmm]; split <;> omega
  have hv : v = .slice (some a) len cap := by simpa using hcs
  have hml : cap ≤ 9223372036854775807 := by have := hm; unfold maxLen at this; omega
  obtain ⟨nm, hnm⟩ := choose_lt (α := ByteArray) (n := len) (p := fun i s => V0 i = .string s) (fun i hi => by
    obtain ⟨s, e, _, _⟩ := DataW.trod_string Tryd.underlying9 (hall i (by omega)).2.2.1
    exact ⟨s, by simpa using e⟩)
  obtain ⟨kd, hkd⟩ := choose_lt (α := Int) (n := len) (p := fun i k => V1 i = .int .i64 k) (fun i hi => by
    obtain ⟨s, e, _, _⟩ := DataW.trod_int Tryd.underlying3 (hall i (by omega)).2.2.2
    exact ⟨s, by simpa using e⟩)
  refine ⟨some a, len, cap, nm, kd, hv, by omega, ?_⟩
  rcases Nat.eq_zero_or_pos len with h0 | h0
  · exact Or.inl h0
  obtain ⟨b, off, spot⟩ := a
  have hspot : spot = none := by simpa [Addr.add] using World.cell?_spot (hall 0 (by omega)).1
  subst hspot
  refine Or.inr ⟨b, off, rfl, fun i hi => ?_⟩
  have g := hall i (by omega)
  rw [add_plain, add_plain, hnm i hi, hkd i hi] at g
  exact ⟨g.1, g.2.1⟩
/-- A slice of values that came in. -/
theorem open_vals {fuel : Nat} {v : Value} {x : DataW H × List MemPlace} (h : DataW.trod enc Tryd.prog W base spare held fuel 33 [v] = some x) :
    ∃ a len cap k n t, v = .slice a len cap ∧ len ≤ 9223372036854775807 ∧ ValsAt W a len k n t := by
  rcases open_slice Tryd.underlying33 h with ⟨hcs, _⟩ | ⟨a, len, cap, m, nn, D, Pl, hcs, _, hl, hm, hmm, _, hall⟩
  · refine ⟨none, 0, 0, fun _ => 0, fun _ => 0, fun _ => ByteArray.empty, ?_, by omega, Or.inl rfl⟩
    simpa using hcs
  have hle : len ≤ m := by rw [hmm]; split <;> omega
  have hv : v = .slice (some a) len cap := by simpa using hcs
  have hml : cap ≤ 9223372036854775807 := by have := hm; unfold maxLen at this; omega
  have each : ∀ i, i < len → ∃ q : Int × Int × ByteArray, W.cell? (a.add (i * 3)) = some (.int .i64 q.1) ∧ W.cell? (a.add (i * 3 + 1)) = some (.int .i64 q.2.1) ∧ W.cell? (a.add (i * 3 + 2)) = some (.string q.2.2) := by
    intro i hi
    obtain ⟨cs', h1, h2⟩ := hall i (by omega)
    rw [cells50] at h1
    obtain ⟨_, hlen, hcell⟩ := World.cells?_some h1
    obtain ⟨xs, k, hk, hxy, _, hxl, hf⟩ := DataW.trod_struct Tryd.underlying50 h2
    match xs, hxl, cs', hlen with
    | [y0, y1, y2], _, [v0, v1, v2], _ =>
      have g0 := hf 0 _ rfl
      have g1 := hf 1 _ rfl
      have g2 := hf 2 _ rfl
      simp [cells3, cells9] at g0 g1 g2
      obtain ⟨z0, e0, _, _⟩ := DataW.trod_int Tryd.underlying3 g0
      obtain ⟨z1, e1, _, _⟩ := DataW.trod_int Tryd.underlying3 g1
      obtain ⟨z2, e2, _, _⟩ := DataW.trod_string Tryd.underlying9 g2
      have c0 := hcell 0 (by omega)
      have c1 := hcell 1 (by omega)
      have c2 := hcell 2 (by omega)
      rw [add_add] at c0 c1 c2
      simp only [List.cons.injEq, and_true] at e0 e1 e2
      subst e0 e1 e2
      exact ⟨(z0, z1, z2), by simpa using c0, by simpa using c1, by simpa using c2⟩
  obtain ⟨q, hq⟩ := choose_lt each
  refine ⟨some a, len, cap, fun i => (q i).1, fun i => (q i).2.1, fun i => (q i).2.2, hv, by omega, ?_⟩
  rcases Nat.eq_zero_or_pos len with h0 | h0
  · exact Or.inl h0
  obtain ⟨b, off, spot⟩ := a
  have hspot : spot = none := by simpa [Addr.add] using World.cell?_spot (hq 0 (by omega)).1
  subst hspot
  refine Or.inr ⟨b, off, rfl, fun i hi => ?_⟩
  have g := hq i hi
  rw [add_plain, add_plain, add_plain] at g
  exact g
/-- A schema that came in. -/
theorem open_schema {b0 : Nat} {v : Value} {d : DataW H} {p : List MemPlace} (hv : Value.okWide Tryd.prog W .any b0 24 v) (h : DataW.Trod enc Tryd.prog W base spare held 24 v d p) :
    ∃ sn a len cap nm kd, v = .agg #[.string sn, .slice a len cap] ∧ sn.size ≤ maxLen ∧ len ≤ 9223372036854775807 ∧ ColsAt W a len nm kd := by
  obtain ⟨c0, c1, y0, y1, m, rfl, rfl, rfl, hy0, hy1⟩ := open_agg2 Tryd.underlying24 (by kernel_rfl) cells24 hv h
  obtain ⟨sn, e0, _, ws⟩ := DataW.trod_string Tryd.underlying9 hy0
  obtain ⟨a, len, cap, nm, kd, rfl, hl, hc⟩ := open_cols hy1
  simp only [List.cons.injEq, and_true] at e0
  subst e0
  exact ⟨sn, a, len, cap, nm, kd, rfl, ws, hl, hc⟩
theorem open_row {b0 : Nat} {v : Value} {d : DataW H} {p : List MemPlace} (hv : Value.okWide Tryd.prog W .any b0 33 v) (h : DataW.Trod enc Tryd.prog W base spare held 33 v d p) :
    ∃ a len cap k n t, v = .slice a len cap ∧ len ≤ 9223372036854775807 ∧ ValsAt W a len k n t := by
  obtain ⟨a, len, cap, rfl⟩ := okWide_slice Tryd.underlying33 hv
  obtain ⟨fuel, hf⟩ := h
  exact open_vals (by simpa [Value.cells] using hf)
end

theorem acc_eq : (Rows.laid_unicode_utf8_acceptRanges : DataW Unit) = acceptData := by kernel_rfl
theorem first_eq : Rows.laid_unicode_utf8_first = firstData := by kernel_rfl
theorem ready_of {W : World} (h2 : VarReads Tryd.prog W "unicode/utf8.acceptRanges" Rows.laid_unicode_utf8_acceptRanges)
    (h3 : VarReads Tryd.prog W "unicode/utf8.first" Rows.laid_unicode_utf8_first) : Ready W where
  utf := utf8Tabs_of_readsT (U8Types.of196 Tryd.lays196) ⟨by kernel_rfl, by kernel_rfl, by kernel_rfl, by kernel_rfl, by kernel_rfl, by kernel_rfl, by kernel_rfl⟩ (first_eq ▸ h3) (acc_eq ▸ h2)

/-- A datum's cells, where it is a flat array of integers. -/
def flat : DataW Unit → Array Value
  | .agg l => (l.map fun x => match x with | .lit (.int k n) => Value.int k n | _ => .int .i64 0).toArray
  | _ => #[]
/-- The settled world, the listed variables holding what their initialisers lay. -/
def laidW (P : Program) (os : Os) : World :=
  let w0 := World.holding P os ⟨#[], #[], []⟩
  let put (h : Array Obj) (g : Nat) (cs : Array Value) : Array Obj := h.modify g fun
    | .cells _ t frozen => .cells cs t frozen
    | o => o
  let h2 := put w0.heap 0 (flat Rows.laid_unicode_utf8_first)
  let h3 := put h2 1 ((List.range 16).flatMap fun i => [Value.int .u8 (Lib.accLo i), Value.int .u8 (Lib.accHi i)]).toArray
  { w0 with heap := h3 }
set_option maxRecDepth 100000 in
theorem laid_met (os : Os) (args : Array Value) : laidMet Tryd.prog Rows.schemaChecksRow.laid ((laidW Tryd.prog os).forCall (fun _ _ => 0) ⟨#[], args, []⟩).memory :=
  (LaidIn.of_run (l := Rows.schemaChecksRow.laid) [0, 1] 8 (by kernel_rfl) (by kernel_rfl) (by kernel_rfl) (by kernel_rfl)).met
end Go.Proofs.YtjncoihppmbijaaDoor
