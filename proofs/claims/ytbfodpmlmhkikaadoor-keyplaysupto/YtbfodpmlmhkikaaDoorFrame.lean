/- What the rows share: rows opened, the tables that the rows list, a world that holds them. -/
import Derived.Test.YtbfodpmlmhkikaaDoorCards
import Derived.Test.YtbfodpmlmhkikaaDoorTie
import Derived.Test.YtbfodpmlmhkikaaDoorMay
import Derived.Test.YtbfodpmlmhkikaaDoorEnc2
import Derived.Lib.LaidIn
import Derived.Lib.LaidU8T
import Derived.Lib.SmallJoins
import Derived.Deep.DeepHandedRow
import Derived.Deep.DeepWitnessRowRef
import Derived.Deep.SlicePairs
import Derived.ProofKit
import Derived.OpenShut
namespace Go.Proofs.YtbfodpmlmhkikaaDoor
open Go.Shelf Go.ChangeShapes Go.WideShapes Go.ChangeAt Go.RowKit Go.Lib Go.Joins Go.Deep

theorem own : ownKnob Tryd.prog.godebug = none := by kernel_rfl
theorem laidOut : laidOutB Tryd.prog = true := by kernel_rfl
theorem cells53 : Tryd.prog.cellsOf 53 = 3 := by kernel_rfl
theorem cells9 : Tryd.prog.cellsOf 9 = 1 := by kernel_rfl
theorem cells3 : Tryd.prog.cellsOf 3 = 1 := by kernel_rfl

theorem bulk_one {H : Type} (d : DataW H) : 1 ≤ Rows.uptoBulk d := by
  cases d with
  | lit l => cases l <;> simp [Rows.uptoBulk]
  | _ => simp [Rows.uptoBulk]
theorem bulk_len {H : Type} (l : List (DataW H)) : l.length ≤ Rows.uptoBulkAll l := by
  induction l with
  | nil => exact Nat.zero_le _
  | cons x l ih => have := bulk_one x; simp only [Rows.uptoBulkAll, List.length_cons]; omega
theorem row_of_vals {W : World} {a : Option Addr} {len : Nat} (q : Nat → Int × Int × ByteArray) (h : ValsAt W a len (fun i => (q i).1) (fun i => (q i).2.1) (fun i => (q i).2.2)) :
    ∃ r : List Val, r.length = len ∧ RowAt W a r ∧ ∀ i, i < len → kAt r i = (q i).1 ∧ nAt r i = (q i).2.1 ∧ tAt r i = (q i).2.2 := by
  have key : ∀ i, i < len → kAt ((List.range len).map q) i = (q i).1 ∧ nAt ((List.range len).map q) i = (q i).2.1 ∧ tAt ((List.range len).map q) i = (q i).2.2 := by
    intro i hi
    unfold kAt nAt tAt
    rw [List.getD_eq_getElem?_getD, List.getElem?_map, List.getElem?_range hi]
    exact ⟨rfl, rfl, rfl⟩
  refine ⟨(List.range len).map q, by simp, ?_, key⟩
  rcases h with h0 | ⟨b, off, ha, hc⟩
  · exact Or.inl (by simpa using h0)
  · refine Or.inr ⟨b, off, ha, fun i hi => ?_⟩
    have hi' : i < len := by simpa using hi
    obtain ⟨k1, k2, k3⟩ := key i hi'
    rw [k1, k2, k3]
    exact hc i hi'
theorem wf_int {z : Int} (h : (Lit.int .i64 z).wf = true) : -9223372036854775808 ≤ z ∧ z ≤ 9223372036854775807 := by
  simp only [Lit.wf, Bool.and_eq_true, decide_eq_true_eq] at h
  exact h
section
variable {H : Type} {enc : TypeId × Value → H} {W : World} {base : Nat} {spare : Nat → Bool} {held : Bool}
set_option maxRecDepth 100000 in
/-- A row that came in. -/
theorem open_vals {fuel : Nat} {v : Value} {x : DataW H × List MemPlace} (h : DataW.trod enc Tryd.prog W base spare held fuel 22 [v] = some x) :
    ∃ a cap r, v = .slice a r.length cap ∧ r.length ≤ 9223372036854775807 ∧ RowAt W a r ∧ IntR r ∧ r.length ≤ Rows.uptoBulk x.1 := by
  rcases open_slice Tryd.underlying22 h with ⟨hcs, _⟩ | ⟨a, len, cap, m, nn, D, Pl, hcs, _, hl, hm, hmm, hx, hall⟩
  · refine ⟨none, 0, [], ?_, Nat.zero_le _, Or.inl rfl, (fun i hi => by simp at hi), Nat.zero_le _⟩
    simpa using hcs
  have hle : len ≤ m := by rw [hmm]; split <;> omega
  have hv : v = .slice (some a) len cap := by simpa using hcs
  have hml : cap ≤ 9223372036854775807 := by have := hm; unfold maxLen at this; omega
  have each : ∀ i, i < len → ∃ q : Int × Int × ByteArray, (W.cell? (a.add (i * 3)) = some (.int .i64 q.1) ∧ W.cell? (a.add (i * 3 + 1)) = some (.int .i64 q.2.1) ∧ W.cell? (a.add (i * 3 + 2)) = some (.string q.2.2)) ∧ (-9223372036854775808 ≤ q.2.1 ∧ q.2.1 ≤ 9223372036854775807) := by
    intro i hi
    obtain ⟨cs', h1, h2⟩ := hall i (by omega)
    rw [cells53] at h1
    obtain ⟨_, hlen, hcell⟩ := World.cells?_some h1
    obtain ⟨xs, k, hk, hxy, _, hxl, hf⟩ := DataW.trod_struct Tryd.underlying53 h2
    match xs, hxl, cs', hlen with
    | [y0, y1, y2], _, [v0, v1, v2], _ =>
      have g0 := hf 0 _ rfl
      have g1 := hf 1 _ rfl
      have g2 := hf 2 _ rfl
      simp [cells3, cells9] at g0 g1 g2
      obtain ⟨z0, e0, _, _⟩ := DataW.trod_int Tryd.underlying3 g0
      obtain ⟨z1, e1, _, w1⟩ := DataW.trod_int Tryd.underlying3 g1
      obtain ⟨z2, e2, _, _⟩ := DataW.trod_string Tryd.underlying9 g2
      have c0 := hcell 0 (by omega)
      have c1 := hcell 1 (by omega)
      have c2 := hcell 2 (by omega)
      rw [add_add] at c0 c1 c2
      simp only [List.cons.injEq, and_true] at e0 e1 e2
      subst e0 e1 e2
      exact ⟨(z0, z1, z2), ⟨by simpa using c0, by simpa using c1, by simpa using c2⟩, wf_int w1⟩
  obtain ⟨q, hq⟩ := choose_lt each
  have hva : ValsAt W (some a) len (fun i => (q i).1) (fun i => (q i).2.1) (fun i => (q i).2.2) := by
    rcases Nat.eq_zero_or_pos len with h0 | h0
    · exact Or.inl h0
    obtain ⟨b, off, spot⟩ := a
    have hspot : spot = none := by simpa [Addr.add] using World.cell?_spot (hq 0 (by omega)).1.1
    subst hspot
    refine Or.inr ⟨b, off, rfl, fun i hi => ?_⟩
    have g := (hq i hi).1
    rw [add_plain, add_plain, add_plain] at g
    exact g
  obtain ⟨r, hrl, hra, hrk⟩ := row_of_vals q hva
  refine ⟨some a, cap, r, by rw [hrl]; exact hv, by omega, hra, fun i hi => ?_, ?_⟩
  · rw [(hrk i (by omega)).2.1]; exact (hq i (by omega)).2
  · rw [hx, hrl]
    simp only [Rows.uptoBulk]
    have := bulk_len ((List.range len).map D)
    simp at this ⊢; omega
set_option maxRecDepth 100000 in
theorem open_row {b0 : Nat} {v : Value} {d : DataW H} {p : List MemPlace} (hv : Value.okWide Tryd.prog W .any b0 22 v) (h : DataW.Trod enc Tryd.prog W base spare held 22 v d p) :
    ∃ a cap r, v = .slice a r.length cap ∧ r.length ≤ 9223372036854775807 ∧ RowAt W a r ∧ IntR r ∧ r.length ≤ Rows.uptoBulk d := by
  obtain ⟨a, len, cap, rfl⟩ := okWide_slice Tryd.underlying22 hv
  obtain ⟨fuel, hf⟩ := h
  exact open_vals (by simpa [Value.cells] using hf)
end

theorem acc_eq : (Rows.laid_unicode_utf8_acceptRanges : DataW Unit) = acceptData := by kernel_rfl
set_option maxRecDepth 100000 in
theorem first_eq : Rows.laid_unicode_utf8_first = firstData := by kernel_rfl
theorem ready_of {W : World} (h2 : VarReads Tryd.prog W "unicode/utf8.acceptRanges" Rows.laid_unicode_utf8_acceptRanges)
    (h3 : VarReads Tryd.prog W "unicode/utf8.first" Rows.laid_unicode_utf8_first) : Ready W where
  utf := utf8Tabs_of_readsT (U8Types.of196 Tryd.lays196) ⟨by kernel_rfl, by kernel_rfl, by kernel_rfl, by kernel_rfl, by kernel_rfl, by kernel_rfl, by kernel_rfl⟩ (first_eq ▸ h3) (acc_eq ▸ h2)

/-- A datum's cells, where it is a flat array of integers. -/
def flat : DataW Unit → Array Value
  | .agg l => (l.map fun x => match x with | .lit (.int k n) => Value.int k n | _ => .int .i64 0).toArray
  | _ => #[]
/-- The settled world, the listed variables holding what their initialisers lay. -/
def laidW (P : Program) (os : Os) : World :=
  let w0 := World.holding P os ⟨#[], #[], []⟩
  let put (h : Array Obj) (g : Nat) (cs : Array Value) : Array Obj := h.modify g fun
    | .cells _ t frozen => .cells cs t frozen
    | o => o
  let h2 := put w0.heap 0 (flat Rows.laid_unicode_utf8_first)
  let h3 := put h2 1 ((List.range 16).flatMap fun i => [Value.int .u8 (Lib.accLo i), Value.int .u8 (Lib.accHi i)]).toArray
  { w0 with heap := h3 }
set_option maxRecDepth 100000 in
theorem laid_met (os : Os) (args : Array Value) : laidMet Tryd.prog Rows.keyBackRow.laid ((laidW Tryd.prog os).forCall (fun _ _ => 0) ⟨#[], args, []⟩).memory :=
  (LaidIn.of_run (l := Rows.keyBackRow.laid) [0, 1] 8 (by kernel_rfl) (by kernel_rfl) (by kernel_rfl) (by kernel_rfl)).met
end Go.Proofs.YtbfodpmlmhkikaaDoor
