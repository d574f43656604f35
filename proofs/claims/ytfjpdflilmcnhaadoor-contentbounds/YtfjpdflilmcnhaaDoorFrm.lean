/- What came in, opened; a world that holds what the rows list. -/
import Derived.Test.YtfjpdflilmcnhaaDoorCards
import Derived.Test.YtfjpdflilmcnhaaDoorTie
import Derived.Test.YtfjpdflilmcnhaaDoorMgB
import Derived.Lib.LaidIn
import Derived.Lib.SmallJoins
import Derived.Deep.DeepHandedRow
import Derived.Deep.SlicePairs
import Derived.ProofKit
import Derived.OpenShut
import Derived.Lay
import Derived.SizedLaws
namespace Go.Proofs.YtfjpdflilmcnhaaDoor
open Go.ChangeShapes Go.WideShapes Go.ChangeAt Go.RowKit Go.Lib Go.Joins Go.Deep

theorem own : ownKnob Tryd.prog.godebug = none := by kernel_rfl
theorem laidOut : laidOutB Tryd.prog = true := by kernel_rfl
theorem cells46 : Tryd.prog.cellsOf 46 = 3 := by kernel_rfl
theorem cells40 : Tryd.prog.cellsOf 40 = 3 := by kernel_rfl
theorem cells38 : Tryd.prog.cellsOf 38 = 1 := by kernel_rfl
theorem cells9 : Tryd.prog.cellsOf 9 = 1 := by kernel_rfl
theorem cells3 : Tryd.prog.cellsOf 3 = 1 := by kernel_rfl
theorem row_of_vals {W : World} {a : Option Addr} {len : Nat} (q : Nat → Int × Int × ByteArray) (h : ValsAt W a len (fun i => (q i).1) (fun i => (q i).2.1) (fun i => (q i).2.2)) :
    ∃ r : List Val, r.length = len ∧ RowAt W a r ∧ ∀ i, i < len → kAt r i = (q i).1 ∧ nAt r i = (q i).2.1 ∧ tAt r i = (q i).2.2 := by
  have key : ∀ i, i < len → kAt ((List.range len).map q) i = (q i).1 ∧ nAt ((List.range len).map q) i = (q i).2.1 ∧ tAt ((List.range len).map q) i = (q i).2.2 := by
    intro i hi
    unfold kAt nAt tAt
    rw [List.getD_eq_getElem?_getD, List.getElem?_map, List.getElem?_range hi]
    exact ⟨rfl, rfl, rfl⟩
  refine ⟨(List.range len).map q, by simp, ?_, key⟩
  rcases h with h0 | ⟨b, off, ha, hc⟩
  · exact Or.inl (by simpa using h0)
  · refine Or.inr ⟨b, off, ha, fun i hi => ?_⟩
    have hi' : i < len := by simpa using hi
    obtain ⟨k1, k2, k3⟩ := key i hi'
    rw [k1, k2, k3]
    exact hc i hi'
theorem weightsAll_mem {H : Type} {P : Program} {e : TypeId} : ∀ {l : List (DataW H)} {d : DataW H}, d ∈ l → ∀ n ∈ d.weights P e, n ∈ DataW.weightsAll P e l
  | x :: l, d, h, n, hn => by
    simp only [DataW.weightsAll, List.mem_append]
    rcases List.mem_cons.1 h with rfl | h
    · exact Or.inl hn
    · exact Or.inr (weightsAll_mem h n hn)
section
variable {H : Type} {enc : TypeId × Value → H} {W : World} {base : Nat} {spare : Nat → Bool} {held : Bool}
theorem weigh (t e z : Nat) {fuel : Nat} {a : Option Addr} {len cap : Nat} {x : DataW H × List MemPlace} (ht : Tryd.prog.underlying t = some (.slice e)) (hb : Tryd.prog.bytesOf e = z) (h : DataW.trod enc Tryd.prog W base spare held fuel t [.slice a len cap] = some x) (hw : ∀ y ∈ x.1.weights Tryd.prog t, y ≤ reachBytes) :
    len * z ≤ 140737488355328 := by
  rcases open_slice ht h with ⟨hcs, _⟩ | ⟨a', len', cap', m, nn, D, Pl, hcs, _, hl, hm, hmm, hx, _⟩
  · have e : len = 0 := by
      simp only [List.cons.injEq, Value.slice.injEq, and_true] at hcs
      exact hcs.2.1
    subst e
    rw [Nat.zero_mul]; omega
  have e : len = len' := by
    simp only [List.cons.injEq, Value.slice.injEq, and_true] at hcs
    exact hcs.2.1
  subst e
  have hle : len ≤ m := by rw [hmm]; split <;> omega
  have h1 := hw ((len + (m - len)) * z) (by
    rw [hx]
    simp [DataW.weights, ht, hb])
  have hr : reachBytes = 140737488351232 := rfl
  rw [hr] at h1
  have h2 : len * z ≤ (len + (m - len)) * z := Nat.mul_le_mul_right _ (by omega)
  omega
set_option maxRecDepth 100000 in
/-- A row that came in. -/
theorem open_vals {fuel : Nat} {v : Value} {x : DataW H × List MemPlace} (h : DataW.trod enc Tryd.prog W base spare held fuel 38 [v] = some x) :
    ∃ a cap r, v = .slice a r.length cap ∧ RowAt W a r := by
  rcases open_slice Tryd.underlying38 h with ⟨hcs, _⟩ | ⟨a, len, cap, m, nn, D, Pl, hcs, _, hl, hm, hmm, hx, hall⟩
  · refine ⟨none, 0, [], ?_, Or.inl rfl⟩
    simpa using hcs
  have hle : len ≤ m := by rw [hmm]; split <;> omega
  have hv : v = .slice (some a) len cap := by simpa using hcs
  have each : ∀ i, i < len → ∃ q : Int × Int × ByteArray, (W.cell? (a.add (i * 3)) = some (.int .i64 q.1) ∧ W.cell? (a.add (i * 3 + 1)) = some (.int .i64 q.2.1) ∧ W.cell? (a.add (i * 3 + 2)) = some (.string q.2.2)) := by
    intro i hi
    obtain ⟨cs', h1, h2⟩ := hall i (by omega)
    rw [cells46] at h1
    obtain ⟨_, hlen, hcell⟩ := World.cells?_some h1
    obtain ⟨xs, k, hk, hxy, _, hxl, hf⟩ := DataW.trod_struct Tryd.underlying46 h2
    match xs, hxl, cs', hlen with
    | [y0, y1, y2], _, [v0, v1, v2], _ =>
      have g0 := hf 0 _ rfl
      have g1 := hf 1 _ rfl
      have g2 := hf 2 _ rfl
      simp [cells3, cells9] at g0 g1 g2
      obtain ⟨z0, e0, _, _⟩ := DataW.trod_int Tryd.underlying3 g0
      obtain ⟨z1, e1, _, _⟩ := DataW.trod_int Tryd.underlying3 g1
      obtain ⟨z2, e2, _, _⟩ := DataW.trod_string Tryd.underlying9 g2
      have c0 := hcell 0 (by omega)
      have c1 := hcell 1 (by omega)
      have c2 := hcell 2 (by omega)
      rw [add_add] at c0 c1 c2
      simp only [List.cons.injEq, and_true] at e0 e1 e2
      subst e0 e1 e2
      exact ⟨(z0, z1, z2), by simpa using c0, by simpa using c1, by simpa using c2⟩
  obtain ⟨q, hq⟩ := choose_lt each
  have hva : ValsAt W (some a) len (fun i => (q i).1) (fun i => (q i).2.1) (fun i => (q i).2.2) := by
    rcases Nat.eq_zero_or_pos len with h0 | h0
    · exact Or.inl h0
    obtain ⟨b, off, spot⟩ := a
    have hspot : spot = none := by simpa [Addr.add] using World.cell?_spot (hq 0 (by omega)).1
    subst hspot
    refine Or.inr ⟨b, off, rfl, fun i hi => ?_⟩
    have g := hq i hi
    rw [add_plain, add_plain, add_plain] at g
    exact g
  obtain ⟨r, hrl, hra, _⟩ := row_of_vals q hva
  exact ⟨some a, cap, r, by rw [hrl]; exact hv, hra⟩
set_option maxRecDepth 100000 in
/-- Arrivals that came in. -/
theorem open_arrs {b0 : Nat} {v : Value} {d : DataW H} {p : List MemPlace} (hv : Value.okWide Tryd.prog W .any b0 31 v) (h : DataW.Trod enc Tryd.prog W base spare held 31 v d p) (hw : ∀ y ∈ d.weights Tryd.prog 31, y ≤ reachBytes) :
    ∃ a cap l, v = .slice a l.length cap ∧ l.length ≤ 9223372036854775807 ∧ ArsAt W a l ∧ ∀ x ∈ l, x.row.length * 32 ≤ 140737488355328 := by
  obtain ⟨a, len, cap, rfl⟩ := okWide_slice Tryd.underlying31 hv
  obtain ⟨fuel, hf⟩ := h
  have hf' : DataW.trod enc Tryd.prog W base spare held fuel 31 [.slice a len cap] = some (d, p) := by simpa [Value.cells] using hf
  rcases open_slice Tryd.underlying31 hf' with ⟨hcs, _⟩ | ⟨a, l1, c1, m, nn, D, Pl, hcs, _, hl, hm, hmm, hx, hall⟩
  · simp only [List.cons.injEq, and_true, Value.slice.injEq] at hcs
    obtain ⟨rfl, rfl, rfl⟩ := hcs
    exact ⟨none, 0, [], rfl, Nat.zero_le _, ⟨Or.inl rfl, fun x hx => by cases hx⟩, fun x hx => by cases hx⟩
  simp only [List.cons.injEq, and_true, Value.slice.injEq] at hcs
  obtain ⟨rfl, rfl, rfl⟩ := hcs
  have hle : len ≤ m := by rw [hmm]; split <;> omega
  have hml : cap ≤ 9223372036854775807 := by have := hm; unfold maxLen at this; omega
  have hd : d = .slice ((List.range len).map D) ((List.range (m - len)).map fun j => D (len + j)) := by
    have := congrArg Prod.fst hx; exact this
  have each : ∀ i, i < len → ∃ q : Arv, (W.cell? (a.add (i * 3)) = some (.int .i64 q.seq) ∧ W.cell? (a.add (i * 3 + 1)) = some (.int .i64 q.time) ∧ W.cell? (a.add (i * 3 + 2)) = some (.slice q.a q.row.length q.cap)) ∧ RowAt W q.a q.row ∧ q.row.length * 32 ≤ 140737488355328 := by
    intro i hi
    obtain ⟨cs', h1, h2⟩ := hall i (by omega)
    rw [cells40] at h1
    obtain ⟨_, hlen, hcell⟩ := World.cells?_some h1
    obtain ⟨xs, k, hk', hxy, _, hxl, hff⟩ := DataW.trod_struct Tryd.underlying40 h2
    match xs, hxl, cs', hlen with
    | [y0, y1, y2], _, [v0, v1, v2], _ =>
      have g0 := hff 0 _ rfl
      have g1 := hff 1 _ rfl
      have g2 := hff 2 _ rfl
      simp [cells3, cells38] at g0 g1 g2
      obtain ⟨z0, e0, _, _⟩ := DataW.trod_int Tryd.underlying3 g0
      obtain ⟨z1, e1, _, _⟩ := DataW.trod_int Tryd.underlying3 g1
      obtain ⟨a2, cap2, r2, e2, hr2⟩ := open_vals g2
      have c0 := hcell 0 (by omega)
      have c1 := hcell 1 (by omega)
      have c2 := hcell 2 (by omega)
      rw [add_add] at c0 c1 c2
      simp only [List.cons.injEq, and_true] at e0 e1
      subst e0 e1 e2
      have hD : D i = .agg [y0.1, y1.1, y2.1] := by
        have := congrArg Prod.fst hxy; simpa using this
      have hmem : D i ∈ (List.range len).map D := List.mem_map_of_mem (List.mem_range.2 hi)
      have hlw := weigh 38 46 32 Tryd.underlying38 (by kernel_rfl) g2 (fun y hy => hw y (by
        rw [hd]
        simp only [DataW.weights, Tryd.underlying31, List.mem_cons, List.mem_append]
        refine Or.inr (Or.inl (weightsAll_mem hmem _ ?_))
        rw [hD]
        simp only [DataW.weights, Tryd.underlying40]
        exact DataW.weights_mem_each (j := 2) (t := 38) (d := y2.1) rfl rfl y hy))
      exact ⟨⟨z0, z1, a2, cap2, r2⟩, ⟨by simpa using c0, by simpa using c1, by simpa using c2⟩, hr2, hlw⟩
  haveI : Inhabited Arv := ⟨arZ⟩
  obtain ⟨q, hq⟩ := choose_lt each
  have hrl : ((List.range len).map q).length = len := by simp
  have hat : ∀ i, i < len → aAt ((List.range len).map q) i = q i := fun i hi => by
    unfold aAt
    rw [List.getD_eq_getElem?_getD, List.getElem?_map, List.getElem?_range hi]; rfl
  refine ⟨some a, cap, (List.range len).map q, by rw [hrl], by rw [hrl]; omega, ⟨?_, fun x hx => ?_⟩, fun x hx => ?_⟩
  · rcases Nat.eq_zero_or_pos len with h0 | h0
    · exact Or.inl (by simp [h0])
    obtain ⟨b, off, spot⟩ := a
    have hspot : spot = none := by simpa [Addr.add] using World.cell?_spot (hq 0 (by omega)).1.1
    subst hspot
    refine Or.inr ⟨b, off, rfl, fun i hi => ?_⟩
    rw [hrl] at hi
    have g := (hq i hi).1
    rw [add_plain, add_plain, add_plain] at g
    rw [hat i hi]
    exact g
  · obtain ⟨i, hi, rfl⟩ := List.mem_map.1 hx
    exact (hq i (List.mem_range.1 hi)).2.1
  · obtain ⟨i, hi, rfl⟩ := List.mem_map.1 hx
    exact (hq i (List.mem_range.1 hi)).2.2
end
theorem witness_row_shaped {H : Type} {enc : TypeId × Value → H} {C : Checked} {os : Os} {f : FuncId} {fn : Func} {s : OpenSpec} {conds : List PathCond} {apart : Bool} {laid : List (String × DataW Unit)} (modest : Bool) (w0 : World) (args : Array Value) (hos : w0.os = os)
    (hsh : (w0.forCall (fun _ _ => 0) ⟨#[], args, []⟩).Shaped C.prog)
    (hok : Input.okWideB C.prog (w0.forCall (fun _ _ => 0) ⟨#[], args, []⟩) f ⟨#[], args, []⟩ = true)
    (hrow : s.preRow enc C.prog fn conds apart laid (w0.forCall (fun _ _ => 0) ⟨#[], args, []⟩).memory args) :
    ∃ (w : World) (tape : Tape) (i : Input), w.os = os ∧ (w.forCall tape i).Shaped C.prog ∧ i.vars = [] ∧ Input.okWide C.prog (w.forCall tape i) .any w.heap.size f i ∧
      s.preRow enc C.prog fn conds apart laid (w.forCall tape i).memory i.args ∧ ({ modest := modest } : Assume).holds C.prog (lone (Frame.enter C.prog f i.args .normal) [] (w.forCall tape i)) :=
  ⟨w0, fun _ _ => 0, ⟨#[], args, []⟩, hos, hsh, (Input.okWide_of_okWideB (base := 0) hok).1, (Input.okWide_of_okWideB hok).2, hrow, by
    simp only [Assume.holds]
    exact ⟨by simp, by simp, fun _ => Modest.zero, by simp, by simp⟩⟩
end Go.Proofs.YtfjpdflilmcnhaaDoor
