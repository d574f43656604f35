/- What the rows share: rows and ints opened, the tables that the rows list, a world that holds them. -/
import Derived.Test.YtjphmbgennadcaaGreatDoorCards
import Derived.Test.YtjphmbgennadcaaGreatDoorTie
import Derived.Test.YtjphmbgennadcaaGreatDoorCho
import Derived.Test.YtjphmbgennadcaaGreatDoorShelfV
import Derived.Lib.LaidIn
import Derived.Lib.LaidU8T
import Derived.Lib.SmallJoins
import Derived.Deep.DeepHandedRow
import Derived.Deep.SlicePairs
import Derived.ProofKit
import Derived.OpenShut
import Derived.Lay
import Derived.SizedLaws
namespace Go.Proofs.YtjphmbgennadcaaGreatDoor
open Go.Shelf Go.ChangeShapes Go.WideShapes Go.ChangeAt Go.RowKit Go.Lib Go.Joins Go.Deep

theorem own : ownKnob Tryz.prog.godebug = none := by kernel_rfl
theorem laidOut : laidOutB Tryz.prog = true := by kernel_rfl
theorem cells34 : Tryz.prog.cellsOf 34 = 3 := by kernel_rfl
theorem cells9 : Tryz.prog.cellsOf 9 = 1 := by kernel_rfl
theorem cells3 : Tryz.prog.cellsOf 3 = 1 := by kernel_rfl
theorem cells104 : Tryz.prog.cellsOf 104 = 1 := by kernel_rfl
theorem cells152 : Tryz.prog.cellsOf 152 = 20 := by kernel_rfl
theorem row_of_vals {W : World} {a : Option Addr} {len : Nat} (q : Nat → Int × Int × ByteArray) (h : ValsAt W a len (fun i => (q i).1) (fun i => (q i).2.1) (fun i => (q i).2.2)) :
    ∃ r : List Val, r.length = len ∧ RowAt W a r ∧ ∀ i, i < len → kAt r i = (q i).1 ∧ nAt r i = (q i).2.1 ∧ tAt r i = (q i).2.2 := by
  have key : ∀ i, i < len → kAt ((List.range len).map q) i = (q i).1 ∧ nAt ((List.range len).map q) i = (q i).2.1 ∧ tAt ((List.range len).map q) i = (q i).2.2 := by
    intro i hi
    unfold kAt nAt tAt
    rw [List.getD_eq_getElem?_getD, List.getElem?_map, List.getElem?_range hi]
    exact ⟨rfl, rfl, rfl⟩
  refine ⟨(List.range len).map q, by simp, ?_, key⟩
  rcases h with h0 | ⟨b, off, ha, hc⟩
  · exact Or.inl (by simpa using h0)
  · refine Or.inr ⟨b, off, ha, fun i hi => ?_⟩
    have hi' : i < len := by simpa using hi
    obtain ⟨k1, k2, k3⟩ := key i hi'
    rw [k1, k2, k3]
    exact hc i hi'
theorem wf_int {z : Int} (h : (Lit.int .i64 z).wf = true) : -9223372036854775808 ≤ z ∧ z ≤ 9223372036854775807 := by
  simp only [Lit.wf, Bool.and_eq_true, decide_eq_true_eq] at h
  exact h
section
variable {H : Type} {enc : TypeId × Value → H} {W : World} {base : Nat} {spare : Nat → Bool} {held : Bool}
theorem weigh (t e z : Nat) {fuel : Nat} {a : Option Addr} {len cap : Nat} {x : DataW H × List MemPlace} (ht : Tryz.prog.underlying t = some (.slice e)) (hb : Tryz.prog.bytesOf e = z) (h : DataW.trod enc Tryz.prog W base spare held fuel t [.slice a len cap] = some x) (hw : ∀ y ∈ x.1.weights Tryz.prog t, y ≤ reachBytes) :
    len * z ≤ 140737488355328 := by
  rcases open_slice ht h with ⟨hcs, _⟩ | ⟨a', len', cap', m, nn, D, Pl, hcs, _, hl, hm, hmm, hx, _⟩
  · have e : len = 0 := by
      simp only [List.cons.injEq, Value.slice.injEq, and_true] at hcs
      exact hcs.2.1
    subst e
    rw [Nat.zero_mul]; omega
  have e : len = len' := by
    simp only [List.cons.injEq, Value.slice.injEq, and_true] at hcs
    exact hcs.2.1
  subst e
  have hle : len ≤ m := by rw [hmm]; split <;> omega
  have h1 := hw ((len + (m - len)) * z) (by
    rw [hx]
    simp [DataW.weights, ht, hb])
  have hr : reachBytes = 140737488351232 := rfl
  rw [hr] at h1
  have h2 : len * z ≤ (len + (m - len)) * z := Nat.mul_le_mul_right _ (by omega)
  omega
set_option maxRecDepth 100000 in
/-- A row that came in. -/
theorem open_vals {fuel : Nat} {v : Value} {x : DataW H × List MemPlace} (h : DataW.trod enc Tryz.prog W base spare held fuel 32 [v] = some x) :
    ∃ a cap r, v = .slice a r.length cap ∧ r.length ≤ 9223372036854775807 ∧ RowAt W a r ∧ IntR r ∧ r.length ≤ cap := by
  rcases open_slice Tryz.underlying32 h with ⟨hcs, _⟩ | ⟨a, len, cap, m, nn, D, Pl, hcs, _, hl, hm, hmm, hx, hall⟩
  · refine ⟨none, 0, [], ?_, Nat.zero_le _, Or.inl rfl, (fun v hv => by cases hv), Nat.zero_le _⟩
    simpa using hcs
  have hle : len ≤ m := by rw [hmm]; split <;> omega
  have hv : v = .slice (some a) len cap := by simpa using hcs
  have hml : cap ≤ 9223372036854775807 := by have := hm; unfold maxLen at this; omega
  have each : ∀ i, i < len → ∃ q : Int × Int × ByteArray, (W.cell? (a.add (i * 3)) = some (.int .i64 q.1) ∧ W.cell? (a.add (i * 3 + 1)) = some (.int .i64 q.2.1) ∧ W.cell? (a.add (i * 3 + 2)) = some (.string q.2.2)) ∧ (-9223372036854775808 ≤ q.2.1 ∧ q.2.1 ≤ 9223372036854775807) := by
    intro i hi
    obtain ⟨cs', h1, h2⟩ := hall i (by omega)
    rw [cells34] at h1
    obtain ⟨_, hlen, hcell⟩ := World.cells?_some h1
    obtain ⟨xs, k, hk, hxy, _, hxl, hf⟩ := DataW.trod_struct Tryz.underlying34 h2
    match xs, hxl, cs', hlen with
    | [y0, y1, y2], _, [v0, v1, v2], _ =>
      have g0 := hf 0 _ rfl
      have g1 := hf 1 _ rfl
      have g2 := hf 2 _ rfl
      simp [cells3, cells9] at g0 g1 g2
      obtain ⟨z0, e0, _, _⟩ := DataW.trod_int Tryz.underlying3 g0
      obtain ⟨z1, e1, _, w1⟩ := DataW.trod_int Tryz.underlying3 g1
      obtain ⟨z2, e2, _, _⟩ := DataW.trod_string Tryz.underlying9 g2
      have c0 := hcell 0 (by omega)
      have c1 := hcell 1 (by omega)
      have c2 := hcell 2 (by omega)
      rw [add_add] at c0 c1 c2
      simp only [List.cons.injEq, and_true] at e0 e1 e2
      subst e0 e1 e2
      exact ⟨(z0, z1, z2), ⟨by simpa using c0, by simpa using c1, by simpa using c2⟩, wf_int w1⟩
  obtain ⟨q, hq⟩ := choose_lt each
  have hva : ValsAt W (some a) len (fun i => (q i).1) (fun i => (q i).2.1) (fun i => (q i).2.2) := by
    rcases Nat.eq_zero_or_pos len with h0 | h0
    · exact Or.inl h0
    obtain ⟨b, off, spot⟩ := a
    have hspot : spot = none := by simpa [Addr.add] using World.cell?_spot (hq 0 (by omega)).1.1
    subst hspot
    refine Or.inr ⟨b, off, rfl, fun i hi => ?_⟩
    have g := (hq i hi).1
    rw [WideShapes.add_plain, WideShapes.add_plain, WideShapes.add_plain] at g
    exact g
  obtain ⟨r, hrl, hra, hrk⟩ := row_of_vals q hva
  refine ⟨some a, cap, r, by rw [hrl]; exact hv, by omega, hra, fun v hv => ?_, by omega⟩
  obtain ⟨i, hi, rfl⟩ := List.getElem_of_mem hv
  have e : r[i].2.1 = nAt r i := by unfold nAt; rw [List.getD_eq_getElem?_getD, List.getElem?_eq_getElem hi]; rfl
  rw [e, (hrk i (by omega)).2.1]; exact (hq i (by omega)).2
set_option maxRecDepth 100000 in
theorem open_row {b0 : Nat} {v : Value} {d : DataW H} {p : List MemPlace} (hv : Value.okWide Tryz.prog W .any b0 32 v) (h : DataW.Trod enc Tryz.prog W base spare held 32 v d p) (hw : ∀ y ∈ d.weights Tryz.prog 32, y ≤ reachBytes) :
    ∃ a cap r, v = .slice a r.length cap ∧ r.length ≤ 9223372036854775807 ∧ RowAt W a r ∧ IntR r ∧ r.length ≤ cap ∧ r.length * 32 ≤ 140737488355328 := by
  obtain ⟨a, len, cap, rfl⟩ := okWide_slice Tryz.underlying32 hv
  obtain ⟨fuel, hf⟩ := h
  have hf' : DataW.trod enc Tryz.prog W base spare held fuel 32 [.slice a len cap] = some (d, p) := by simpa [Value.cells] using hf
  obtain ⟨a', cap', r, e, h1, h2, h3, h4⟩ := open_vals hf'
  have hlw := weigh 32 34 32 Tryz.underlying32 (by kernel_rfl) hf' hw
  injection e with e1 e2 e3
  subst e1 e3
  exact ⟨_, _, r, by rw [e2], h1, h2, h3, h4, by rw [← e2]; exact hlw⟩
set_option maxRecDepth 100000 in
/-- Ints that came in. -/
theorem open_ks {b0 : Nat} {v : Value} {d : DataW H} {p : List MemPlace} (hv : Value.okWide Tryz.prog W .any b0 22 v) (h : DataW.Trod enc Tryz.prog W base spare held 22 v d p) :
    ∃ a cap l, v = .slice a l.length cap ∧ l.length ≤ 9223372036854775807 ∧ KsAt W a l ∧ l.length ≤ cap := by
  obtain ⟨a0, len0, cap0, rfl⟩ := okWide_slice Tryz.underlying22 hv
  obtain ⟨fuel, hf⟩ := h
  have hf' : DataW.trod enc Tryz.prog W base spare held fuel 22 [.slice a0 len0 cap0] = some (d, p) := by simpa [Value.cells] using hf
  rcases open_slice Tryz.underlying22 hf' with ⟨hcs, _⟩ | ⟨a, len, cap, m, nn, D, Pl, hcs, _, hl, hm, hmm, hx, hall⟩
  · refine ⟨none, 0, [], ?_, Nat.zero_le _, Or.inl rfl, Nat.zero_le _⟩
    simpa using hcs
  have hle : len ≤ m := by rw [hmm]; split <;> omega
  have hv : Value.slice a0 len0 cap0 = .slice (some a) len cap := by simpa using hcs
  have hml : cap ≤ 9223372036854775807 := by have := hm; unfold maxLen at this; omega
  have each : ∀ i, i < len → ∃ q : Int, W.cell? (a.add i) = some (.int .i64 q) := by
    intro i hi
    obtain ⟨cs', h1, h2⟩ := hall i (by omega)
    rw [cells3, Nat.mul_one] at h1
    obtain ⟨_, hlen, hcell⟩ := World.cells?_some h1
    obtain ⟨z0, e0, _, _⟩ := DataW.trod_int Tryz.underlying3 h2
    match cs', hlen with
    | [v0], _ =>
      have c0 := hcell 0 (by omega)
      rw [add_add] at c0
      simp only [List.cons.injEq, and_true] at e0
      subst e0
      exact ⟨z0, by simpa using c0⟩
  obtain ⟨q, hq⟩ := choose_lt each
  refine ⟨some a, cap, (List.range len).map q, by rw [hv]; simp, by simp; omega, ?_, by simp; omega⟩
  rcases Nat.eq_zero_or_pos len with h0 | h0
  · exact Or.inl (by simp [h0])
  obtain ⟨b, off, spot⟩ := a
  have hspot : spot = none := by simpa [Addr.add] using World.cell?_spot (hq 0 (by omega))
  subst hspot
  refine Or.inr ⟨b, off, rfl, fun i hi => ?_⟩
  have hi' : i < len := by simpa using hi
  have g := hq i hi'
  rw [WideShapes.add_plain] at g
  rw [g]
  simp [List.getD_eq_getElem?_getD, hi']
end

theorem tabIs_of_reads {W : World} {name : String} {k : IntKind} {zs : List Int} {g : Nat} {t e : TypeId} {n : Nat} (hg : Tryz.prog.globalNamed name = some g) (hty : (Tryz.prog.globals[g]?).map (·.type) = some t)
    (ht : Tryz.prog.underlying t = some (.array n e)) (he : Tryz.prog.underlying e = some (.int k)) (hce : Tryz.prog.cellsOf e = 1) (hct : Tryz.prog.cellsOf t = n)
    (h : VarReads Tryz.prog W name (tabData k zs)) : TabIs Tryz.prog W name k zs := by
  obtain ⟨g', t', cs, fuel, p, hg', hty', hvar, hd⟩ := h
  obtain rfl := Option.some.inj (hg.symm.trans hg')
  obtain rfl := Option.some.inj (hty.symm.trans hty')
  have hcs := cells_of_tab ht he hce hct hd
  unfold TabIs
  rw [hvar, ← hcs]
theorem pow_eq : (Rows.laid_internal_strconv_uint64pow10 : DataW Unit) = tabData .u64 pow10Tab := by kernel_rfl
theorem acc_eq : (Rows.laid_unicode_utf8_acceptRanges : DataW Unit) = acceptData := by kernel_rfl
set_option maxRecDepth 100000 in
theorem first_eq : Rows.laid_unicode_utf8_first = firstData := by kernel_rfl
set_option maxRecDepth 100000 in
theorem ready_of {W : World} (h1 : VarReads Tryz.prog W "internal/strconv.uint64pow10" Rows.laid_internal_strconv_uint64pow10) (h2 : VarReads Tryz.prog W "unicode/utf8.acceptRanges" Rows.laid_unicode_utf8_acceptRanges)
    (h3 : VarReads Tryz.prog W "unicode/utf8.first" Rows.laid_unicode_utf8_first) (hsh : W.ShapedOpen Tryz.prog) : Ready W where
  pow := tabIs_of_reads (g := 5) (t := 152) (e := 104) (n := 20) (by kernel_rfl) (by kernel_rfl) Tryz.underlying152 Tryz.underlying104 cells104 cells152 (pow_eq ▸ h1)
  utf := utf8Tabs_of_readsT (U8Types.of196 Tryz.lays196) ⟨by kernel_rfl, by kernel_rfl, by kernel_rfl, by kernel_rfl, by kernel_rfl, by kernel_rfl, by kernel_rfl⟩ (first_eq ▸ h3) (acc_eq ▸ h2)
  maxl := Go.Proofs.cell_of_shapedOpen_int (zero := #[.int .i64 0]) (t := 3) hsh (of_decide_eq_true (by kernel_rfl)) (by kernel_rfl) rfl (by kernel_rfl) (by kernel_rfl) Tryz.underlying3
theorem rdy_of {W : World} (hL : laidMetH Tryz.prog Rows.funcsKindsRow.laid W) (hsh : W.ShapedOpen Tryz.prog) : Ready W :=
  ready_of (Lib.laidMet.reads hL (.tail _ (.tail _ (.head _)))) (Lib.laidMet.reads hL (.tail _ (.tail _ (.tail _ (.head _))))) (Lib.laidMet.reads hL (.tail _ (.tail _ (.tail _ (.tail _ (.head _)))))) hsh
set_option maxRecDepth 100000 in
theorem laid_met (os : Os) (args : Array Value) : laidMet Tryz.prog Rows.funcsKindsRow.laid ((World.laidAll Tryz.prog os Rows.funcsKindsRow.laid).forCall (fun _ _ => 0) ⟨#[], args, []⟩).memory :=
  laidMet_laidAll args (by kernel_rfl) (by kernel_rfl)
theorem witness_row_shaped {H : Type} {enc : TypeId × Value → H} {C : Checked} {os : Os} {f : FuncId} {fn : Func} {s : OpenSpec} {conds : List PathCond} {apart : Bool} {laid : List (String × DataW Unit)} (modest : Bool) (w0 : World) (args : Array Value) (hos : w0.os = os)
    (hsh : (w0.forCall (fun _ _ => 0) ⟨#[], args, []⟩).Shaped C.prog)
    (hok : Input.okWideB C.prog (w0.forCall (fun _ _ => 0) ⟨#[], args, []⟩) f ⟨#[], args, []⟩ = true)
    (hrow : s.preRow enc C.prog fn conds apart laid (w0.forCall (fun _ _ => 0) ⟨#[], args, []⟩).memory args) :
    ∃ (w : World) (tape : Tape) (i : Input), w.os = os ∧ (w.forCall tape i).Shaped C.prog ∧ i.vars = [] ∧ Input.okWide C.prog (w.forCall tape i) .any w.heap.size f i ∧
      s.preRow enc C.prog fn conds apart laid (w.forCall tape i).memory i.args ∧ ({ modest := modest } : Assume).holds C.prog (lone (Frame.enter C.prog f i.args .normal) [] (w.forCall tape i)) :=
  ⟨w0, fun _ _ => 0, ⟨#[], args, []⟩, hos, hsh, (Input.okWide_of_okWideB (base := 0) hok).1, (Input.okWide_of_okWideB hok).2, hrow, by
    simp only [Assume.holds]
    exact ⟨by simp, by simp, fun _ => Modest.zero, by simp, by simp⟩⟩
end Go.Proofs.YtjphmbgennadcaaGreatDoor
