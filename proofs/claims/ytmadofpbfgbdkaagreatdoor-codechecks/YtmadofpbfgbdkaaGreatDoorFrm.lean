/- What the row lists: the words of the language; a world that holds them. -/
import Derived.Test.YtmadofpbfgbdkaaGreatDoorCards
import Derived.Test.YtmadofpbfgbdkaaGreatDoorTie
import Derived.Test.YtmadofpbfgbdkaaGreatDoorSur
import Derived.Lib.LaidIn
import Derived.Lib.LaidU8T
import Derived.Lib.SmallJoins
import Derived.Deep.DeepHandedRow
import Derived.Deep.SlicePairs
import Derived.ProofKit
import Derived.OpenShut
import Derived.Lay
import Derived.SizedLaws
namespace Go.Proofs.YtmadofpbfgbdkaaGreatDoor
open Go.Shelf Go.ChangeShapes Go.WideShapes Go.ChangeAt Go.RowKit Go.Lib Go.Joins Go.Deep

def bsA (bs : List UInt8) : ByteArray := ⟨bs.toArray⟩
theorem bsA_list (l : List UInt8) : (bsA l).data.toList = l := by simp [bsA]
theorem bsA_of (s : ByteArray) : bsA s.data.toList = s := by cases s; simp [bsA]
def wdL : List (List UInt8) := [[97, 108, 108], [97, 110, 100], [97, 115], [97, 118, 103], [98, 101, 116, 119, 101, 101, 110], [98, 121], [99, 97, 115, 101], [99, 111, 110, 116, 101, 120, 116], [99, 111, 117, 110, 116], [99, 114, 101, 97, 116, 101], [100, 101, 108, 101, 116, 101], [100, 101, 115, 99], [100, 105, 115, 116, 105, 110, 99, 116], [101, 108, 115, 101], [101, 110, 100], [101, 118, 101, 110, 116, 115], [101, 118, 101, 114, 121], [102, 97, 108, 115, 101], [102, 105, 114, 115, 116], [102, 114, 111, 109], [103, 114, 111, 117, 112], [104, 97, 118, 105, 110, 103], [105, 110], [105, 110, 115, 101, 114, 116], [105, 110, 116, 111], [105, 114, 115, 116, 114, 101, 97, 109], [105, 115], [105, 115, 116, 114, 101, 97, 109], [108, 97, 115, 116], [109, 97, 116, 99, 104, 101, 100], [109, 97, 120], [109, 101, 114, 103, 101], [109, 105, 110], [109, 115], [110, 111, 116], [110, 117, 108, 108], [111, 110], [111, 114], [111, 114, 100, 101, 114], [111, 117, 116, 112, 117, 116], [111, 118, 101, 114, 108, 97, 112, 112, 105, 110, 103], [112, 97, 114, 116, 105, 116, 105, 111, 110], [112, 97, 116, 116, 101, 114, 110], [114, 115, 116, 114, 101, 97, 109], [115, 99, 104, 101, 109, 97], [115, 101, 108, 101, 99, 116], [115, 101, 116], [115, 110, 97, 112, 115, 104, 111, 116], [115, 116, 97, 114, 116], [115, 117, 109], [116, 104, 101, 110], [116, 105, 109, 101, 114], [116, 114, 117, 101], [117, 112, 100, 97, 116, 101], [119, 104, 101, 110], [119, 104, 101, 114, 101], [119, 105, 110, 100, 111, 119], [119, 105, 116, 104, 105, 110]]
def wd (i : Nat) : List UInt8 := wdL.getD i []
theorem own : ownKnob Tryz.prog.godebug = none := by kernel_rfl
theorem laidOut : laidOutB Tryz.prog = true := by kernel_rfl
theorem cells9 : Tryz.prog.cellsOf 9 = 1 := by kernel_rfl
theorem words_eq : (Rows.laid_marquee_lex_words : DataW Unit) = .agg (wdL.map fun x => .lit (.string x)) := by kernel_rfl
theorem var_cell {W : World} {name : String} {g : Nat} {cs : Array Value} (hg : Tryz.prog.globalNamed name = some g) (h : W.var? Tryz.prog name = some cs) (i : Nat) (v : Value) (hi : cs[i]? = some v) : W.cell? ⟨g, i, none⟩ = some v := by
  unfold World.var? at h
  rw [hg] at h
  simp only [Option.bind_some] at h
  split at h
  · next c e f hb =>
    injection h with h
    subst h
    unfold World.cell?
    simp only [hb]
    simpa using hi
  · cases h
theorem words_of {W : World} (h : VarReads Tryz.prog W "marquee/lex.words" Rows.laid_marquee_lex_words) : ∀ i, i < 58 → W.cell? ⟨3, i, none⟩ = some (.string (bsA (wd i))) := by
  rw [words_eq] at h
  obtain ⟨g', t', cs, fuel, p, hg', hty', hvar, hd⟩ := h
  have hg : Tryz.prog.globalNamed "marquee/lex.words" = some 3 := by kernel_rfl
  have hty : (Tryz.prog.globals[3]?).map (·.type) = some 227 := by kernel_rfl
  obtain rfl := Option.some.inj (hg.symm.trans hg')
  obtain rfl := Option.some.inj (hty.symm.trans hty')
  obtain ⟨xs, m, hm, ex, hlen, hl, hel⟩ := DataW.trod_array Tryz.underlying227 hd
  intro i hi
  have he := hel i hi
  rw [cells9, Nat.mul_one] at he
  obtain ⟨y, hy⟩ : ∃ y, xs[i]? = some y := ⟨xs[i]'(by omega), List.getElem?_eq_getElem (by omega)⟩
  rw [hy] at he
  obtain ⟨z, hz, hyz, _⟩ := DataW.trod_string Tryz.underlying9 he
  injection ex with ex1 ex2
  injection ex1 with ex1
  have e1 := congrArg (fun l => l[i]?) ex1
  simp only [List.getElem?_map, hy, Option.map_some] at e1
  have e2 : wdL[i]? = some (wd i) := by
    unfold wd
    rw [List.getD_eq_getElem?_getD, List.getElem?_eq_getElem (by show i < 58; exact hi)]
    rfl
  rw [e2, hyz] at e1
  simp only [Option.map_some, Option.some.injEq] at e1
  injection e1 with e1
  injection e1 with e1
  have ez : z = bsA (wd i) := by rw [e1, bsA_of]
  have hc : cs.toList[i]? = some (.string z) := by
    have := congrArg (fun l => l[0]?) hz
    simpa using this
  exact var_cell hg hvar i _ (by rw [← ez]; simpa using hc)
theorem wordsV_eq : wordsV = wdL.map fun x => .string (bsA x) := by kernel_rfl
theorem sure_of {W : World} (h : VarReads Tryz.prog W "marquee/lex.words" Rows.laid_marquee_lex_words) (w' : World) (hb : Below W.heap.size W w') : Calls Tryz.prog 9 #[] w' fun e w2 => e = .returned (.bool true) ∧ Below w'.heap.size w' w2 := by
  have hw := words_of h
  have hlt : 3 < W.heap.size := by
    have h0 := hw 0 (by omega)
    rcases Nat.lt_or_ge 3 W.heap.size with h' | h'
    · exact h'
    · unfold World.cell? at h0
      rw [Array.getElem?_eq_none h'] at h0
      cases h0
  have hbk := hb.block 3 hlt
  refine sure_any w' (fun i v hv => ?_) ?_
  · rw [wordsV_eq, List.getElem?_map] at hv
    obtain ⟨x, hx, rfl⟩ := Option.map_eq_some_iff.1 hv
    have hi : i < 58 := by
      have := (List.getElem?_eq_some_iff.1 hx).1
      exact this
    have e := hw i hi
    rw [World.cell?_of_block (a := ⟨3, i, none⟩) hbk, e]
    unfold wd
    rw [List.getD_eq_getElem?_getD, hx]
    rfl
  · have h0 := hw 0 (by omega)
    unfold World.cell? at h0
    rw [hbk]
    split at h0
    · rename_i c el fr hh
      exact ⟨c, el, fr, hh⟩
    · cases h0
set_option maxRecDepth 100000 in
theorem laid_met (os : Os) (args : Array Value) : laidMet Tryz.prog Rows.codeChecksRow.laid ((World.laidAll Tryz.prog os Rows.codeChecksRow.laid).forCall (fun _ _ => 0) ⟨#[], args, []⟩).memory :=
  laidMet_laidAll args (by kernel_rfl) (by kernel_rfl)
theorem witness_row_shaped {H : Type} {enc : TypeId × Value → H} {C : Checked} {os : Os} {f : FuncId} {fn : Func} {s : OpenSpec} {conds : List PathCond} {apart : Bool} {laid : List (String × DataW Unit)} (modest : Bool) (w0 : World) (args : Array Value) (hos : w0.os = os)
    (hsh : (w0.forCall (fun _ _ => 0) ⟨#[], args, []⟩).Shaped C.prog)
    (hok : Input.okWideB C.prog (w0.forCall (fun _ _ => 0) ⟨#[], args, []⟩) f ⟨#[], args, []⟩ = true)
    (hrow : s.preRow enc C.prog fn conds apart laid (w0.forCall (fun _ _ => 0) ⟨#[], args, []⟩).memory args) :
    ∃ (w : World) (tape : Tape) (i : Input), w.os = os ∧ (w.forCall tape i).Shaped C.prog ∧ i.vars = [] ∧ Input.okWide C.prog (w.forCall tape i) .any w.heap.size f i ∧
      s.preRow enc C.prog fn conds apart laid (w.forCall tape i).memory i.args ∧ ({ modest := modest } : Assume).holds C.prog (lone (Frame.enter C.prog f i.args .normal) [] (w.forCall tape i)) :=
  ⟨w0, fun _ _ => 0, ⟨#[], args, []⟩, hos, hsh, (Input.okWide_of_okWideB (base := 0) hok).1, (Input.okWide_of_okWideB hok).2, hrow, by
    simp only [Assume.holds]
    exact ⟨by simp, by simp, fun _ => Modest.zero, by simp, by simp⟩⟩
section
variable {H : Type} {enc : TypeId × Value → H} {W : World} {base : Nat} {spare : Nat → Bool} {held : Bool}
theorem weigh (t e z : Nat) {fuel : Nat} {a : Option Addr} {len cap : Nat} {x : DataW H × List MemPlace} (ht : Tryz.prog.underlying t = some (.slice e)) (hb : Tryz.prog.bytesOf e = z) (h : DataW.trod enc Tryz.prog W base spare held fuel t [.slice a len cap] = some x) (hw : ∀ y ∈ x.1.weights Tryz.prog t, y ≤ reachBytes) :
    len * z ≤ 140737488355328 := by
  rcases open_slice ht h with ⟨hcs, _⟩ | ⟨a', len', cap', m, nn, D, Pl, hcs, _, hl, hm, hmm, hx, _⟩
  · have e : len = 0 := by
      simp only [List.cons.injEq, Value.slice.injEq, and_true] at hcs
      exact hcs.2.1
    subst e
    rw [Nat.zero_mul]; omega
  have e : len = len' := by
    simp only [List.cons.injEq, Value.slice.injEq, and_true] at hcs
    exact hcs.2.1
  subst e
  have hle : len ≤ m := by rw [hmm]; split <;> omega
  have h1 := hw ((len + (m - len)) * z) (by
    rw [hx]
    simp [DataW.weights, ht, hb])
  have hr : reachBytes = 140737488351232 := rfl
  rw [hr] at h1
  have h2 : len * z ≤ (len + (m - len)) * z := Nat.mul_le_mul_right _ (by omega)
  omega
end
end Go.Proofs.YtmadofpbfgbdkaaGreatDoor
