/- What the rows share: the tables that they list, a world that holds them. -/
import Derived.Test.YtcemogaacicnfaaGreatDoorCards
import Derived.Test.YtcemogaacicnfaaGreatDoorTie
import Derived.Test.YtcemogaacicnfaaGreatDoorLxn
import Derived.Test.YtcemogaacicnfaaGreatDoorShelfV
import Derived.Lib.LaidIn
import Derived.Shelf.Vars
import Derived.Lib.LaidU8T
import Derived.Lib.SmallJoins
import Derived.Deep.DeepHandedRow
import Derived.Deep.SlicePairs
import Derived.ProofKit
import Derived.OpenShut
import Derived.Lay
namespace Go.Proofs.YtcemogaacicnfaaGreatDoor
open Go.Shelf Go.ChangeShapes Go.WideShapes Go.ChangeAt Go.RowKit Go.Lib Go.Joins Go.Deep

theorem own : ownKnob Tryz.prog.godebug = none := by kernel_rfl
theorem laidOut : laidOutB Tryz.prog = true := by kernel_rfl
theorem cells9 : Tryz.prog.cellsOf 9 = 1 := by kernel_rfl
theorem cells3 : Tryz.prog.cellsOf 3 = 1 := by kernel_rfl
theorem cells81 : Tryz.prog.cellsOf 93 = 1 := by kernel_rfl
theorem cells127 : Tryz.prog.cellsOf 171 = 20 := by kernel_rfl

theorem tabIs_of_reads {W : World} {name : String} {k : IntKind} {zs : List Int} {g : Nat} {t e : TypeId} {n : Nat} (hg : Tryz.prog.globalNamed name = some g) (hty : (Tryz.prog.globals[g]?).map (·.type) = some t)
    (ht : Tryz.prog.underlying t = some (.array n e)) (he : Tryz.prog.underlying e = some (.int k)) (hce : Tryz.prog.cellsOf e = 1) (hct : Tryz.prog.cellsOf t = n)
    (h : VarReads Tryz.prog W name (tabData k zs)) : TabIs Tryz.prog W name k zs := by
  obtain ⟨g', t', cs, fuel, p, hg', hty', hvar, hd⟩ := h
  obtain rfl := Option.some.inj (hg.symm.trans hg')
  obtain rfl := Option.some.inj (hty.symm.trans hty')
  have hcs := cells_of_tab ht he hce hct hd
  unfold TabIs
  rw [hvar, ← hcs]
theorem pow_eq : (Rows.laid_internal_strconv_uint64pow10 : DataW Unit) = tabData .u64 pow10Tab := by kernel_rfl
theorem acc_eq : (Rows.laid_unicode_utf8_acceptRanges : DataW Unit) = acceptData := by kernel_rfl
set_option maxRecDepth 100000 in
theorem first_eq : Rows.laid_unicode_utf8_first = firstData := by kernel_rfl
theorem words_eq : (Rows.laid_marquee_lex_words : DataW Unit) = .agg (wdL.map fun x => .lit (.string x)) := by kernel_rfl
theorem var_cell {W : World} {name : String} {g : Nat} {cs : Array Value} (hg : Tryz.prog.globalNamed name = some g) (h : W.var? Tryz.prog name = some cs) (i : Nat) (v : Value) (hi : cs[i]? = some v) : W.cell? ⟨g, i, none⟩ = some v := by
  unfold World.var? at h
  rw [hg] at h
  simp only [Option.bind_some] at h
  split at h
  · next c e f hb =>
    injection h with h
    subst h
    unfold World.cell?
    simp only [hb]
    simpa using hi
  · cases h
theorem words_of {W : World} (h : VarReads Tryz.prog W "marquee/lex.words" Rows.laid_marquee_lex_words) : ∀ i, i < 58 → W.cell? ⟨3, i, none⟩ = some (.string (bsA (wd i))) := by
  rw [words_eq] at h
  obtain ⟨g', t', cs, fuel, p, hg', hty', hvar, hd⟩ := h
  have hg : Tryz.prog.globalNamed "marquee/lex.words" = some 3 := by kernel_rfl
  have hty : (Tryz.prog.globals[3]?).map (·.type) = some 111 := by kernel_rfl
  obtain rfl := Option.some.inj (hg.symm.trans hg')
  obtain rfl := Option.some.inj (hty.symm.trans hty')
  obtain ⟨xs, m, hm, ex, hlen, hl, hel⟩ := DataW.trod_array Tryz.underlying111 hd
  intro i hi
  have he := hel i hi
  rw [cells9, Nat.mul_one] at he
  obtain ⟨y, hy⟩ : ∃ y, xs[i]? = some y := ⟨xs[i]'(by omega), List.getElem?_eq_getElem (by omega)⟩
  rw [hy] at he
  obtain ⟨z, hz, hyz, _⟩ := DataW.trod_string Tryz.underlying9 he
  injection ex with ex1 ex2
  injection ex1 with ex1
  have e1 := congrArg (fun l => l[i]?) ex1
  simp only [List.getElem?_map, hy, Option.map_some] at e1
  have e2 : wdL[i]? = some (wd i) := by
    unfold wd
    rw [List.getD_eq_getElem?_getD, List.getElem?_eq_getElem (by show i < 58; exact hi)]
    rfl
  rw [e2, hyz] at e1
  simp only [Option.map_some, Option.some.injEq] at e1
  injection e1 with e1
  injection e1 with e1
  have ez : z = bsA (wd i) := by rw [e1, bsA_of]
  have hc : cs.toList[i]? = some (.string z) := by
    have := congrArg (fun l => l[0]?) hz
    simpa using this
  exact var_cell hg hvar i _ (by rw [← ez]; simpa using hc)
set_option maxRecDepth 10000 in
theorem iface_of {W : World} {name : String} {g : Nat} {t : TypeId} {ms : Array (String × TypeId)} {d : DataW Unit} (hg : Tryz.prog.globalNamed name = some g) (hty : (Tryz.prog.globals[g]?).map (·.type) = some t) (ht : Tryz.prog.underlying t = some (.interface ms))
    (h : VarReads Tryz.prog W name d) : ∃ ev, W.cell? ⟨g, 0, none⟩ = some ev ∧ (ev = .nilIface ∨ ∃ te pe, ev = .iface te pe) := by
  obtain ⟨g', t', cs, fuel, p, hg', hty', hvar, hd⟩ := h
  obtain rfl := Option.some.inj (hg.symm.trans hg')
  obtain rfl := Option.some.inj (hty.symm.trans hty')
  cases fuel with
  | zero => simp [DataW.trod] at hd
  | succ m =>
    unfold DataW.trod at hd
    rw [ht] at hd
    have key : ∃ ev, cs.toList = [ev] ∧ (ev = .nilIface ∨ ∃ te pe, ev = .iface te pe) := by
      generalize cs.toList = l at hd
      cases l with
      | nil => simp at hd
      | cons v r =>
        cases r with
        | cons u r' => simp at hd
        | nil =>
          refine ⟨v, rfl, ?_⟩
          cases v with
          | nilIface => exact Or.inl rfl
          | iface u v => exact Or.inr ⟨u, v, rfl⟩
          | _ => simp at hd
    obtain ⟨ev, hev, hk⟩ := key
    exact ⟨ev, var_cell hg hvar 0 _ (by have := congrArg (fun l => l[0]?) hev; simpa using this), hk⟩
theorem ready_of {W : World} (h1 : VarReads Tryz.prog W "internal/strconv.uint64pow10" Rows.laid_internal_strconv_uint64pow10) (h2 : VarReads Tryz.prog W "unicode/utf8.acceptRanges" Rows.laid_unicode_utf8_acceptRanges)
    (h3 : VarReads Tryz.prog W "strconv.ErrRange" Rows.laid_strconv_ErrRange) (h4 : VarReads Tryz.prog W "strconv.ErrSyntax" Rows.laid_strconv_ErrSyntax) (h5 : VarReads Tryz.prog W "marquee/lex.words" Rows.laid_marquee_lex_words)
    (h6 : VarReads Tryz.prog W "unicode/utf8.first" Rows.laid_unicode_utf8_first) (hsh : W.ShapedOpen Tryz.prog) : Rdy W where
  words := words_of h5
  mx := Go.Proofs.cell_of_shapedOpen_int (zero := #[.int .i64 0]) (t := 3) hsh (of_decide_eq_true (by kernel_rfl)) (by kernel_rfl) rfl (by kernel_rfl) (by kernel_rfl) Tryz.underlying3
  utf := utf8Tabs_of_readsT (U8Types.of196 Tryz.lays196) ⟨by kernel_rfl, by kernel_rfl, by kernel_rfl, by kernel_rfl, by kernel_rfl, by kernel_rfl, by kernel_rfl⟩ (first_eq ▸ h6) (acc_eq ▸ h2)
  pow := tabIs_of_reads (g := 7) (t := 171) (e := 93) (n := 20) (by kernel_rfl) (by kernel_rfl) Tryz.underlying171 Tryz.underlying93 cells81 cells127 (pow_eq ▸ h1)
  es := iface_of (g := 5) (t := 104) (by kernel_rfl) (by kernel_rfl) Tryz.underlying104 h4
  er := iface_of (g := 6) (t := 104) (by kernel_rfl) (by kernel_rfl) Tryz.underlying104 h3
theorem rdy_of {W : World} (hL : laidMetH Tryz.prog Rows.treeSameRow.laid W) (hsh : W.ShapedOpen Tryz.prog) : Rdy W :=
  ready_of (Lib.laidMet.reads hL (.tail _ (.tail _ (.head _)))) (Lib.laidMet.reads hL (.tail _ (.tail _ (.tail _ (.head _))))) (Lib.laidMet.reads hL (.tail _ (.tail _ (.tail _ (.tail _ (.head _))))))
    (Lib.laidMet.reads hL (.tail _ (.tail _ (.tail _ (.tail _ (.tail _ (.head _))))))) (Lib.laidMet.reads hL (.tail _ (.tail _ (.tail _ (.tail _ (.tail _ (.tail _ (.head _))))))))
    (Lib.laidMet.reads hL (.tail _ (.tail _ (.tail _ (.tail _ (.tail _ (.tail _ (.tail _ (.tail _ (.head _)))))))))) hsh
set_option maxRecDepth 100000 in
theorem laid_met (os : Os) (args : Array Value) : laidMet Tryz.prog Rows.treeSameRow.laid ((World.laidAll Tryz.prog os Rows.treeSameRow.laid).forCall (fun _ _ => 0) ⟨#[], args, []⟩).memory :=
  laidMet_laidAll args (by kernel_rfl) (by kernel_rfl)
theorem witness_row_shaped {H : Type} {enc : TypeId × Value → H} {C : Checked} {os : Os} {f : FuncId} {fn : Func} {s : OpenSpec} {conds : List PathCond} {apart : Bool} {laid : List (String × DataW Unit)} (modest : Bool) (w0 : World) (args : Array Value) (hos : w0.os = os)
    (hsh : (w0.forCall (fun _ _ => 0) ⟨#[], args, []⟩).Shaped C.prog)
    (hok : Input.okWideB C.prog (w0.forCall (fun _ _ => 0) ⟨#[], args, []⟩) f ⟨#[], args, []⟩ = true)
    (hrow : s.preRow enc C.prog fn conds apart laid (w0.forCall (fun _ _ => 0) ⟨#[], args, []⟩).memory args) :
    ∃ (w : World) (tape : Tape) (i : Input), w.os = os ∧ (w.forCall tape i).Shaped C.prog ∧ i.vars = [] ∧ Input.okWide C.prog (w.forCall tape i) .any w.heap.size f i ∧
      s.preRow enc C.prog fn conds apart laid (w.forCall tape i).memory i.args ∧ ({ modest := modest } : Assume).holds C.prog (lone (Frame.enter C.prog f i.args .normal) [] (w.forCall tape i)) :=
  ⟨w0, fun _ _ => 0, ⟨#[], args, []⟩, hos, hsh, (Input.okWide_of_okWideB (base := 0) hok).1, (Input.okWide_of_okWideB hok).2, hrow, by
    simp only [Assume.holds]
    exact ⟨by simp, by simp, fun _ => Modest.zero, by simp, by simp⟩⟩
end Go.Proofs.YtcemogaacicnfaaGreatDoor
