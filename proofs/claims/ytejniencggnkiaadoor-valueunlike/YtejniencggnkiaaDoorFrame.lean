/- What the six rows share: a value opened and shut, the tables that the rows list, a world that holds them. -/
import Derived.Test.YtejniencggnkiaaDoorCards
import Derived.Test.YtejniencggnkiaaDoorTie
import Derived.Test.YtejniencggnkiaaDoorMay
import Derived.Lib.LaidIn
import Derived.Lib.LaidU8T
import Derived.Lib.SmallJoins
import Derived.Deep.DeepHandedRow
import Derived.Deep.DeepWitnessRowRef
import Derived.ProofKit
import Derived.OpenShut
namespace Go.Proofs.YtejniencggnkiaaDoor
open Go.Shelf Go.ChangeShapes Go.WideShapes Go.ChangeAt Go.RowKit Go.Lib Go.Joins

theorem own : ownKnob Tryd.prog.godebug = none := by kernel_rfl
theorem cells23 : Tryd.prog.cellsOf 23 = 3 := by kernel_rfl
theorem cells57 : Tryd.prog.cellsOf 57 = 5 := by kernel_rfl
theorem cells3 : Tryd.prog.cellsOf 3 = 1 := by kernel_rfl
theorem cells94 : Tryd.prog.cellsOf 94 = 20 := by kernel_rfl
theorem cells50 : Tryd.prog.cellsOf 50 = 1 := by kernel_rfl

section
variable {H : Type} {enc : TypeId × Value → H}
set_option maxRecDepth 100000 in
/-- A value that came in: its three fields. -/
theorem open_val {W : World} {base : Nat} {v : Value} {d : DataW H} {p : List MemPlace} (hv : Value.okWide Tryd.prog W .any base 23 v) (h : DataW.Trod enc Tryd.prog W 0 (fun _ => true) true 23 v d p) :
    ∃ (k n : Int) (t : ByteArray), v = .agg #[.int .i64 k, .int .i64 n, .string t] ∧ d = .agg [.lit (.int .i64 k), .lit (.int .i64 n), .lit (.string t.data.toList)] ∧ p = [] ∧ (Lit.int .i64 k).wf = true ∧ (Lit.int .i64 n).wf = true ∧ t.size ≤ maxLen := by
  obtain ⟨c0, c1, c2, y0, y1, y2, m, rfl, rfl, rfl, hy0, hy1, hy2⟩ := open_agg3 Tryd.underlying23 (by kernel_rfl) cells23 hv h
  obtain ⟨k, e0, rfl, wk⟩ := DataW.trod_int Tryd.underlying3 hy0
  obtain ⟨n, e1, rfl, wn⟩ := DataW.trod_int Tryd.underlying3 hy1
  obtain ⟨t, e2, rfl, wt⟩ := DataW.trod_string Tryd.underlying9 hy2
  simp only [List.cons.injEq, and_true] at e0 e1 e2
  subst e0 e1 e2
  exact ⟨k, n, t, rfl, rfl, rfl, wk, wn, wt⟩
set_option maxRecDepth 100000 in
theorem shut_val {W : World} {sp : Nat → Bool} {k n : Int} {t : ByteArray} (wk : (Lit.int .i64 k).wf = true) (wn : (Lit.int .i64 n).wf = true) (wt : t.size ≤ maxLen) :
    DataW.Trod enc Tryd.prog W 0 sp true 23 (.agg #[.int .i64 k, .int .i64 n, .string t]) (.agg [.lit (.int .i64 k), .lit (.int .i64 n), .lit (.string t.data.toList)]) [] :=
  shut_agg3 (y0 := (.lit (.int .i64 k), [])) (y1 := (.lit (.int .i64 n), [])) (y2 := (.lit (.string t.data.toList), [])) Tryd.underlying23 (by kernel_rfl) cells23
    ⟨1, by simp [DataW.trod, Tryd.underlying3, wk]⟩ ⟨1, by simp [DataW.trod, Tryd.underlying3, wn]⟩ ⟨1, by simp [DataW.trod, Tryd.underlying9, wt]⟩
end

theorem tabIs_of_reads {W : World} {name : String} {k : IntKind} {zs : List Int} {g : Nat} {t e : TypeId} {n : Nat} (hg : Tryd.prog.globalNamed name = some g) (hty : (Tryd.prog.globals[g]?).map (·.type) = some t)
    (ht : Tryd.prog.underlying t = some (.array n e)) (he : Tryd.prog.underlying e = some (.int k)) (hce : Tryd.prog.cellsOf e = 1) (hct : Tryd.prog.cellsOf t = n)
    (h : VarReads Tryd.prog W name (tabData k zs)) : TabIs Tryd.prog W name k zs := by
  obtain ⟨g', t', cs, fuel, p, hg', hty', hvar, hd⟩ := h
  obtain rfl := Option.some.inj (hg.symm.trans hg')
  obtain rfl := Option.some.inj (hty.symm.trans hty')
  have hcs := cells_of_tab ht he hce hct hd
  unfold TabIs
  rw [hvar, ← hcs]

theorem pow_eq : (Rows.laid_internal_strconv_uint64pow10 : DataW Unit) = tabData .u64 pow10Tab := by kernel_rfl
theorem acc_eq : (Rows.laid_unicode_utf8_acceptRanges : DataW Unit) = acceptData := by kernel_rfl
theorem first_eq : Rows.laid_unicode_utf8_first = firstData := by kernel_rfl
theorem ranks_eq : (Rows.laid_marquee_value_ranks : DataW Unit) = tabData .i64 [0, 1, 2, 2, 3] := by kernel_rfl

/-- The table of ranks. -/
def Ranks (w : World) : Prop := TabIs Tryd.prog w "marquee/value.ranks" .i64 [0, 1, 2, 2, 3]

theorem ready_of {W : World} (h1 : VarReads Tryd.prog W "internal/strconv.uint64pow10" Rows.laid_internal_strconv_uint64pow10) (h2 : VarReads Tryd.prog W "unicode/utf8.acceptRanges" Rows.laid_unicode_utf8_acceptRanges)
    (h3 : VarReads Tryd.prog W "unicode/utf8.first" Rows.laid_unicode_utf8_first) (hsh : W.ShapedOpen Tryd.prog) : Ready W where
  pow := tabIs_of_reads (g := 4) (t := 94) (e := 50) (n := 20) (by kernel_rfl) (by kernel_rfl) Tryd.underlying94 Tryd.underlying50 cells50 cells94 (pow_eq ▸ h1)
  utf := utf8Tabs_of_readsT (U8Types.of196 Tryd.lays196) ⟨by kernel_rfl, by kernel_rfl, by kernel_rfl, by kernel_rfl, by kernel_rfl, by kernel_rfl, by kernel_rfl⟩ (first_eq ▸ h3) (acc_eq ▸ h2)
  maxl := Tryd.laysM155.s1_3 W hsh
theorem ranks_of {W : World} (h1 : VarReads Tryd.prog W "marquee/value.ranks" Rows.laid_marquee_value_ranks) : Ranks W :=
  tabIs_of_reads (g := 0) (t := 57) (e := 3) (n := 5) (by kernel_rfl) (by kernel_rfl) Tryd.underlying57 Tryd.underlying3 cells3 cells57 (ranks_eq ▸ h1)

/-- A datum's cells, where it is a flat array of integers. -/
def flat : DataW Unit → Array Value
  | .agg l => (l.map fun x => match x with | .lit (.int k n) => Value.int k n | _ => .int .i64 0).toArray
  | _ => #[]
/-- The settled world, the listed variables holding what their initialisers lay. -/
def laidW (P : Program) (os : Os) : World :=
  let w0 := World.holding P os ⟨#[], #[], []⟩
  let put (h : Array Obj) (g : Nat) (cs : Array Value) : Array Obj := h.modify g fun
    | .cells _ t frozen => .cells cs t frozen
    | o => o
  let h1 := put w0.heap 0 (flat Rows.laid_marquee_value_ranks)
  let h2 := put h1 1 (flat Rows.laid_unicode_utf8_first)
  let h3 := put h2 2 ((List.range 16).flatMap fun i => [Value.int .u8 (Lib.accLo i), Value.int .u8 (Lib.accHi i)]).toArray
  let h4 := put h3 4 (flat Rows.laid_internal_strconv_uint64pow10)
  let h5 := put h4 5 (flat Rows.laid_math_bits_deBruijn32tab)
  let h6 := put h5 6 (flat Rows.laid_math_bits_deBruijn64tab)
  { w0 with heap := h6 }
set_option maxRecDepth 100000 in
theorem laid_met5 (os : Os) (args : Array Value) : laidMet Tryd.prog Rows.valueLogicRow.laid ((laidW Tryd.prog os).forCall (fun _ _ => 0) ⟨#[], args, []⟩).memory :=
  (LaidIn.of_run (l := Rows.valueLogicRow.laid) [0, 1, 2, 4, 5, 6] 8 (by kernel_rfl) (by kernel_rfl) (by kernel_rfl) (by kernel_rfl)).met
set_option maxRecDepth 100000 in
theorem laid_met6 (os : Os) (args : Array Value) : laidMet Tryd.prog Rows.valueComparesRow.laid ((laidW Tryd.prog os).forCall (fun _ _ => 0) ⟨#[], args, []⟩).memory :=
  (LaidIn.of_run (l := Rows.valueComparesRow.laid) [0, 1, 2, 4, 5, 6] 8 (by kernel_rfl) (by kernel_rfl) (by kernel_rfl) (by kernel_rfl)).met
end Go.Proofs.YtejniencggnkiaaDoor
