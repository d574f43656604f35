/- The table of the functions. -/
import Derived.Test.YtjphmbgennadcaaGreatDoorCom
import Derived.Deep.WholeRow
import Derived.Deep.RegionHeld3
namespace Go.Proofs.YtjphmbgennadcaaGreatDoor
set_option maxHeartbeats 4000000
set_option linter.unusedSimpArgs false
open Go.ChangeShapes Go.WideShapes Go.ChangeAt Go.RowKit

section
variable {P : Program} {ops : Array Oper} {Q : Exit → Act → World → Prop} {md : Region.Mode} {S : World → Prop}
theorem dtk (i : Nat) (d : Option Tmp) {oi : Oper} {v : Value} {fuel : Nat} {listed : Array Bool} {a : Act} {w : World} (hi : ops[i]? = some oi) (hv : ∀ w, S w → (execOp a.eval oi).run P w = .ok (.value v) w) (h : wpAnyH P md ops Q S fuel (listed.setIfInBounds i true) (a.put d v) w)
    (hd : oi.dst = d := by rfl) (hs : Region.noSelect ops = true := by kernel_rfl) (hf : Region.free md ops listed i = true := by kernel_rfl) (hr : (Region.ready md ops listed).contains i = true := by kernel_rfl)
    (hQ : ∀ c a w, Q (.panic c) (a.put d v) w → Q (.panic c) a w := by exact fun _ _ _ h => h) (hw : Region.wanted oi (yielded ops a.tmps) = true := by kernel_rfl) (hS : S w := by assumption) : wpAnyH P md ops Q S (fuel + 1) listed a w := by
  subst hd
  exact wpAnyH_take hi hs hf hr hQ (Or.inl ⟨hw, hv⟩) hS h
theorem dtkS (i : Nat) (d : Option Tmp) {oi : Oper} {fuel : Nat} {listed : Array Bool} {a : Act} {w : World} (hi : ops[i]? = some oi) (h : wpAnyH P md ops Q S fuel (listed.setIfInBounds i true) (a.put d undef) w)
    (hd : oi.dst = d := by rfl) (hs : Region.noSelect ops = true := by kernel_rfl) (hf : Region.free md ops listed i = true := by kernel_rfl) (hr : (Region.ready md ops listed).contains i = true := by kernel_rfl)
    (hQ : ∀ c a w, Q (.panic c) (a.put d undef) w → Q (.panic c) a w := by exact fun _ _ _ h => h) (hw : Region.wanted oi (yielded ops a.tmps) = false := by kernel_rfl) (hS : S w := by assumption) : wpAnyH P md ops Q S (fuel + 1) listed a w := by
  subst hd
  exact wpAnyH_take hi hs hf hr hQ (Or.inr ⟨hw, rfl⟩) hS h
end
def tkF : Nat → FuncId
  | 0 => 41
  | 1 => 41
  | 2 => 44
  | 3 => 46
  | 4 => 41
  | 5 => 44
  | 6 => 44
  | 7 => 51
  | 8 => 51
  | 9 => 54
  | 10 => 41
  | 11 => 41
  | 12 => 58
  | 13 => 41
  | 14 => 41
  | 15 => 62
  | 16 => 51
  | _ => 51
def dsF : Nat → FuncId
  | 0 => 42
  | 1 => 43
  | 2 => 45
  | 3 => 47
  | 4 => 48
  | 5 => 49
  | 6 => 50
  | 7 => 52
  | 8 => 53
  | 9 => 55
  | 10 => 56
  | 11 => 57
  | 12 => 59
  | 13 => 60
  | 14 => 61
  | 15 => 63
  | 16 => 64
  | _ => 65

/-- One row of the table, and all. -/
def rowL (k : Nat) : List Value := [.string (nmA k), .func (.func (tkF k)) #[] #[], .int .i64 (anI k), .func (.func (dsF k)) #[] #[], .bool (snB k)]
def tabL : List Value := (List.range 18).flatMap rowL
theorem tab_store (w : World) (X : List Value) (hX : X = tabL) : (storeCells ⟨w.heap.size, 0, none⟩ X 0).run Tryz.prog (w.alloc (.cells Tryz.zeroCells50 50)) = .ok () (w.alloc (.cells tabL.toArray 50)) := by
  subst hX
  exact run_storeCells_new w 50 Tryz.zeroCells50 tabL.toArray (by kernel_rfl) (by kernel_rfl) (by kernel_rfl)
theorem tab_load (w : World) (tm : List Value) : (results Tryz.f21 (Value.pointer (some ⟨w.heap.size, 0, none⟩) :: tm).toArray).run Tryz.prog (w.alloc (.cells tabL.toArray 50)) = .ok (.agg tabL.toArray) (w.alloc (.cells tabL.toArray 50)) := by
  have hld : (loadVar 50 ⟨w.heap.size, 0, none⟩).run Tryz.prog (w.alloc (.cells tabL.toArray 50)) = .ok (.agg tabL.toArray) (w.alloc (.cells tabL.toArray 50)) := run_loadVar_new w 50 tabL.toArray 18 49 Tryz.underlying50 (by kernel_rfl)
  generalize tabL.toArray = V at *
  unfold results
  rw [Tryz.results21]
  simp [asAddr, hld]
theorem table_any (w : World) : Calls Tryz.prog 21 #[] w fun e w' => e = .returned (.agg tabL.toArray) ∧ Below w.heap.size w w' := by
  go_enter Tryz.func21, Tryz.ntmps21
  go_wp2
  rw [tab_store _ _ (by kernel_rfl)]
  go_wp2
  exact bodyPost_ret (v := .agg tabL.toArray) (tab_load w _) rfl ⟨rfl, (Below.refl _ _).alloc (Nat.le_refl _) _⟩
theorem tab_at (m : Nat) (hm : m < 18) (w : World) : (Instr.index 50 (.agg tabL.toArray) (.int .i64 m)).run Tryz.prog w = .ok (.agg #[.string (nmA m), .func (.func (tkF m)) #[] #[], .int .i64 (anI m), .func (.func (dsF m)) #[] #[], .bool (snB m)]) w := by
  rcases (show m = 0 ∨ m = 1 ∨ m = 2 ∨ m = 3 ∨ m = 4 ∨ m = 5 ∨ m = 6 ∨ m = 7 ∨ m = 8 ∨ m = 9 ∨ m = 10 ∨ m = 11 ∨ m = 12 ∨ m = 13 ∨ m = 14 ∨ m = 15 ∨ m = 16 ∨ m = 17 by omega) with rfl | rfl | rfl | rfl | rfl | rfl | rfl | rfl | rfl | rfl | rfl | rfl | rfl | rfl | rfl | rfl | rfl | rfl
  all_goals kernel_rfl
end Go.Proofs.YtjphmbgennadcaaGreatDoor
