/- Whether two rows, two lists of rows are the same (the document's answer). -/
import Derived.Test.YtjphmbgennadcaaGreatDoorMem
import Derived.Deep.RegionHeld3
import Derived.Laws.StructEq
namespace Go.Proofs.YtjphmbgennadcaaGreatDoor
open Go.ChangeShapes Go.WideShapes Go.ChangeAt Go.RowKit

def vlP (k v : Nat → Int) (t : Nat → ByteArray) (k' v' : Nat → Int) (t' : Nat → ByteArray) : Nat → Bool := fun j => k j == k' j && v j == v' j && (t j).toList == (t' j).toList
def vlS (n : Nat) (k v : Nat → Int) (t : Nat → ByteArray) (n' : Nat) (k' v' : Nat → Int) (t' : Nat → ByteArray) : Bool := decide (n = n') && allF (vlP k v t k' v' t') n 0
theorem neq53 (k k' n n' : Int) (t t' : ByteArray) (w : World) : (binOp .neq 34 (.agg #[.int .i64 k, .int .i64 n, .string t]) (.agg #[.int .i64 k', .int .i64 n', .string t'])).run Tryz.prog w = .ok (.bool (!(k == k' && n == n' && t.toList == t'.toList))) w := by
  rw [run_neq_struct, run_equalIn_agg w 9999 34 _ _ hf53 hs53]
  simp [Op.eqFields, Program.fieldsOf, Tryz.underlying34, go_sem, Tryz.underlying9, Tryz.underlying3]
  by_cases h1 : t.toList = t'.toList <;> by_cases h2 : k = k' <;> by_cases h3 : n = n' <;> simp [h1, h2, h3]
set_option maxHeartbeats 4000000 in
theorem rRow_ne (a a' : Option Addr) (n n' cap cap' : Nat) (w : World) (h : ((n : Int) == (n' : Int)) = false) :
    Calls Tryz.prog 15 #[.slice a n cap, .slice a' n' cap'] w fun e w' => e = .returned (.bool false) ∧ Below w.heap.size w w' := by
  have h' : ((n : Int) != (n' : Int)) = true := by unfold bne; rw [h]; rfl
  go_enter Tryz.func15, Tryz.ntmps15
  go_wp2
  all_goals go_ret
  all_goals exact ⟨rfl, (Bel.out (by repeat (first | exact Bel.refl _ | assumption | refine Bel.drew ?_ | refine Bel.drewN ?_ _ | refine Bel.alloc ?_ _ | refine Bel.setCell ?_ (by simp <;> omega) _ | refine Bel.step ?_ (by assumption))))⟩
set_option maxHeartbeats 4000000 in
theorem rRow_0 (a a' : Option Addr) (cap cap' : Nat) (w : World) :
    Calls Tryz.prog 15 #[.slice a 0 cap, .slice a' 0 cap'] w fun e w' => e = .returned (.bool true) ∧ Below w.heap.size w w' := by
  go_enter Tryz.func15, Tryz.ntmps15
  go_wp2
  refine wp_loop_rounds 1 ?_
  rw [rounds_succ]
  go_wp2
  go_ret
  exact ⟨rfl, (Bel.out (by repeat (first | exact Bel.refl _ | assumption | refine Bel.drew ?_ | refine Bel.drewN ?_ _ | refine Bel.alloc ?_ _ | refine Bel.setCell ?_ (by simp <;> omega) _ | refine Bel.step ?_ (by assumption))))⟩
theorem vlS_is (r r' : List Val) : vlS r.length (kAt r) (nAt r) (tAt r) r'.length (kAt r') (nAt r') (tAt r') = decide (r = r') := by
  unfold vlS
  by_cases hl : r.length = r'.length
  · rw [decide_eq_true hl, Bool.true_and]
    by_cases he : r = r'
    · subst he
      rw [decide_eq_true rfl, allF_iff]
      intro j _ _; simp [vlP]
    · rw [decide_eq_false he]
      cases hA : allF (vlP (kAt r) (nAt r) (tAt r) (kAt r') (nAt r') (tAt r')) r.length 0 with
      | false => rfl
      | true =>
        exfalso; apply he
        rw [allF_iff] at hA
        apply List.ext_getElem hl
        intro i h1 h2
        have := hA i (Nat.zero_le _) h1
        simp only [vlP, Bool.and_eq_true, beq_iff_eq] at this
        have e1 : r[i] = (kAt r i, nAt r i, tAt r i) := by rw [at_val, List.getD_eq_getElem?_getD, List.getElem?_eq_getElem h1]; rfl
        have e2 : r'[i] = (kAt r' i, nAt r' i, tAt r' i) := by rw [at_val, List.getD_eq_getElem?_getD, List.getElem?_eq_getElem h2]; rfl
        rw [e1, e2, this.1.1, this.1.2, ba_toList.mp this.2]
  · rw [decide_eq_false hl, Bool.false_and]
    symm; apply decide_eq_false
    rintro rfl; exact hl rfl
end Go.Proofs.YtjphmbgennadcaaGreatDoor
