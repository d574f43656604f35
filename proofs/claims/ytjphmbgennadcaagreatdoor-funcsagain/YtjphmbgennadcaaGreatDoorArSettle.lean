/- Operands that come as a list: whether their kinds alone say what is answered; the kind that they have together. -/
import Derived.Test.YtjphmbgennadcaaGreatDoorArShare
namespace Go.Proofs.YtjphmbgennadcaaGreatDoor.Ar
open Go.ChangeShapes Go.WideShapes Go.ChangeAt Go.RowKit

/-- What the kinds alone say: the error, and whether it is over. -/
def st1 (k : Int) : Int × Bool := if k = 2 ∨ k = 3 then (0, false) else if k = 0 then (0, true) else (22, true)
def st2 (k k' : Int) : Int × Bool := if (st1 k).1 = 22 ∨ (st1 k').1 = 22 then (22, true) else (0, (st1 k).2 || (st1 k').2)
def kind2 (k k' : Int) : Int := if k = 3 ∨ k' = 3 then 3 else 2
theorem four (k : Int) : k = 2 ∨ k = 3 ∨ k = 0 ∨ (k ≠ 2 ∧ k ≠ 3 ∧ k ≠ 0) := by omega

set_option maxHeartbeats 1000000 in
theorem settled1 (k n : Int) (t : ByteArray) (W : World) (B : Nat) (hB : W.heap.size = B) :
    Calls Tryz.prog 113 #[.slice (some ⟨B, 0, none⟩) 1 1] (W.alloc (.cells #[.int .i64 k, .int .i64 n, .string t] 34)) fun e w' => e = .returned (.tuple #[.int .i64 (st1 k).1, .bool (st1 k).2]) ∧ Below W.heap.size W w' := by
  subst hB
  rcases four k with rfl | rfl | rfl | ⟨h2, h3, h0⟩
  all_goals
    go_enter Tryz.func113, Tryz.ntmps113
    go_wp2
    refine wp_loop_rounds 2 ?_
    repeat (rw [rounds_succ]; go_wp2)
    go_ret2
    exact ⟨by simp [st1, *], (Bel.out (by repeat (first | exact Bel.refl _ | refine Bel.drew ?_ | refine Bel.drewN ?_ _ | refine Bel.alloc ?_ _ | refine Bel.setCell ?_ (by simp <;> omega) _ | refine Bel.step ?_ (by assumption))))⟩

set_option maxHeartbeats 4000000 in
theorem settled2 (k n : Int) (t : ByteArray) (k' n' : Int) (t' : ByteArray) (W : World) (B : Nat) (hB : W.heap.size = B) :
    Calls Tryz.prog 113 #[.slice (some ⟨B, 0, none⟩) 2 2] (W.alloc (.cells #[.int .i64 k, .int .i64 n, .string t, .int .i64 k', .int .i64 n', .string t'] 34)) fun e w' => e = .returned (.tuple #[.int .i64 (st2 k k').1, .bool (st2 k k').2]) ∧ Below W.heap.size W w' := by
  subst hB
  rcases four k with rfl | rfl | rfl | ⟨h2, h3, h0⟩ <;> rcases four k' with rfl | rfl | rfl | ⟨h2', h3', h0'⟩
  all_goals
    go_enter Tryz.func113, Tryz.ntmps113
    go_wp2
    refine wp_loop_rounds 3 ?_
    repeat (rw [rounds_succ]; go_wp2)
    go_ret2
    exact ⟨by simp [st1, st2, *], (Bel.out (by repeat (first | exact Bel.refl _ | refine Bel.drew ?_ | refine Bel.drewN ?_ _ | refine Bel.alloc ?_ _ | refine Bel.setCell ?_ (by simp <;> omega) _ | refine Bel.step ?_ (by assumption))))⟩

end Go.Proofs.YtjphmbgennadcaaGreatDoor.Ar
