/- The chapter's examples (awake): reckoned by the kernel over any memory. -/
import Derived.Test.YtfjpdflilmcnhaaGreatDoorSyCl
import Derived.Test.YtfjpdflilmcnhaaGreatDoorChecked
namespace Go.Proofs.YtfjpdflilmcnhaaGreatDoor
open Go.Sy
set_option maxRecDepth 100000
theorem mixed : Tryz.prog.follows .mixedOrders = true := by kernel_rfl
def isTrue (r : Option (Value × Hp × Nat)) : Bool := match r with
  | some (.bool true, _, _) => true
  | _ => false
theorem awake_is : isTrue (evF Tryz.prog noO 100000 12 (unk 0) (gHp []) 64) = true := by kernel_rfl
theorem awake_any (w : World) : Calls Tryz.prog 12 #[] w fun e w' => e = .returned (.bool true) ∧ Go.RowKit.Below w.heap.size w w' := by
  have h := awake_is
  unfold isTrue at h
  split at h
  · rename_i h' nx he
    exact closed_args mixed [] rfl 100000 [] (fun v hv => by cases hv) he rfl w ⟨fun p hp => (by cases hp), fun p hp => (by cases hp), fun p hp => (by cases hp)⟩
  · cases h
end Go.Proofs.YtfjpdflilmcnhaaGreatDoor
