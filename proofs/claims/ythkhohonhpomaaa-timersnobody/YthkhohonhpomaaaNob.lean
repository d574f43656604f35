/- TimersNobody: reckoned by the kernel over any memory, whatever the arguments are. -/
import Derived.Test.YthkhohonhpomaaaSyCl
import Derived.Test.YthkhohonhpomaaaChecked
namespace Go.Proofs.Ythkhohonhpomaaa
open Go.Sy
set_option maxRecDepth 100000
theorem mixed : Try.prog.follows .mixedOrders = true := by kernel_rfl
def isTrue (r : Option (Value × Hp × Nat)) : Bool := match r with
  | some (.bool true, _, _) => true
  | _ => false
theorem nob_is : isTrue (evF Try.prog noO 100000 4 (unk 2) (gHp []) 64) = true := by kernel_rfl
theorem nob_any (v0 v1 : Value) (hv : ∀ v ∈ [v0, v1], v.oneCell' = true) (w : World) : Calls Try.prog 4 #[v0, v1] w fun e w' => e = .returned (.bool true) ∧ Go.RowKit.Below w.heap.size w w' := by
  have h := nob_is
  unfold isTrue at h
  split at h
  · rename_i h' nx he
    exact closed_args mixed [] rfl 100000 [v0, v1] hv he rfl w ⟨fun p hp => (by cases hp), fun p hp => (by cases hp), fun p hp => (by cases hp)⟩
  · cases h
end Go.Proofs.Ythkhohonhpomaaa
