/- What must come whatever the input is (sure): reckoned by the kernel over any memory that has the words of the language. -/
import Derived.Test.YtmadofpbfgbdkaaGreatDoorOrb
namespace Go.Proofs.YtmadofpbfgbdkaaGreatDoor
open Go.Sy
set_option maxRecDepth 100000
def isTrue (r : Option (Value × Hp × Nat)) : Bool := match r with
  | some (.bool true, _, _) => true
  | _ => false
theorem sure_is : isTrue (evF Tryz.prog (orcC wordsG tbl) 100000 9 [] (gHp wordsG) 64) = true := by kernel_rfl
theorem sure_any (w : World) (hc : ∀ i v, wordsV[i]? = some v → w.cell? ⟨3, i, none⟩ = some v) (hb : ∃ c el fr, w.heap[3]? = some (.cells c el fr)) : Calls Tryz.prog 9 #[] w fun e w' => e = .returned (.bool true) ∧ Go.RowKit.Below w.heap.size w w' := by
  have h := sure_is
  unfold isTrue at h
  split at h
  · rename_i h' nx he
    refine closed_orc mixed wordsG wordsG_ok tbl tbl_ok 100000 he rfl w ⟨fun p hp _ i v hv => ?_, fun p hp => ?_, fun p hp v hv => ?_⟩
    · rw [List.mem_singleton.1 hp] at hv ⊢
      exact hc i v hv
    · rw [List.mem_singleton.1 hp]
      exact hb
    · rw [List.mem_singleton.1 hp] at hv
      exact List.all_eq_true.1 wordsV_one v hv
  · cases h
end Go.Proofs.YtmadofpbfgbdkaaGreatDoor
