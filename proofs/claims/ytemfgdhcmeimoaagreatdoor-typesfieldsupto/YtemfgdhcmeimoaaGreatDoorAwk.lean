/- Some of the chapter's examples (awake): reckoned by the kernel over any memory that has the words of the language. -/
import Derived.Test.YtemfgdhcmeimoaaGreatDoorSyCl
import Derived.Test.YtemfgdhcmeimoaaGreatDoorChecked
namespace Go.Proofs.YtemfgdhcmeimoaaGreatDoor
open Go.Sy
set_option maxRecDepth 100000
def wordsV : List Value := [.string ⟨#[97, 108, 108]⟩, .string ⟨#[97, 110, 100]⟩, .string ⟨#[97, 115]⟩, .string ⟨#[97, 118, 103]⟩, .string ⟨#[98, 101, 116, 119, 101, 101, 110]⟩, .string ⟨#[98, 121]⟩, .string ⟨#[99, 97, 115, 101]⟩, .string ⟨#[99, 111, 110, 116, 101, 120, 116]⟩, .string ⟨#[99, 111, 117, 110, 116]⟩, .string ⟨#[99, 114, 101, 97, 116, 101]⟩, .string ⟨#[100, 101, 108, 101, 116, 101]⟩, .string ⟨#[100, 101, 115, 99]⟩, .string ⟨#[100, 105, 115, 116, 105, 110, 99, 116]⟩, .string ⟨#[101, 108, 115, 101]⟩, .string ⟨#[101, 110, 100]⟩, .string ⟨#[101, 118, 101, 110, 116, 115]⟩, .string ⟨#[101, 118, 101, 114, 121]⟩, .string ⟨#[102, 97, 108, 115, 101]⟩, .string ⟨#[102, 105, 114, 115, 116]⟩, .string ⟨#[102, 114, 111, 109]⟩, .string ⟨#[103, 114, 111, 117, 112]⟩, .string ⟨#[104, 97, 118, 105, 110, 103]⟩, .string ⟨#[105, 110]⟩, .string ⟨#[105, 110, 115, 101, 114, 116]⟩, .string ⟨#[105, 110, 116, 111]⟩, .string ⟨#[105, 114, 115, 116, 114, 101, 97, 109]⟩, .string ⟨#[105, 115]⟩, .string ⟨#[105, 115, 116, 114, 101, 97, 109]⟩, .string ⟨#[108, 97, 115, 116]⟩, .string ⟨#[109, 97, 116, 99, 104, 101, 100]⟩, .string ⟨#[109, 97, 120]⟩, .string ⟨#[109, 101, 114, 103, 101]⟩, .string ⟨#[109, 105, 110]⟩, .string ⟨#[109, 115]⟩, .string ⟨#[110, 111, 116]⟩, .string ⟨#[110, 117, 108, 108]⟩, .string ⟨#[111, 110]⟩, .string ⟨#[111, 114]⟩, .string ⟨#[111, 114, 100, 101, 114]⟩, .string ⟨#[111, 117, 116, 112, 117, 116]⟩, .string ⟨#[111, 118, 101, 114, 108, 97, 112, 112, 105, 110, 103]⟩, .string ⟨#[112, 97, 114, 116, 105, 116, 105, 111, 110]⟩, .string ⟨#[112, 97, 116, 116, 101, 114, 110]⟩, .string ⟨#[114, 115, 116, 114, 101, 97, 109]⟩, .string ⟨#[115, 99, 104, 101, 109, 97]⟩, .string ⟨#[115, 101, 108, 101, 99, 116]⟩, .string ⟨#[115, 101, 116]⟩, .string ⟨#[115, 110, 97, 112, 115, 104, 111, 116]⟩, .string ⟨#[115, 116, 97, 114, 116]⟩, .string ⟨#[115, 117, 109]⟩, .string ⟨#[116, 104, 101, 110]⟩, .string ⟨#[116, 105, 109, 101, 114]⟩, .string ⟨#[116, 114, 117, 101]⟩, .string ⟨#[117, 112, 100, 97, 116, 101]⟩, .string ⟨#[119, 104, 101, 110]⟩, .string ⟨#[119, 104, 101, 114, 101]⟩, .string ⟨#[119, 105, 110, 100, 111, 119]⟩, .string ⟨#[119, 105, 116, 104, 105, 110]⟩]
def wordsG : List (Nat × Ent) := [(3, ⟨0, 0, wordsV⟩)]
theorem wordsG_ok : gOk wordsG = true := by kernel_rfl
theorem wordsV_one : wordsV.all (fun v => v.oneCell') = true := by kernel_rfl
theorem mixed : Tryz.prog.follows .mixedOrders = true := by kernel_rfl
def isTrue (r : Option (Value × Hp × Nat)) : Bool := match r with
  | some (.bool true, _, _) => true
  | _ => false
theorem awake_is : isTrue (evF Tryz.prog noO 100000 8 [] (gHp wordsG) 64) = true := by kernel_rfl
theorem awake_any (w : World) (hc : ∀ i v, wordsV[i]? = some v → w.cell? ⟨3, i, none⟩ = some v) (hb : ∃ c el fr, w.heap[3]? = some (.cells c el fr)) : Calls Tryz.prog 8 #[] w fun e w' => e = .returned (.bool true) ∧ Go.RowKit.Below w.heap.size w w' := by
  have h := awake_is
  unfold isTrue at h
  split at h
  · rename_i h' nx he
    refine closed_var mixed wordsG wordsG_ok 100000 he rfl w ⟨fun p hp _ i v hv => ?_, fun p hp => ?_, fun p hp v hv => ?_⟩
    · rw [List.mem_singleton.1 hp] at hv ⊢
      exact hc i v hv
    · rw [List.mem_singleton.1 hp]
      exact hb
    · rw [List.mem_singleton.1 hp] at hv
      exact List.all_eq_true.1 wordsV_one v hv
  · cases h
end Go.Proofs.YtemfgdhcmeimoaaGreatDoor
