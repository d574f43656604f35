/- .. the longest of them. -/
import Derived.Test.YtmadofpbfgbdkaaGreatDoorOra
namespace Go.Proofs.YtmadofpbfgbdkaaGreatDoor
open Go.Sy
set_option maxRecDepth 100000
theorem o1_ok : OrcOK Tryz.prog wordsG o1 := orc_of (noO_ok _) noO_mono mixed (n := 100000) (by kernel_rfl) (by kernel_rfl)
theorem tbl_ok : ∀ o ∈ tbl, OrcOK Tryz.prog wordsG o := by
  intro o ho
  simp only [tbl, List.mem_cons, List.not_mem_nil, or_false] at ho
  rcases ho with rfl | rfl | rfl | rfl | rfl
  · exact o1_ok
  · exact o2_ok
  · exact o3_ok
  · exact o4_ok
  · exact o5_ok
end Go.Proofs.YtmadofpbfgbdkaaGreatDoor
