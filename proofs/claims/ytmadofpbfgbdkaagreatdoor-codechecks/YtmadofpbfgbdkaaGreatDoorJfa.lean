/- Closed facts of the row, each by itself. -/
import Derived.Test.YtmadofpbfgbdkaaGreatDoorCards
import Derived.JoinedOf
namespace Go.Proofs.YtmadofpbfgbdkaaGreatDoor
set_option maxRecDepth 100000
theorem j1 : (Rows.codeChecksRow.inPlace == Tryz.prog.inPlace 3) = true := by kernel_rfl
theorem j2 : (Rows.codeChecksRow.unfollowed == Tryz.prog.unfollowed 3) = true := by kernel_rfl
theorem j3 : (Rows.codeChecksRow.recurses == Tryz.prog.recurses 3) = true := by kernel_rfl
theorem j4 : (Rows.codeChecksRow.named == Tryz.prog.varsNamed 3) = true := by kernel_rfl
theorem j5 : Tryz.prog.mayEnter = true := by kernel_rfl
theorem j6 : laidOutB Tryz.prog = true := by kernel_rfl
theorem closed : joinedFacts Tryz.prog 3 Tryz.f3 (OpenSpec.ofChange Rows.codeChecksSpec).bare Rows.codeChecksRow = true := by
  unfold joinedFacts
  rw [j1, j2, j3, j4, j5, j6]
  kernel_rfl
end Go.Proofs.YtmadofpbfgbdkaaGreatDoor
