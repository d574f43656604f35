/- YDig. -/
import Derived.Test.YtgdndahhledikaaGreatDoorK32
import Derived.Lib.Replace
import Derived.Lib.ReplaceLaws
import Derived.Lib.ItoaNum
import Derived.Lib.TrimByte
import Derived.Lib.IndexBytes
import Derived.Lib.Repeat
import Derived.Lib.AtoiAllCases
namespace Go.Proofs.YtgdndahhledikaaGreatDoor
open Go.Lib
theorem atoi_nonneg {c : UInt8} {r : List UInt8} {v : Int} (hc : 48 ≤ c.toNat ∧ c.toNat ≤ 57) (h : atoiAll (c :: r) = .ok v) : 0 ≤ v ∧ v ≤ 9223372036854775807 := by
 have hb := atoiAll_bounds h
 rw [atoiAll_plain c r (by omega) (by omega)] at h
 refine ⟨?_, hb.2⟩
 unfold signless at h
 split at h
 · cases h
 · cases h
 ·
  split at h
  · cases h
  · injection h with h; omega
end Go.Proofs.YtgdndahhledikaaGreatDoor
