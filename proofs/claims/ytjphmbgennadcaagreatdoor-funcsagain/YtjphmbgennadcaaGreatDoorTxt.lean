/- Texts of values, as plain lists of bytes: what may be, and how it is shown. -/
import Derived.Lib.Replace
import Derived.Lib.ReplaceLaws
import Derived.Lib.ItoaNum
import Derived.Lib.TrimByte
import Derived.Lib.ValidU
import Derived.Lib.Small
import Derived.Lib.IndexBytes
import Derived.Lib.Strings
namespace Go.Proofs.YtjphmbgennadcaaGreatDoor
open Go.Lib

/-- Every quote doubled. -/
def dbl : List UInt8 → List UInt8
  | [] => []
  | c :: l => if c = 39 then 39 :: 39 :: dbl l else c :: dbl l
theorem dbl_len : ∀ l : List UInt8, (dbl l).length ≤ 2 * l.length
  | [] => by simp [dbl]
  | c :: l => by
    have := dbl_len l
    unfold dbl
    split <;> simp <;> omega

theorem replaceK_dbl : ∀ l : List UInt8, replaceK [39] [39, 39] (count l [39]) l = dbl l
  | [] => by rw [count_one]; rfl
  | c :: l => by
    have ih := replaceK_dbl l
    by_cases hc : c = 39
    · subst hc
      have hi : index (39 :: l) [39] = (0 : Nat) := by rw [index_one]; rfl
      rw [count_cons_eq, Nat.add_comm, replaceK_hit _ _ _ _ 0 hi]
      simp [dbl, ih]
    · rw [count_cons_ne c 39 l hc]
      rw [show dbl (c :: l) = c :: dbl l from by rw [dbl, if_neg hc], ← ih]
      cases hk : count l [39] with
      | zero => rfl
      | succ k =>
        obtain ⟨i, hi⟩ := index_of_count (s := l) (old := [39]) (by omega)
        have hi' : index (c :: l) [39] = ((i + 1 : Nat) : Int) := by
          rw [index_one] at hi ⊢
          have hcb : (c == 39) = false := by simpa using hc
          simp only [indexByte, hcb, hi]
          have : ((i : Int) == -1) = false := by simp
          simp [this]
        rw [replaceK_hit _ _ _ _ _ hi', replaceK_hit _ _ _ _ _ hi]
        simp
theorem replaceAll_dbl (l : List UInt8) : replaceAll l [39] [39, 39] = dbl l := by
  unfold replaceAll replace
  rw [if_neg (by decide)]
  have e : replaceNum l [39] (-1) = count l [39] := by unfold replaceNum; rw [if_pos (Or.inl (by omega))]
  rw [e]
  exact replaceK_dbl l
end Go.Proofs.YtjphmbgennadcaaGreatDoor
