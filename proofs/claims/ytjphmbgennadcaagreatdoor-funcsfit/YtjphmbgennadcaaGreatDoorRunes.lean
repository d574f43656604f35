/- The document's own test of valid UTF-8: it is the library's. -/
import Derived.Test.YtjphmbgennadcaaGreatDoorRMay
import Derived.LoopN
import Derived.Lib.ValidU
import Derived.Lib.DecodeN
import Derived.Lib.TrimUEq
namespace Go.Proofs.YtjphmbgennadcaaGreatDoor
open Go.ChangeShapes Go.WideShapes Go.ChangeAt Go.RowKit

theorem vd_fuel : ∀ (f g : Nat) (l : List UInt8), l.length ≤ f → l.length ≤ g → Lib.validGoD f l = Lib.validGoD g l
  | 0, 0, _, _, _ => rfl
  | 0, g + 1, l, h, _ => by
    have : l = [] := List.length_eq_zero_iff.1 (by omega)
    subst this; simp [Lib.validGoD]
  | f + 1, 0, l, _, h => by
    have : l = [] := List.length_eq_zero_iff.1 (by omega)
    subst this; simp [Lib.validGoD]
  | f + 1, g + 1, l, h, h' => by
    unfold Lib.validGoD
    by_cases e : l = []
    · rw [if_pos e, if_pos e]
    · rw [if_neg e, if_neg e]
      have hw := Lib.decodeL_width l
      have hl : 1 ≤ l.length := by
        cases l with
        | nil => exact absurd rfl e
        | cons a r => simp
      have hd : (l.drop (Lib.decodeL l).2).length ≤ l.length - 1 := by rw [List.length_drop]; omega
      rw [vd_fuel f g (l.drop (Lib.decodeL l).2) (by omega) (by omega)]
theorem vd_step (l : List UInt8) (hne : l ≠ []) : Lib.validD l = if (Lib.decodeL l).1 = 65533 ∧ (Lib.decodeL l).2 = 1 then false else Lib.validD (l.drop (Lib.decodeL l).2) := by
  unfold Lib.validD
  obtain ⟨n, hn⟩ : ∃ n, l.length = n + 1 := ⟨l.length - 1, by have : l.length ≠ 0 := fun e => hne (List.length_eq_zero_iff.1 e); omega⟩
  rw [hn, Lib.validGoD, if_neg hne]
  have hw := Lib.decodeL_width l
  have hd : (l.drop (Lib.decodeL l).2).length ≤ n := by rw [List.length_drop]; omega
  rw [vd_fuel n (l.drop (Lib.decodeL l).2).length _ hd (Nat.le_refl _)]
theorem drop_ne (s : ByteArray) (m : Nat) (h : m < s.size) : s.data.toList.drop m ≠ [] := fun e => by
  have := congrArg List.length e
  rw [List.length_drop, ← Lib.size_eq] at this
  simp at this; omega
/-- What the decoder gives at place m, of its bytes. -/
theorem dec_at (s : ByteArray) (m : Nat) : Lib.decodeL (s.data.toList.drop m) = Lib.decodeN (s.size - m) (s.get! m).toNat (s.get! (m + 1)).toNat (s.get! (m + 2)).toNat (s.get! (m + 3)).toNat := by
  rw [Lib.decodeL_drop, Lib.decode_at]
theorem get_at (s : ByteArray) (m : Nat) (h : m < s.size) : s.get! m = s[m] := by
  show s.data.getD m default = _
  simp only [Array.getD_eq_getD_getElem?]
  rw [Array.getElem?_eq_getElem (by simpa using h)]; rfl
theorem vd_bad (s : ByteArray) (m : Nat) (h : m < s.size) (hd : Lib.decodeN (s.size - m) (s.get! m).toNat (s.get! (m + 1)).toNat (s.get! (m + 2)).toNat (s.get! (m + 3)).toNat = (65533, 1)) : Lib.validD (s.data.toList.drop m) = false := by
  rw [vd_step _ (drop_ne s m h), dec_at, hd]; rfl
theorem vd_ok (s : ByteArray) (m j c : Nat) (h : m < s.size) (hj : j ≠ 1 ∨ c ≠ 65533) (hd : Lib.decodeN (s.size - m) (s.get! m).toNat (s.get! (m + 1)).toNat (s.get! (m + 2)).toNat (s.get! (m + 3)).toNat = (c, j)) : Lib.validD (s.data.toList.drop (m + j)) = Lib.validD (s.data.toList.drop m) := by
  rw [vd_step _ (drop_ne s m h), dec_at, hd, if_neg (by simp only; omega), List.drop_drop]
theorem dn_bad {n b0 b1 b2 b3 : Nat} (h0 : 128 ≤ b0) (h2 : ¬ (192 ≤ b0 ∧ b0 < 224 ∧ 2 ≤ n ∧ 128 ≤ b1 ∧ b1 < 192 ∧ 128 ≤ (b0 - 192) * 64 + (b1 - 128)))
    (h3 : ¬ (224 ≤ b0 ∧ b0 < 240 ∧ 3 ≤ n ∧ 128 ≤ b1 ∧ b1 < 192 ∧ 128 ≤ b2 ∧ b2 < 192 ∧ 2048 ≤ ((b0 - 224) * 64 + (b1 - 128)) * 64 + (b2 - 128) ∧ ¬ (55296 ≤ ((b0 - 224) * 64 + (b1 - 128)) * 64 + (b2 - 128) ∧ ((b0 - 224) * 64 + (b1 - 128)) * 64 + (b2 - 128) < 57344)))
    (h4 : ¬ (240 ≤ b0 ∧ b0 < 248 ∧ 4 ≤ n ∧ 128 ≤ b1 ∧ b1 < 192 ∧ 128 ≤ b2 ∧ b2 < 192 ∧ 128 ≤ b3 ∧ b3 < 192 ∧ 65536 ≤ (((b0 - 240) * 64 + (b1 - 128)) * 64 + (b2 - 128)) * 64 + (b3 - 128) ∧ (((b0 - 240) * 64 + (b1 - 128)) * 64 + (b2 - 128)) * 64 + (b3 - 128) ≤ 1114111)) (hb : b0 < 256) :
    Lib.decodeN n b0 b1 b2 b3 = (65533, 1) := by
  unfold Lib.decodeN
  repeat' split
  all_goals first | rfl | (exfalso; omega)

theorem dn_1 {n b0 b1 b2 b3 : Nat} (h : b0 < 128) : Lib.decodeN n b0 b1 b2 b3 = (b0, 1) := by unfold Lib.decodeN; rw [if_pos h]
theorem dn_2 {n b0 b1 b2 b3 : Nat} (h0 : 192 ≤ b0) (h1 : b0 < 224) (hn : 2 ≤ n) (c1 : 128 ≤ b1) (c2 : b1 < 192) (hv : 128 ≤ (b0 - 192) * 64 + (b1 - 128)) : ∃ c, Lib.decodeN n b0 b1 b2 b3 = (c, 2) := by
  unfold Lib.decodeN
  rw [if_neg (by omega), if_pos (by omega), if_pos (by omega)]
  exact ⟨_, rfl⟩
end Go.Proofs.YtjphmbgennadcaaGreatDoor
