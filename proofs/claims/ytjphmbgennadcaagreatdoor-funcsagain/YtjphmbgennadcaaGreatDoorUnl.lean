/- Two values that may be have the same text only if they are the same: over plain lists of bytes. -/
import Derived.Test.YtjphmbgennadcaaGreatDoorShow
namespace Go.Proofs.YtjphmbgennadcaaGreatDoor
open Go.Lib

theorem dig_toNat {d : Nat} (h : d < 10) : (UInt8.ofNat (48 + d)).toNat = 48 + d := by
  rw [UInt8.toNat_ofNat']; omega
theorem digits_range : ∀ (b u : Nat), u ≤ b → ∀ c ∈ decDigits u, 48 ≤ c.toNat ∧ c.toNat ≤ 57
  | 0, u, h => by
    have : u = 0 := by omega
    subst this
    rw [decDigits, dif_pos (by omega)]
    intro c hc
    rw [List.mem_singleton] at hc
    subst hc; decide
  | b + 1, u, h => by
    by_cases h10 : u < 10
    · rw [decDigits, dif_pos h10]
      intro c hc
      rw [List.mem_singleton] at hc
      subst hc
      rw [dig_toNat h10]; omega
    · rw [decDigits, dif_neg h10]
      intro c hc
      rcases List.mem_append.1 hc with h' | h'
      · exact digits_range b (u / 10) (by omega) c h'
      · rw [List.mem_singleton] at h'
        subst h'
        rw [dig_toNat (by omega)]; omega
theorem rest_len (u : Nat) : (restL u).length = 4 := by unfold restL; rw [List.length_drop, digits5]
theorem emp_eq {t : ByteArray} (h : t.toList.isEmpty = true) : t = ⟨#[]⟩ := by
  rw [Lib.toList_data] at h
  apply str_ext
  have := List.isEmpty_iff.1 h
  rw [this]
theorem may_0 {n : Int} {t : ByteArray} (h : mayS 0 n t = true) : n = 0 ∧ t = ⟨#[]⟩ := by
  have h : (n == 0 && t.toList.isEmpty) = true := h
  simp only [Bool.and_eq_true, beq_iff_eq] at h
  exact ⟨h.1, emp_eq h.2⟩
theorem may_1 {n : Int} {t : ByteArray} (h : mayS 1 n t = true) : (n = 0 ∨ n = 1) ∧ t = ⟨#[]⟩ := by
  have h : ((n == 0 || n == 1) && t.toList.isEmpty) = true := h
  simp only [Bool.and_eq_true, Bool.or_eq_true, beq_iff_eq] at h
  exact ⟨h.1, emp_eq h.2⟩
theorem may_2 {n : Int} {t : ByteArray} (h : mayS 2 n t = true) : t = ⟨#[]⟩ := emp_eq h
theorem may_3 {n : Int} {t : ByteArray} (h : mayS 3 n t = true) : t = ⟨#[]⟩ := emp_eq h
theorem may_4 {n : Int} {t : ByteArray} (h : mayS 4 n t = true) : n = 0 := by
  have h : (n == 0 && (decide ((t.size : Int) ≤ 1024) && Lib.validD t.data.toList)) = true := h
  simp only [Bool.and_eq_true, beq_iff_eq] at h
  exact h.1
end Go.Proofs.YtjphmbgennadcaaGreatDoor
