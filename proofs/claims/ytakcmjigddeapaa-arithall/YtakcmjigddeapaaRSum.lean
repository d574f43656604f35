/- Sums and differences of the document's own answer. -/
import Derived.Test.YtakcmjigddeapaaArith
namespace Go.Proofs.Ytakcmjigddeapaa
open Go.ChangeShapes Go.WideShapes Go.ChangeAt Go.RowKit

set_option maxHeartbeats 4000000 in
theorem sum_any (a b : Int) (ha : In a) (hb : In b) (w : World) : Calls Try.prog 34 #[.int .i64 a, .int .i64 b] w fun e w' => e = .returned (.tuple #[.int .i64 (wrap64 (a + b)), .bool (fits (a + b))]) ∧ w' = w := by
  unfold In at ha hb
  have hm : -9223372036854775808 ≤ wrap64 (a + b) ∧ wrap64 (a + b) ≤ 9223372036854775807 := by simp only [wrap64]; omega
  have hfit : fits (a + b) = decide (wrap64 (a + b) = a + b) := by
    unfold fits; rw [Bool.eq_iff_iff]; simp only [decide_eq_true_eq, wrap64]; omega
  have hd : wrap64 (a + b) = a + b ∨ wrap64 (a + b) = a + b - 18446744073709551616 ∨ wrap64 (a + b) = a + b + 18446744073709551616 := by simp only [wrap64]; omega
  generalize hs : wrap64 (a + b) = m at *
  have ca : a < 0 ∨ a = 0 ∨ 0 < a := by omega
  have cb : b < 0 ∨ b = 0 ∨ 0 < b := by omega
  have cm : m < 0 ∨ 0 ≤ m := by omega
  rw [hfit]
  clear hfit
  have hE : Hid (m = a + b ∨ m = a + b - 18446744073709551616 ∨ m = a + b + 18446744073709551616) := hd
  have hA : Hid (-9223372036854775808 ≤ a ∧ a ≤ 9223372036854775807) := ha
  have hB : Hid (-9223372036854775808 ≤ b ∧ b ≤ 9223372036854775807) := hb
  have hM : Hid (-9223372036854775808 ≤ m ∧ m ≤ 9223372036854775807) := hm
  clear hd ha hb hm
  have mk : ∀ x : Int, (x < 0 ∨ x = 0 ∨ 0 < x) → Hid (x < 0) ∧ ((0 < x) = False) ∧ ((x < 0) = True) ∧ ((0 ≤ x) = False) ∨ Hid (x = 0) ∧ ((0 < x) = False) ∧ ((x < 0) = False) ∧ ((0 ≤ x) = True) ∨ Hid (0 < x) ∧ ((0 < x) = True) ∧ ((x < 0) = False) ∧ ((0 ≤ x) = True) := by
    rintro x (h | h | h)
    · exact Or.inl ⟨h, by simp; omega, by simp; omega, by simp; omega⟩
    · exact Or.inr (Or.inl ⟨h, by simp; omega, by simp; omega, by simp; omega⟩)
    · exact Or.inr (Or.inr ⟨h, by simp; omega, by simp; omega, by simp; omega⟩)
  have ca' := mk a ca
  have cb' := mk b cb
  have cm' : Hid (m < 0) ∧ ((m < 0) = True) ∧ ((0 ≤ m) = False) ∨ Hid (0 ≤ m) ∧ ((m < 0) = False) ∧ ((0 ≤ m) = True) := by
    rcases cm with h | h
    · exact Or.inl ⟨h, by simp; omega, by simp; omega⟩
    · exact Or.inr ⟨h, by simp; omega, by simp; omega⟩
  clear ca cb cm mk
  rcases ca' with ⟨HA2, a1, a2, a3⟩ | ⟨HA2, a1, a2, a3⟩ | ⟨HA2, a1, a2, a3⟩ <;> rcases cb' with ⟨HB2, b1, b2, b3⟩ | ⟨HB2, b1, b2, b3⟩ | ⟨HB2, b1, b2, b3⟩ <;> rcases cm' with ⟨HM2, m1, m2⟩ | ⟨HM2, m1, m2⟩
  all_goals
    go_enter Try.func34, Try.ntmps34
    go_wp2
    go_ret2
    refine ⟨?_, rfl⟩
    have h1 := hE.out; have h2 := hA.out; have h3 := hB.out; have h4 := hM.out; have h5 := HA2.out; have h6 := HB2.out; have h7 := HM2.out
    first
      | (rw [show decide (m = a + b) = true by simp; omega]; first | rfl | (rw [← hs]; rfl))
      | (rw [show decide (m = a + b) = false by simp; omega]; first | rfl | (rw [← hs]; rfl))

set_option maxHeartbeats 4000000 in
theorem difference_any (a b : Int) (ha : In a) (hb : In b) (w : World) : Calls Try.prog 36 #[.int .i64 a, .int .i64 b] w fun e w' => e = .returned (.tuple #[.int .i64 (wrap64 (a - b)), .bool (fits (a - b))]) ∧ w' = w := by
  unfold In at ha hb
  have hm : -9223372036854775808 ≤ wrap64 (a - b) ∧ wrap64 (a - b) ≤ 9223372036854775807 := by simp only [wrap64]; omega
  have hfit : fits (a - b) = decide (wrap64 (a - b) = a - b) := by
    unfold fits; rw [Bool.eq_iff_iff]; simp only [decide_eq_true_eq, wrap64]; omega
  have hd : wrap64 (a - b) = a - b ∨ wrap64 (a - b) = a - b - 18446744073709551616 ∨ wrap64 (a - b) = a - b + 18446744073709551616 := by simp only [wrap64]; omega
  generalize hs : wrap64 (a - b) = m at *
  have ca : a < 0 ∨ a = 0 ∨ 0 < a := by omega
  have cb : b < 0 ∨ b = 0 ∨ 0 < b := by omega
  have cm : m < 0 ∨ 0 ≤ m := by omega
  rw [hfit]
  clear hfit
  have hE : Hid (m = a - b ∨ m = a - b - 18446744073709551616 ∨ m = a - b + 18446744073709551616) := hd
  have hA : Hid (-9223372036854775808 ≤ a ∧ a ≤ 9223372036854775807) := ha
  have hB : Hid (-9223372036854775808 ≤ b ∧ b ≤ 9223372036854775807) := hb
  have hM : Hid (-9223372036854775808 ≤ m ∧ m ≤ 9223372036854775807) := hm
  clear hd ha hb hm
  have mk : ∀ x : Int, (x < 0 ∨ x = 0 ∨ 0 < x) → Hid (x < 0) ∧ ((0 < x) = False) ∧ ((x < 0) = True) ∧ ((0 ≤ x) = False) ∨ Hid (x = 0) ∧ ((0 < x) = False) ∧ ((x < 0) = False) ∧ ((0 ≤ x) = True) ∨ Hid (0 < x) ∧ ((0 < x) = True) ∧ ((x < 0) = False) ∧ ((0 ≤ x) = True) := by
    rintro x (h | h | h)
    · exact Or.inl ⟨h, by simp; omega, by simp; omega, by simp; omega⟩
    · exact Or.inr (Or.inl ⟨h, by simp; omega, by simp; omega, by simp; omega⟩)
    · exact Or.inr (Or.inr ⟨h, by simp; omega, by simp; omega, by simp; omega⟩)
  have ca' := mk a ca
  have cb' := mk b cb
  have cm' : Hid (m < 0) ∧ ((m < 0) = True) ∧ ((0 ≤ m) = False) ∨ Hid (0 ≤ m) ∧ ((m < 0) = False) ∧ ((0 ≤ m) = True) := by
    rcases cm with h | h
    · exact Or.inl ⟨h, by simp; omega, by simp; omega⟩
    · exact Or.inr ⟨h, by simp; omega, by simp; omega⟩
  clear ca cb cm mk
  rcases ca' with ⟨HA2, a1, a2, a3⟩ | ⟨HA2, a1, a2, a3⟩ | ⟨HA2, a1, a2, a3⟩ <;> rcases cb' with ⟨HB2, b1, b2, b3⟩ | ⟨HB2, b1, b2, b3⟩ | ⟨HB2, b1, b2, b3⟩ <;> rcases cm' with ⟨HM2, m1, m2⟩ | ⟨HM2, m1, m2⟩
  all_goals
    go_enter Try.func36, Try.ntmps36
    go_wp2
    go_ret2
    refine ⟨?_, rfl⟩
    have h1 := hE.out; have h2 := hA.out; have h3 := hB.out; have h4 := hM.out; have h5 := HA2.out; have h6 := HB2.out; have h7 := HM2.out
    first
      | (rw [show decide (m = a - b) = true by simp; omega]; first | rfl | (rw [← hs]; rfl))
      | (rw [show decide (m = a - b) = false by simp; omega]; first | rfl | (rw [← hs]; rfl))
end Go.Proofs.Ytakcmjigddeapaa
