/- What a byte is (isBlank, isLetter, isDigit, isPart), the beginning of a text of such bytes (leading). -/
import Derived.Test.YtcicdapccondkaaBase
namespace Go.Proofs.Ytcicdapccondkaa
set_option maxHeartbeats 4000000
set_option maxRecDepth 20000
open Go.ChangeShapes Go.WideShapes Go.ChangeAt Go.RowKit

def bsA (bs : List UInt8) : ByteArray := ⟨bs.toArray⟩
theorem bsA_list (l : List UInt8) : (bsA l).data.toList = l := by simp [bsA]
theorem bsA_size (l : List UInt8) : (bsA l).size = l.length := by simp [bsA, ByteArray.size]
theorem bsA_of (s : ByteArray) : bsA s.data.toList = s := by cases s; simp [bsA]
theorem ba_ext {a b : ByteArray} (h : a.data.toList = b.data.toList) : a = b := by
  cases a; cases b; simp only [ByteArray.mk.injEq]; exact Array.toList_inj.1 h
theorem ext_drop (l : List UInt8) (z : Nat) : (bsA l).extract z (bsA l).size = bsA (l.drop z) := by
  apply ba_ext
  simp only [bsA, ByteArray.data_extract, Array.toList_extract]
  rw [show ByteArray.size ⟨l.toArray⟩ = l.length by simp [ByteArray.size], List.extract_eq_take_drop, List.take_of_length_le (by simp)]
theorem ext_take (l : List UInt8) (z : Nat) : (bsA l).extract 0 z = bsA (l.take z) := by
  apply ba_ext
  simp [bsA, ByteArray.data_extract, List.extract_eq_take_drop]
def blB (c : Nat) : Bool := c == 9 || c == 10 || c == 13 || c == 32
def ltB (c : Nat) : Bool := (decide (97 ≤ c) && decide (c ≤ 122)) || (decide (65 ≤ c) && decide (c ≤ 90)) || c == 95
def dgB (c : Nat) : Bool := decide (48 ≤ c) && decide (c ≤ 57)
def ptB (c : Nat) : Bool := ltB c || dgB c
/-- How many bytes at the beginning are such. -/
def ldN (p : Nat → Bool) (l : List UInt8) : Nat := (l.takeWhile fun c => p c.toNat).length
theorem ldN_le (p : Nat → Bool) (l : List UInt8) : ldN p l ≤ l.length := (List.takeWhile_sublist _).length_le
theorem ldN_drop {p : Nat → Bool} {l : List UInt8} {m : Nat} (h : m < l.length) (hp : p (l[m]).toNat = true) : m + ldN p (l.drop m) = m + 1 + ldN p (l.drop (m + 1)) := by
  unfold ldN
  rw [List.drop_eq_getElem_cons h, List.takeWhile_cons, if_pos hp]
  simp only [List.length_cons]; omega
theorem ldN_stop {p : Nat → Bool} {l : List UInt8} {m : Nat} (h : m < l.length) (hp : p (l[m]).toNat = false) : ldN p (l.drop m) = 0 := by
  unfold ldN
  rw [List.drop_eq_getElem_cons h, List.takeWhile_cons, if_neg (by simp [hp])]; rfl
end Go.Proofs.Ytcicdapccondkaa
