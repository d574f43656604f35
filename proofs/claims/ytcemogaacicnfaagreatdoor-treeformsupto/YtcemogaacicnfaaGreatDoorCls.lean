/- What a byte is (isBlank, isLetter, isDigit, isPart), the beginning of a text of such bytes (leading). -/
import Derived.Test.YtcemogaacicnfaaGreatDoorBase
namespace Go.Proofs.YtcemogaacicnfaaGreatDoor
set_option maxHeartbeats 4000000
set_option maxRecDepth 20000
open Go.ChangeShapes Go.WideShapes Go.ChangeAt Go.RowKit

def bsA (bs : List UInt8) : ByteArray := ⟨bs.toArray⟩
theorem bsA_list (l : List UInt8) : (bsA l).data.toList = l := by simp [bsA]
theorem bsA_size (l : List UInt8) : (bsA l).size = l.length := by simp [bsA, ByteArray.size]
theorem bsA_of (s : ByteArray) : bsA s.data.toList = s := by cases s; simp [bsA]
theorem ba_ext {a b : ByteArray} (h : a.data.toList = b.data.toList) : a = b := by
  cases a; cases b; simp only [ByteArray.mk.injEq]; exact Array.toList_inj.1 h
theorem ext_drop (l : List UInt8) (z : Nat) : (bsA l).extract z (bsA l).size = bsA (l.drop z) := by
  apply ba_ext
  simp only [bsA, ByteArray.data_extract, Array.toList_extract]
  rw [show ByteArray.size ⟨l.toArray⟩ = l.length by simp [ByteArray.size], List.extract_eq_take_drop, List.take_of_length_le (by simp)]
theorem ext_take (l : List UInt8) (z : Nat) : (bsA l).extract 0 z = bsA (l.take z) := by
  apply ba_ext
  simp [bsA, ByteArray.data_extract, List.extract_eq_take_drop]
def blB (c : Nat) : Bool := c == 9 || c == 10 || c == 13 || c == 32
def ltB (c : Nat) : Bool := (decide (97 ≤ c) && decide (c ≤ 122)) || (decide (65 ≤ c) && decide (c ≤ 90)) || c == 95
def dgB (c : Nat) : Bool := decide (48 ≤ c) && decide (c ≤ 57)
def ptB (c : Nat) : Bool := ltB c || dgB c
theorem isDigit_any (c : Nat) (w : World) : Calls Tryz.prog 144 #[.int .u8 c] w fun e w' => e = .returned (.bool (dgB c)) ∧ w' = w := by
  have hc : c < 48 ∨ (48 ≤ c ∧ c ≤ 57) ∨ 57 < c := by omega
  rcases hc with h | h | h
  · have e : dgB c = false := by simp [dgB]; omega
    rw [e]
    have e0 : ((48 : Int) ≤ (c : Int)) = False := eq_false (by omega)
    go_enter Tryz.func144, Tryz.ntmps144
    go_wp2
    go_ret
    exact ⟨rfl, rfl⟩
  · have e : dgB c = true := by simp [dgB]; omega
    rw [e]
    have e0 : ((48 : Int) ≤ (c : Int)) = True := eq_true (by omega)
    have e1 : ((c : Int) ≤ (57 : Int)) = True := eq_true (by omega)
    go_enter Tryz.func144, Tryz.ntmps144
    go_wp2
    go_ret
    exact ⟨rfl, rfl⟩
  · have e : dgB c = false := by simp [dgB]; omega
    rw [e]
    have e0 : ((48 : Int) ≤ (c : Int)) = True := eq_true (by omega)
    have e1 : ((c : Int) ≤ (57 : Int)) = False := eq_false (by omega)
    go_enter Tryz.func144, Tryz.ntmps144
    go_wp2
    go_ret
    exact ⟨rfl, rfl⟩
theorem isBlank_any (c : Nat) (w : World) : Calls Tryz.prog 134 #[.int .u8 c] w fun e w' => e = .returned (.bool (blB c)) ∧ w' = w := by
  have hc : c = 9 ∨ c = 10 ∨ c = 13 ∨ c = 32 ∨ (c ≠ 9 ∧ c ≠ 10 ∧ c ≠ 13 ∧ c ≠ 32) := by omega
  rcases hc with rfl | rfl | rfl | rfl | ⟨h1, h2, h3, h4⟩
  · rw [show blB _ = true from rfl]
    go_enter Tryz.func134, Tryz.ntmps134
    go_wp2
    go_ret
    exact ⟨rfl, rfl⟩
  · rw [show blB _ = true from rfl]
    go_enter Tryz.func134, Tryz.ntmps134
    go_wp2
    go_ret
    exact ⟨rfl, rfl⟩
  · rw [show blB _ = true from rfl]
    go_enter Tryz.func134, Tryz.ntmps134
    go_wp2
    go_ret
    exact ⟨rfl, rfl⟩
  · rw [show blB _ = true from rfl]
    go_enter Tryz.func134, Tryz.ntmps134
    go_wp2
    go_ret
    exact ⟨rfl, rfl⟩
  · have e : blB c = false := by simp [blB, h1, h2, h3, h4]
    rw [e]
    have e0 : ((c : Int) == 9) = false := by rw [beq_eq_false_iff_ne]; omega
    have e1 : ((c : Int) == 10) = false := by rw [beq_eq_false_iff_ne]; omega
    have e2 : ((c : Int) == 13) = false := by rw [beq_eq_false_iff_ne]; omega
    have e3 : ((c : Int) == 32) = false := by rw [beq_eq_false_iff_ne]; omega
    clear h1 h2 h3 h4
    go_enter Tryz.func134, Tryz.ntmps134
    go_wp2
    go_ret
    exact ⟨rfl, rfl⟩
theorem isLetter_any (c : Nat) (w : World) : Calls Tryz.prog 142 #[.int .u8 c] w fun e w' => e = .returned (.bool (ltB c)) ∧ w' = w := by
  have hc : c < 65 ∨ (65 ≤ c ∧ c ≤ 90) ∨ (90 < c ∧ c < 97 ∧ c ≠ 95) ∨ c = 95 ∨ (97 ≤ c ∧ c ≤ 122) ∨ 122 < c := by omega
  rcases hc with h | h | h | h | h | h
  · have e : ltB c = false := by simp [ltB]; omega
    rw [e]
    have e0 : ((97 : Int) ≤ (c : Int)) = False := eq_false (by omega)
    have e1 : ((65 : Int) ≤ (c : Int)) = False := eq_false (by omega)
    have e2 : ((c : Int) == 95) = false := by rw [beq_eq_false_iff_ne]; omega
    clear h
    go_enter Tryz.func142, Tryz.ntmps142
    go_wp2
    go_ret
    exact ⟨rfl, rfl⟩
  · have e : ltB c = true := by simp [ltB]; omega
    rw [e]
    have e0 : ((97 : Int) ≤ (c : Int)) = False := eq_false (by omega)
    have e1 : ((65 : Int) ≤ (c : Int)) = True := eq_true (by omega)
    have e2 : ((c : Int) ≤ (90 : Int)) = True := eq_true (by omega)
    clear h
    go_enter Tryz.func142, Tryz.ntmps142
    go_wp2
    go_ret
    exact ⟨rfl, rfl⟩
  · have e : ltB c = false := by simp [ltB]; omega
    rw [e]
    have e0 : ((97 : Int) ≤ (c : Int)) = False := eq_false (by omega)
    have e1 : ((65 : Int) ≤ (c : Int)) = True := eq_true (by omega)
    have e2 : ((c : Int) ≤ (90 : Int)) = False := eq_false (by omega)
    have e3 : ((c : Int) == 95) = false := by rw [beq_eq_false_iff_ne]; omega
    clear h
    go_enter Tryz.func142, Tryz.ntmps142
    go_wp2
    go_ret
    exact ⟨rfl, rfl⟩
  · subst h
    rw [show ltB 95 = true from rfl]
    go_enter Tryz.func142, Tryz.ntmps142
    go_wp2
    go_ret
    exact ⟨rfl, rfl⟩
  · have e : ltB c = true := by simp [ltB]; omega
    rw [e]
    have e0 : ((97 : Int) ≤ (c : Int)) = True := eq_true (by omega)
    have e1 : ((c : Int) ≤ (122 : Int)) = True := eq_true (by omega)
    clear h
    go_enter Tryz.func142, Tryz.ntmps142
    go_wp2
    go_ret
    exact ⟨rfl, rfl⟩
  · have e : ltB c = false := by simp [ltB]; omega
    rw [e]
    have e0 : ((97 : Int) ≤ (c : Int)) = True := eq_true (by omega)
    have e1 : ((c : Int) ≤ (122 : Int)) = False := eq_false (by omega)
    have e2 : ((65 : Int) ≤ (c : Int)) = True := eq_true (by omega)
    have e3 : ((c : Int) ≤ (90 : Int)) = False := eq_false (by omega)
    have e4 : ((c : Int) == 95) = false := by rw [beq_eq_false_iff_ne]; omega
    clear h
    go_enter Tryz.func142, Tryz.ntmps142
    go_wp2
    go_ret
    exact ⟨rfl, rfl⟩
theorem isPart_any (c : Nat) (w : World) : Calls Tryz.prog 151 #[.int .u8 c] w fun e w' => e = .returned (.bool (ptB c)) ∧ w' = w := by
  have h1 := isLetter_any c w
  have h2 := isDigit_any c w
  unfold ptB
  cases hl : ltB c with
  | true =>
    rw [hl] at h1
    go_enter Tryz.func151, Tryz.ntmps151
    go_wp2_with (go_at_call 142; refine h1.mono ?_; rintro e w' ⟨rfl, rfl⟩)
    go_ret
    exact ⟨rfl, rfl⟩
  | false =>
    rw [hl] at h1
    go_enter Tryz.func151, Tryz.ntmps151
    go_wp2_with (first | (go_at_call 142; refine h1.mono ?_; rintro e w' ⟨rfl, rfl⟩) | (go_at_call 144; refine h2.mono ?_; rintro e w' ⟨rfl, rfl⟩))
    go_ret
    exact ⟨rfl, rfl⟩
/-- How many bytes at the beginning are such. -/
def ldN (p : Nat → Bool) (l : List UInt8) : Nat := (l.takeWhile fun c => p c.toNat).length
theorem ldN_le (p : Nat → Bool) (l : List UInt8) : ldN p l ≤ l.length := (List.takeWhile_sublist _).length_le
theorem ldN_drop {p : Nat → Bool} {l : List UInt8} {m : Nat} (h : m < l.length) (hp : p (l[m]).toNat = true) : m + ldN p (l.drop m) = m + 1 + ldN p (l.drop (m + 1)) := by
  unfold ldN
  rw [List.drop_eq_getElem_cons h, List.takeWhile_cons, if_pos hp]
  simp only [List.length_cons]; omega
theorem ldN_stop {p : Nat → Bool} {l : List UInt8} {m : Nat} (h : m < l.length) (hp : p (l[m]).toNat = false) : ldN p (l.drop m) = 0 := by
  unfold ldN
  rw [List.drop_eq_getElem_cons h, List.takeWhile_cons, if_neg (by simp [hp])]; rfl
theorem leading_isPart (l : List UInt8) (w : World) (hl : l.length ≤ 1048576000) : Calls Tryz.prog 150 #[.string (bsA l), .func (.func 151) #[] #[]] w fun e w' => e = .returned (.string (bsA (l.take (ldN ptB l)))) ∧ w' = w := by
  have hz := bsA_size l
  go_enter Tryz.func150, Tryz.ntmps150
  go_wp2
  go_loopw [5] (fun i wr => ∃ m : Nat, m ≤ l.length ∧ i = .int .i64 m ∧ m + ldN ptB (l.drop m) = ldN ptB l ∧ wr = w) (fun i _ => l.length - (intOf i).toNat)
  case atStart => exact ⟨0, Nat.zero_le _, rfl, by simp, rfl⟩
  case round =>
    obtain ⟨m, hm, rfl, hH, rfl⟩ := hrel
    have HH : Hid _ := hH
    clear hH
    rcases Nat.lt_or_ge m l.length with hlt | hge
    · have hi : m < (bsA l).size := by rw [hz]; exact hlt
      have hc := isPart_any ((bsA l)[m]'hi).toNat wr
      cases hp : ptB ((bsA l)[m]'hi).toNat with
      | true =>
        rw [hp] at hc
        have HP : Hid (m + 1 + ldN ptB (l.drop (m + 1)) = ldN ptB l) := by rw [← HH.out]; exact (ldN_drop (p := ptB) hlt hp).symm
        go_wp2_with fail
        refine hc.mono ?_
        rintro e w' ⟨rfl, rfl⟩
        go_wp2
        go_roundw
        case rel => exact ⟨m + 1, by omega, by go_num, HP.out, trivial⟩
        case measure => simp [intOf]; omega
      | false =>
        rw [hp] at hc
        have HP : Hid (m = ldN ptB l) := by
          have h1 := ldN_stop hlt (p := ptB) hp
          have h2 := HH.out
          show m = _; omega
        go_wp2_with fail
        refine hc.mono ?_
        rintro e w' ⟨rfl, rfl⟩
        go_wp2
        go_ret
        exact ⟨by rw [← HP.out]; exact congrArg (fun x => Ending.returned (.string x)) (ext_take l m), rfl⟩
    · have HP : Hid (m = ldN ptB l) := by
        have h2 := HH.out
        have h1 := ldN_le ptB (l.drop m)
        rw [List.length_drop] at h1
        show m = _; omega
      go_wp2
      go_ret
      exact ⟨by rw [← HP.out]; exact congrArg (fun x => Ending.returned (.string x)) (ext_take l m), rfl⟩
theorem leading_isDigit (l : List UInt8) (w : World) (hl : l.length ≤ 1048576000) : Calls Tryz.prog 150 #[.string (bsA l), .func (.func 144) #[] #[]] w fun e w' => e = .returned (.string (bsA (l.take (ldN dgB l)))) ∧ w' = w := by
  have hz := bsA_size l
  go_enter Tryz.func150, Tryz.ntmps150
  go_wp2
  go_loopw [5] (fun i wr => ∃ m : Nat, m ≤ l.length ∧ i = .int .i64 m ∧ m + ldN dgB (l.drop m) = ldN dgB l ∧ wr = w) (fun i _ => l.length - (intOf i).toNat)
  case atStart => exact ⟨0, Nat.zero_le _, rfl, by simp, rfl⟩
  case round =>
    obtain ⟨m, hm, rfl, hH, rfl⟩ := hrel
    have HH : Hid _ := hH
    clear hH
    rcases Nat.lt_or_ge m l.length with hlt | hge
    · have hi : m < (bsA l).size := by rw [hz]; exact hlt
      have hc := isDigit_any ((bsA l)[m]'hi).toNat wr
      cases hp : dgB ((bsA l)[m]'hi).toNat with
      | true =>
        rw [hp] at hc
        have HP : Hid (m + 1 + ldN dgB (l.drop (m + 1)) = ldN dgB l) := by rw [← HH.out]; exact (ldN_drop (p := dgB) hlt hp).symm
        go_wp2_with fail
        refine hc.mono ?_
        rintro e w' ⟨rfl, rfl⟩
        go_wp2
        go_roundw
        case rel => exact ⟨m + 1, by omega, by go_num, HP.out, trivial⟩
        case measure => simp [intOf]; omega
      | false =>
        rw [hp] at hc
        have HP : Hid (m = ldN dgB l) := by
          have h1 := ldN_stop hlt (p := dgB) hp
          have h2 := HH.out
          show m = _; omega
        go_wp2_with fail
        refine hc.mono ?_
        rintro e w' ⟨rfl, rfl⟩
        go_wp2
        go_ret
        exact ⟨by rw [← HP.out]; exact congrArg (fun x => Ending.returned (.string x)) (ext_take l m), rfl⟩
    · have HP : Hid (m = ldN dgB l) := by
        have h2 := HH.out
        have h1 := ldN_le dgB (l.drop m)
        rw [List.length_drop] at h1
        show m = _; omega
      go_wp2
      go_ret
      exact ⟨by rw [← HP.out]; exact congrArg (fun x => Ending.returned (.string x)) (ext_take l m), rfl⟩
end Go.Proofs.YtcemogaacicnfaaGreatDoor
