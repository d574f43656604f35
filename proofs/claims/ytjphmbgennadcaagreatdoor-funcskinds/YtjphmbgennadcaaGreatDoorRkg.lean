/- The reference's Kind is the program's. -/
import Derived.Test.YtjphmbgennadcaaGreatDoorRkc
import Derived.Test.YtjphmbgennadcaaGreatDoorRkd
import Derived.Test.YtjphmbgennadcaaGreatDoorRke
import Derived.Test.YtjphmbgennadcaaGreatDoorRkf
import Derived.Test.YtjphmbgennadcaaGreatDoorRkh
import Derived.Test.YtjphmbgennadcaaGreatDoorRki
import Derived.Test.YtjphmbgennadcaaGreatDoorNmb
namespace Go.Proofs.YtjphmbgennadcaaGreatDoor
set_option maxHeartbeats 4000000
set_option maxRecDepth 20000
set_option linter.unusedSimpArgs false
open Go.ChangeShapes Go.WideShapes Go.ChangeAt Go.RowKit

theorem kin_some {s : ByteArray} {k : Nat} {l : List Int} (ho : fdK s = some k) (hA : areK l = true) : kinP s l = if tkP k l then (kdP k l, 0) else (0, 100) := by
  unfold kinP
  rw [ho, show fdB (some k) l = (areK l && tkP k l) from rfl, hA, Bool.true_and]; rfl
theorem kin_bad {s : ByteArray} {l : List Int} (hA : areK l = false) : kinP s l = (0, 100) := by
  unfold kinP
  cases fdK s with
  | none => rfl
  | some k => rw [show fdB (some k) l = (areK l && tkP k l) from rfl, hA]; rfl
theorem kin_none {s : ByteArray} {l : List Int} (ho : fdK s = none) : kinP s l = (0, 100) := by
  unfold kinP
  rw [ho]; rfl
theorem name_of {s : ByteArray} {k : Nat} (ho : fdK s = some k) : s = nmA k := by
  have h := (fnd_lt ho).2.2
  have h' : (nmA k).toList = s.toList := eq_of_beq h
  rw [ba_toList] at h'
  exact h'.symm
theorem none_of {s : ByteArray} (ho : fdK s = none) (j : Nat) (hj : j < 18) : (s.toList == nmL.getD j []) = false := by
  have h : nmP s j = false := by
    have := List.find?_eq_none.1 ho j (by rw [List.mem_range'_1]; omega)
    simpa using this
  cases e : (s.toList == nmL.getD j []) with
  | false => rfl
  | true =>
    have e' := eq_of_beq e
    have : nmP s j = true := by unfold nmP; rw [e', ByteArray.toList_eq]; simp [nmA]
    rw [h] at this; cases this
theorem ret_100 {s : ByteArray} {l : List Int} (h : kinP s l = (0, 100)) : Ending.returned (.tuple #[.int .i64 0, .int .i64 100]) = .returned (.tuple #[.int .i64 (kinP s l).1, .int .i64 (kinP s l).2]) := by rw [h]
theorem ret_q {s : ByteArray} {l : List Int} {q : Bool} {o : Int} (h : kinP s l = if q then (o, 0) else (0, 100)) : Ending.returned (.tuple #[.int .i64 (if q then o else 0), .int .i64 (if q then 0 else 100)]) = .returned (.tuple #[.int .i64 (kinP s l).1, .int .i64 (kinP s l).2]) := by rw [h]; cases q <;> rfl
theorem len_two {l : List Int} (h : l.length = 2) : ∃ x y, l = [x, y] := by
  match l, h with
  | [x, y], _ => exact ⟨x, y, rfl⟩
theorem len_three {l : List Int} (h : l.length = 3) : ∃ x y z, l = [x, y, z] := by
  match l, h with
  | [x, y, z], _ => exact ⟨x, y, z, rfl⟩
theorem len_ne {l : List Int} {n : Nat} (h : ¬ l.length = n) : ((l.length : Int) == (n : Int)) = false := by
  cases e : ((l.length : Int) == (n : Int)) with
  | false => rfl
  | true => have := eq_of_beq e; omega
theorem lenB_no {l : List Int} {n : Nat} (h : ¬ l.length = n) : lenB l n = false := decide_eq_false h
theorem all_one (p : Int → Bool) (x : Int) : (lenB [x] 1 && allK p [x]) = (x == 0 || p x) := by simp [lenB, allK]
/-- What the reference answers. -/
def KSaid (s : ByteArray) (a : Option Addr) (cap : Nat) (l : List Int) (w : World) : Prop := Calls Tryz.prog 11 #[.string s, .slice a l.length cap] w fun e w' => e = .returned (.tuple #[.int .i64 (kinP s l).1, .int .i64 (kinP s l).2]) ∧ Below w.heap.size w w'
theorem rk_k1 (a : Option Addr) (cap : Nat) (l : List Int) (w : World) (hlen : l.length ≤ 9223372036854775807) (hk : KsAt w a l) (hA : areK l = true) (ho : fdK (nmA 1) = some 1) : KSaid (nmA 1) a cap l w := by
  unfold KSaid
  by_cases h1 : l.length = 1
  · obtain ⟨x, rfl⟩ := List.length_eq_one_iff.1 h1
    obtain ⟨b, off, rfl, hc⟩ := ks_cells hk (by simp)
    have hkin : kinP (nmA 1) [x] = if (x == 0 || isNum x) then (2, 0) else (0, 100) := by rw [kin_some ho hA, show tkP 1 [x] = (x == 0 || isNum x) from all_one isNum x]; rfl
    exact (rk_one1 b off cap x w _ (areK_at hA 0 (by simp)) (hc 0 (by simp)) rfl).mono fun e w' ⟨he, hb⟩ => ⟨he.trans (ret_q hkin), hb⟩
  · have hkin : kinP (nmA 1) l = (0, 100) := by rw [kin_some ho hA, show tkP 1 l = false by show (lenB l 1 && _) = false; rw [lenB_no h1]; rfl]; rfl
    exact (rk_no1 a cap l w hlen hk hA (len_ne h1)).mono fun e w' ⟨he, hb⟩ => ⟨he.trans (ret_100 hkin), hb⟩
theorem rk_k4 (a : Option Addr) (cap : Nat) (l : List Int) (w : World) (hlen : l.length ≤ 9223372036854775807) (hk : KsAt w a l) (hA : areK l = true) (ho : fdK (nmA 4) = some 4) : KSaid (nmA 4) a cap l w := by
  unfold KSaid
  by_cases h1 : l.length = 1
  · obtain ⟨x, rfl⟩ := List.length_eq_one_iff.1 h1
    obtain ⟨b, off, rfl, hc⟩ := ks_cells hk (by simp)
    have hkin : kinP (nmA 4) [x] = if (x == 0 || isNum x) then (2, 0) else (0, 100) := by rw [kin_some ho hA, show tkP 4 [x] = (x == 0 || isNum x) from all_one isNum x]; rfl
    exact (rk_one4 b off cap x w _ (areK_at hA 0 (by simp)) (hc 0 (by simp)) rfl).mono fun e w' ⟨he, hb⟩ => ⟨he.trans (ret_q hkin), hb⟩
  · have hkin : kinP (nmA 4) l = (0, 100) := by rw [kin_some ho hA, show tkP 4 l = false by show (lenB l 1 && _) = false; rw [lenB_no h1]; rfl]; rfl
    exact (rk_no4 a cap l w hlen hk hA (len_ne h1)).mono fun e w' ⟨he, hb⟩ => ⟨he.trans (ret_100 hkin), hb⟩
theorem rk_k10 (a : Option Addr) (cap : Nat) (l : List Int) (w : World) (hlen : l.length ≤ 9223372036854775807) (hk : KsAt w a l) (hA : areK l = true) (ho : fdK (nmA 10) = some 10) : KSaid (nmA 10) a cap l w := by
  unfold KSaid
  by_cases h1 : l.length = 1
  · obtain ⟨x, rfl⟩ := List.length_eq_one_iff.1 h1
    obtain ⟨b, off, rfl, hc⟩ := ks_cells hk (by simp)
    have hkin : kinP (nmA 10) [x] = if (x == 0 || isNum x) then (2, 0) else (0, 100) := by rw [kin_some ho hA, show tkP 10 [x] = (x == 0 || isNum x) from all_one isNum x]; rfl
    exact (rk_one10 b off cap x w _ (areK_at hA 0 (by simp)) (hc 0 (by simp)) rfl).mono fun e w' ⟨he, hb⟩ => ⟨he.trans (ret_q hkin), hb⟩
  · have hkin : kinP (nmA 10) l = (0, 100) := by rw [kin_some ho hA, show tkP 10 l = false by show (lenB l 1 && _) = false; rw [lenB_no h1]; rfl]; rfl
    exact (rk_no10 a cap l w hlen hk hA (len_ne h1)).mono fun e w' ⟨he, hb⟩ => ⟨he.trans (ret_100 hkin), hb⟩
theorem rk_k11 (a : Option Addr) (cap : Nat) (l : List Int) (w : World) (hlen : l.length ≤ 9223372036854775807) (hk : KsAt w a l) (hA : areK l = true) (ho : fdK (nmA 11) = some 11) : KSaid (nmA 11) a cap l w := by
  unfold KSaid
  by_cases h1 : l.length = 1
  · obtain ⟨x, rfl⟩ := List.length_eq_one_iff.1 h1
    obtain ⟨b, off, rfl, hc⟩ := ks_cells hk (by simp)
    have hkin : kinP (nmA 11) [x] = if (x == 0 || isNum x) then (2, 0) else (0, 100) := by rw [kin_some ho hA, show tkP 11 [x] = (x == 0 || isNum x) from all_one isNum x]; rfl
    exact (rk_one11 b off cap x w _ (areK_at hA 0 (by simp)) (hc 0 (by simp)) rfl).mono fun e w' ⟨he, hb⟩ => ⟨he.trans (ret_q hkin), hb⟩
  · have hkin : kinP (nmA 11) l = (0, 100) := by rw [kin_some ho hA, show tkP 11 l = false by show (lenB l 1 && _) = false; rw [lenB_no h1]; rfl]; rfl
    exact (rk_no11 a cap l w hlen hk hA (len_ne h1)).mono fun e w' ⟨he, hb⟩ => ⟨he.trans (ret_100 hkin), hb⟩
theorem rk_k14 (a : Option Addr) (cap : Nat) (l : List Int) (w : World) (hlen : l.length ≤ 9223372036854775807) (hk : KsAt w a l) (hA : areK l = true) (ho : fdK (nmA 14) = some 14) : KSaid (nmA 14) a cap l w := by
  unfold KSaid
  by_cases h1 : l.length = 1
  · obtain ⟨x, rfl⟩ := List.length_eq_one_iff.1 h1
    obtain ⟨b, off, rfl, hc⟩ := ks_cells hk (by simp)
    have hkin : kinP (nmA 14) [x] = if (x == 0 || isNum x) then (2, 0) else (0, 100) := by rw [kin_some ho hA, show tkP 14 [x] = (x == 0 || isNum x) from all_one isNum x]; rfl
    exact (rk_one14 b off cap x w _ (areK_at hA 0 (by simp)) (hc 0 (by simp)) rfl).mono fun e w' ⟨he, hb⟩ => ⟨he.trans (ret_q hkin), hb⟩
  · have hkin : kinP (nmA 14) l = (0, 100) := by rw [kin_some ho hA, show tkP 14 l = false by show (lenB l 1 && _) = false; rw [lenB_no h1]; rfl]; rfl
    exact (rk_no14 a cap l w hlen hk hA (len_ne h1)).mono fun e w' ⟨he, hb⟩ => ⟨he.trans (ret_100 hkin), hb⟩
theorem rk_k13 (a : Option Addr) (cap : Nat) (l : List Int) (w : World) (hlen : l.length ≤ 9223372036854775807) (hk : KsAt w a l) (hA : areK l = true) (ho : fdK (nmA 13) = some 13) : KSaid (nmA 13) a cap l w := by
  unfold KSaid
  by_cases h1 : l.length = 1
  · obtain ⟨x, rfl⟩ := List.length_eq_one_iff.1 h1
    obtain ⟨b, off, rfl, hc⟩ := ks_cells hk (by simp)
    have hkin : kinP (nmA 13) [x] = if (x == 0 || isNum x) then (3, 0) else (0, 100) := by rw [kin_some ho hA, show tkP 13 [x] = (x == 0 || isNum x) from all_one isNum x]; rfl
    exact (rk_one13 b off cap x w _ (areK_at hA 0 (by simp)) (hc 0 (by simp)) rfl).mono fun e w' ⟨he, hb⟩ => ⟨he.trans (ret_q hkin), hb⟩
  · have hkin : kinP (nmA 13) l = (0, 100) := by rw [kin_some ho hA, show tkP 13 l = false by show (lenB l 1 && _) = false; rw [lenB_no h1]; rfl]; rfl
    exact (rk_no13 a cap l w hlen hk hA (len_ne h1)).mono fun e w' ⟨he, hb⟩ => ⟨he.trans (ret_100 hkin), hb⟩
theorem rk_k7 (a : Option Addr) (cap : Nat) (l : List Int) (w : World) (hlen : l.length ≤ 9223372036854775807) (hk : KsAt w a l) (hA : areK l = true) (ho : fdK (nmA 7) = some 7) : KSaid (nmA 7) a cap l w := by
  unfold KSaid
  by_cases h1 : l.length = 1
  · obtain ⟨x, rfl⟩ := List.length_eq_one_iff.1 h1
    obtain ⟨b, off, rfl, hc⟩ := ks_cells hk (by simp)
    have hkin : kinP (nmA 7) [x] = if (x == 0 || isT x) then (2, 0) else (0, 100) := by rw [kin_some ho hA, show tkP 7 [x] = (x == 0 || isT x) from all_one isT x]; rfl
    exact (rk_one7 b off cap x w _ (areK_at hA 0 (by simp)) (hc 0 (by simp)) rfl).mono fun e w' ⟨he, hb⟩ => ⟨he.trans (ret_q hkin), hb⟩
  · have hkin : kinP (nmA 7) l = (0, 100) := by rw [kin_some ho hA, show tkP 7 l = false by show (lenB l 1 && _) = false; rw [lenB_no h1]; rfl]; rfl
    exact (rk_no7 a cap l w hlen hk hA (len_ne h1)).mono fun e w' ⟨he, hb⟩ => ⟨he.trans (ret_100 hkin), hb⟩
theorem rk_k8 (a : Option Addr) (cap : Nat) (l : List Int) (w : World) (hlen : l.length ≤ 9223372036854775807) (hk : KsAt w a l) (hA : areK l = true) (ho : fdK (nmA 8) = some 8) : KSaid (nmA 8) a cap l w := by
  unfold KSaid
  by_cases h1 : l.length = 1
  · obtain ⟨x, rfl⟩ := List.length_eq_one_iff.1 h1
    obtain ⟨b, off, rfl, hc⟩ := ks_cells hk (by simp)
    have hkin : kinP (nmA 8) [x] = if (x == 0 || isT x) then (4, 0) else (0, 100) := by rw [kin_some ho hA, show tkP 8 [x] = (x == 0 || isT x) from all_one isT x]; rfl
    exact (rk_one8 b off cap x w _ (areK_at hA 0 (by simp)) (hc 0 (by simp)) rfl).mono fun e w' ⟨he, hb⟩ => ⟨he.trans (ret_q hkin), hb⟩
  · have hkin : kinP (nmA 8) l = (0, 100) := by rw [kin_some ho hA, show tkP 8 l = false by show (lenB l 1 && _) = false; rw [lenB_no h1]; rfl]; rfl
    exact (rk_no8 a cap l w hlen hk hA (len_ne h1)).mono fun e w' ⟨he, hb⟩ => ⟨he.trans (ret_100 hkin), hb⟩
theorem rk_k16 (a : Option Addr) (cap : Nat) (l : List Int) (w : World) (hlen : l.length ≤ 9223372036854775807) (hk : KsAt w a l) (hA : areK l = true) (ho : fdK (nmA 16) = some 16) : KSaid (nmA 16) a cap l w := by
  unfold KSaid
  by_cases h1 : l.length = 1
  · obtain ⟨x, rfl⟩ := List.length_eq_one_iff.1 h1
    obtain ⟨b, off, rfl, hc⟩ := ks_cells hk (by simp)
    have hkin : kinP (nmA 16) [x] = if (x == 0 || isT x) then (4, 0) else (0, 100) := by rw [kin_some ho hA, show tkP 16 [x] = (x == 0 || isT x) from all_one isT x]; rfl
    exact (rk_one16 b off cap x w _ (areK_at hA 0 (by simp)) (hc 0 (by simp)) rfl).mono fun e w' ⟨he, hb⟩ => ⟨he.trans (ret_q hkin), hb⟩
  · have hkin : kinP (nmA 16) l = (0, 100) := by rw [kin_some ho hA, show tkP 16 l = false by show (lenB l 1 && _) = false; rw [lenB_no h1]; rfl]; rfl
    exact (rk_no16 a cap l w hlen hk hA (len_ne h1)).mono fun e w' ⟨he, hb⟩ => ⟨he.trans (ret_100 hkin), hb⟩
theorem rk_k17 (a : Option Addr) (cap : Nat) (l : List Int) (w : World) (hlen : l.length ≤ 9223372036854775807) (hk : KsAt w a l) (hA : areK l = true) (ho : fdK (nmA 17) = some 17) : KSaid (nmA 17) a cap l w := by
  unfold KSaid
  by_cases h1 : l.length = 1
  · obtain ⟨x, rfl⟩ := List.length_eq_one_iff.1 h1
    obtain ⟨b, off, rfl, hc⟩ := ks_cells hk (by simp)
    have hkin : kinP (nmA 17) [x] = if (x == 0 || isT x) then (4, 0) else (0, 100) := by rw [kin_some ho hA, show tkP 17 [x] = (x == 0 || isT x) from all_one isT x]; rfl
    exact (rk_one17 b off cap x w _ (areK_at hA 0 (by simp)) (hc 0 (by simp)) rfl).mono fun e w' ⟨he, hb⟩ => ⟨he.trans (ret_q hkin), hb⟩
  · have hkin : kinP (nmA 17) l = (0, 100) := by rw [kin_some ho hA, show tkP 17 l = false by show (lenB l 1 && _) = false; rw [lenB_no h1]; rfl]; rfl
    exact (rk_no17 a cap l w hlen hk hA (len_ne h1)).mono fun e w' ⟨he, hb⟩ => ⟨he.trans (ret_100 hkin), hb⟩
theorem rk_k15 (a : Option Addr) (cap : Nat) (l : List Int) (w : World) (hlen : l.length ≤ 9223372036854775807) (hk : KsAt w a l) (hA : areK l = true) (ho : fdK (nmA 15) = some 15) : KSaid (nmA 15) a cap l w := by
  unfold KSaid
  by_cases h1 : l.length = 1
  · obtain ⟨x, rfl⟩ := List.length_eq_one_iff.1 h1
    obtain ⟨b, off, rfl, hc⟩ := ks_cells hk (by simp)
    have hkin : kinP (nmA 15) [x] = if true then (4, 0) else (0, 100) := by rw [kin_some ho hA, show tkP 15 [x] = true from rfl]; rfl
    exact (rk_one15 b off cap x w _ (areK_at hA 0 (by simp)) (hc 0 (by simp)) rfl).mono fun e w' ⟨he, hb⟩ => ⟨he.trans (ret_q hkin), hb⟩
  · have hkin : kinP (nmA 15) l = (0, 100) := by rw [kin_some ho hA, show tkP 15 l = false from lenB_no h1]; rfl
    exact (rk_no15 a cap l w hlen hk hA (len_ne h1)).mono fun e w' ⟨he, hb⟩ => ⟨he.trans (ret_100 hkin), hb⟩
theorem rk_k0 (a : Option Addr) (cap : Nat) (l : List Int) (w : World) (hlen : l.length ≤ 9223372036854775807) (hk : KsAt w a l) (hA : areK l = true) (ho : fdK (nmA 0) = some 0) : KSaid (nmA 0) a cap l w := by
  unfold KSaid
  by_cases h1 : l.length = 1
  · obtain ⟨x, rfl⟩ := List.length_eq_one_iff.1 h1
    obtain ⟨b, off, rfl, hc⟩ := ks_cells hk (by simp)
    have hkin : kinP (nmA 0) [x] = if (x == 0 || isNum x) then (x, 0) else (0, 100) := by rw [kin_some ho hA, show tkP 0 [x] = (x == 0 || isNum x) from all_one isNum x]; rfl
    exact (rk_one0 b off cap x w _ (areK_at hA 0 (by simp)) (hc 0 (by simp)) rfl).mono fun e w' ⟨he, hb⟩ => ⟨he.trans (ret_q hkin), hb⟩
  · have hkin : kinP (nmA 0) l = (0, 100) := by rw [kin_some ho hA, show tkP 0 l = false by show (lenB l 1 && _) = false; rw [lenB_no h1]; rfl]; rfl
    exact (rk_no0 a cap l w hlen hk hA (len_ne h1)).mono fun e w' ⟨he, hb⟩ => ⟨he.trans (ret_100 hkin), hb⟩
theorem rk_k12 (a : Option Addr) (cap : Nat) (l : List Int) (w : World) (hlen : l.length ≤ 9223372036854775807) (hk : KsAt w a l) (hA : areK l = true) (ho : fdK (nmA 12) = some 12) : KSaid (nmA 12) a cap l w := by
  unfold KSaid
  by_cases h1 : l.length = 3
  · obtain ⟨x, y, z, rfl⟩ := len_three h1
    obtain ⟨b, off, rfl, hc⟩ := ks_cells hk (by simp)
    have hkin : kinP (nmA 12) [x, y, z] = if (x == 0 || isT x) && (y == 0 || isI y) && (z == 0 || isI z) then (4, 0) else (0, 100) := by
      rw [kin_some ho hA, show tkP 12 [x, y, z] = ((x == 0 || isT x) && (y == 0 || isI y) && (z == 0 || isI z)) by show (lenB [x, y, z] 3 && (allK isT [x] && allK isI [y, z])) = _; simp [lenB, allK, Bool.and_assoc]]; rfl
    exact (rk_three12 b off cap x y z w _ _ _ (areK_at hA 0 (by simp)) (areK_at hA 1 (by simp)) (areK_at hA 2 (by simp)) (hc 0 (by simp)) (hc 1 (by simp)) (hc 2 (by simp)) rfl rfl rfl).mono fun e w' ⟨he, hb⟩ => ⟨he.trans (ret_q hkin), hb⟩
  · have hkin : kinP (nmA 12) l = (0, 100) := by rw [kin_some ho hA, show tkP 12 l = false by show (lenB l 3 && _) = false; rw [lenB_no h1]; rfl]; rfl
    exact (rk_no12 a cap l w hlen hk hA (len_ne h1)).mono fun e w' ⟨he, hb⟩ => ⟨he.trans (ret_100 hkin), hb⟩
theorem rk_k9 (a : Option Addr) (cap : Nat) (l : List Int) (w : World) (hlen : l.length ≤ 9223372036854775807) (hk : KsAt w a l) (hA : areK l = true) (ho : fdK (nmA 9) = some 9) : KSaid (nmA 9) a cap l w := by
  unfold KSaid
  by_cases h1 : l.length = 2
  · cases hq : alkB l with
    | true =>
      obtain ⟨x, y, rfl⟩ := len_two h1
      obtain ⟨b, off, rfl, hc⟩ := ks_cells hk (by simp)
      have hkin : kinP (nmA 9) [x, y] = (x, 0) := by rw [kin_some ho hA, show tkP 9 [x, y] = true by show (lenB [x, y] 2 && alkB [x, y]) = true; rw [hq]; rfl]; rfl
      exact (rk_two9 b off cap x y w (areK_at hA 0 (by simp)) (areK_at hA 1 (by simp)) (hc 0 (by simp)) (hc 1 (by simp)) hq).mono fun e w' ⟨he, hb⟩ => ⟨he.trans (by rw [hkin]), hb⟩
    | false =>
      have hkin : kinP (nmA 9) l = (0, 100) := by rw [kin_some ho hA, show tkP 9 l = false by show (lenB l 2 && alkB l) = false; rw [hq, Bool.and_false]]; rfl
      exact (rk_no9 a cap l w hlen hk hA _ (by rw [hq]; rfl) rfl).mono fun e w' ⟨he, hb⟩ => ⟨he.trans (ret_100 hkin), hb⟩
  · have hkin : kinP (nmA 9) l = (0, 100) := by rw [kin_some ho hA, show tkP 9 l = false by show (lenB l 2 && alkB l) = false; rw [lenB_no h1]; rfl]; rfl
    exact (rk_no9 a cap l w hlen hk hA _ (by rw [show ((l.length : Int) == 2) = false from len_ne h1, Bool.and_false]) rfl).mono fun e w' ⟨he, hb⟩ => ⟨he.trans (ret_100 hkin), hb⟩
theorem som_q (l : List Int) : somA l = (alkB l && decide ((1 : Int) ≤ (l.length : Int))) := by
  unfold somA lenB
  rw [Bool.and_comm]
  congr 1
  by_cases h : l.length = 0
  · rw [decide_eq_true h, decide_eq_false (by omega)]; rfl
  · rw [decide_eq_false h, decide_eq_true (by omega)]; rfl
theorem rk_k2 (a : Option Addr) (cap : Nat) (l : List Int) (w : World) (hlen : l.length ≤ 9223372036854775807) (hk : KsAt w a l) (hA : areK l = true) (ho : fdK (nmA 2) = some 2) : KSaid (nmA 2) a cap l w := by
  unfold KSaid
  have hkin : kinP (nmA 2) l = if alkB l && decide ((1 : Int) ≤ (l.length : Int)) then (comG l, 0) else (0, 100) := by rw [kin_some ho hA, show tkP 2 l = _ from som_q l]; rfl
  exact (rk_som2 a cap l w hlen hk hA _ _ rfl rfl).mono fun e w' ⟨he, hb⟩ => ⟨he.trans (ret_q hkin), hb⟩
theorem rk_k5 (a : Option Addr) (cap : Nat) (l : List Int) (w : World) (hlen : l.length ≤ 9223372036854775807) (hk : KsAt w a l) (hA : areK l = true) (ho : fdK (nmA 5) = some 5) : KSaid (nmA 5) a cap l w := by
  unfold KSaid
  have hkin : kinP (nmA 5) l = if alkB l && decide ((1 : Int) ≤ (l.length : Int)) then (comG l, 0) else (0, 100) := by rw [kin_some ho hA, show tkP 5 l = _ from som_q l]; rfl
  exact (rk_som5 a cap l w hlen hk hA _ _ rfl rfl).mono fun e w' ⟨he, hb⟩ => ⟨he.trans (ret_q hkin), hb⟩
theorem rk_k6 (a : Option Addr) (cap : Nat) (l : List Int) (w : World) (hlen : l.length ≤ 9223372036854775807) (hk : KsAt w a l) (hA : areK l = true) (ho : fdK (nmA 6) = some 6) : KSaid (nmA 6) a cap l w := by
  unfold KSaid
  have hkin : kinP (nmA 6) l = if alkB l && decide ((1 : Int) ≤ (l.length : Int)) then (comG l, 0) else (0, 100) := by rw [kin_some ho hA, show tkP 6 l = _ from som_q l]; rfl
  exact (rk_som6 a cap l w hlen hk hA _ _ rfl rfl).mono fun e w' ⟨he, hb⟩ => ⟨he.trans (ret_q hkin), hb⟩
theorem rk_k3 (a : Option Addr) (cap : Nat) (l : List Int) (w : World) (hlen : l.length ≤ 9223372036854775807) (hk : KsAt w a l) (hA : areK l = true) (ho : fdK (nmA 3) = some 3) : KSaid (nmA 3) a cap l w := by
  unfold KSaid
  by_cases h0 : l.length = 0
  · obtain rfl : l = [] := List.length_eq_zero_iff.1 h0
    have hkin : kinP (nmA 3) [] = (0, 100) := by rw [kin_some ho hA]; rfl
    exact (rk_con0 a cap w).mono fun e w' ⟨he, hb⟩ => ⟨he.trans (ret_100 hkin), hb⟩
  · have hkin : kinP (nmA 3) l = if allK isT l then (4, 0) else (0, 100) := by rw [kin_some ho hA, show tkP 3 l = allK isT l by show (!lenB l 0 && allK isT l) = _; rw [lenB_no h0]; rfl]; rfl
    exact (rk_con3 a cap l w hlen hk hA (decide_eq_true (by omega)) _ rfl).mono fun e w' ⟨he, hb⟩ => ⟨he.trans (ret_q hkin), hb⟩
theorem rKind_any (s : ByteArray) (a : Option Addr) (cap : Nat) (l : List Int) (w : World) (hlen : l.length ≤ 9223372036854775807) (hk : KsAt w a l) :
    Calls Tryz.prog 11 #[.string s, .slice a l.length cap] w fun e w' => e = .returned (.tuple #[.int .i64 (kinP s l).1, .int .i64 (kinP s l).2]) ∧ Below w.heap.size w w' := by
  show KSaid s a cap l w
  cases hA : areK l with
  | false => exact (rk_bad s a cap l w hlen hk hA).mono fun e w' ⟨he, hb⟩ => ⟨he.trans (ret_100 (kin_bad hA)), hb⟩
  | true =>
    cases ho : fdK s with
    | none =>
      have hN := none_of ho
      exact (rk_none s a cap l w hlen hk hA (hN 0 (by decide)) (hN 1 (by decide)) (hN 2 (by decide)) (hN 3 (by decide)) (hN 4 (by decide)) (hN 5 (by decide)) (hN 6 (by decide)) (hN 7 (by decide)) (hN 8 (by decide)) (hN 9 (by decide)) (hN 10 (by decide)) (hN 11 (by decide)) (hN 12 (by decide)) (hN 13 (by decide)) (hN 14 (by decide)) (hN 15 (by decide)) (hN 16 (by decide)) (hN 17 (by decide))).mono fun e w' ⟨he, hb⟩ => ⟨he.trans (ret_100 (kin_none ho)), hb⟩
    | some k =>
      have hlt := fdK_lt ho
      obtain rfl := name_of ho
      rcases (show k = 0 ∨ k = 1 ∨ k = 2 ∨ k = 3 ∨ k = 4 ∨ k = 5 ∨ k = 6 ∨ k = 7 ∨ k = 8 ∨ k = 9 ∨ k = 10 ∨ k = 11 ∨ k = 12 ∨ k = 13 ∨ k = 14 ∨ k = 15 ∨ k = 16 ∨ k = 17 by omega) with rfl | rfl | rfl | rfl | rfl | rfl | rfl | rfl | rfl | rfl | rfl | rfl | rfl | rfl | rfl | rfl | rfl | rfl
      · exact rk_k0 a cap l w hlen hk hA ho
      · exact rk_k1 a cap l w hlen hk hA ho
      · exact rk_k2 a cap l w hlen hk hA ho
      · exact rk_k3 a cap l w hlen hk hA ho
      · exact rk_k4 a cap l w hlen hk hA ho
      · exact rk_k5 a cap l w hlen hk hA ho
      · exact rk_k6 a cap l w hlen hk hA ho
      · exact rk_k7 a cap l w hlen hk hA ho
      · exact rk_k8 a cap l w hlen hk hA ho
      · exact rk_k9 a cap l w hlen hk hA ho
      · exact rk_k10 a cap l w hlen hk hA ho
      · exact rk_k11 a cap l w hlen hk hA ho
      · exact rk_k12 a cap l w hlen hk hA ho
      · exact rk_k13 a cap l w hlen hk hA ho
      · exact rk_k14 a cap l w hlen hk hA ho
      · exact rk_k15 a cap l w hlen hk hA ho
      · exact rk_k16 a cap l w hlen hk hA ho
      · exact rk_k17 a cap l w hlen hk hA ho
end Go.Proofs.YtjphmbgennadcaaGreatDoor
