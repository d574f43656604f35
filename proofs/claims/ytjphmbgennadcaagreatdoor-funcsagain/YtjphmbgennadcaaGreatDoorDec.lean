/- The text of a decimal: showDec, for every int. -/
import Derived.Test.YtjphmbgennadcaaGreatDoorFmt
import Derived.WalkSpells
import Derived.Lib.AppendIntMem
namespace Go.Proofs.YtjphmbgennadcaaGreatDoor
open Go.Shelf Go.RowKit Go.Lib

theorem formatUintI (x : Int) (h0 : 0 ≤ x) (h : x < 18446744073709551616) (w : World) (htab : Lib.TabIs Tryz.prog w "internal/strconv.uint64pow10" .u64 Lib.pow10Tab) :
    Calls Tryz.prog 143 #[.int .u64 x, .int .i64 10] w fun e w' => e = .returned (.string ⟨(Lib.decDigits x.toNat).toArray⟩) ∧ Below w.heap.size w w' := by
  obtain ⟨u, rfl⟩ := Int.eq_ofNat_of_zero_le h0
  rw [Int.toNat_natCast]
  exact formatUint u (by omega) w htab
theorem tabBelow {w w' : World} {n : String} {k : IntKind} {zs : List Int} (h : Lib.TabIs Tryz.prog w n k zs) (hb : Below w.heap.size w w') : Lib.TabIs Tryz.prog w' n k zs :=
  Lib.tabBelow_of_tabIs h _ hb

/-- The four digits behind the point. -/
def restL (u : Nat) : List UInt8 := (Lib.decDigits (10000 + u % 10000)).drop 1
/-- A decimal's text without its sign. -/
def decL (u : Nat) : List UInt8 := Lib.decDigits (u / 10000) ++ [46] ++ (restL u).take 1 ++ Lib.trimRightB ((restL u).drop 1) 48
def decS (n : Int) : List UInt8 := if n < 0 then 45 :: decL n.natAbs else decL n.toNat

theorem digits5 (u : Nat) : (Lib.decDigits (10000 + u % 10000)).length = 5 := by
  rw [Lib.decDigits_length]
  exact Lib.nDigits_unique 4 _ (by omega) (by omega)
theorem digits20 (u : Nat) (h : u < 18446744073709551616) : (Lib.decDigits u).length ≤ 20 := by
  rw [Lib.decDigits_length]
  by_cases h1 : 1 ≤ u
  · have := Lib.numDigits_eq u h1 h; split at this <;> omega
  · have : u = 0 := by omega
    subst this; rw [Lib.nDigits_small (by omega)]; omega
theorem trimRight_len (l : List UInt8) (c : UInt8) : (Lib.trimRightB l c).length ≤ l.length := by
  unfold Lib.trimRightB
  rw [List.length_reverse]
  have := (List.dropWhile_sublist (fun x => x == c) (l := l.reverse)).length_le
  simpa using this
theorem str_ext {a b : ByteArray} (h : a.data.toList = b.data.toList) : a = b := by
  cases a; cases b; congr 1; exact Array.toList_inj.1 h
theorem ret_str {a b : ByteArray} (h : a.data.toList = b.data.toList) : Ending.returned (.string a) = .returned (.string b) := by rw [str_ext h]

theorem addSz {A B : ByteArray} {n m : Nat} (hA : A.size ≤ n) (hB : B.size ≤ m) : (A ++ B).size ≤ n + m := by rw [ByteArray.size_append]; omega
theorem addOk (A B : ByteArray) (n m : Nat) (hA : A.size ≤ n) (hB : B.size ≤ m) (h : n + m ≤ 1000000) : ∀ W, (Op.stringOp .add A B).run Tryz.prog W = .ok (.string (A ++ B)) W := fun W => run_string_add_sum W _ _ (by omega)

theorem dec_end (sg : List UInt8) (u : Nat) (Wh S R : ByteArray) (hW : Wh.data.toList = Lib.decDigits (u / 10000)) (hS : S.data.toList = Lib.decDigits (10000 + u % 10000)) (hR : S.extract 1 5 = R) :
    (((((⟨sg.toArray⟩ : ByteArray) ++ Wh) ++ ⟨#[46]⟩) ++ R.extract 0 1) ++ ⟨(Lib.trimRightB (R.extract 1 4).data.toList 48).toArray⟩).data.toList = (⟨(sg ++ decL u).toArray⟩ : ByteArray).data.toList := by
  have h5 := digits5 u
  have e : R.data.toList = restL u := by
    rw [← hR]; simp only [ByteArray.data_extract, Array.toList_extract, List.extract_eq_take_drop, hS]
    unfold restL
    rw [List.take_of_length_le (by rw [List.length_drop]; omega)]
  have e4 : (restL u).length = 4 := by unfold restL; rw [List.length_drop]; omega
  simp only [ByteArray.data_append, Array.toList_append, ByteArray.data_extract, Array.toList_extract, List.extract_eq_take_drop, e, hW]
  unfold decL
  rw [List.take_of_length_le (l := List.drop 1 (restL u)) (by rw [List.length_drop]; omega)]
  simp [List.append_assoc]

set_option maxHeartbeats 2000000 in
theorem showDec_pos (u : Nat) (h1 : (u : Int) ≤ 9223372036854775807) (w : World) (htab : Lib.TabIs Tryz.prog w "internal/strconv.uint64pow10" .u64 Lib.pow10Tab) :
    Calls Tryz.prog 124 #[.int .i64 (u : Int)] w fun e w' => e = .returned (.string ⟨([] ++ decL u).toArray⟩) ∧ Below w.heap.size w w' := by
  have h5 := digits5 u
  have h20 := digits20 (u / 10000) (by omega)
  go_enter Tryz.func124, Tryz.ntmps124
  go_wp2_with fail
  refine (formatUintI _ (by omega) (by omega) _ htab).mono ?_
  rintro e w1 ⟨rfl, hb1⟩
  go_wp2_with fail
  refine (formatUintI _ (by omega) (by omega) _ (tabBelow htab hb1)).mono ?_
  rintro e w2 ⟨rfl, hb2⟩
  rw [show ((10000 : Int) + (u : Int) % 10000).toNat = 10000 + u % 10000 from by omega, show ((u : Int) / 10000).toNat = u / 10000 from by omega]
  have hSL : (⟨(Lib.decDigits (10000 + u % 10000)).toArray⟩ : ByteArray).data.toList = Lib.decDigits (10000 + u % 10000) := rfl
  have hL : (⟨(Lib.decDigits (10000 + u % 10000)).toArray⟩ : ByteArray).size = 5 := by rw [Lib.size_eq]; exact h5
  have hWL : (⟨(Lib.decDigits (u / 10000)).toArray⟩ : ByteArray).data.toList = Lib.decDigits (u / 10000) := rfl
  have hWs : (⟨(Lib.decDigits (u / 10000)).toArray⟩ : ByteArray).size ≤ 20 := by rw [Lib.size_eq]; exact h20
  generalize (⟨(Lib.decDigits (10000 + u % 10000)).toArray⟩ : ByteArray) = S at *
  generalize (⟨(Lib.decDigits (u / 10000)).toArray⟩ : ByteArray) = Wh at *
  have HSL : Hid (S.data.toList = Lib.decDigits (10000 + u % 10000)) := hSL
  have HWL : Hid (Wh.data.toList = Lib.decDigits (u / 10000)) := hWL
  clear hSL hWL h5 h20
  go_wp2_with fail
  have hR : (S.extract 1 5).size = 4 := by simp [hL]
  generalize hRR : S.extract 1 5 = R at *
  have HR : Hid (S.extract 1 5 = R) := hRR
  clear hRR
  have hR4 : (R.extract 1 4).size ≤ 9223372036854775807 := by simp [hR]
  obtain ⟨Z, HZ, hZ4, HT⟩ : ∃ Z : ByteArray, Hid (Z = ⟨(Lib.trimRightB (R.extract 1 4).data.toList 48).toArray⟩) ∧ Z.size ≤ 4 ∧ Hid (∀ W, Calls Tryz.prog 144 #[.string (R.extract 1 4), .string ⟨#[48]⟩] W fun e w' => e = .returned (.string Z) ∧ w' = W) :=
    ⟨_, rfl, by
      rw [Lib.size_eq]
      have := trimRight_len (R.extract 1 4).data.toList 48
      have e : (R.extract 1 4).data.toList.length = (R.extract 1 4).size := by rw [Lib.size_eq]
      have e2 : (R.extract 1 4).size ≤ 4 := by simp [hR]
      simp only [] at this ⊢
      omega, fun W => Tryz.strings_TrimRight_one _ 48 (by decide) W hR4⟩
  have hR6 : (R.extract 0 1).size ≤ 4 := by simp [hR]
  have z0 : (⟨#[]⟩ : ByteArray).size ≤ 1 := by decide
  have zp : (⟨#[46]⟩ : ByteArray).size ≤ 1 := by decide
  have z1 : (⟨#[]⟩ ++ Wh).size ≤ 21 := addSz z0 hWs
  have z2 : ((⟨#[]⟩ ++ Wh) ++ ⟨#[46]⟩).size ≤ 22 := addSz z1 zp
  have z3 : (((⟨#[]⟩ ++ Wh) ++ ⟨#[46]⟩) ++ R.extract 0 1).size ≤ 26 := addSz z2 hR6
  have a1 := addOk ⟨#[]⟩ Wh 1 20 z0 hWs (by omega)
  have a2 := addOk (⟨#[]⟩ ++ Wh) ⟨#[46]⟩ 21 1 z1 zp (by omega)
  have a3 := addOk ((⟨#[]⟩ ++ Wh) ++ ⟨#[46]⟩) (R.extract 0 1) 22 4 z2 hR6 (by omega)
  have a4 := addOk (((⟨#[]⟩ ++ Wh) ++ ⟨#[46]⟩) ++ R.extract 0 1) Z 26 4 z3 hZ4 (by omega)
  clear z0 zp z1 z2 z3
  clear hR6 hWs hL hZ4 hR4
  go_quiet ((go_at_call 144; exact Calls.quiet_of_same (HT.out _)))
  go_wp2
  go_ret
  exact ⟨by rw [HZ.out]; exact ret_str (dec_end [] u Wh S R HWL.out HSL.out HR.out), (Bel.out (by repeat (first | exact Bel.refl _ | refine Bel.drew ?_ | refine Bel.drewN ?_ _ | refine Bel.alloc ?_ _ | refine Bel.step ?_ (by assumption))))⟩

set_option maxHeartbeats 2000000 in
theorem showDec_neg (u : Nat) (h0 : 1 ≤ u) (h1 : (u : Int) ≤ 9223372036854775808) (w : World) (htab : Lib.TabIs Tryz.prog w "internal/strconv.uint64pow10" .u64 Lib.pow10Tab) :
    Calls Tryz.prog 124 #[.int .i64 (-(u : Int))] w fun e w' => e = .returned (.string ⟨([45] ++ decL u).toArray⟩) ∧ Below w.heap.size w w' := by
  have hwr : IntKind.u64.wrap (-IntKind.u64.wrap (-(u : Int))) = (u : Int) := by rw [IntKind.wrap_u64, IntKind.wrap_u64]; omega
  have hlt : -(u : Int) < 0 := by omega
  have h5 := digits5 u
  have h20 := digits20 (u / 10000) (by omega)
  go_enter Tryz.func124, Tryz.ntmps124
  go_wp2_with fail
  refine (formatUintI _ (by omega) (by omega) _ htab).mono ?_
  rintro e w1 ⟨rfl, hb1⟩
  go_wp2_with fail
  refine (formatUintI _ (by omega) (by omega) _ (tabBelow htab hb1)).mono ?_
  rintro e w2 ⟨rfl, hb2⟩
  rw [show ((10000 : Int) + (u : Int) % 10000).toNat = 10000 + u % 10000 from by omega, show ((u : Int) / 10000).toNat = u / 10000 from by omega]
  have hSL : (⟨(Lib.decDigits (10000 + u % 10000)).toArray⟩ : ByteArray).data.toList = Lib.decDigits (10000 + u % 10000) := rfl
  have hL : (⟨(Lib.decDigits (10000 + u % 10000)).toArray⟩ : ByteArray).size = 5 := by rw [Lib.size_eq]; exact h5
  have hWL : (⟨(Lib.decDigits (u / 10000)).toArray⟩ : ByteArray).data.toList = Lib.decDigits (u / 10000) := rfl
  have hWs : (⟨(Lib.decDigits (u / 10000)).toArray⟩ : ByteArray).size ≤ 20 := by rw [Lib.size_eq]; exact h20
  generalize (⟨(Lib.decDigits (10000 + u % 10000)).toArray⟩ : ByteArray) = S at *
  generalize (⟨(Lib.decDigits (u / 10000)).toArray⟩ : ByteArray) = Wh at *
  have HSL : Hid (S.data.toList = Lib.decDigits (10000 + u % 10000)) := hSL
  have HWL : Hid (Wh.data.toList = Lib.decDigits (u / 10000)) := hWL
  clear hSL hWL h5 h20
  go_wp2_with fail
  have hR : (S.extract 1 5).size = 4 := by simp [hL]
  generalize hRR : S.extract 1 5 = R at *
  have HR : Hid (S.extract 1 5 = R) := hRR
  clear hRR
  have hR4 : (R.extract 1 4).size ≤ 9223372036854775807 := by simp [hR]
  obtain ⟨Z, HZ, hZ4, HT⟩ : ∃ Z : ByteArray, Hid (Z = ⟨(Lib.trimRightB (R.extract 1 4).data.toList 48).toArray⟩) ∧ Z.size ≤ 4 ∧ Hid (∀ W, Calls Tryz.prog 144 #[.string (R.extract 1 4), .string ⟨#[48]⟩] W fun e w' => e = .returned (.string Z) ∧ w' = W) :=
    ⟨_, rfl, by
      rw [Lib.size_eq]
      have := trimRight_len (R.extract 1 4).data.toList 48
      have e : (R.extract 1 4).data.toList.length = (R.extract 1 4).size := by rw [Lib.size_eq]
      have e2 : (R.extract 1 4).size ≤ 4 := by simp [hR]
      simp only [] at this ⊢
      omega, fun W => Tryz.strings_TrimRight_one _ 48 (by decide) W hR4⟩
  have hR6 : (R.extract 0 1).size ≤ 4 := by simp [hR]
  have z0 : (⟨#[45]⟩ : ByteArray).size ≤ 1 := by decide
  have zp : (⟨#[46]⟩ : ByteArray).size ≤ 1 := by decide
  have z1 : (⟨#[45]⟩ ++ Wh).size ≤ 21 := addSz z0 hWs
  have z2 : ((⟨#[45]⟩ ++ Wh) ++ ⟨#[46]⟩).size ≤ 22 := addSz z1 zp
  have z3 : (((⟨#[45]⟩ ++ Wh) ++ ⟨#[46]⟩) ++ R.extract 0 1).size ≤ 26 := addSz z2 hR6
  have a1 := addOk ⟨#[45]⟩ Wh 1 20 z0 hWs (by omega)
  have a2 := addOk (⟨#[45]⟩ ++ Wh) ⟨#[46]⟩ 21 1 z1 zp (by omega)
  have a3 := addOk ((⟨#[45]⟩ ++ Wh) ++ ⟨#[46]⟩) (R.extract 0 1) 22 4 z2 hR6 (by omega)
  have a4 := addOk (((⟨#[45]⟩ ++ Wh) ++ ⟨#[46]⟩) ++ R.extract 0 1) Z 26 4 z3 hZ4 (by omega)
  clear z0 zp z1 z2 z3
  clear hR6 hWs hL hZ4 hR4
  go_quiet ((go_at_call 144; exact Calls.quiet_of_same (HT.out _)))
  go_wp2
  go_ret
  exact ⟨by rw [HZ.out]; exact ret_str (dec_end [45] u Wh S R HWL.out HSL.out HR.out), (Bel.out (by repeat (first | exact Bel.refl _ | refine Bel.drew ?_ | refine Bel.drewN ?_ _ | refine Bel.alloc ?_ _ | refine Bel.step ?_ (by assumption))))⟩

theorem showDec_any (n : Int) (h1 : -9223372036854775808 ≤ n) (h2 : n ≤ 9223372036854775807) (w : World) (htab : Lib.TabIs Tryz.prog w "internal/strconv.uint64pow10" .u64 Lib.pow10Tab) :
    Calls Tryz.prog 124 #[.int .i64 n] w fun e w' => e = .returned (.string ⟨(decS n).toArray⟩) ∧ Below w.heap.size w w' := by
  unfold decS
  by_cases hn : n < 0
  · obtain ⟨u, rfl⟩ : ∃ u : Nat, n = -(u : Int) := ⟨n.natAbs, by omega⟩
    rw [if_pos hn, show (-(u : Int)).natAbs = u from by omega]
    exact showDec_neg u (by omega) (by omega) w htab
  · obtain ⟨u, rfl⟩ := Int.eq_ofNat_of_zero_le (show 0 ≤ n by omega)
    rw [if_neg hn, Int.toNat_natCast]
    exact showDec_pos u h2 w htab
end Go.Proofs.YtjphmbgennadcaaGreatDoor
