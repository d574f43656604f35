/- The text of any value: package value's Show. -/
import Derived.Test.YtjphmbgennadcaaGreatDoorMay
namespace Go.Proofs.YtjphmbgennadcaaGreatDoor
open Go.Shelf Go.RowKit Go.Lib

set_option maxHeartbeats 1000000 in
theorem Show_no (k n : Int) (t : ByteArray) (w : World) (hR : Ready w) (hm : mayS k n t = false) : Calls Tryz.prog 101 #[.agg #[.int .i64 k, .int .i64 n, .string t]] w fun e w' => e = .returned (.string ⟨(([] : List UInt8)).toArray⟩) ∧ Below w.heap.size w w' := by
  go_enter Tryz.func101, Tryz.ntmps101
  go_wp2_with fail
  refine (mayBe_any _ _ _ _ (hR.alloc _)).mono ?_
  rintro e w1 ⟨rfl, hb1⟩
  have hR1 := (hR.alloc _).below hb1
  obtain ⟨hc1, hf1⟩ := bcell hb1
  go_wp2
  go_ret
  exact ⟨rfl, (Bel.out (by repeat (first | exact Bel.refl _ | refine Bel.drew ?_ | refine Bel.drewN ?_ _ | refine Bel.alloc ?_ _ | refine Bel.setCell ?_ (by simp <;> omega) _ | refine Bel.step ?_ (by assumption))))⟩

set_option maxHeartbeats 1000000 in
theorem Show_0 (n : Int) (t : ByteArray) (w : World) (hR : Ready w) (hm : mayS 0 n t = true) : Calls Tryz.prog 101 #[.agg #[.int .i64 0, .int .i64 n, .string t]] w fun e w' => e = .returned (.string ⟨(([110, 117, 108, 108] : List UInt8)).toArray⟩) ∧ Below w.heap.size w w' := by
  go_enter Tryz.func101, Tryz.ntmps101
  go_wp2_with fail
  refine (mayBe_any _ _ _ _ (hR.alloc _)).mono ?_
  rintro e w1 ⟨rfl, hb1⟩
  have hR1 := (hR.alloc _).below hb1
  obtain ⟨hc1, hf1⟩ := bcell hb1
  go_wp2
  go_ret
  exact ⟨rfl, (Bel.out (by repeat (first | exact Bel.refl _ | refine Bel.drew ?_ | refine Bel.drewN ?_ _ | refine Bel.alloc ?_ _ | refine Bel.setCell ?_ (by simp <;> omega) _ | refine Bel.step ?_ (by assumption))))⟩

set_option maxHeartbeats 1000000 in
theorem Show_1 (n : Int) (t : ByteArray) (w : World) (hR : Ready w) (hm : mayS 1 n t = true) : Calls Tryz.prog 101 #[.agg #[.int .i64 1, .int .i64 n, .string t]] w fun e w' => e = .returned (.string ⟨(Lib.formatBool (lg 1 n == 1)).toArray⟩) ∧ Below w.heap.size w w' := by
  go_enter Tryz.func101, Tryz.ntmps101
  go_wp2_with fail
  refine (mayBe_any _ _ _ _ (hR.alloc _)).mono ?_
  rintro e w1 ⟨rfl, hb1⟩
  have hR1 := (hR.alloc _).below hb1
  obtain ⟨hc1, hf1⟩ := bcell hb1
  go_wp2_with fail
  refine (True_any _ _ _ _).mono ?_
  rintro e w2 ⟨rfl, rfl⟩
  go_wp2_with fail
  refine (Tryz.strconv_FormatBool _ _).mono ?_
  rintro e w3 ⟨rfl, rfl⟩
  go_wp2
  go_ret
  exact ⟨rfl, (Bel.out (by repeat (first | exact Bel.refl _ | refine Bel.drew ?_ | refine Bel.drewN ?_ _ | refine Bel.alloc ?_ _ | refine Bel.setCell ?_ (by simp <;> omega) _ | refine Bel.step ?_ (by assumption))))⟩

set_option maxHeartbeats 1000000 in
theorem Show_2 (n : Int) (t : ByteArray) (h1 : -9223372036854775808 ≤ n) (h2 : n ≤ 9223372036854775807) (w : World) (hR : Ready w) (hm : mayS 2 n t = true) : Calls Tryz.prog 101 #[.agg #[.int .i64 2, .int .i64 n, .string t]] w fun e w' => e = .returned (.string ⟨(Lib.itoa n).toArray⟩) ∧ Below w.heap.size w w' := by
  go_enter Tryz.func101, Tryz.ntmps101
  go_wp2_with fail
  refine (mayBe_any _ _ _ _ (hR.alloc _)).mono ?_
  rintro e w1 ⟨rfl, hb1⟩
  have hR1 := (hR.alloc _).below hb1
  obtain ⟨hc1, hf1⟩ := bcell hb1
  go_wp2_with fail
  refine (Tryz.strconv_Itoa _ h1 h2 _ hR1.pow).mono ?_
  rintro e w2 ⟨rfl, q, os, rfl⟩
  have hb2 := below_grow w1 q os
  generalize Go.Sort.grow (w1.drewN q) os = w2 at *
  go_wp2
  go_ret
  exact ⟨rfl, (Bel.out (by repeat (first | exact Bel.refl _ | refine Bel.drew ?_ | refine Bel.drewN ?_ _ | refine Bel.alloc ?_ _ | refine Bel.setCell ?_ (by simp <;> omega) _ | refine Bel.step ?_ (by assumption))))⟩

set_option maxHeartbeats 1000000 in
theorem Show_3 (n : Int) (t : ByteArray) (h1 : -9223372036854775808 ≤ n) (h2 : n ≤ 9223372036854775807) (w : World) (hR : Ready w) (hm : mayS 3 n t = true) : Calls Tryz.prog 101 #[.agg #[.int .i64 3, .int .i64 n, .string t]] w fun e w' => e = .returned (.string ⟨(decS n).toArray⟩) ∧ Below w.heap.size w w' := by
  go_enter Tryz.func101, Tryz.ntmps101
  go_wp2_with fail
  refine (mayBe_any _ _ _ _ (hR.alloc _)).mono ?_
  rintro e w1 ⟨rfl, hb1⟩
  have hR1 := (hR.alloc _).below hb1
  obtain ⟨hc1, hf1⟩ := bcell hb1
  go_wp2_with fail
  refine (showDec_any _ h1 h2 _ hR1.pow).mono ?_
  rintro e w2 ⟨rfl, hb2⟩
  go_wp2
  go_ret
  exact ⟨rfl, (Bel.out (by repeat (first | exact Bel.refl _ | refine Bel.drew ?_ | refine Bel.drewN ?_ _ | refine Bel.alloc ?_ _ | refine Bel.setCell ?_ (by simp <;> omega) _ | refine Bel.step ?_ (by assumption))))⟩

theorem text_room {t : ByteArray} (h : (t.size : Int) ≤ 1024) : t.size + Lib.countB t ⟨#[39]⟩ * (⟨#[39, 39]⟩ : ByteArray).size ≤ 140737488355328 := by
  have h1 := Lib.countB_le ⟨#[39]⟩ (by decide) t.size t (Nat.le_refl _)
  have h2 : (⟨#[39, 39]⟩ : ByteArray).size = 2 := rfl
  rw [h2]; omega
theorem may4_size {n : Int} {t : ByteArray} (h : mayS 4 n t = true) : (t.size : Int) ≤ 1024 := by
  unfold mayS at h
  by_cases hl : (t.size : Int) ≤ 1024
  · exact hl
  · rw [decide_eq_false hl] at h; simp at h
theorem text_end (X : ByteArray) (l : List UInt8) (h : X.data.toList = dbl l) : (((⟨#[39]⟩ : ByteArray) ++ X) ++ ⟨#[39]⟩).data.toList = (⟨([39] ++ dbl l ++ [39]).toArray⟩ : ByteArray).data.toList := by
  simp [ByteArray.data_append, h]

set_option maxHeartbeats 1000000 in
theorem Show_4 (n : Int) (t : ByteArray) (w : World) (hR : Ready w) (hm : mayS 4 n t = true) : Calls Tryz.prog 101 #[.agg #[.int .i64 4, .int .i64 n, .string t]] w fun e w' => e = .returned (.string ⟨([39] ++ dbl t.data.toList ++ [39]).toArray⟩) ∧ Below w.heap.size w w' := by
  go_enter Tryz.func101, Tryz.ntmps101
  go_wp2_with fail
  refine (mayBe_any _ _ _ _ (hR.alloc _)).mono ?_
  rintro e w1 ⟨rfl, hb1⟩
  have hR1 := (hR.alloc _).below hb1
  obtain ⟨hc1, hf1⟩ := bcell hb1
  have hl := may4_size hm
  obtain ⟨m, hm3⟩ := hR1.maxl
  obtain ⟨X, HX, hX, HC⟩ : ∃ X : ByteArray, Hid (X.data.toList = dbl t.data.toList) ∧ X.size ≤ 2048 ∧ Hid (Calls Tryz.prog 125 #[.string t, .string ⟨#[39]⟩, .string ⟨#[39, 39]⟩] w1 fun e w' => e = .returned (.string X) ∧ Below w1.heap.size w1 w') :=
    ⟨⟨(Lib.replaceAll t.data.toList [39] [39, 39]).toArray⟩, replaceAll_dbl t.data.toList, by
      rw [Lib.size_eq]
      have e : (⟨(Lib.replaceAll t.data.toList (⟨#[39]⟩ : ByteArray).data.toList (⟨#[39, 39]⟩ : ByteArray).data.toList).toArray⟩ : ByteArray).data.toList = dbl t.data.toList := replaceAll_dbl t.data.toList
      have h2 := dbl_len t.data.toList
      have h3 : t.data.toList.length = t.size := by rw [Lib.size_eq]
      rw [e]; omega, Tryz.strings_ReplaceAll t ⟨#[39]⟩ ⟨#[39, 39]⟩ m w1 (by omega) hm3 (by decide) (text_room hl)⟩
  have z0 : (⟨#[39]⟩ : ByteArray).size ≤ 1 := by decide
  have z1 : ((⟨#[39]⟩ : ByteArray) ++ X).size ≤ 2049 := Nat.le_trans (addSz z0 hX) (by omega)
  have a1 := addOk ⟨#[39]⟩ X 1 2048 z0 hX (by omega)
  have a2 := addOk (⟨#[39]⟩ ++ X) ⟨#[39]⟩ 2049 1 z1 z0 (by omega)
  clear z0 z1 hX hl hm3 hR1
  go_wp2_with fail
  refine HC.out.mono ?_
  rintro e w2 ⟨rfl, hb2⟩
  go_wp2
  go_ret
  exact ⟨ret_str (text_end X _ HX.out), (Bel.out (by repeat (first | exact Bel.refl _ | refine Bel.drew ?_ | refine Bel.drewN ?_ _ | refine Bel.alloc ?_ _ | refine Bel.setCell ?_ (by simp <;> omega) _ | refine Bel.step ?_ (by assumption))))⟩

theorem mayS_kinds {k n : Int} {t : ByteArray} (h : mayS k n t = true) : k = 0 ∨ k = 1 ∨ k = 2 ∨ k = 3 ∨ k = 4 := by
  by_cases k0 : k = 0
  · exact .inl k0
  by_cases k1 : k = 1
  · exact .inr (.inl k1)
  by_cases k2 : k = 2
  · exact .inr (.inr (.inl k2))
  by_cases k3 : k = 3
  · exact .inr (.inr (.inr (.inl k3)))
  by_cases k4 : k = 4
  · exact .inr (.inr (.inr (.inr k4)))
  exfalso
  have h0 : (k == 0) = false := by simpa using k0
  have h1 : (k == 1) = false := by simpa using k1
  have h2 : (k == 2) = false := by simpa using k2
  have h3 : (k == 3) = false := by simpa using k3
  have h4 : (k == 4) = false := by simpa using k4
  simp [mayS, h0, h1, h2, h3, h4] at h
theorem showS_no {k n : Int} {t : ByteArray} (h : mayS k n t = false) : showS k n t = [] := by unfold showS; rw [h]; rfl
theorem showS_0 {n : Int} {t : ByteArray} (h : mayS 0 n t = true) : showS 0 n t = [110, 117, 108, 108] := by unfold showS; rw [h]; rfl
theorem showS_1 {n : Int} {t : ByteArray} (h : mayS 1 n t = true) : showS 1 n t = Lib.formatBool (lg 1 n == 1) := by unfold showS; rw [h]; rfl
theorem showS_2 {n : Int} {t : ByteArray} (h : mayS 2 n t = true) : showS 2 n t = Lib.itoa n := by unfold showS; rw [h]; rfl
theorem showS_3 {n : Int} {t : ByteArray} (h : mayS 3 n t = true) : showS 3 n t = decS n := by unfold showS; rw [h]; rfl
theorem showS_4 {n : Int} {t : ByteArray} (h : mayS 4 n t = true) : showS 4 n t = [39] ++ dbl t.data.toList ++ [39] := by unfold showS; rw [h]; rfl

theorem Show_any (k n : Int) (t : ByteArray) (h1 : -9223372036854775808 ≤ n) (h2 : n ≤ 9223372036854775807) (w : World) (hR : Ready w) : Calls Tryz.prog 101 #[.agg #[.int .i64 k, .int .i64 n, .string t]] w fun e w' => e = .returned (.string ⟨(showS k n t).toArray⟩) ∧ Below w.heap.size w w' := by
  cases hm : mayS k n t with
  | false => rw [showS_no hm]; exact Show_no k n t w hR hm
  | true =>
    rcases mayS_kinds hm with rfl | rfl | rfl | rfl | rfl
    · rw [showS_0 hm]; exact Show_0 n t w hR hm
    · rw [showS_1 hm]; exact Show_1 n t w hR hm
    · rw [showS_2 hm]; exact Show_2 n t h1 h2 w hR hm
    · rw [showS_3 hm]; exact Show_3 n t h1 h2 w hR hm
    · rw [showS_4 hm]; exact Show_4 n t w hR hm
end Go.Proofs.YtjphmbgennadcaaGreatDoor
