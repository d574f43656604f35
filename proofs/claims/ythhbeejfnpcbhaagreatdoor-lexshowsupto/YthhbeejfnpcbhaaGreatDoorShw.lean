/- The texts of numbers and of texts (value.Show), and of tokens (show). -/
import Derived.Test.YthhbeejfnpcbhaaGreatDoorDec
import Derived.Test.YthhbeejfnpcbhaaGreatDoorPer
import Derived.Test.YthhbeejfnpcbhaaGreatDoorBk
namespace Go.Proofs.YthhbeejfnpcbhaaGreatDoor
open Go.Shelf Go.RowKit Go.Lib

theorem bcell {W w1 : World} (hb : Below W.heap.size W w1) : (∀ b o, b < W.heap.size → w1.cell? ⟨b, o, none⟩ = W.cell? ⟨b, o, none⟩) ∧ (∀ b o, b < W.heap.size → w1.frozen? ⟨b, o, none⟩ = W.frozen? ⟨b, o, none⟩) :=
  ⟨fun b o h => hb.cell (p := ⟨b, o, none⟩) h, fun b o h => hb.frozen (p := ⟨b, o, none⟩) h⟩
set_option maxRecDepth 20000 in
set_option maxHeartbeats 4000000 in
theorem mayBe_2 (n : Int) (w : World) : Calls Tryz.prog 57 #[.agg #[.int .i64 2, .int .i64 n, .string ⟨#[]⟩]] w fun e w' => e = .returned (.bool true) ∧ Below w.heap.size w w' := by
  go_enter Tryz.func57, Tryz.ntmps57
  go_wp2
  go_ret
  exact ⟨rfl, (Bel.out (by repeat (first | exact Bel.refl _ | assumption | refine Bel.drew ?_ | refine Bel.drewN ?_ _ | refine Bel.alloc ?_ _ | refine Bel.setCell ?_ (by simp <;> omega) _ | refine Bel.step ?_ (by assumption))))⟩
set_option maxRecDepth 20000 in
set_option maxHeartbeats 4000000 in
theorem mayBe_3 (n : Int) (w : World) : Calls Tryz.prog 57 #[.agg #[.int .i64 3, .int .i64 n, .string ⟨#[]⟩]] w fun e w' => e = .returned (.bool true) ∧ Below w.heap.size w w' := by
  go_enter Tryz.func57, Tryz.ntmps57
  go_wp2
  go_ret
  exact ⟨rfl, (Bel.out (by repeat (first | exact Bel.refl _ | assumption | refine Bel.drew ?_ | refine Bel.drewN ?_ _ | refine Bel.alloc ?_ _ | refine Bel.setCell ?_ (by simp <;> omega) _ | refine Bel.step ?_ (by assumption))))⟩
set_option maxRecDepth 20000 in
set_option maxHeartbeats 4000000 in
theorem mayBe_4l (t : ByteArray) (hz : ¬ (t.size : Int) ≤ 1024) (w : World) : Calls Tryz.prog 57 #[.agg #[.int .i64 4, .int .i64 0, .string t]] w fun e w' => e = .returned (.bool false) ∧ Below w.heap.size w w' := by
  have hz2 : decide ((t.size : Int) ≤ 1024) = false := decide_eq_false hz
  go_enter Tryz.func57, Tryz.ntmps57
  go_wp2
  go_ret
  exact ⟨rfl, (Bel.out (by repeat (first | exact Bel.refl _ | assumption | refine Bel.drew ?_ | refine Bel.drewN ?_ _ | refine Bel.alloc ?_ _ | refine Bel.setCell ?_ (by simp <;> omega) _ | refine Bel.step ?_ (by assumption))))⟩
set_option maxRecDepth 20000 in
set_option maxHeartbeats 4000000 in
theorem mayBe_4v (t : ByteArray) (hz : (t.size : Int) ≤ 1024) (w : World) (hR : Rdy w) : Calls Tryz.prog 57 #[.agg #[.int .i64 4, .int .i64 0, .string t]] w fun e w' => e = .returned (.bool (Lib.validD t.data.toList)) ∧ Below w.heap.size w w' := by
  go_enter Tryz.func57, Tryz.ntmps57
  go_wp2_with (go_at_call 76; refine (validString t _ (by omega) (hR.alloc _).utf).mono ?_; rintro e w' ⟨rfl, hb⟩)
  go_ret
  exact ⟨rfl, (Bel.out (by repeat (first | exact Bel.refl _ | assumption | refine Bel.drew ?_ | refine Bel.drewN ?_ _ | refine Bel.alloc ?_ _ | refine Bel.setCell ?_ (by simp <;> omega) _ | refine Bel.step ?_ (by assumption))))⟩
set_option maxRecDepth 20000 in
set_option maxHeartbeats 4000000 in
theorem vShow_2 (n : Int) (h1 : -9223372036854775808 ≤ n) (h2 : n ≤ 9223372036854775807) (w : World) (hR : Rdy w) : Calls Tryz.prog 40 #[.agg #[.int .i64 2, .int .i64 n, .string ⟨#[]⟩]] w fun e w' => e = .returned (.string (bsA (Lib.itoa n))) ∧ Below w.heap.size w w' := by
  go_enter Tryz.func40, Tryz.ntmps40
  go_wp2_with fail
  refine (mayBe_2 _ _).mono ?_
  rintro e w1 ⟨rfl, hb1⟩
  have hR1 := (hR.alloc _).below hb1
  obtain ⟨hc1, hf1⟩ := bcell hb1
  go_wp2_with fail
  refine (Tryz.strconv_Itoa _ h1 h2 _ hR1.pow).mono ?_
  rintro e w2 ⟨rfl, q, os, rfl⟩
  have hb2 := below_grow w1 q os
  generalize Go.Sort.grow (w1.drewN q) os = w2 at *
  go_wp2
  go_ret
  exact ⟨rfl, (Bel.out (by repeat (first | exact Bel.refl _ | assumption | refine Bel.drew ?_ | refine Bel.drewN ?_ _ | refine Bel.alloc ?_ _ | refine Bel.setCell ?_ (by simp <;> omega) _ | refine Bel.step ?_ (by assumption))))⟩
set_option maxRecDepth 20000 in
set_option maxHeartbeats 4000000 in
theorem vShow_3 (n : Int) (h1 : -9223372036854775808 ≤ n) (h2 : n ≤ 9223372036854775807) (w : World) (hR : Rdy w) : Calls Tryz.prog 40 #[.agg #[.int .i64 3, .int .i64 n, .string ⟨#[]⟩]] w fun e w' => e = .returned (.string (bsA (decS n))) ∧ Below w.heap.size w w' := by
  go_enter Tryz.func40, Tryz.ntmps40
  go_wp2_with fail
  refine (mayBe_3 _ _).mono ?_
  rintro e w1 ⟨rfl, hb1⟩
  have hR1 := (hR.alloc _).below hb1
  obtain ⟨hc1, hf1⟩ := bcell hb1
  go_wp2_with fail
  refine (showDec_any _ h1 h2 _ hR1.pow).mono ?_
  rintro e w2 ⟨rfl, hb2⟩
  go_wp2
  go_ret
  exact ⟨rfl, (Bel.out (by repeat (first | exact Bel.refl _ | assumption | refine Bel.drew ?_ | refine Bel.drewN ?_ _ | refine Bel.alloc ?_ _ | refine Bel.setCell ?_ (by simp <;> omega) _ | refine Bel.step ?_ (by assumption))))⟩
theorem text_room {t : ByteArray} (h : (t.size : Int) ≤ 1024) : t.size + Lib.countB t ⟨#[39]⟩ * (⟨#[39, 39]⟩ : ByteArray).size ≤ 140737488355328 := by
  have h1 := Lib.countB_le ⟨#[39]⟩ (by decide) t.size t (Nat.le_refl _)
  have h2 : (⟨#[39, 39]⟩ : ByteArray).size = 2 := rfl
  rw [h2]; omega
theorem text_end (X : ByteArray) (l : List UInt8) (h : X.data.toList = dbl l) : (((⟨#[39]⟩ : ByteArray) ++ X) ++ ⟨#[39]⟩).data.toList = (bsA (39 :: (dbl l ++ [39]))).data.toList := by
  rw [bsA_list]
  simp [ByteArray.data_append, h]
set_option maxRecDepth 20000 in
set_option maxHeartbeats 4000000 in
theorem vShow_4 (l : List UInt8) (w : World) (hR : Rdy w) (hl : l.length ≤ 1024) (hv : Lib.validD l = true) : Calls Tryz.prog 40 #[.agg #[.int .i64 4, .int .i64 0, .string (bsA l)]] w fun e w' => e = .returned (.string (bsA (39 :: (dbl l ++ [39])))) ∧ Below w.heap.size w w' := by
  have hz := bsA_size l
  have hm := fun W (h : Rdy W) => mayBe_4v (bsA l) (by omega) W h
  rw [bsA_list, hv] at hm
  go_enter Tryz.func40, Tryz.ntmps40
  go_wp2_with fail
  refine (hm _ (hR.alloc _)).mono ?_
  rintro e w1 ⟨rfl, hb1⟩
  have hR1 := (hR.alloc _).below hb1
  obtain ⟨hc1, hf1⟩ := bcell hb1
  obtain ⟨m, hm3⟩ := hR1.mx
  obtain ⟨X, HX, hX, HC⟩ : ∃ X : ByteArray, Hid (X.data.toList = dbl l) ∧ X.size ≤ 2048 ∧ Hid (Calls Tryz.prog 61 #[.string (bsA l), .string ⟨#[39]⟩, .string ⟨#[39, 39]⟩] w1 fun e w' => e = .returned (.string X) ∧ Below w1.heap.size w1 w') :=
    ⟨⟨(Lib.replaceAll (bsA l).data.toList [39] [39, 39]).toArray⟩, by show _ = _; rw [bsA_list]; exact replaceAll_dbl l, by
      rw [Lib.size_eq]
      have e : (⟨(Lib.replaceAll (bsA l).data.toList [39] [39, 39]).toArray⟩ : ByteArray).data.toList = dbl l := by rw [bsA_list]; exact replaceAll_dbl l
      have h2 := dbl_len l
      rw [e]; omega, Tryz.strings_ReplaceAll (bsA l) ⟨#[39]⟩ ⟨#[39, 39]⟩ m w1 (by omega) hm3 (by decide) (text_room (by omega))⟩
  have z0 : (⟨#[39]⟩ : ByteArray).size ≤ 1 := by decide
  have z1 : ((⟨#[39]⟩ : ByteArray) ++ X).size ≤ 2049 := Nat.le_trans (addSz z0 hX) (by omega)
  have a1 := addOk ⟨#[39]⟩ X 1 2048 z0 hX (by omega)
  have a2 := addOk (⟨#[39]⟩ ++ X) ⟨#[39]⟩ 2049 1 z1 z0 (by omega)
  clear z0 z1 hX hl hm3 hR1 hm
  go_wp2_with fail
  refine HC.out.mono ?_
  rintro e w2 ⟨rfl, hb2⟩
  go_wp2
  go_ret
  exact ⟨ret_str (text_end X l HX.out), (Bel.out (by repeat (first | exact Bel.refl _ | assumption | refine Bel.drew ?_ | refine Bel.drewN ?_ _ | refine Bel.alloc ?_ _ | refine Bel.setCell ?_ (by simp <;> omega) _ | refine Bel.step ?_ (by assumption))))⟩
set_option maxRecDepth 20000 in
set_option maxHeartbeats 4000000 in
theorem vShow_4n (l : List UInt8) (w : World) (hR : Rdy w) (hl : l.length ≤ 1048576000) (hv : ¬ (l.length ≤ 1024 ∧ Lib.validD l = true)) : Calls Tryz.prog 40 #[.agg #[.int .i64 4, .int .i64 0, .string (bsA l)]] w fun e w' => e = .returned (.string (bsA [])) ∧ Below w.heap.size w w' := by
  have hz := bsA_size l
  have hm : ∀ W, Rdy W → Calls Tryz.prog 57 #[.agg #[.int .i64 4, .int .i64 0, .string (bsA l)]] W fun e w' => e = .returned (.bool false) ∧ Below W.heap.size W w' := fun W h => by
    by_cases h2 : l.length ≤ 1024
    · have hv' : Lib.validD l = false := by
        cases hq : Lib.validD l with
        | false => rfl
        | true => exact absurd ⟨h2, hq⟩ hv
      have := mayBe_4v (bsA l) (by omega) W h
      rw [bsA_list, hv'] at this
      exact this
    · exact mayBe_4l (bsA l) (by omega) W
  go_enter Tryz.func40, Tryz.ntmps40
  go_wp2_with fail
  refine (hm _ (hR.alloc _)).mono ?_
  rintro e w1 ⟨rfl, hb1⟩
  obtain ⟨hc1, hf1⟩ := bcell hb1
  clear hm
  go_wp2
  go_ret
  exact ⟨rfl, (Bel.out (by repeat (first | exact Bel.refl _ | assumption | refine Bel.drew ?_ | refine Bel.drewN ?_ _ | refine Bel.alloc ?_ _ | refine Bel.setCell ?_ (by simp <;> omega) _ | refine Bel.step ?_ (by assumption))))⟩
end Go.Proofs.YthhbeejfnpcbhaaGreatDoor
