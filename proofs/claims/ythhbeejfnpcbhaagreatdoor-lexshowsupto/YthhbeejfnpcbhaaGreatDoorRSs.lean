/- The document's own text of a value of the kinds that tokens have. -/
import Derived.Test.YthhbeejfnpcbhaaGreatDoorRDec
import Derived.Test.YthhbeejfnpcbhaaGreatDoorRunes
import Derived.Test.YthhbeejfnpcbhaaGreatDoorShw
namespace Go.Proofs.YthhbeejfnpcbhaaGreatDoor
open Go.Shelf Go.RowKit

theorem dbl_append : ∀ a b : List UInt8, dbl (a ++ b) = dbl a ++ dbl b
  | [], b => rfl
  | c :: a, b => by
    have ih := dbl_append a b
    show (if c = 39 then 39 :: 39 :: dbl (a ++ b) else c :: dbl (a ++ b)) = (if c = 39 then 39 :: 39 :: dbl a else c :: dbl a) ++ dbl b
    rw [ih]
    split <;> rfl
theorem dbl_step (t : ByteArray) (j : Nat) (h : j < t.size) : dbl (t.data.toList.take (j + 1)) = dbl (t.data.toList.take j) ++ (if t[j] = 39 then [39, 39] else [t[j]]) := by
  have hl : t.data.toList.length = t.size := by rw [Lib.size_eq]
  have e : t.data.toList.take (j + 1) = t.data.toList.take j ++ [t[j]] := by rw [List.take_succ_eq_append_getElem (by omega)]; rfl
  rw [e, dbl_append]
  congr 1
theorem ext1 (t : ByteArray) (j : Nat) (h : j < t.size) : (t.extract j (j + 1)).data.toList = [t[j]] ∧ (t.extract j (j + 1)).size ≤ 1 := by
  have hl : t.data.toList.length = t.size := by rw [Lib.size_eq]
  constructor
  · simp only [ByteArray.data_extract, Array.toList_extract, List.extract_eq_take_drop]
    rw [show j + 1 - j = 1 from by omega]
    have h2 : j < t.data.toList.length := by omega
    rw [List.drop_eq_getElem_cons h2]
    rfl
  · simp; omega

set_option maxHeartbeats 1000000 in
theorem rMay_2 (n : Int) (w : World) : Calls Tryz.prog 64 #[.agg #[.int .i64 2, .int .i64 n, .string ⟨#[]⟩]] w fun e w' => e = .returned (.bool true) ∧ Below w.heap.size w w' := by
  go_enter Tryz.func64, Tryz.ntmps64
  go_wp2
  go_ret
  exact ⟨rfl, (Bel.out (by repeat (first | exact Bel.refl _ | refine Bel.drew ?_ | refine Bel.drewN ?_ _ | refine Bel.alloc ?_ _ | refine Bel.setCell ?_ (by simp <;> omega) _ | refine Bel.step ?_ (by assumption))))⟩

set_option maxHeartbeats 1000000 in
theorem rMay_3 (n : Int) (w : World) : Calls Tryz.prog 64 #[.agg #[.int .i64 3, .int .i64 n, .string ⟨#[]⟩]] w fun e w' => e = .returned (.bool true) ∧ Below w.heap.size w w' := by
  go_enter Tryz.func64, Tryz.ntmps64
  go_wp2
  go_ret
  exact ⟨rfl, (Bel.out (by repeat (first | exact Bel.refl _ | refine Bel.drew ?_ | refine Bel.drewN ?_ _ | refine Bel.alloc ?_ _ | refine Bel.setCell ?_ (by simp <;> omega) _ | refine Bel.step ?_ (by assumption))))⟩

set_option maxHeartbeats 1000000 in
theorem rMay_4l (t : ByteArray) (hz : ¬ (t.size : Int) ≤ 1024) (w : World)  : Calls Tryz.prog 64 #[.agg #[.int .i64 4, .int .i64 0, .string t]] w fun e w' => e = .returned (.bool false) ∧ Below w.heap.size w w' := by
  have hz2 : decide ((t.size : Int) ≤ 1024) = false := decide_eq_false hz
  go_enter Tryz.func64, Tryz.ntmps64
  go_wp2
  go_ret
  exact ⟨rfl, (Bel.out (by repeat (first | exact Bel.refl _ | refine Bel.drew ?_ | refine Bel.drewN ?_ _ | refine Bel.alloc ?_ _ | refine Bel.setCell ?_ (by simp <;> omega) _ | refine Bel.step ?_ (by assumption))))⟩

set_option maxHeartbeats 1000000 in
theorem rMay_4v (t : ByteArray) (hz : (t.size : Int) ≤ 1024) (w : World) : Calls Tryz.prog 64 #[.agg #[.int .i64 4, .int .i64 0, .string t]] w fun e w' => e = .returned (.bool (Lib.validD t.data.toList)) ∧ Below w.heap.size w w' := by
  go_enter Tryz.func64, Tryz.ntmps64
  go_wp2_with (go_at_call 56; refine (runes_any t _ hz).mono ?_; rintro e w' ⟨rfl, rfl⟩)
  go_ret
  exact ⟨rfl, (Bel.out (by repeat (first | exact Bel.refl _ | refine Bel.drew ?_ | refine Bel.drewN ?_ _ | refine Bel.alloc ?_ _ | refine Bel.setCell ?_ (by simp <;> omega) _ | refine Bel.step ?_ (by assumption))))⟩

set_option maxRecDepth 100000 in
set_option maxHeartbeats 1000000 in
theorem rShow_2 (n : Int) (h1 : -9223372036854775808 ≤ n) (h2 : n ≤ 9223372036854775807) (w : World) : Calls Tryz.prog 43 #[.agg #[.int .i64 2, .int .i64 n, .string ⟨#[]⟩]] w fun e w' => e = .returned (.string ⟨(Lib.itoa n).toArray⟩) ∧ Below w.heap.size w w' := by
  go_enter Tryz.func43, Tryz.ntmps43
  go_wp2_with fail
  refine (rMay_2 _ _).mono ?_
  rintro e w1 ⟨rfl, hb1⟩
  obtain ⟨hc1, hf1⟩ := bcell hb1
  go_wp2_with fail
  refine (rDigits_any _ h1 h2 _).mono ?_
  rintro e w2 ⟨rfl, hb2⟩
  go_wp2
  go_ret
  exact ⟨rfl, (Bel.out (by repeat (first | exact Bel.refl _ | refine Bel.drew ?_ | refine Bel.drewN ?_ _ | refine Bel.alloc ?_ _ | refine Bel.setCell ?_ (by simp <;> omega) _ | refine Bel.step ?_ (by assumption))))⟩

set_option maxRecDepth 100000 in
set_option maxHeartbeats 1000000 in
theorem rShow_3 (n : Int) (h1 : -9223372036854775808 ≤ n) (h2 : n ≤ 9223372036854775807) (w : World) : Calls Tryz.prog 43 #[.agg #[.int .i64 3, .int .i64 n, .string ⟨#[]⟩]] w fun e w' => e = .returned (.string ⟨(decS n).toArray⟩) ∧ Below w.heap.size w w' := by
  go_enter Tryz.func43, Tryz.ntmps43
  go_wp2_with fail
  refine (rMay_3 _ _).mono ?_
  rintro e w1 ⟨rfl, hb1⟩
  obtain ⟨hc1, hf1⟩ := bcell hb1
  go_wp2_with fail
  refine (rDec_any _ h1 h2 _).mono ?_
  rintro e w2 ⟨rfl, hb2⟩
  go_wp2
  go_ret
  exact ⟨rfl, (Bel.out (by repeat (first | exact Bel.refl _ | refine Bel.drew ?_ | refine Bel.drewN ?_ _ | refine Bel.alloc ?_ _ | refine Bel.setCell ?_ (by simp <;> omega) _ | refine Bel.step ?_ (by assumption))))⟩

set_option maxRecDepth 100000 in
set_option maxHeartbeats 1000000 in
theorem rShow_4 (t : ByteArray) (w : World) (hl4 : (t.size : Int) ≤ 1024) (hv : Lib.validD t.data.toList = true) : Calls Tryz.prog 43 #[.agg #[.int .i64 4, .int .i64 0, .string t]] w fun e w' => e = .returned (.string ⟨([39] ++ dbl t.data.toList ++ [39]).toArray⟩) ∧ Below w.heap.size w w' := by
  have hl : t.size ≤ 1024 := by omega
  go_enter Tryz.func43, Tryz.ntmps43
  go_wp2_with fail
  have hm4 := rMay_4v t hl4 (w.alloc (.cells #[.int .i64 4, .int .i64 0, .string t] 69))
  rw [hv] at hm4
  refine hm4.mono ?_
  rintro e w1 ⟨rfl, hb1⟩
  obtain ⟨hc1, hf1⟩ := bcell hb1
  have hcT : w1.cell? ⟨w.heap.size, 2, none⟩ = some (.string t) := by rw [hc1 _ _ (by simp)]; go_simp
  go_wp2_with fail
  clear hc1 hf1
  go_loop [3, 4] (fun s3 s4 => ∃ (j : Nat) (O : ByteArray), j ≤ t.size ∧ s3 = .string O ∧ s4 = .int .i64 j ∧ O.size ≤ 1 + 2 * j ∧ O.data.toList = 39 :: dbl (t.data.toList.take j)) (fun _ s4 => t.size - (intOf s4).toNat)
  case atStart => exact ⟨0, ⟨#[39]⟩, Nat.zero_le _, rfl, rfl, by decide, rfl⟩
  case round =>
    obtain ⟨j, O, hj, rfl, rfl, hO, hOL⟩ := hrel
    have HO : Hid (O.data.toList = 39 :: dbl (t.data.toList.take j)) := hOL
    clear hOL
    have z39 : (⟨#[39]⟩ : ByteArray).size ≤ 1 := by decide
    by_cases hlt : j < t.size
    · obtain ⟨hx, hx1⟩ := ext1 t j hlt
      have HX : Hid ((t.extract j (j + 1)).data.toList = [t[j]]) := hx
      clear hx
      have HD : Hid (dbl (t.data.toList.take (j + 1)) = dbl (t.data.toList.take j) ++ (if t[j] = 39 then [39, 39] else [t[j]])) := dbl_step t j hlt
      have y0 := (t[j]).toNat_lt
      by_cases hq : (t[j].toNat : Int) = 39
      · have hqb : ((t[j].toNat : Int) == 39) = true := by simpa using hq
        have hc : t[j] = 39 := UInt8.toNat_inj.1 (by have : (39 : UInt8).toNat = 39 := rfl; omega)
        have z1 : (O ++ ⟨#[39]⟩).size ≤ 1 + 2 * j + 1 := addSz hO z39
        have a1 := addOk O ⟨#[39]⟩ (1 + 2 * j) 1 hO z39 (by omega)
        have a2 := addOk (O ++ ⟨#[39]⟩) (t.extract j (j + 1)) (1 + 2 * j + 1) 1 z1 hx1 (by omega)
        have zN : ((O ++ ⟨#[39]⟩) ++ t.extract j (j + 1)).size ≤ 1 + 2 * (j + 1) := Nat.le_trans (addSz z1 hx1) (by omega)
        have HN : Hid (((O ++ ⟨#[39]⟩) ++ t.extract j (j + 1)).data.toList = 39 :: dbl (t.data.toList.take (j + 1))) := by
          show _ = _
          rw [HD.out, if_pos hc]
          simp only [ByteArray.data_append, Array.toList_append, HX.out, HO.out, hc]
          simp
        have HZ : Hid (((O ++ ⟨#[39]⟩) ++ t.extract j (j + 1)).size ≤ 1 + 2 * (j + 1)) := zN
        clear HO HD HX z1 zN hq hc hx1 z39 hO
        go_wp2
        go_round
        case rel => exact ⟨j + 1, _, by omega, rfl, by go_num, HZ.out, HN.out⟩
        case measure => simp [intOf]; omega
      · have hqb : ((t[j].toNat : Int) == 39) = false := by simpa using hq
        have hc : ¬ t[j] = 39 := fun x => hq (by rw [x]; rfl)
        have a2 := addOk O (t.extract j (j + 1)) (1 + 2 * j) 1 hO hx1 (by omega)
        have HZ : Hid ((O ++ t.extract j (j + 1)).size ≤ 1 + 2 * (j + 1)) := Nat.le_trans (addSz hO hx1) (by omega)
        have HN : Hid ((O ++ t.extract j (j + 1)).data.toList = 39 :: dbl (t.data.toList.take (j + 1))) := by
          show _ = _
          rw [HD.out, if_neg hc]
          simp only [ByteArray.data_append, Array.toList_append, HX.out, HO.out]
          simp
        clear HO HD HX hq hc hx1 z39 hO
        go_wp2
        go_round
        case rel => exact ⟨j + 1, _, by omega, rfl, by go_num, HZ.out, HN.out⟩
        case measure => simp [intOf]; omega
    · have a1 := addOk O ⟨#[39]⟩ (1 + 2 * j) 1 hO z39 (by omega)
      have HE : Hid ((O ++ ⟨#[39]⟩).data.toList = (⟨([39] ++ dbl t.data.toList ++ [39]).toArray⟩ : ByteArray).data.toList) := by
        show _ = _
        have hl : t.data.toList.length = t.size := by rw [Lib.size_eq]
        simp only [ByteArray.data_append, Array.toList_append, HO.out, List.take_of_length_le (show t.data.toList.length ≤ j by omega)]
        simp
      clear HO z39 hO
      go_wp2
      go_ret
      exact ⟨ret_str HE.out, (Bel.out (by repeat (first | exact Bel.refl _ | refine Bel.drew ?_ | refine Bel.drewN ?_ _ | refine Bel.alloc ?_ _ | refine Bel.setCell ?_ (by simp <;> omega) _ | refine Bel.step ?_ (by assumption))))⟩

set_option maxRecDepth 100000 in
set_option maxHeartbeats 1000000 in
theorem rShow_no (t : ByteArray) (w : World) (hno : ¬ ((t.size : Int) ≤ 1024 ∧ Lib.validD t.data.toList = true)) : Calls Tryz.prog 43 #[.agg #[.int .i64 4, .int .i64 0, .string t]] w fun e w' => e = .returned (.string ⟨(([] : List UInt8)).toArray⟩) ∧ Below w.heap.size w w' := by
  have hmay : ∀ W, Calls Tryz.prog 64 #[.agg #[.int .i64 4, .int .i64 0, .string t]] W fun e w' => e = .returned (.bool false) ∧ Below W.heap.size W w' := fun W => by
    by_cases h2 : (t.size : Int) ≤ 1024
    · have hv' : Lib.validD t.data.toList = false := by
        cases hq : Lib.validD t.data.toList with
        | false => rfl
        | true => exact absurd ⟨h2, hq⟩ hno
      have := rMay_4v t h2 W
      rw [hv'] at this
      exact this
    · exact rMay_4l t h2 W
  go_enter Tryz.func43, Tryz.ntmps43
  go_wp2_with fail
  refine (hmay (w.alloc (.cells #[.int .i64 4, .int .i64 0, .string t] 69))).mono ?_
  rintro e w1 ⟨rfl, hb1⟩
  obtain ⟨hc1, hf1⟩ := bcell hb1
  go_wp2
  go_ret
  exact ⟨rfl, (Bel.out (by repeat (first | exact Bel.refl _ | refine Bel.drew ?_ | refine Bel.drewN ?_ _ | refine Bel.alloc ?_ _ | refine Bel.setCell ?_ (by simp <;> omega) _ | refine Bel.step ?_ (by assumption))))⟩

end Go.Proofs.YthhbeejfnpcbhaaGreatDoor
