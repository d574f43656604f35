/- The document's own digits: of any uint64 they are its decimal numeral; of any int with its sign; the text of a decimal. -/
import Derived.Test.YthhbeejfnpcbhaaGreatDoorDec
import Derived.LoopN
namespace Go.Proofs.YthhbeejfnpcbhaaGreatDoor
open Go.Shelf Go.RowKit Go.Lib

/-- A digit as a byte. -/
def dgt (x : Int) : UInt8 := UInt8.ofNat x.toNat
theorem conv1 (W : World) (x : Int) (h0 : 0 ≤ x) (h1 : x < 256) :
    (convert 39 9 (.slice (some ⟨W.heap.size, 0, none⟩) 1 1)).run Tryz.prog (W.alloc (.cells #[.int .u8 x] 5)) = .ok (.string ⟨#[dgt x]⟩) (W.alloc (.cells #[.int .u8 x] 5)) := by
  have h := run_convert_bytes_back (P := Tryz.prog) (W.alloc (.cells #[.int .u8 x] 5)) 39 9 5 ⟨W.heap.size, 0, none⟩ 1 [dgt x] Tryz.underlying39 Tryz.underlying5 Tryz.underlying9 (fun j hj => by
    have : j = 0 := by simpa using hj
    subst this
    rw [Lib.add_plain, World.cell?_alloc_new]
    have e : ((dgt x).toNat : Int) = x := by unfold dgt; rw [UInt8.toNat_ofNat']; omega
    simp only [List.getElem_cons_zero]
    rw [e]; rfl)
  exact h
def dor (v : Nat) : List UInt8 := if v = 0 then [] else decDigits v
theorem dor_step (v : Nat) : dor (v / 10) ++ [UInt8.ofNat (48 + v % 10)] = decDigits v := by
  unfold dor
  by_cases h : v < 10
  · rw [if_pos (by omega), decDigits, dif_pos h, show v % 10 = v from by omega]; rfl
  · rw [if_neg (by omega)]
    conv => rhs; rw [decDigits, dif_neg h]
theorem dor_pos {v : Nat} (h : 0 < v) : dor v = decDigits v := by unfold dor; rw [if_neg (by omega)]

set_option maxRecDepth 100000 in
set_option maxHeartbeats 1000000 in
theorem rdigits (u : Nat) (hu : u < 18446744073709551616) (w : World) : Calls Tryz.prog 66 #[.int .u64 u] w fun e w' => e = .returned (.string ⟨(Lib.decDigits u).toArray⟩) ∧ Below w.heap.size w w' := by
  have hc := fun W => conv1 W (48 + (u : Int) % 10) (by omega) (by omega)
  have HS : Hid (dor (u / 10) ++ [dgt (48 + (u : Int) % 10)] = decDigits u) := by
    show _ = _
    unfold dgt; rw [show (48 + (u : Int) % 10).toNat = 48 + u % 10 from by omega]; exact dor_step u
  go_enter Tryz.func66, Tryz.ntmps66
  go_wp2_with fail
  go_loopw [0, 3] (fun su ss wx => ∃ (v : Nat) (B : ByteArray), v ≤ u ∧ su = .int .u64 v ∧ ss = .string B ∧ dor v ++ B.data.toList = decDigits u ∧ Below w.heap.size w wx) (fun su _ _ => (RowKit.intOf su).toNat)
  case atStart => exact ⟨u / 10, ⟨#[dgt (48 + (u : Int) % 10)]⟩, by omega, by go_num, rfl, HS.out, (Below.refl _ _).alloc (Nat.le_refl _) _⟩
  case round =>
    obtain ⟨v, B, hvu, rfl, rfl, hB, hb⟩ := hrel
    have HB : Hid (dor v ++ B.data.toList = decDigits u) := hB
    have hl := congrArg List.length hB
    have h20 := digits20 u hu
    have hsz : B.size ≤ 20 := by rw [Lib.size_eq]; rw [List.length_append] at hl; omega
    clear hB hl h20 hc
    by_cases hv : 0 < v
    · have hvi : (0 : Int) < (v : Int) := by omega
      have hc := fun W => conv1 W (48 + (v : Int) % 10) (by omega) (by omega)
      have z1 : (⟨#[dgt (48 + (v : Int) % 10)]⟩ : ByteArray).size ≤ 1 := Nat.le_refl 1
      have ha := addOk ⟨#[dgt (48 + (v : Int) % 10)]⟩ B 1 20 z1 hsz (by omega)
      have HN : Hid (dor (v / 10) ++ ((⟨#[dgt (48 + (v : Int) % 10)]⟩ : ByteArray) ++ B).data.toList = decDigits u) := by
        show _ = _
        rw [← HB.out, dor_pos hv, ← dor_step v, ByteArray.data_append, Array.toList_append, ← List.append_assoc]
        unfold dgt; rw [show (48 + (v : Int) % 10).toNat = 48 + v % 10 from by omega]
      clear z1 hsz HB
      go_wp2
      go_roundw
      case rel => exact ⟨v / 10, _, by omega, by go_num, rfl, HN.out, hb.alloc hb.size _⟩
      case measure => simp [RowKit.intOf]; omega
    · have hv0 : v = 0 := by omega
      subst hv0
      have HE : Hid (B.data.toList = decDigits u) := by show _ = _; rw [← HB.out]; rfl
      clear HB hsz
      go_wp2
      go_ret
      exact ⟨ret_str HE.out, hb⟩
open Go.Lib (decDigits trimRightB)
/-- Trailing noughts off, but for the first digit. -/
def trimF (l : List UInt8) : List UInt8 := l.take 1 ++ trimRightB (l.drop 1) 48
theorem trimF_snoc {l : List UInt8} (h : 1 ≤ l.length) : trimF (l ++ [48]) = trimF l := by
  unfold trimF trimRightB
  rw [List.take_append_of_le_length h, List.drop_append_of_le_length h, List.reverse_append]
  simp
theorem trimF_keep {l : List UInt8} {c : UInt8} (h : 1 ≤ l.length) (hc : c ≠ 48) : trimF (l ++ [c]) = l ++ [c] := by
  unfold trimF trimRightB
  rw [List.take_append_of_le_length h, List.drop_append_of_le_length h, List.reverse_append]
  simp [hc]
  rw [← List.append_assoc, ← List.drop_one, List.take_append_drop]
theorem last_of (F : ByteArray) (h : 1 < F.size) : F.data.toList = (F.extract 0 (F.size - 1)).data.toList ++ [F[F.size - 1]] ∧ 1 ≤ (F.extract 0 (F.size - 1)).data.toList.length := by
  have hl : F.data.toList.length = F.size := by rw [Lib.size_eq]
  have e : (F.extract 0 (F.size - 1)).data.toList = F.data.toList.take (F.size - 1) := by
    simp only [ByteArray.data_extract, Array.toList_extract, List.extract_eq_take_drop, List.drop_zero, Nat.sub_zero]
  rw [e]
  refine ⟨?_, by rw [List.length_take]; omega⟩
  have h2 : F.size - 1 < F.data.toList.length := by omega
  have h3 := List.take_succ_eq_append_getElem h2
  rw [show F.size - 1 + 1 = F.size from by omega, List.take_of_length_le (by omega)] at h3
  exact h3
theorem trim_drop (F : ByteArray) (h : 1 < F.size) (hz : (F[F.size - 1].toNat : Int) = 48) : trimF F.data.toList = trimF (F.extract 0 (F.size - 1)).data.toList := by
  obtain ⟨e, hl⟩ := last_of F h
  have hc : F[F.size - 1] = 48 := UInt8.toNat_inj.1 (by have : (48 : UInt8).toNat = 48 := rfl; omega)
  rw [e, hc]; exact trimF_snoc hl
theorem trim_stay (F : ByteArray) (h : 1 < F.size) (hz : ¬ (F[F.size - 1].toNat : Int) = 48) : trimF F.data.toList = F.data.toList := by
  obtain ⟨e, hl⟩ := last_of F h
  rw [e]; exact trimF_keep hl (fun x => hz (by rw [x]; rfl))
theorem trim_one (F : ByteArray) (h : F.size ≤ 1) : trimF F.data.toList = F.data.toList := by
  have hl : F.data.toList.length = F.size := by rw [Lib.size_eq]
  unfold trimF
  rw [List.take_of_length_le (by omega), List.drop_of_length_le (by omega)]
  simp [trimRightB]
theorem rdec_end (sg : List UInt8) (u : Nat) (Wh F : ByteArray) (hW : Wh.data.toList = decDigits (u / 10000)) (hF : F.data.toList = trimF (restL u)) :
    ((((⟨sg.toArray⟩ : ByteArray) ++ Wh) ++ ⟨#[46]⟩) ++ F).data.toList = (⟨(sg ++ decL u).toArray⟩ : ByteArray).data.toList := by
  simp only [ByteArray.data_append, Array.toList_append, hW, hF]
  unfold decL trimF
  simp [List.append_assoc]

set_option maxHeartbeats 1000000 in
theorem rDigits_pos (u : Nat) (h1 : (u : Int) ≤ 9223372036854775807) (w : World) : Calls Tryz.prog 44 #[.int .i64 (u : Int)] w fun e w' => e = .returned (.string ⟨([] ++ decDigits u).toArray⟩) ∧ Below w.heap.size w w' := by
  have h20 := digits20 u (by omega)
  have hWL : (⟨(Lib.decDigits u).toArray⟩ : ByteArray).data.toList = Lib.decDigits u := rfl
  have hWs : (⟨(Lib.decDigits u).toArray⟩ : ByteArray).size ≤ 20 := by rw [Lib.size_eq]; exact h20
  have HC : Hid (∀ W, Calls Tryz.prog 66 #[.int .u64 (u : Int)] W fun e w' => e = .returned (.string ⟨(Lib.decDigits u).toArray⟩) ∧ Below W.heap.size W w') := fun W => rdigits u (by omega) W
  generalize (⟨(Lib.decDigits u).toArray⟩ : ByteArray) = Wh at *
  have HWL : Hid (Wh.data.toList = Lib.decDigits u) := hWL
  clear hWL h20
  have z0 : (⟨#[]⟩ : ByteArray).size ≤ 1 := by decide
  have a1 := addOk ⟨#[]⟩ Wh 1 20 z0 hWs (by omega)
  clear z0 hWs
  go_enter Tryz.func44, Tryz.ntmps44
  go_wp2_with (go_at_call 66; refine (HC.out _).mono ?_; rintro e w' ⟨rfl, hb⟩)
  go_ret
  exact ⟨ret_str (by rw [ByteArray.data_append, Array.toList_append, HWL.out]; rfl), (Bel.out (by repeat (first | exact Bel.refl _ | refine Bel.drew ?_ | refine Bel.drewN ?_ _ | refine Bel.alloc ?_ _ | refine Bel.step ?_ (by assumption))))⟩

set_option maxHeartbeats 1000000 in
theorem rDigits_neg (u : Nat) (h0 : 1 ≤ u) (h1 : (u : Int) ≤ 9223372036854775808) (w : World) : Calls Tryz.prog 44 #[.int .i64 (-(u : Int))] w fun e w' => e = .returned (.string ⟨([45] ++ decDigits u).toArray⟩) ∧ Below w.heap.size w w' := by
  have hwr : IntKind.u64.wrap (-IntKind.u64.wrap (-(u : Int))) = (u : Int) := by rw [IntKind.wrap_u64, IntKind.wrap_u64]; omega
  have hlt : -(u : Int) < 0 := by omega
  have h20 := digits20 u (by omega)
  have hWL : (⟨(Lib.decDigits u).toArray⟩ : ByteArray).data.toList = Lib.decDigits u := rfl
  have hWs : (⟨(Lib.decDigits u).toArray⟩ : ByteArray).size ≤ 20 := by rw [Lib.size_eq]; exact h20
  have HC : Hid (∀ W, Calls Tryz.prog 66 #[.int .u64 (u : Int)] W fun e w' => e = .returned (.string ⟨(Lib.decDigits u).toArray⟩) ∧ Below W.heap.size W w') := fun W => rdigits u (by omega) W
  generalize (⟨(Lib.decDigits u).toArray⟩ : ByteArray) = Wh at *
  have HWL : Hid (Wh.data.toList = Lib.decDigits u) := hWL
  clear hWL h20
  have z0 : (⟨#[45]⟩ : ByteArray).size ≤ 1 := by decide
  have a1 := addOk ⟨#[45]⟩ Wh 1 20 z0 hWs (by omega)
  clear z0 hWs
  go_enter Tryz.func44, Tryz.ntmps44
  go_wp2_with (go_at_call 66; refine (HC.out _).mono ?_; rintro e w' ⟨rfl, hb⟩)
  go_ret
  exact ⟨ret_str (by rw [ByteArray.data_append, Array.toList_append, HWL.out]; rfl), (Bel.out (by repeat (first | exact Bel.refl _ | refine Bel.drew ?_ | refine Bel.drewN ?_ _ | refine Bel.alloc ?_ _ | refine Bel.step ?_ (by assumption))))⟩

set_option maxHeartbeats 2000000 in
theorem rDec_pos (u : Nat) (h1 : (u : Int) ≤ 9223372036854775807) (w : World) : Calls Tryz.prog 65 #[.int .i64 (u : Int)] w fun e w' => e = .returned (.string ⟨([] ++ decL u).toArray⟩) ∧ Below w.heap.size w w' := by
  have h5 := digits5 u
  have h20 := digits20 (u / 10000) (by omega)
  have hSL : (⟨(Lib.decDigits (10000 + u % 10000)).toArray⟩ : ByteArray).data.toList = Lib.decDigits (10000 + u % 10000) := rfl
  have hL : (⟨(Lib.decDigits (10000 + u % 10000)).toArray⟩ : ByteArray).size = 5 := by rw [Lib.size_eq]; exact h5
  have hWL : (⟨(Lib.decDigits (u / 10000)).toArray⟩ : ByteArray).data.toList = Lib.decDigits (u / 10000) := rfl
  have hWs : (⟨(Lib.decDigits (u / 10000)).toArray⟩ : ByteArray).size ≤ 20 := by rw [Lib.size_eq]; exact h20
  have HC1 : Hid (∀ W, Calls Tryz.prog 66 #[.int .u64 ((u : Int) % 10000 + 10000)] W fun e w' => e = .returned (.string ⟨(Lib.decDigits (10000 + u % 10000)).toArray⟩) ∧ Below W.heap.size W w') := fun W => by
    have := rdigits (10000 + u % 10000) (by omega) W
    rw [show ((10000 + u % 10000 : Nat) : Int) = (u : Int) % 10000 + 10000 from by omega] at this
    exact this
  have HC2 : Hid (∀ W, Calls Tryz.prog 66 #[.int .u64 ((u : Int) / 10000)] W fun e w' => e = .returned (.string ⟨(Lib.decDigits (u / 10000)).toArray⟩) ∧ Below W.heap.size W w') := fun W => by
    have := rdigits (u / 10000) (by omega) W
    rw [show ((u / 10000 : Nat) : Int) = (u : Int) / 10000 from by omega] at this
    exact this
  generalize (⟨(Lib.decDigits (10000 + u % 10000)).toArray⟩ : ByteArray) = S at *
  generalize (⟨(Lib.decDigits (u / 10000)).toArray⟩ : ByteArray) = Wh at *
  have HSL : Hid (S.data.toList = Lib.decDigits (10000 + u % 10000)) := hSL
  have HWL : Hid (Wh.data.toList = Lib.decDigits (u / 10000)) := hWL
  clear hSL hWL h20
  have HR : Hid (trimF (S.extract 1 5).data.toList = trimF (restL u)) := by
    show _ = _
    have : (S.extract 1 5).data.toList = restL u := by
      simp only [ByteArray.data_extract, Array.toList_extract, List.extract_eq_take_drop, HSL.out]
      unfold restL
      rw [List.take_of_length_le (by rw [List.length_drop]; omega)]
    rw [this]
  clear h5
  go_enter Tryz.func65, Tryz.ntmps65
  go_wp2_with fail
  refine (HC1.out _).mono ?_
  rintro e w1 ⟨rfl, hb1⟩
  go_wp2_with fail
  have hR : (S.extract 1 5).size = 4 := by simp [hL]
  generalize S.extract 1 5 = R at *
  clear hL
  go_loop [5] (fun s5 => ∃ F : ByteArray, s5 = .string F ∧ 1 ≤ F.size ∧ F.size ≤ 4 ∧ trimF F.data.toList = trimF (restL u)) (fun s5 => match s5 with | .string F => F.size | _ => 0)
  case atStart => exact ⟨R, rfl, by omega, by omega, HR.out⟩
  case round =>
    obtain ⟨F, rfl, hF1, hF4, hFR⟩ := hrel
    have HF : Hid (trimF F.data.toList = trimF (restL u)) := hFR
    clear hFR
    by_cases hlen : 1 < F.size
    · have hli : (1 : Int) < (F.size : Int) := by omega
      have hidx : F.size - 1 < F.size := by omega
      by_cases hz : (F[F.size - 1].toNat : Int) = 48
      · have hzb : ((F[F.size - 1].toNat : Int) == 48) = true := by simpa using hz
        have HN : Hid (trimF (F.extract 0 (F.size - 1)).data.toList = trimF (restL u)) := by
          show _ = _
          rw [← HF.out]; exact (trim_drop F hlen hz).symm
        clear HF hz
        go_wp2
        go_round
        case rel => exact ⟨F.extract 0 (F.size - 1), by first | rfl | (congr 1), by simp; omega, by simp; omega, HN.out⟩
        case measure => simp; omega
      · have hzb : ((F[F.size - 1].toNat : Int) == 48) = false := by simpa using hz
        have HN : Hid (F.data.toList = trimF (restL u)) := by
          show _ = _
          rw [← HF.out]; exact (trim_stay F hlen hz).symm
        clear HF hz
        have z0 : (⟨#[]⟩ : ByteArray).size ≤ 1 := by decide
        have zp : (⟨#[46]⟩ : ByteArray).size ≤ 1 := by decide
        have z1 : (⟨#[]⟩ ++ Wh).size ≤ 21 := addSz z0 hWs
        have z2 : ((⟨#[]⟩ ++ Wh) ++ ⟨#[46]⟩).size ≤ 22 := addSz z1 zp
        have a1 := addOk ⟨#[]⟩ Wh 1 20 z0 hWs (by omega)
        have a2 := addOk (⟨#[]⟩ ++ Wh) ⟨#[46]⟩ 21 1 z1 zp (by omega)
        have a3 := addOk ((⟨#[]⟩ ++ Wh) ++ ⟨#[46]⟩) F 22 4 z2 hF4 (by omega)
        clear z0 zp z1 z2
        go_wp2_with (go_at_call 66; refine (HC2.out _).mono ?_; rintro e w' ⟨rfl, hb⟩)
        go_ret
        exact ⟨ret_str (rdec_end [] u Wh F HWL.out HN.out), (Bel.out (by repeat (first | exact Bel.refl _ | refine Bel.drew ?_ | refine Bel.drewN ?_ _ | refine Bel.alloc ?_ _ | refine Bel.step ?_ (by assumption))))⟩
    · have hlb : ¬ (1 : Int) < (F.size : Int) := by omega
      have hld : decide ((1 : Int) < (F.size : Int)) = false := decide_eq_false hlb
      have HN : Hid (F.data.toList = trimF (restL u)) := by
        show _ = _
        rw [← HF.out]; exact (trim_one F (by omega)).symm
      clear HF
      have z0 : (⟨#[]⟩ : ByteArray).size ≤ 1 := by decide
      have zp : (⟨#[46]⟩ : ByteArray).size ≤ 1 := by decide
      have z1 : (⟨#[]⟩ ++ Wh).size ≤ 21 := addSz z0 hWs
      have z2 : ((⟨#[]⟩ ++ Wh) ++ ⟨#[46]⟩).size ≤ 22 := addSz z1 zp
      have a1 := addOk ⟨#[]⟩ Wh 1 20 z0 hWs (by omega)
      have a2 := addOk (⟨#[]⟩ ++ Wh) ⟨#[46]⟩ 21 1 z1 zp (by omega)
      have a3 := addOk ((⟨#[]⟩ ++ Wh) ++ ⟨#[46]⟩) F 22 4 z2 hF4 (by omega)
      clear z0 zp z1 z2
      go_wp2_with (go_at_call 66; refine (HC2.out _).mono ?_; rintro e w' ⟨rfl, hb⟩)
      go_ret
      exact ⟨ret_str (rdec_end [] u Wh F HWL.out HN.out), (Bel.out (by repeat (first | exact Bel.refl _ | refine Bel.drew ?_ | refine Bel.drewN ?_ _ | refine Bel.alloc ?_ _ | refine Bel.step ?_ (by assumption))))⟩

set_option maxHeartbeats 2000000 in
theorem rDec_neg (u : Nat) (h0 : 1 ≤ u) (h1 : (u : Int) ≤ 9223372036854775808) (w : World) : Calls Tryz.prog 65 #[.int .i64 (-(u : Int))] w fun e w' => e = .returned (.string ⟨([45] ++ decL u).toArray⟩) ∧ Below w.heap.size w w' := by
  have hwr : IntKind.u64.wrap (-IntKind.u64.wrap (-(u : Int))) = (u : Int) := by rw [IntKind.wrap_u64, IntKind.wrap_u64]; omega
  have hlt : -(u : Int) < 0 := by omega
  have h5 := digits5 u
  have h20 := digits20 (u / 10000) (by omega)
  have hSL : (⟨(Lib.decDigits (10000 + u % 10000)).toArray⟩ : ByteArray).data.toList = Lib.decDigits (10000 + u % 10000) := rfl
  have hL : (⟨(Lib.decDigits (10000 + u % 10000)).toArray⟩ : ByteArray).size = 5 := by rw [Lib.size_eq]; exact h5
  have hWL : (⟨(Lib.decDigits (u / 10000)).toArray⟩ : ByteArray).data.toList = Lib.decDigits (u / 10000) := rfl
  have hWs : (⟨(Lib.decDigits (u / 10000)).toArray⟩ : ByteArray).size ≤ 20 := by rw [Lib.size_eq]; exact h20
  have HC1 : Hid (∀ W, Calls Tryz.prog 66 #[.int .u64 ((u : Int) % 10000 + 10000)] W fun e w' => e = .returned (.string ⟨(Lib.decDigits (10000 + u % 10000)).toArray⟩) ∧ Below W.heap.size W w') := fun W => by
    have := rdigits (10000 + u % 10000) (by omega) W
    rw [show ((10000 + u % 10000 : Nat) : Int) = (u : Int) % 10000 + 10000 from by omega] at this
    exact this
  have HC2 : Hid (∀ W, Calls Tryz.prog 66 #[.int .u64 ((u : Int) / 10000)] W fun e w' => e = .returned (.string ⟨(Lib.decDigits (u / 10000)).toArray⟩) ∧ Below W.heap.size W w') := fun W => by
    have := rdigits (u / 10000) (by omega) W
    rw [show ((u / 10000 : Nat) : Int) = (u : Int) / 10000 from by omega] at this
    exact this
  generalize (⟨(Lib.decDigits (10000 + u % 10000)).toArray⟩ : ByteArray) = S at *
  generalize (⟨(Lib.decDigits (u / 10000)).toArray⟩ : ByteArray) = Wh at *
  have HSL : Hid (S.data.toList = Lib.decDigits (10000 + u % 10000)) := hSL
  have HWL : Hid (Wh.data.toList = Lib.decDigits (u / 10000)) := hWL
  clear hSL hWL h20
  have HR : Hid (trimF (S.extract 1 5).data.toList = trimF (restL u)) := by
    show _ = _
    have : (S.extract 1 5).data.toList = restL u := by
      simp only [ByteArray.data_extract, Array.toList_extract, List.extract_eq_take_drop, HSL.out]
      unfold restL
      rw [List.take_of_length_le (by rw [List.length_drop]; omega)]
    rw [this]
  clear h5
  go_enter Tryz.func65, Tryz.ntmps65
  go_wp2_with fail
  refine (HC1.out _).mono ?_
  rintro e w1 ⟨rfl, hb1⟩
  go_wp2_with fail
  have hR : (S.extract 1 5).size = 4 := by simp [hL]
  generalize S.extract 1 5 = R at *
  clear hL
  go_loop [5] (fun s5 => ∃ F : ByteArray, s5 = .string F ∧ 1 ≤ F.size ∧ F.size ≤ 4 ∧ trimF F.data.toList = trimF (restL u)) (fun s5 => match s5 with | .string F => F.size | _ => 0)
  case atStart => exact ⟨R, rfl, by omega, by omega, HR.out⟩
  case round =>
    obtain ⟨F, rfl, hF1, hF4, hFR⟩ := hrel
    have HF : Hid (trimF F.data.toList = trimF (restL u)) := hFR
    clear hFR
    by_cases hlen : 1 < F.size
    · have hli : (1 : Int) < (F.size : Int) := by omega
      have hidx : F.size - 1 < F.size := by omega
      by_cases hz : (F[F.size - 1].toNat : Int) = 48
      · have hzb : ((F[F.size - 1].toNat : Int) == 48) = true := by simpa using hz
        have HN : Hid (trimF (F.extract 0 (F.size - 1)).data.toList = trimF (restL u)) := by
          show _ = _
          rw [← HF.out]; exact (trim_drop F hlen hz).symm
        clear HF hz
        go_wp2
        go_round
        case rel => exact ⟨F.extract 0 (F.size - 1), by first | rfl | (congr 1), by simp; omega, by simp; omega, HN.out⟩
        case measure => simp; omega
      · have hzb : ((F[F.size - 1].toNat : Int) == 48) = false := by simpa using hz
        have HN : Hid (F.data.toList = trimF (restL u)) := by
          show _ = _
          rw [← HF.out]; exact (trim_stay F hlen hz).symm
        clear HF hz
        have z0 : (⟨#[45]⟩ : ByteArray).size ≤ 1 := by decide
        have zp : (⟨#[46]⟩ : ByteArray).size ≤ 1 := by decide
        have z1 : (⟨#[45]⟩ ++ Wh).size ≤ 21 := addSz z0 hWs
        have z2 : ((⟨#[45]⟩ ++ Wh) ++ ⟨#[46]⟩).size ≤ 22 := addSz z1 zp
        have a1 := addOk ⟨#[45]⟩ Wh 1 20 z0 hWs (by omega)
        have a2 := addOk (⟨#[45]⟩ ++ Wh) ⟨#[46]⟩ 21 1 z1 zp (by omega)
        have a3 := addOk ((⟨#[45]⟩ ++ Wh) ++ ⟨#[46]⟩) F 22 4 z2 hF4 (by omega)
        clear z0 zp z1 z2
        go_wp2_with (go_at_call 66; refine (HC2.out _).mono ?_; rintro e w' ⟨rfl, hb⟩)
        go_ret
        exact ⟨ret_str (rdec_end [45] u Wh F HWL.out HN.out), (Bel.out (by repeat (first | exact Bel.refl _ | refine Bel.drew ?_ | refine Bel.drewN ?_ _ | refine Bel.alloc ?_ _ | refine Bel.step ?_ (by assumption))))⟩
    · have hlb : ¬ (1 : Int) < (F.size : Int) := by omega
      have hld : decide ((1 : Int) < (F.size : Int)) = false := decide_eq_false hlb
      have HN : Hid (F.data.toList = trimF (restL u)) := by
        show _ = _
        rw [← HF.out]; exact (trim_one F (by omega)).symm
      clear HF
      have z0 : (⟨#[45]⟩ : ByteArray).size ≤ 1 := by decide
      have zp : (⟨#[46]⟩ : ByteArray).size ≤ 1 := by decide
      have z1 : (⟨#[45]⟩ ++ Wh).size ≤ 21 := addSz z0 hWs
      have z2 : ((⟨#[45]⟩ ++ Wh) ++ ⟨#[46]⟩).size ≤ 22 := addSz z1 zp
      have a1 := addOk ⟨#[45]⟩ Wh 1 20 z0 hWs (by omega)
      have a2 := addOk (⟨#[45]⟩ ++ Wh) ⟨#[46]⟩ 21 1 z1 zp (by omega)
      have a3 := addOk ((⟨#[45]⟩ ++ Wh) ++ ⟨#[46]⟩) F 22 4 z2 hF4 (by omega)
      clear z0 zp z1 z2
      go_wp2_with (go_at_call 66; refine (HC2.out _).mono ?_; rintro e w' ⟨rfl, hb⟩)
      go_ret
      exact ⟨ret_str (rdec_end [45] u Wh F HWL.out HN.out), (Bel.out (by repeat (first | exact Bel.refl _ | refine Bel.drew ?_ | refine Bel.drewN ?_ _ | refine Bel.alloc ?_ _ | refine Bel.step ?_ (by assumption))))⟩

theorem rDigits_any (n : Int) (h1 : -9223372036854775808 ≤ n) (h2 : n ≤ 9223372036854775807) (w : World) : Calls Tryz.prog 44 #[.int .i64 n] w fun e w' => e = .returned (.string ⟨(Lib.itoa n).toArray⟩) ∧ Below w.heap.size w w' := by
  unfold Lib.itoa
  by_cases hn : n < 0
  · obtain ⟨u, rfl⟩ : ∃ u : Nat, n = -(u : Int) := ⟨n.natAbs, by omega⟩
    rw [if_pos hn, show (-(u : Int)).natAbs = u from by omega]
    exact rDigits_neg u (by omega) (by omega) w
  · obtain ⟨u, rfl⟩ := Int.eq_ofNat_of_zero_le (show 0 ≤ n by omega)
    rw [if_neg hn, Int.toNat_natCast]
    exact rDigits_pos u h2 w
theorem rDec_any (n : Int) (h1 : -9223372036854775808 ≤ n) (h2 : n ≤ 9223372036854775807) (w : World) : Calls Tryz.prog 65 #[.int .i64 n] w fun e w' => e = .returned (.string ⟨(decS n).toArray⟩) ∧ Below w.heap.size w w' := by
  unfold decS
  by_cases hn : n < 0
  · obtain ⟨u, rfl⟩ : ∃ u : Nat, n = -(u : Int) := ⟨n.natAbs, by omega⟩
    rw [if_pos hn, show (-(u : Int)).natAbs = u from by omega]
    exact rDec_neg u (by omega) (by omega) w
  · obtain ⟨u, rfl⟩ := Int.eq_ofNat_of_zero_le (show 0 ≤ n by omega)
    rw [if_neg hn, Int.toNat_natCast]
    exact rDec_pos u h2 w
end Go.Proofs.YthhbeejfnpcbhaaGreatDoor
