/- The document's answer: what bytes are, how texts begin, where texts are found. -/
import Derived.Test.YthhbeejfnpcbhaaGreatDoorWds
import Derived.Test.YthhbeejfnpcbhaaGreatDoorTtk
namespace Go.Proofs.YthhbeejfnpcbhaaGreatDoor
open Go.ChangeShapes Go.WideShapes Go.ChangeAt Go.RowKit

set_option maxHeartbeats 4000000 in
theorem rdigit_any (c : Nat) (w : World) : Calls Tryz.prog 35 #[.int .u8 c] w fun e w' => e = .returned (.bool (dgB c)) ∧ w' = w := by
  have hc : c < 48 ∨ (48 ≤ c ∧ c ≤ 57) ∨ 57 < c := by omega
  rcases hc with h | h | h
  · have e : dgB c = false := by simp [dgB]; omega
    rw [e]
    have e0 : ((48 : Int) ≤ (c : Int)) = False := eq_false (by omega)
    go_enter Tryz.func35, Tryz.ntmps35
    go_wp2
    go_ret
    exact ⟨rfl, rfl⟩
  · have e : dgB c = true := by simp [dgB]; omega
    rw [e]
    have e0 : ((48 : Int) ≤ (c : Int)) = True := eq_true (by omega)
    have e1 : ((c : Int) ≤ (57 : Int)) = True := eq_true (by omega)
    go_enter Tryz.func35, Tryz.ntmps35
    go_wp2
    go_ret
    exact ⟨rfl, rfl⟩
  · have e : dgB c = false := by simp [dgB]; omega
    rw [e]
    have e0 : ((48 : Int) ≤ (c : Int)) = True := eq_true (by omega)
    have e1 : ((c : Int) ≤ (57 : Int)) = False := eq_false (by omega)
    go_enter Tryz.func35, Tryz.ntmps35
    go_wp2
    go_ret
    exact ⟨rfl, rfl⟩
set_option maxHeartbeats 4000000 in
theorem rletter_any (c : Nat) (w : World) : Calls Tryz.prog 34 #[.int .u8 c] w fun e w' => e = .returned (.bool (ltB c)) ∧ w' = w := by
  have hc : c < 65 ∨ (65 ≤ c ∧ c ≤ 90) ∨ (90 < c ∧ c < 97 ∧ c ≠ 95) ∨ c = 95 ∨ (97 ≤ c ∧ c ≤ 122) ∨ 122 < c := by omega
  rcases hc with h | h | h | h | h | h
  · have e : ltB c = false := by simp [ltB]; omega
    rw [e]
    have e0 : ((97 : Int) ≤ (c : Int)) = False := eq_false (by omega)
    have e1 : ((65 : Int) ≤ (c : Int)) = False := eq_false (by omega)
    have e2 : ((c : Int) == 95) = false := by rw [beq_eq_false_iff_ne]; omega
    clear h
    go_enter Tryz.func34, Tryz.ntmps34
    go_wp2
    go_ret
    exact ⟨rfl, rfl⟩
  · have e : ltB c = true := by simp [ltB]; omega
    rw [e]
    have e0 : ((97 : Int) ≤ (c : Int)) = False := eq_false (by omega)
    have e1 : ((65 : Int) ≤ (c : Int)) = True := eq_true (by omega)
    have e2 : ((c : Int) ≤ (90 : Int)) = True := eq_true (by omega)
    clear h
    go_enter Tryz.func34, Tryz.ntmps34
    go_wp2
    go_ret
    exact ⟨rfl, rfl⟩
  · have e : ltB c = false := by simp [ltB]; omega
    rw [e]
    have e0 : ((97 : Int) ≤ (c : Int)) = False := eq_false (by omega)
    have e1 : ((65 : Int) ≤ (c : Int)) = True := eq_true (by omega)
    have e2 : ((c : Int) ≤ (90 : Int)) = False := eq_false (by omega)
    have e3 : ((c : Int) == 95) = false := by rw [beq_eq_false_iff_ne]; omega
    clear h
    go_enter Tryz.func34, Tryz.ntmps34
    go_wp2
    go_ret
    exact ⟨rfl, rfl⟩
  · subst h
    rw [show ltB 95 = true from rfl]
    go_enter Tryz.func34, Tryz.ntmps34
    go_wp2
    go_ret
    exact ⟨rfl, rfl⟩
  · have e : ltB c = true := by simp [ltB]; omega
    rw [e]
    have e0 : ((97 : Int) ≤ (c : Int)) = True := eq_true (by omega)
    have e1 : ((c : Int) ≤ (122 : Int)) = True := eq_true (by omega)
    clear h
    go_enter Tryz.func34, Tryz.ntmps34
    go_wp2
    go_ret
    exact ⟨rfl, rfl⟩
  · have e : ltB c = false := by simp [ltB]; omega
    rw [e]
    have e0 : ((97 : Int) ≤ (c : Int)) = True := eq_true (by omega)
    have e1 : ((c : Int) ≤ (122 : Int)) = False := eq_false (by omega)
    have e2 : ((65 : Int) ≤ (c : Int)) = True := eq_true (by omega)
    have e3 : ((c : Int) ≤ (90 : Int)) = False := eq_false (by omega)
    have e4 : ((c : Int) == 95) = false := by rw [beq_eq_false_iff_ne]; omega
    clear h
    go_enter Tryz.func34, Tryz.ntmps34
    go_wp2
    go_ret
    exact ⟨rfl, rfl⟩
theorem pre_take {s t : List UInt8} (h : t.length ≤ s.length) : Lib.hasPrefix s t = (s.take t.length == t) := by
  have := Lib.hasPrefix_of_take s t
  rw [decide_eq_true h, Bool.true_and] at this
  exact this.symm
theorem pre_short {s t : List UInt8} (h : ¬ t.length ≤ s.length) : Lib.hasPrefix s t = false := by
  have := Lib.hasPrefix_of_take s t
  rw [decide_eq_false h, Bool.false_and] at this
  exact this.symm
set_option maxRecDepth 20000 in
set_option maxHeartbeats 4000000 in
theorem begins_any (s t : List UInt8) (w : World) : Calls Tryz.prog 32 #[.string (bsA s), .string (bsA t)] w fun e w' => e = .returned (.bool (Lib.hasPrefix s t)) ∧ w' = w := by
  have hzs := bsA_size s
  have hzt := bsA_size t
  by_cases h : t.length ≤ s.length
  · rw [pre_take h]
    have hx := ext_take s t.length
    have h1 := bsA_tl (s.take t.length)
    have h2 := bsA_tl t
    go_enter Tryz.func32, Tryz.ntmps32
    go_wp2
    go_ret
    exact ⟨rfl, rfl⟩
  · rw [pre_short h]
    go_enter Tryz.func32, Tryz.ntmps32
    go_wp2
    go_ret
    exact ⟨rfl, rfl⟩
set_option maxRecDepth 20000 in
set_option maxHeartbeats 4000000 in
theorem find_any (s t : List UInt8) (w : World) (hs : s.length ≤ 104857600) (ht : t.length ≤ 104857600) (h1 : 1 ≤ t.length) : Calls Tryz.prog 33 #[.string (bsA s), .string (bsA t)] w fun e w' => e = .returned (.int .i64 (Lib.index s t)) ∧ w' = w := by
  have hzs := bsA_size s
  have hzt := bsA_size t
  have htl := bsA_tl t
  go_enter Tryz.func33, Tryz.ntmps33
  go_wp2
  go_loopw [5] (fun y wr => ∃ m : Nat, m ≤ s.length + 1 ∧ y = .int .i64 m ∧ (∀ j, j < m → Lib.occAt s t j = false) ∧ wr = w) (fun y _ => s.length + 1 - (intOf y).toNat)
  case atStart => exact ⟨0, Nat.zero_le _, rfl, fun j hj => absurd hj (Nat.not_lt_zero _), rfl⟩
  case round =>
    obtain ⟨m, hm, rfl, hH, rfl⟩ := hrel
    have HH : Hid (∀ j, j < m → Lib.occAt s t j = false) := hH
    clear hH
    rcases Nat.lt_or_ge s.length (m + t.length) with hgt | hle
    · have HN : Hid (Lib.index s t = -1) := Lib.index_none fun j hj => by
        by_cases hjm : j < m
        · exact HH.out j hjm
        · cases ho : Lib.occAt s t j with
          | false => rfl
          | true =>
            rcases Lib.occAt_room ho with h | h
            · omega
            · rw [h] at h1; simp at h1
      go_wp2
      go_ret
      exact ⟨ret_int HN.out.symm, rfl⟩
    · have hx : (bsA s).extract m (m + t.length) = bsA ((s.drop m).take t.length) := by rw [ext_mid]; congr 2; omega
      have ho := Lib.occAt_iff_take s t m hle
      have htl2 := bsA_tl ((s.drop m).take t.length)
      generalize (s.drop m).take t.length = p at hx ho htl2
      cases hp : (p == t) with
      | true =>
        rw [hp] at ho
        have HN : Hid (Lib.index s t = m) := Lib.index_first (by omega) ho HH.out
        go_wp2
        go_ret
        exact ⟨ret_int HN.out.symm, rfl⟩
      | false =>
        rw [hp] at ho
        have HN : Hid (∀ j, j < m + 1 → Lib.occAt s t j = false) := fun j hj => by
          by_cases hjm : j < m
          · exact HH.out j hjm
          · have : j = m := by omega
            subst this; exact ho
        clear ho
        go_wp2
        go_roundw
        case rel => exact ⟨m + 1, by omega, by go_num, HN.out, trivial⟩
        case measure => simp [intOf]; omega
set_option maxRecDepth 20000 in
set_option maxHeartbeats 4000000 in
theorem word_any (l : List UInt8) (w : World) : Calls Tryz.prog 37 #[.string (bsA l)] w fun e w' => e = .returned (.bool (wdL.contains l)) ∧ Below w.heap.size w w' := by
  go_enter Tryz.func37, Tryz.ntmps37
  go_wp2_with fail
  refine (RWords_any w).mono ?_
  rintro e w1 ⟨⟨a1, cap1, rfl, hs1⟩, hb1⟩
  rcases hs1 with h0 | ⟨b, off, rfl, hc⟩
  · cases h0
  have HC : Hid _ := hc
  clear hc
  go_wp2
  go_loopw [4] (fun i wr => ∃ m : Nat, m ≤ 58 ∧ i = .int .i64 m ∧ (wdL.drop m).contains l = wdL.contains l ∧ wr = w1) (fun i _ => 58 - (intOf i).toNat)
  case atStart => exact ⟨0, Nat.zero_le _, rfl, rfl, rfl⟩
  case round =>
    obtain ⟨m, hm, rfl, hH, rfl⟩ := hrel
    have HH : Hid _ := hH
    clear hH
    rcases Nat.lt_or_ge m 58 with hlt | hge
    · have hwi : wdL[m]? = some (wd m) := by
        unfold wd
        rw [List.getD_eq_getElem?_getD, List.getElem?_eq_getElem (by show m < 58; exact hlt)]
        rfl
      have hx := HC.out m _ hwi
      have HD : Hid ((wdL.drop m).contains l = ((wd m == l) || (wdL.drop (m + 1)).contains l)) := by
        show _ = _
        rw [wd_drop hlt, List.contains_cons, BEq.comm (a := l)]
      have ht := bsA_tl (wd m)
      have ht2 := bsA_tl l
      clear hwi
      cases hq : (wd m == l) with
      | true =>
        have HE : Hid (true = wdL.contains l) := by have h1 := HD.out; rw [hq, HH.out] at h1; show true = _; rw [h1]; rfl
        generalize wd m = x at hx ht hq
        go_wp2
        go_ret
        exact ⟨ret_bool HE.out, hb1⟩
      | false =>
        have HE : Hid ((wdL.drop (m + 1)).contains l = wdL.contains l) := by have h1 := HD.out; rw [hq, HH.out] at h1; show _ = _; rw [h1]; simp
        generalize wd m = x at hx ht hq
        go_wp2
        go_roundw
        case rel => exact ⟨m + 1, by omega, by go_num, HE.out, trivial⟩
        case measure => simp [intOf]; omega
    · obtain rfl : m = 58 := by omega
      have HE : Hid (false = wdL.contains l) := by show false = _; rw [← HH.out]; rfl
      go_wp2
      go_ret
      exact ⟨ret_bool HE.out, hb1⟩
end Go.Proofs.YthhbeejfnpcbhaaGreatDoor
