/- Which texts are names: package schema and the document's answer. -/
import Derived.Test.YtjncoihppmbijaaDoorBase
namespace Go.Proofs.YtjncoihppmbijaaDoor
open Go.ChangeShapes Go.WideShapes Go.ChangeAt Go.RowKit

def dgB (n : Int) : Bool := decide (48 ≤ n) && decide (n ≤ 57)
def ltB (n : Int) : Bool := (decide (97 ≤ n) && decide (n ≤ 122)) || (decide (65 ≤ n) && decide (n ≤ 90))
def nmB (n : Int) : Bool := ltB n || dgB n || n == 95

set_option maxHeartbeats 1000000 in
theorem isDigit_any (n : Int) (w : World) : Calls Tryd.prog 26 #[.int .u8 n] w fun e w' => e = .returned (.bool (dgB n)) ∧ w' = w := by
  rcases Int.lt_or_le n 48 with h | h
  · have e : dgB n = false := by simp [dgB]; omega
    rw [e]
    go_enter Tryd.func26, Tryd.ntmps26
    go_wp2
    all_goals go_ret
    all_goals exact ⟨rfl, rfl⟩
  · have e : dgB n = decide (n ≤ 57) := by simp [dgB, h]
    rw [e]
    go_enter Tryd.func26, Tryd.ntmps26
    go_wp2
    all_goals go_ret
    all_goals exact ⟨rfl, rfl⟩

set_option maxHeartbeats 1000000 in
theorem isLetter_any (n : Int) (w : World) : Calls Tryd.prog 27 #[.int .u8 n] w fun e w' => e = .returned (.bool (ltB n)) ∧ w' = w := by
  rcases Int.lt_or_le n 65 with h | h
  · have e : ltB n = false := by simp [ltB]; omega
    rw [e]
    go_enter Tryd.func27, Tryd.ntmps27
    go_wp2
    all_goals go_ret
    all_goals exact ⟨rfl, rfl⟩
  rcases Int.lt_or_le n 97 with h1 | h1
  · have e : ltB n = decide (n ≤ 90) := by simp [ltB, h]; omega
    rw [e]
    go_enter Tryd.func27, Tryd.ntmps27
    go_wp2
    all_goals go_ret
    all_goals exact ⟨rfl, rfl⟩
  rcases Int.lt_or_le 122 n with h2 | h2
  · have e : ltB n = false := by simp [ltB]; omega
    rw [e]
    go_enter Tryd.func27, Tryd.ntmps27
    go_wp2
    all_goals go_ret
    all_goals first | exact ⟨rfl, rfl⟩ | exact ⟨ret_bool (by rw [Bool.or_eq_false_iff, decide_eq_false_iff_not, decide_eq_false_iff_not]; omega), rfl⟩
  · have e : ltB n = true := by simp [ltB]; omega
    rw [e]
    go_enter Tryd.func27, Tryd.ntmps27
    go_wp2
    all_goals go_ret
    all_goals exact ⟨rfl, rfl⟩

theorem all_step (s : ByteArray) (m : Nat) (h : m < s.size) (f : UInt8 → Bool) : (s.data.toList.drop m).all f = (f s[m] && (s.data.toList.drop (m + 1)).all f) := by
  have hl : m < s.data.toList.length := by rw [Array.length_toList]; exact h
  rw [List.drop_eq_getElem_cons hl, List.all_cons]
  rfl
def nmF (c : UInt8) : Bool := nmB c.toNat
def nmL (s : ByteArray) (m : Nat) : Bool := (s.data.toList.drop m).all nmF
theorem nmL_step (s : ByteArray) (m : Nat) (h : m < s.size) : nmL s m = (nmB s[m].toNat && nmL s (m + 1)) := all_step s m h nmF
theorem nmL_end (s : ByteArray) (m : Nat) (h : s.size ≤ m) : nmL s m = true := by
  unfold nmL
  rw [List.drop_eq_nil_of_le (by rw [Array.length_toList]; exact h)]
  rfl
/-- Is a text a name? -/
def nameS (s : ByteArray) : Bool := if h : 0 < s.size then decide ((s.size : Int) ≤ 64) && !dgB s[0].toNat && nmL s 0 else false

set_option maxHeartbeats 4000000 in
theorem Name_loop (s : ByteArray) (w : World) (h0 : 0 < s.size) (h1 : (s.size : Int) ≤ 64) (hd : dgB s[0].toNat = false) : Calls Tryd.prog 12 #[.string s] w fun e w' => e = .returned (.bool (nmL s 0)) ∧ w' = w := by
  have z0 : ((s.size : Int) == 0) = false := by rw [beq_eq_false_iff_ne]; omega
  have z1 : decide (64 < (s.size : Int)) = false := decide_eq_false (by omega)
  go_enter Tryd.func12, Tryd.ntmps12
  go_wp2_with (go_at_call 26; refine (isDigit_any _ _).mono ?_; rintro e w' ⟨rfl, rfl⟩)
  clear z0 z1 hd
  go_loop [19] (fun i => ∃ m : Nat, m ≤ s.size ∧ i = .int .i64 m ∧ nmL s m = nmL s 0) (fun i => s.size - (intOf i).toNat)
  case atStart => exact ⟨0, Nat.zero_le _, rfl, rfl⟩
  case round =>
    obtain ⟨m, hm, rfl, hV⟩ := hrel
    have HV : Hid (nmL s m = nmL s 0) := hV
    clear hV
    rcases Nat.lt_or_ge m s.size with hlt | hge
    · generalize hl : ltB s[m].toNat = L
      generalize hg : dgB s[m].toNat = D
      generalize hu : ((s[m].toNat : Int) == 95) = U
      have HN : Hid (nmB s[m].toNat = (L || D || U)) := by show _ = _; unfold nmB; rw [hl, hg, hu]
      have HS : Hid (nmL s 0 = (nmB s[m].toNat && nmL s (m + 1))) := by show _ = _; rw [← HV.out]; exact nmL_step s m hlt
      cases L <;> cases D <;> cases U
      all_goals go_wp2_with (first | (go_at_call 26; refine (isDigit_any _ _).mono ?_; rintro e w' ⟨rfl, rfl⟩) | (go_at_call 27; refine (isLetter_any _ _).mono ?_; rintro e w' ⟨rfl, rfl⟩))
      all_goals first
        | (go_round; (case rel => exact ⟨m + 1, by omega, by go_num, by rw [HS.out, HN.out]; rfl⟩); (case measure => simp [intOf]; omega))
        | (go_ret; exact ⟨ret_bool (by rw [HS.out, HN.out]; rfl), rfl⟩)
    · have HE : Hid (true = nmL s 0) := by show _ = _; rw [← HV.out, nmL_end s m hge]
      go_wp2
      go_ret
      exact ⟨ret_bool HE.out, rfl⟩
set_option maxHeartbeats 1000000 in
theorem Name_0 (s : ByteArray) (w : World) (z0 : ((s.size : Int) == 0) = true) : Calls Tryd.prog 12 #[.string s] w fun e w' => e = .returned (.bool false) ∧ w' = w := by
  go_enter Tryd.func12, Tryd.ntmps12
  go_wp2
  all_goals go_ret
  all_goals exact ⟨rfl, rfl⟩
set_option maxHeartbeats 1000000 in
theorem Name_64 (s : ByteArray) (w : World) (z0 : ((s.size : Int) == 0) = false) (z1 : 64 < (s.size : Int)) : Calls Tryd.prog 12 #[.string s] w fun e w' => e = .returned (.bool false) ∧ w' = w := by
  go_enter Tryd.func12, Tryd.ntmps12
  go_wp2
  all_goals go_ret
  all_goals exact ⟨rfl, rfl⟩
set_option maxHeartbeats 1000000 in
theorem Name_dg (s : ByteArray) (w : World) (h0 : 0 < s.size) (h1 : (s.size : Int) ≤ 64) (hd : dgB s[0].toNat = true) : Calls Tryd.prog 12 #[.string s] w fun e w' => e = .returned (.bool false) ∧ w' = w := by
  have z0 : ((s.size : Int) == 0) = false := by rw [beq_eq_false_iff_ne]; omega
  have z1 : decide (64 < (s.size : Int)) = false := decide_eq_false (by omega)
  go_enter Tryd.func12, Tryd.ntmps12
  go_wp2_with (go_at_call 26; refine (isDigit_any _ _).mono ?_; rintro e w' ⟨rfl, rfl⟩)
  all_goals go_ret
  all_goals exact ⟨rfl, rfl⟩
theorem Name_any (s : ByteArray) (w : World) : Calls Tryd.prog 12 #[.string s] w fun e w' => e = .returned (.bool (nameS s)) ∧ w' = w := by
  rcases Nat.eq_zero_or_pos s.size with h0 | h0
  · have e : nameS s = false := by unfold nameS; rw [dif_neg (by omega)]
    rw [e]; exact Name_0 s w (by rw [h0]; rfl)
  have z0 : ((s.size : Int) == 0) = false := by rw [beq_eq_false_iff_ne]; omega
  rcases Int.lt_or_le 64 (s.size : Int) with h1 | h1
  · have e : nameS s = false := by unfold nameS; rw [dif_pos h0, decide_eq_false (by omega)]; rfl
    rw [e]; exact Name_64 s w z0 h1
  cases hd : dgB s[0].toNat
  · have e : nameS s = nmL s 0 := by unfold nameS; rw [dif_pos h0, decide_eq_true h1, hd]; rfl
    rw [e]; exact Name_loop s w h0 h1 hd
  · have e : nameS s = false := by unfold nameS; rw [dif_pos h0, decide_eq_true h1, hd]; rfl
    rw [e]; exact Name_dg s w h0 h1 hd
theorem nm_0 {n : Int} (h2 : n < 48) : nmB n = false := by
  unfold nmB ltB dgB
  simp only [Bool.or_eq_false_iff, Bool.and_eq_false_iff, decide_eq_false_iff_not, beq_eq_false_iff_ne]; omega
theorem nm_48 {n : Int} (h1 : 48 ≤ n) (h2 : n < 58) : nmB n = true := by
  unfold nmB ltB dgB
  simp only [Bool.or_eq_true, Bool.and_eq_true, decide_eq_true_eq, beq_iff_eq]; omega
theorem nm_58 {n : Int} (h1 : 58 ≤ n) (h2 : n < 65) : nmB n = false := by
  unfold nmB ltB dgB
  simp only [Bool.or_eq_false_iff, Bool.and_eq_false_iff, decide_eq_false_iff_not, beq_eq_false_iff_ne]; omega
theorem nm_65 {n : Int} (h1 : 65 ≤ n) (h2 : n < 91) : nmB n = true := by
  unfold nmB ltB dgB
  simp only [Bool.or_eq_true, Bool.and_eq_true, decide_eq_true_eq, beq_iff_eq]; omega
theorem nm_91 {n : Int} (h1 : 91 ≤ n) (h2 : n < 95) : nmB n = false := by
  unfold nmB ltB dgB
  simp only [Bool.or_eq_false_iff, Bool.and_eq_false_iff, decide_eq_false_iff_not, beq_eq_false_iff_ne]; omega
theorem nm_95 {n : Int} (h1 : 95 ≤ n) (h2 : n < 96) : nmB n = true := by
  unfold nmB ltB dgB
  simp only [Bool.or_eq_true, Bool.and_eq_true, decide_eq_true_eq, beq_iff_eq]; omega
theorem nm_96 {n : Int} (h1 : 96 ≤ n) (h2 : n < 97) : nmB n = false := by
  unfold nmB ltB dgB
  simp only [Bool.or_eq_false_iff, Bool.and_eq_false_iff, decide_eq_false_iff_not, beq_eq_false_iff_ne]; omega
theorem nm_97 {n : Int} (h1 : 97 ≤ n) (h2 : n < 123) : nmB n = true := by
  unfold nmB ltB dgB
  simp only [Bool.or_eq_true, Bool.and_eq_true, decide_eq_true_eq, beq_iff_eq]; omega
theorem nm_123 {n : Int} (h1 : 123 ≤ n) : nmB n = false := by
  unfold nmB ltB dgB
  simp only [Bool.or_eq_false_iff, Bool.and_eq_false_iff, decide_eq_false_iff_not, beq_eq_false_iff_ne]; omega
set_option maxHeartbeats 8000000 in
theorem rName_lo (s : ByteArray) (w : World) (h0 : 0 < s.size) (h1 : (s.size : Int) ≤ 64) (hq : (s[0].toNat : Int) < 48) : Calls Tryd.prog 13 #[.string s] w fun e w' => e = .returned (.bool (nmL s 0)) ∧ w' = w := by
  have z0 : decide ((s.size : Int) < 1) = false := decide_eq_false (by omega)
  have z1 : decide (64 < (s.size : Int)) = false := decide_eq_false (by omega)
  go_enter Tryd.func13, Tryd.ntmps13
  go_wp2
  clear z0 z1
  go_loop [3] (fun i => ∃ m : Nat, m ≤ s.size ∧ i = .int .i64 m ∧ nmL s m = nmL s 0) (fun i => s.size - (intOf i).toNat)
  case atStart => exact ⟨0, Nat.zero_le _, rfl, rfl⟩
  case round =>
    obtain ⟨m, hm, rfl, hV⟩ := hrel
    have HV : Hid (nmL s m = nmL s 0) := hV
    clear hV hq
    rcases Nat.lt_or_ge m s.size with hlt | hge
    · have HS : Hid (nmL s 0 = (nmB s[m].toNat && nmL s (m + 1))) := by show _ = _; rw [← HV.out]; exact nmL_step s m hlt
      rcases Int.lt_or_le (s[m].toNat : Int) 48 with A0 | A0
      · have HN : Hid (nmB s[m].toNat = false) := nm_0 (by omega)
        have t0 : (97 ≤ (s[m].toNat : Int)) = False := eq_false (by omega)
        have t1 : ((s[m].toNat : Int) ≤ 122) = True := eq_true (by omega)
        have t2 : (65 ≤ (s[m].toNat : Int)) = False := eq_false (by omega)
        have t3 : ((s[m].toNat : Int) ≤ 90) = True := eq_true (by omega)
        have t4 : (48 ≤ (s[m].toNat : Int)) = False := eq_false (by omega)
        have t5 : ((s[m].toNat : Int) ≤ 57) = True := eq_true (by omega)
        have t9 : ((s[m].toNat : Int) == 95) = false := by rw [beq_eq_false_iff_ne]; omega
        clear A0
        go_wp2
        all_goals go_ret
        all_goals exact ⟨ret_bool (by rw [HS.out, HN.out]; rfl), rfl⟩
      rcases Int.lt_or_le (s[m].toNat : Int) 58 with A1 | A1
      · have HN : Hid (nmB s[m].toNat = true) := nm_48 (by omega) (by omega)
        have t0 : (97 ≤ (s[m].toNat : Int)) = False := eq_false (by omega)
        have t1 : ((s[m].toNat : Int) ≤ 122) = True := eq_true (by omega)
        have t2 : (65 ≤ (s[m].toNat : Int)) = False := eq_false (by omega)
        have t3 : ((s[m].toNat : Int) ≤ 90) = True := eq_true (by omega)
        have t4 : (48 ≤ (s[m].toNat : Int)) = True := eq_true (by omega)
        have t5 : ((s[m].toNat : Int) ≤ 57) = True := eq_true (by omega)
        have t9 : ((s[m].toNat : Int) == 95) = false := by rw [beq_eq_false_iff_ne]; omega
        clear A0 A1
        go_wp2
        all_goals go_round
        all_goals first | exact ⟨m + 1, by omega, by go_num, by rw [HS.out, HN.out]; rfl⟩ | (simp [intOf]; omega)
      rcases Int.lt_or_le (s[m].toNat : Int) 65 with A2 | A2
      · have HN : Hid (nmB s[m].toNat = false) := nm_58 (by omega) (by omega)
        have t0 : (97 ≤ (s[m].toNat : Int)) = False := eq_false (by omega)
        have t1 : ((s[m].toNat : Int) ≤ 122) = True := eq_true (by omega)
        have t2 : (65 ≤ (s[m].toNat : Int)) = False := eq_false (by omega)
        have t3 : ((s[m].toNat : Int) ≤ 90) = True := eq_true (by omega)
        have t4 : (48 ≤ (s[m].toNat : Int)) = True := eq_true (by omega)
        have t5 : ((s[m].toNat : Int) ≤ 57) = False := eq_false (by omega)
        have t9 : ((s[m].toNat : Int) == 95) = false := by rw [beq_eq_false_iff_ne]; omega
        clear A0 A1 A2
        go_wp2
        all_goals go_ret
        all_goals exact ⟨ret_bool (by rw [HS.out, HN.out]; rfl), rfl⟩
      rcases Int.lt_or_le (s[m].toNat : Int) 91 with A3 | A3
      · have HN : Hid (nmB s[m].toNat = true) := nm_65 (by omega) (by omega)
        have t0 : (97 ≤ (s[m].toNat : Int)) = False := eq_false (by omega)
        have t1 : ((s[m].toNat : Int) ≤ 122) = True := eq_true (by omega)
        have t2 : (65 ≤ (s[m].toNat : Int)) = True := eq_true (by omega)
        have t3 : ((s[m].toNat : Int) ≤ 90) = True := eq_true (by omega)
        have t4 : (48 ≤ (s[m].toNat : Int)) = True := eq_true (by omega)
        have t5 : ((s[m].toNat : Int) ≤ 57) = False := eq_false (by omega)
        have t9 : ((s[m].toNat : Int) == 95) = false := by rw [beq_eq_false_iff_ne]; omega
        clear A0 A1 A2 A3
        go_wp2
        all_goals go_round
        all_goals first | exact ⟨m + 1, by omega, by go_num, by rw [HS.out, HN.out]; rfl⟩ | (simp [intOf]; omega)
      rcases Int.lt_or_le (s[m].toNat : Int) 95 with A4 | A4
      · have HN : Hid (nmB s[m].toNat = false) := nm_91 (by omega) (by omega)
        have t0 : (97 ≤ (s[m].toNat : Int)) = False := eq_false (by omega)
        have t1 : ((s[m].toNat : Int) ≤ 122) = True := eq_true (by omega)
        have t2 : (65 ≤ (s[m].toNat : Int)) = True := eq_true (by omega)
        have t3 : ((s[m].toNat : Int) ≤ 90) = False := eq_false (by omega)
        have t4 : (48 ≤ (s[m].toNat : Int)) = True := eq_true (by omega)
        have t5 : ((s[m].toNat : Int) ≤ 57) = False := eq_false (by omega)
        have t9 : ((s[m].toNat : Int) == 95) = false := by rw [beq_eq_false_iff_ne]; omega
        clear A0 A1 A2 A3 A4
        go_wp2
        all_goals go_ret
        all_goals exact ⟨ret_bool (by rw [HS.out, HN.out]; rfl), rfl⟩
      rcases Int.lt_or_le (s[m].toNat : Int) 96 with A5 | A5
      · have HN : Hid (nmB s[m].toNat = true) := nm_95 (by omega) (by omega)
        have t0 : (97 ≤ (s[m].toNat : Int)) = False := eq_false (by omega)
        have t1 : ((s[m].toNat : Int) ≤ 122) = True := eq_true (by omega)
        have t2 : (65 ≤ (s[m].toNat : Int)) = True := eq_true (by omega)
        have t3 : ((s[m].toNat : Int) ≤ 90) = False := eq_false (by omega)
        have t4 : (48 ≤ (s[m].toNat : Int)) = True := eq_true (by omega)
        have t5 : ((s[m].toNat : Int) ≤ 57) = False := eq_false (by omega)
        have t9 : ((s[m].toNat : Int) == 95) = true := by rw [beq_iff_eq]; omega
        clear A0 A1 A2 A3 A4 A5
        go_wp2
        all_goals go_round
        all_goals first | exact ⟨m + 1, by omega, by go_num, by rw [HS.out, HN.out]; rfl⟩ | (simp [intOf]; omega)
      rcases Int.lt_or_le (s[m].toNat : Int) 97 with A6 | A6
      · have HN : Hid (nmB s[m].toNat = false) := nm_96 (by omega) (by omega)
        have t0 : (97 ≤ (s[m].toNat : Int)) = False := eq_false (by omega)
        have t1 : ((s[m].toNat : Int) ≤ 122) = True := eq_true (by omega)
        have t2 : (65 ≤ (s[m].toNat : Int)) = True := eq_true (by omega)
        have t3 : ((s[m].toNat : Int) ≤ 90) = False := eq_false (by omega)
        have t4 : (48 ≤ (s[m].toNat : Int)) = True := eq_true (by omega)
        have t5 : ((s[m].toNat : Int) ≤ 57) = False := eq_false (by omega)
        have t9 : ((s[m].toNat : Int) == 95) = false := by rw [beq_eq_false_iff_ne]; omega
        clear A0 A1 A2 A3 A4 A5 A6
        go_wp2
        all_goals go_ret
        all_goals exact ⟨ret_bool (by rw [HS.out, HN.out]; rfl), rfl⟩
      rcases Int.lt_or_le (s[m].toNat : Int) 123 with A7 | A7
      · have HN : Hid (nmB s[m].toNat = true) := nm_97 (by omega) (by omega)
        have t0 : (97 ≤ (s[m].toNat : Int)) = True := eq_true (by omega)
        have t1 : ((s[m].toNat : Int) ≤ 122) = True := eq_true (by omega)
        have t2 : (65 ≤ (s[m].toNat : Int)) = True := eq_true (by omega)
        have t3 : ((s[m].toNat : Int) ≤ 90) = False := eq_false (by omega)
        have t4 : (48 ≤ (s[m].toNat : Int)) = True := eq_true (by omega)
        have t5 : ((s[m].toNat : Int) ≤ 57) = False := eq_false (by omega)
        have t9 : ((s[m].toNat : Int) == 95) = false := by rw [beq_eq_false_iff_ne]; omega
        clear A0 A1 A2 A3 A4 A5 A6 A7
        go_wp2
        all_goals go_round
        all_goals first | exact ⟨m + 1, by omega, by go_num, by rw [HS.out, HN.out]; rfl⟩ | (simp [intOf]; omega)
      have HN : Hid (nmB s[m].toNat = false) := nm_123 (by omega)
      have t0 : (97 ≤ (s[m].toNat : Int)) = True := eq_true (by omega)
      have t1 : ((s[m].toNat : Int) ≤ 122) = False := eq_false (by omega)
      have t2 : (65 ≤ (s[m].toNat : Int)) = True := eq_true (by omega)
      have t3 : ((s[m].toNat : Int) ≤ 90) = False := eq_false (by omega)
      have t4 : (48 ≤ (s[m].toNat : Int)) = True := eq_true (by omega)
      have t5 : ((s[m].toNat : Int) ≤ 57) = False := eq_false (by omega)
      have t9 : ((s[m].toNat : Int) == 95) = false := by rw [beq_eq_false_iff_ne]; omega
      clear A0 A1 A2 A3 A4 A5 A6 A7
      go_wp2
      all_goals go_ret
      all_goals exact ⟨ret_bool (by rw [HS.out, HN.out]; rfl), rfl⟩
    · have HE : Hid (true = nmL s 0) := by show _ = _; rw [← HV.out, nmL_end s m hge]
      go_wp2
      go_ret
      exact ⟨ret_bool HE.out, rfl⟩
set_option maxHeartbeats 8000000 in
theorem rName_hi (s : ByteArray) (w : World) (h0 : 0 < s.size) (h1 : (s.size : Int) ≤ 64) (hq : 57 < (s[0].toNat : Int)) : Calls Tryd.prog 13 #[.string s] w fun e w' => e = .returned (.bool (nmL s 0)) ∧ w' = w := by
  have z0 : decide ((s.size : Int) < 1) = false := decide_eq_false (by omega)
  have z1 : decide (64 < (s.size : Int)) = false := decide_eq_false (by omega)
  go_enter Tryd.func13, Tryd.ntmps13
  go_wp2
  clear z0 z1
  go_loop [3] (fun i => ∃ m : Nat, m ≤ s.size ∧ i = .int .i64 m ∧ nmL s m = nmL s 0) (fun i => s.size - (intOf i).toNat)
  case atStart => exact ⟨0, Nat.zero_le _, rfl, rfl⟩
  case round =>
    obtain ⟨m, hm, rfl, hV⟩ := hrel
    have HV : Hid (nmL s m = nmL s 0) := hV
    clear hV hq
    rcases Nat.lt_or_ge m s.size with hlt | hge
    · have HS : Hid (nmL s 0 = (nmB s[m].toNat && nmL s (m + 1))) := by show _ = _; rw [← HV.out]; exact nmL_step s m hlt
      rcases Int.lt_or_le (s[m].toNat : Int) 48 with A0 | A0
      · have HN : Hid (nmB s[m].toNat = false) := nm_0 (by omega)
        have t0 : (97 ≤ (s[m].toNat : Int)) = False := eq_false (by omega)
        have t1 : ((s[m].toNat : Int) ≤ 122) = True := eq_true (by omega)
        have t2 : (65 ≤ (s[m].toNat : Int)) = False := eq_false (by omega)
        have t3 : ((s[m].toNat : Int) ≤ 90) = True := eq_true (by omega)
        have t4 : (48 ≤ (s[m].toNat : Int)) = False := eq_false (by omega)
        have t5 : ((s[m].toNat : Int) ≤ 57) = True := eq_true (by omega)
        have t9 : ((s[m].toNat : Int) == 95) = false := by rw [beq_eq_false_iff_ne]; omega
        clear A0
        go_wp2
        all_goals go_ret
        all_goals exact ⟨ret_bool (by rw [HS.out, HN.out]; rfl), rfl⟩
      rcases Int.lt_or_le (s[m].toNat : Int) 58 with A1 | A1
      · have HN : Hid (nmB s[m].toNat = true) := nm_48 (by omega) (by omega)
        have t0 : (97 ≤ (s[m].toNat : Int)) = False := eq_false (by omega)
        have t1 : ((s[m].toNat : Int) ≤ 122) = True := eq_true (by omega)
        have t2 : (65 ≤ (s[m].toNat : Int)) = False := eq_false (by omega)
        have t3 : ((s[m].toNat : Int) ≤ 90) = True := eq_true (by omega)
        have t4 : (48 ≤ (s[m].toNat : Int)) = True := eq_true (by omega)
        have t5 : ((s[m].toNat : Int) ≤ 57) = True := eq_true (by omega)
        have t9 : ((s[m].toNat : Int) == 95) = false := by rw [beq_eq_false_iff_ne]; omega
        clear A0 A1
        go_wp2
        all_goals go_round
        all_goals first | exact ⟨m + 1, by omega, by go_num, by rw [HS.out, HN.out]; rfl⟩ | (simp [intOf]; omega)
      rcases Int.lt_or_le (s[m].toNat : Int) 65 with A2 | A2
      · have HN : Hid (nmB s[m].toNat = false) := nm_58 (by omega) (by omega)
        have t0 : (97 ≤ (s[m].toNat : Int)) = False := eq_false (by omega)
        have t1 : ((s[m].toNat : Int) ≤ 122) = True := eq_true (by omega)
        have t2 : (65 ≤ (s[m].toNat : Int)) = False := eq_false (by omega)
        have t3 : ((s[m].toNat : Int) ≤ 90) = True := eq_true (by omega)
        have t4 : (48 ≤ (s[m].toNat : Int)) = True := eq_true (by omega)
        have t5 : ((s[m].toNat : Int) ≤ 57) = False := eq_false (by omega)
        have t9 : ((s[m].toNat : Int) == 95) = false := by rw [beq_eq_false_iff_ne]; omega
        clear A0 A1 A2
        go_wp2
        all_goals go_ret
        all_goals exact ⟨ret_bool (by rw [HS.out, HN.out]; rfl), rfl⟩
      rcases Int.lt_or_le (s[m].toNat : Int) 91 with A3 | A3
      · have HN : Hid (nmB s[m].toNat = true) := nm_65 (by omega) (by omega)
        have t0 : (97 ≤ (s[m].toNat : Int)) = False := eq_false (by omega)
        have t1 : ((s[m].toNat : Int) ≤ 122) = True := eq_true (by omega)
        have t2 : (65 ≤ (s[m].toNat : Int)) = True := eq_true (by omega)
        have t3 : ((s[m].toNat : Int) ≤ 90) = True := eq_true (by omega)
        have t4 : (48 ≤ (s[m].toNat : Int)) = True := eq_true (by omega)
        have t5 : ((s[m].toNat : Int) ≤ 57) = False := eq_false (by omega)
        have t9 : ((s[m].toNat : Int) == 95) = false := by rw [beq_eq_false_iff_ne]; omega
        clear A0 A1 A2 A3
        go_wp2
        all_goals go_round
        all_goals first | exact ⟨m + 1, by omega, by go_num, by rw [HS.out, HN.out]; rfl⟩ | (simp [intOf]; omega)
      rcases Int.lt_or_le (s[m].toNat : Int) 95 with A4 | A4
      · have HN : Hid (nmB s[m].toNat = false) := nm_91 (by omega) (by omega)
        have t0 : (97 ≤ (s[m].toNat : Int)) = False := eq_false (by omega)
        have t1 : ((s[m].toNat : Int) ≤ 122) = True := eq_true (by omega)
        have t2 : (65 ≤ (s[m].toNat : Int)) = True := eq_true (by omega)
        have t3 : ((s[m].toNat : Int) ≤ 90) = False := eq_false (by omega)
        have t4 : (48 ≤ (s[m].toNat : Int)) = True := eq_true (by omega)
        have t5 : ((s[m].toNat : Int) ≤ 57) = False := eq_false (by omega)
        have t9 : ((s[m].toNat : Int) == 95) = false := by rw [beq_eq_false_iff_ne]; omega
        clear A0 A1 A2 A3 A4
        go_wp2
        all_goals go_ret
        all_goals exact ⟨ret_bool (by rw [HS.out, HN.out]; rfl), rfl⟩
      rcases Int.lt_or_le (s[m].toNat : Int) 96 with A5 | A5
      · have HN : Hid (nmB s[m].toNat = true) := nm_95 (by omega) (by omega)
        have t0 : (97 ≤ (s[m].toNat : Int)) = False := eq_false (by omega)
        have t1 : ((s[m].toNat : Int) ≤ 122) = True := eq_true (by omega)
        have t2 : (65 ≤ (s[m].toNat : Int)) = True := eq_true (by omega)
        have t3 : ((s[m].toNat : Int) ≤ 90) = False := eq_false (by omega)
        have t4 : (48 ≤ (s[m].toNat : Int)) = True := eq_true (by omega)
        have t5 : ((s[m].toNat : Int) ≤ 57) = False := eq_false (by omega)
        have t9 : ((s[m].toNat : Int) == 95) = true := by rw [beq_iff_eq]; omega
        clear A0 A1 A2 A3 A4 A5
        go_wp2
        all_goals go_round
        all_goals first | exact ⟨m + 1, by omega, by go_num, by rw [HS.out, HN.out]; rfl⟩ | (simp [intOf]; omega)
      rcases Int.lt_or_le (s[m].toNat : Int) 97 with A6 | A6
      · have HN : Hid (nmB s[m].toNat = false) := nm_96 (by omega) (by omega)
        have t0 : (97 ≤ (s[m].toNat : Int)) = False := eq_false (by omega)
        have t1 : ((s[m].toNat : Int) ≤ 122) = True := eq_true (by omega)
        have t2 : (65 ≤ (s[m].toNat : Int)) = True := eq_true (by omega)
        have t3 : ((s[m].toNat : Int) ≤ 90) = False := eq_false (by omega)
        have t4 : (48 ≤ (s[m].toNat : Int)) = True := eq_true (by omega)
        have t5 : ((s[m].toNat : Int) ≤ 57) = False := eq_false (by omega)
        have t9 : ((s[m].toNat : Int) == 95) = false := by rw [beq_eq_false_iff_ne]; omega
        clear A0 A1 A2 A3 A4 A5 A6
        go_wp2
        all_goals go_ret
        all_goals exact ⟨ret_bool (by rw [HS.out, HN.out]; rfl), rfl⟩
      rcases Int.lt_or_le (s[m].toNat : Int) 123 with A7 | A7
      · have HN : Hid (nmB s[m].toNat = true) := nm_97 (by omega) (by omega)
        have t0 : (97 ≤ (s[m].toNat : Int)) = True := eq_true (by omega)
        have t1 : ((s[m].toNat : Int) ≤ 122) = True := eq_true (by omega)
        have t2 : (65 ≤ (s[m].toNat : Int)) = True := eq_true (by omega)
        have t3 : ((s[m].toNat : Int) ≤ 90) = False := eq_false (by omega)
        have t4 : (48 ≤ (s[m].toNat : Int)) = True := eq_true (by omega)
        have t5 : ((s[m].toNat : Int) ≤ 57) = False := eq_false (by omega)
        have t9 : ((s[m].toNat : Int) == 95) = false := by rw [beq_eq_false_iff_ne]; omega
        clear A0 A1 A2 A3 A4 A5 A6 A7
        go_wp2
        all_goals go_round
        all_goals first | exact ⟨m + 1, by omega, by go_num, by rw [HS.out, HN.out]; rfl⟩ | (simp [intOf]; omega)
      have HN : Hid (nmB s[m].toNat = false) := nm_123 (by omega)
      have t0 : (97 ≤ (s[m].toNat : Int)) = True := eq_true (by omega)
      have t1 : ((s[m].toNat : Int) ≤ 122) = False := eq_false (by omega)
      have t2 : (65 ≤ (s[m].toNat : Int)) = True := eq_true (by omega)
      have t3 : ((s[m].toNat : Int) ≤ 90) = False := eq_false (by omega)
      have t4 : (48 ≤ (s[m].toNat : Int)) = True := eq_true (by omega)
      have t5 : ((s[m].toNat : Int) ≤ 57) = False := eq_false (by omega)
      have t9 : ((s[m].toNat : Int) == 95) = false := by rw [beq_eq_false_iff_ne]; omega
      clear A0 A1 A2 A3 A4 A5 A6 A7
      go_wp2
      all_goals go_ret
      all_goals exact ⟨ret_bool (by rw [HS.out, HN.out]; rfl), rfl⟩
    · have HE : Hid (true = nmL s 0) := by show _ = _; rw [← HV.out, nmL_end s m hge]
      go_wp2
      go_ret
      exact ⟨ret_bool HE.out, rfl⟩
set_option maxHeartbeats 1000000 in
theorem rName_0 (s : ByteArray) (w : World) (z0 : (s.size : Int) < 1) : Calls Tryd.prog 13 #[.string s] w fun e w' => e = .returned (.bool false) ∧ w' = w := by
  go_enter Tryd.func13, Tryd.ntmps13
  go_wp2
  all_goals go_ret
  all_goals exact ⟨rfl, rfl⟩
set_option maxHeartbeats 1000000 in
theorem rName_64 (s : ByteArray) (w : World) (z1 : 64 < (s.size : Int)) : Calls Tryd.prog 13 #[.string s] w fun e w' => e = .returned (.bool false) ∧ w' = w := by
  have z0 : decide ((s.size : Int) < 1) = false := decide_eq_false (by omega)
  go_enter Tryd.func13, Tryd.ntmps13
  go_wp2
  all_goals go_ret
  all_goals exact ⟨rfl, rfl⟩
set_option maxHeartbeats 1000000 in
theorem rName_dg (s : ByteArray) (w : World) (h0 : 0 < s.size) (h1 : (s.size : Int) ≤ 64) (hd : 48 ≤ (s[0].toNat : Int)) (hd2 : (s[0].toNat : Int) ≤ 57) : Calls Tryd.prog 13 #[.string s] w fun e w' => e = .returned (.bool false) ∧ w' = w := by
  have z0 : decide ((s.size : Int) < 1) = false := decide_eq_false (by omega)
  have z1 : decide (64 < (s.size : Int)) = false := decide_eq_false (by omega)
  go_enter Tryd.func13, Tryd.ntmps13
  go_wp2
  all_goals go_ret
  all_goals exact ⟨rfl, rfl⟩
theorem rName_any (s : ByteArray) (w : World) : Calls Tryd.prog 13 #[.string s] w fun e w' => e = .returned (.bool (nameS s)) ∧ w' = w := by
  rcases Nat.eq_zero_or_pos s.size with h0 | h0
  · have e : nameS s = false := by unfold nameS; rw [dif_neg (by omega)]
    rw [e]; exact rName_0 s w (by omega)
  rcases Int.lt_or_le 64 (s.size : Int) with h1 | h1
  · have e : nameS s = false := by unfold nameS; rw [dif_pos h0, decide_eq_false (by omega)]; rfl
    rw [e]; exact rName_64 s w h1
  cases hd : dgB s[0].toNat
  · have e : nameS s = nmL s 0 := by unfold nameS; rw [dif_pos h0, decide_eq_true h1, hd]; rfl
    rw [e]
    rcases Int.lt_or_le (s[0].toNat : Int) 48 with a | a
    · exact rName_lo s w h0 h1 a
    · rcases Int.lt_or_le 57 (s[0].toNat : Int) with b | b
      · exact rName_hi s w h0 h1 b
      · unfold dgB at hd; rw [decide_eq_true a, decide_eq_true b] at hd; cases hd
  · have e : nameS s = false := by unfold nameS; rw [dif_pos h0, decide_eq_true h1, hd]; rfl
    unfold dgB at hd
    rw [Bool.and_eq_true, decide_eq_true_eq, decide_eq_true_eq] at hd
    rw [e]; exact rName_dg s w h0 h1 hd.1 hd.2

def kdB (k : Int) : Bool := decide (1 ≤ k) && decide (k ≤ 4)
set_option maxHeartbeats 1000000 in
theorem isColumnKind_any (k : Int) (w : World) : Calls Tryd.prog 25 #[.int .i64 k] w fun e w' => e = .returned (.bool (kdB k)) ∧ w' = w := by
  by_cases k1 : k = 1
  · subst k1
    go_enter Tryd.func25, Tryd.ntmps25
    go_wp2
    all_goals go_ret
    all_goals exact ⟨rfl, rfl⟩
  by_cases k2 : k = 2
  · subst k2
    go_enter Tryd.func25, Tryd.ntmps25
    go_wp2
    all_goals go_ret
    all_goals exact ⟨rfl, rfl⟩
  by_cases k3 : k = 3
  · subst k3
    go_enter Tryd.func25, Tryd.ntmps25
    go_wp2
    all_goals go_ret
    all_goals exact ⟨rfl, rfl⟩
  by_cases k4 : k = 4
  · subst k4
    go_enter Tryd.func25, Tryd.ntmps25
    go_wp2
    all_goals go_ret
    all_goals exact ⟨rfl, rfl⟩
  have e : kdB k = false := by unfold kdB; rw [Bool.and_eq_false_iff, decide_eq_false_iff_not, decide_eq_false_iff_not]; omega
  rw [e]
  have h1 : (k == 1) = false := by simpa using k1
  have h2 : (k == 2) = false := by simpa using k2
  have h3 : (k == 3) = false := by simpa using k3
  have h4 : (k == 4) = false := by simpa using k4
  clear k1 k2 k3 k4 e
  go_enter Tryd.func25, Tryd.ntmps25
  go_wp2
  all_goals go_ret
  all_goals exact ⟨rfl, rfl⟩
end Go.Proofs.YtjncoihppmbijaaDoor
