/- Which texts are names, by the document. -/
import Derived.Test.YtcemogaacicnfaaGreatDoorNme
namespace Go.Proofs.YtcemogaacicnfaaGreatDoor
set_option maxHeartbeats 8000000
open Go.ChangeShapes Go.WideShapes Go.ChangeAt Go.RowKit

theorem s_nm_0 {n : Int} (h2 : n < 48) : s_nmB n = false := by
  unfold s_nmB s_ltB s_dgB
  simp only [Bool.or_eq_false_iff, Bool.and_eq_false_iff, decide_eq_false_iff_not, beq_eq_false_iff_ne]; omega
theorem s_nm_48 {n : Int} (h1 : 48 ≤ n) (h2 : n < 58) : s_nmB n = true := by
  unfold s_nmB s_ltB s_dgB
  simp only [Bool.or_eq_true, Bool.and_eq_true, decide_eq_true_eq, beq_iff_eq]; omega
theorem s_nm_58 {n : Int} (h1 : 58 ≤ n) (h2 : n < 65) : s_nmB n = false := by
  unfold s_nmB s_ltB s_dgB
  simp only [Bool.or_eq_false_iff, Bool.and_eq_false_iff, decide_eq_false_iff_not, beq_eq_false_iff_ne]; omega
theorem s_nm_65 {n : Int} (h1 : 65 ≤ n) (h2 : n < 91) : s_nmB n = true := by
  unfold s_nmB s_ltB s_dgB
  simp only [Bool.or_eq_true, Bool.and_eq_true, decide_eq_true_eq, beq_iff_eq]; omega
theorem s_nm_91 {n : Int} (h1 : 91 ≤ n) (h2 : n < 95) : s_nmB n = false := by
  unfold s_nmB s_ltB s_dgB
  simp only [Bool.or_eq_false_iff, Bool.and_eq_false_iff, decide_eq_false_iff_not, beq_eq_false_iff_ne]; omega
theorem s_nm_95 {n : Int} (h1 : 95 ≤ n) (h2 : n < 96) : s_nmB n = true := by
  unfold s_nmB s_ltB s_dgB
  simp only [Bool.or_eq_true, Bool.and_eq_true, decide_eq_true_eq, beq_iff_eq]; omega
theorem s_nm_96 {n : Int} (h1 : 96 ≤ n) (h2 : n < 97) : s_nmB n = false := by
  unfold s_nmB s_ltB s_dgB
  simp only [Bool.or_eq_false_iff, Bool.and_eq_false_iff, decide_eq_false_iff_not, beq_eq_false_iff_ne]; omega
theorem s_nm_97 {n : Int} (h1 : 97 ≤ n) (h2 : n < 123) : s_nmB n = true := by
  unfold s_nmB s_ltB s_dgB
  simp only [Bool.or_eq_true, Bool.and_eq_true, decide_eq_true_eq, beq_iff_eq]; omega
theorem s_nm_123 {n : Int} (h1 : 123 ≤ n) : s_nmB n = false := by
  unfold s_nmB s_ltB s_dgB
  simp only [Bool.or_eq_false_iff, Bool.and_eq_false_iff, decide_eq_false_iff_not, beq_eq_false_iff_ne]; omega
theorem rName_lo (s : ByteArray) (w : World) (h0 : 0 < s.size) (h1 : (s.size : Int) ≤ 64) (hq : (s[0].toNat : Int) < 48) : Calls Tryz.prog 109 #[.string s] w fun e w' => e = .returned (.bool (s_nmL s 0)) ∧ w' = w := by
  have z0 : decide ((s.size : Int) < 1) = false := decide_eq_false (by omega)
  have z1 : decide (64 < (s.size : Int)) = false := decide_eq_false (by omega)
  go_enter Tryz.func109, Tryz.ntmps109
  go_wp2
  clear z0 z1
  go_loop [3] (fun i => ∃ m : Nat, m ≤ s.size ∧ i = .int .i64 m ∧ s_nmL s m = s_nmL s 0) (fun i => s.size - (intOf i).toNat)
  case atStart => exact ⟨0, Nat.zero_le _, rfl, rfl⟩
  case round =>
    obtain ⟨m, hm, rfl, hV⟩ := hrel
    have HV : Hid (s_nmL s m = s_nmL s 0) := hV
    clear hV hq
    rcases Nat.lt_or_ge m s.size with hlt | hge
    · have HS : Hid (s_nmL s 0 = (s_nmB s[m].toNat && s_nmL s (m + 1))) := by show _ = _; rw [← HV.out]; exact s_nmL_step s m hlt
      rcases Int.lt_or_le (s[m].toNat : Int) 48 with A0 | A0
      · have HN : Hid (s_nmB s[m].toNat = false) := s_nm_0 (by omega)
        have t0 : (97 ≤ (s[m].toNat : Int)) = False := eq_false (by omega)
        have t1 : ((s[m].toNat : Int) ≤ 122) = True := eq_true (by omega)
        have t2 : (65 ≤ (s[m].toNat : Int)) = False := eq_false (by omega)
        have t3 : ((s[m].toNat : Int) ≤ 90) = True := eq_true (by omega)
        have t4 : (48 ≤ (s[m].toNat : Int)) = False := eq_false (by omega)
        have t5 : ((s[m].toNat : Int) ≤ 57) = True := eq_true (by omega)
        have t9 : ((s[m].toNat : Int) == 95) = false := by rw [beq_eq_false_iff_ne]; omega
        clear A0
        go_wp2
        all_goals go_ret
        all_goals exact ⟨ret_bool (by rw [HS.out, HN.out]; rfl), rfl⟩
      rcases Int.lt_or_le (s[m].toNat : Int) 58 with A1 | A1
      · have HN : Hid (s_nmB s[m].toNat = true) := s_nm_48 (by omega) (by omega)
        have t0 : (97 ≤ (s[m].toNat : Int)) = False := eq_false (by omega)
        have t1 : ((s[m].toNat : Int) ≤ 122) = True := eq_true (by omega)
        have t2 : (65 ≤ (s[m].toNat : Int)) = False := eq_false (by omega)
        have t3 : ((s[m].toNat : Int) ≤ 90) = True := eq_true (by omega)
        have t4 : (48 ≤ (s[m].toNat : Int)) = True := eq_true (by omega)
        have t5 : ((s[m].toNat : Int) ≤ 57) = True := eq_true (by omega)
        have t9 : ((s[m].toNat : Int) == 95) = false := by rw [beq_eq_false_iff_ne]; omega
        clear A0 A1
        go_wp2
        all_goals go_round
        all_goals first | exact ⟨m + 1, by omega, by go_num, by rw [HS.out, HN.out]; rfl⟩ | (simp [intOf]; omega)
      rcases Int.lt_or_le (s[m].toNat : Int) 65 with A2 | A2
      · have HN : Hid (s_nmB s[m].toNat = false) := s_nm_58 (by omega) (by omega)
        have t0 : (97 ≤ (s[m].toNat : Int)) = False := eq_false (by omega)
        have t1 : ((s[m].toNat : Int) ≤ 122) = True := eq_true (by omega)
        have t2 : (65 ≤ (s[m].toNat : Int)) = False := eq_false (by omega)
        have t3 : ((s[m].toNat : Int) ≤ 90) = True := eq_true (by omega)
        have t4 : (48 ≤ (s[m].toNat : Int)) = True := eq_true (by omega)
        have t5 : ((s[m].toNat : Int) ≤ 57) = False := eq_false (by omega)
        have t9 : ((s[m].toNat : Int) == 95) = false := by rw [beq_eq_false_iff_ne]; omega
        clear A0 A1 A2
        go_wp2
        all_goals go_ret
        all_goals exact ⟨ret_bool (by rw [HS.out, HN.out]; rfl), rfl⟩
      rcases Int.lt_or_le (s[m].toNat : Int) 91 with A3 | A3
      · have HN : Hid (s_nmB s[m].toNat = true) := s_nm_65 (by omega) (by omega)
        have t0 : (97 ≤ (s[m].toNat : Int)) = False := eq_false (by omega)
        have t1 : ((s[m].toNat : Int) ≤ 122) = True := eq_true (by omega)
        have t2 : (65 ≤ (s[m].toNat : Int)) = True := eq_true (by omega)
        have t3 : ((s[m].toNat : Int) ≤ 90) = True := eq_true (by omega)
        have t4 : (48 ≤ (s[m].toNat : Int)) = True := eq_true (by omega)
        have t5 : ((s[m].toNat : Int) ≤ 57) = False := eq_false (by omega)
        have t9 : ((s[m].toNat : Int) == 95) = false := by rw [beq_eq_false_iff_ne]; omega
        clear A0 A1 A2 A3
        go_wp2
        all_goals go_round
        all_goals first | exact ⟨m + 1, by omega, by go_num, by rw [HS.out, HN.out]; rfl⟩ | (simp [intOf]; omega)
      rcases Int.lt_or_le (s[m].toNat : Int) 95 with A4 | A4
      · have HN : Hid (s_nmB s[m].toNat = false) := s_nm_91 (by omega) (by omega)
        have t0 : (97 ≤ (s[m].toNat : Int)) = False := eq_false (by omega)
        have t1 : ((s[m].toNat : Int) ≤ 122) = True := eq_true (by omega)
        have t2 : (65 ≤ (s[m].toNat : Int)) = True := eq_true (by omega)
        have t3 : ((s[m].toNat : Int) ≤ 90) = False := eq_false (by omega)
        have t4 : (48 ≤ (s[m].toNat : Int)) = True := eq_true (by omega)
        have t5 : ((s[m].toNat : Int) ≤ 57) = False := eq_false (by omega)
        have t9 : ((s[m].toNat : Int) == 95) = false := by rw [beq_eq_false_iff_ne]; omega
        clear A0 A1 A2 A3 A4
        go_wp2
        all_goals go_ret
        all_goals exact ⟨ret_bool (by rw [HS.out, HN.out]; rfl), rfl⟩
      rcases Int.lt_or_le (s[m].toNat : Int) 96 with A5 | A5
      · have HN : Hid (s_nmB s[m].toNat = true) := s_nm_95 (by omega) (by omega)
        have t0 : (97 ≤ (s[m].toNat : Int)) = False := eq_false (by omega)
        have t1 : ((s[m].toNat : Int) ≤ 122) = True := eq_true (by omega)
        have t2 : (65 ≤ (s[m].toNat : Int)) = True := eq_true (by omega)
        have t3 : ((s[m].toNat : Int) ≤ 90) = False := eq_false (by omega)
        have t4 : (48 ≤ (s[m].toNat : Int)) = True := eq_true (by omega)
        have t5 : ((s[m].toNat : Int) ≤ 57) = False := eq_false (by omega)
        have t9 : ((s[m].toNat : Int) == 95) = true := by rw [beq_iff_eq]; omega
        clear A0 A1 A2 A3 A4 A5
        go_wp2
        all_goals go_round
        all_goals first | exact ⟨m + 1, by omega, by go_num, by rw [HS.out, HN.out]; rfl⟩ | (simp [intOf]; omega)
      rcases Int.lt_or_le (s[m].toNat : Int) 97 with A6 | A6
      · have HN : Hid (s_nmB s[m].toNat = false) := s_nm_96 (by omega) (by omega)
        have t0 : (97 ≤ (s[m].toNat : Int)) = False := eq_false (by omega)
        have t1 : ((s[m].toNat : Int) ≤ 122) = True := eq_true (by omega)
        have t2 : (65 ≤ (s[m].toNat : Int)) = True := eq_true (by omega)
        have t3 : ((s[m].toNat : Int) ≤ 90) = False := eq_false (by omega)
        have t4 : (48 ≤ (s[m].toNat : Int)) = True := eq_true (by omega)
        have t5 : ((s[m].toNat : Int) ≤ 57) = False := eq_false (by omega)
        have t9 : ((s[m].toNat : Int) == 95) = false := by rw [beq_eq_false_iff_ne]; omega
        clear A0 A1 A2 A3 A4 A5 A6
        go_wp2
        all_goals go_ret
        all_goals exact ⟨ret_bool (by rw [HS.out, HN.out]; rfl), rfl⟩
      rcases Int.lt_or_le (s[m].toNat : Int) 123 with A7 | A7
      · have HN : Hid (s_nmB s[m].toNat = true) := s_nm_97 (by omega) (by omega)
        have t0 : (97 ≤ (s[m].toNat : Int)) = True := eq_true (by omega)
        have t1 : ((s[m].toNat : Int) ≤ 122) = True := eq_true (by omega)
        have t2 : (65 ≤ (s[m].toNat : Int)) = True := eq_true (by omega)
        have t3 : ((s[m].toNat : Int) ≤ 90) = False := eq_false (by omega)
        have t4 : (48 ≤ (s[m].toNat : Int)) = True := eq_true (by omega)
        have t5 : ((s[m].toNat : Int) ≤ 57) = False := eq_false (by omega)
        have t9 : ((s[m].toNat : Int) == 95) = false := by rw [beq_eq_false_iff_ne]; omega
        clear A0 A1 A2 A3 A4 A5 A6 A7
        go_wp2
        all_goals go_round
        all_goals first | exact ⟨m + 1, by omega, by go_num, by rw [HS.out, HN.out]; rfl⟩ | (simp [intOf]; omega)
      have HN : Hid (s_nmB s[m].toNat = false) := s_nm_123 (by omega)
      have t0 : (97 ≤ (s[m].toNat : Int)) = True := eq_true (by omega)
      have t1 : ((s[m].toNat : Int) ≤ 122) = False := eq_false (by omega)
      have t2 : (65 ≤ (s[m].toNat : Int)) = True := eq_true (by omega)
      have t3 : ((s[m].toNat : Int) ≤ 90) = False := eq_false (by omega)
      have t4 : (48 ≤ (s[m].toNat : Int)) = True := eq_true (by omega)
      have t5 : ((s[m].toNat : Int) ≤ 57) = False := eq_false (by omega)
      have t9 : ((s[m].toNat : Int) == 95) = false := by rw [beq_eq_false_iff_ne]; omega
      clear A0 A1 A2 A3 A4 A5 A6 A7
      go_wp2
      all_goals go_ret
      all_goals exact ⟨ret_bool (by rw [HS.out, HN.out]; rfl), rfl⟩
    · have HE : Hid (true = s_nmL s 0) := by show _ = _; rw [← HV.out, s_nmL_end s m hge]
      go_wp2
      go_ret
      exact ⟨ret_bool HE.out, rfl⟩
theorem rName_hi (s : ByteArray) (w : World) (h0 : 0 < s.size) (h1 : (s.size : Int) ≤ 64) (hq : 57 < (s[0].toNat : Int)) : Calls Tryz.prog 109 #[.string s] w fun e w' => e = .returned (.bool (s_nmL s 0)) ∧ w' = w := by
  have z0 : decide ((s.size : Int) < 1) = false := decide_eq_false (by omega)
  have z1 : decide (64 < (s.size : Int)) = false := decide_eq_false (by omega)
  go_enter Tryz.func109, Tryz.ntmps109
  go_wp2
  clear z0 z1
  go_loop [3] (fun i => ∃ m : Nat, m ≤ s.size ∧ i = .int .i64 m ∧ s_nmL s m = s_nmL s 0) (fun i => s.size - (intOf i).toNat)
  case atStart => exact ⟨0, Nat.zero_le _, rfl, rfl⟩
  case round =>
    obtain ⟨m, hm, rfl, hV⟩ := hrel
    have HV : Hid (s_nmL s m = s_nmL s 0) := hV
    clear hV hq
    rcases Nat.lt_or_ge m s.size with hlt | hge
    · have HS : Hid (s_nmL s 0 = (s_nmB s[m].toNat && s_nmL s (m + 1))) := by show _ = _; rw [← HV.out]; exact s_nmL_step s m hlt
      rcases Int.lt_or_le (s[m].toNat : Int) 48 with A0 | A0
      · have HN : Hid (s_nmB s[m].toNat = false) := s_nm_0 (by omega)
        have t0 : (97 ≤ (s[m].toNat : Int)) = False := eq_false (by omega)
        have t1 : ((s[m].toNat : Int) ≤ 122) = True := eq_true (by omega)
        have t2 : (65 ≤ (s[m].toNat : Int)) = False := eq_false (by omega)
        have t3 : ((s[m].toNat : Int) ≤ 90) = True := eq_true (by omega)
        have t4 : (48 ≤ (s[m].toNat : Int)) = False := eq_false (by omega)
        have t5 : ((s[m].toNat : Int) ≤ 57) = True := eq_true (by omega)
        have t9 : ((s[m].toNat : Int) == 95) = false := by rw [beq_eq_false_iff_ne]; omega
        clear A0
        go_wp2
        all_goals go_ret
        all_goals exact ⟨ret_bool (by rw [HS.out, HN.out]; rfl), rfl⟩
      rcases Int.lt_or_le (s[m].toNat : Int) 58 with A1 | A1
      · have HN : Hid (s_nmB s[m].toNat = true) := s_nm_48 (by omega) (by omega)
        have t0 : (97 ≤ (s[m].toNat : Int)) = False := eq_false (by omega)
        have t1 : ((s[m].toNat : Int) ≤ 122) = True := eq_true (by omega)
        have t2 : (65 ≤ (s[m].toNat : Int)) = False := eq_false (by omega)
        have t3 : ((s[m].toNat : Int) ≤ 90) = True := eq_true (by omega)
        have t4 : (48 ≤ (s[m].toNat : Int)) = True := eq_true (by omega)
        have t5 : ((s[m].toNat : Int) ≤ 57) = True := eq_true (by omega)
        have t9 : ((s[m].toNat : Int) == 95) = false := by rw [beq_eq_false_iff_ne]; omega
        clear A0 A1
        go_wp2
        all_goals go_round
        all_goals first | exact ⟨m + 1, by omega, by go_num, by rw [HS.out, HN.out]; rfl⟩ | (simp [intOf]; omega)
      rcases Int.lt_or_le (s[m].toNat : Int) 65 with A2 | A2
      · have HN : Hid (s_nmB s[m].toNat = false) := s_nm_58 (by omega) (by omega)
        have t0 : (97 ≤ (s[m].toNat : Int)) = False := eq_false (by omega)
        have t1 : ((s[m].toNat : Int) ≤ 122) = True := eq_true (by omega)
        have t2 : (65 ≤ (s[m].toNat : Int)) = False := eq_false (by omega)
        have t3 : ((s[m].toNat : Int) ≤ 90) = True := eq_true (by omega)
        have t4 : (48 ≤ (s[m].toNat : Int)) = True := eq_true (by omega)
        have t5 : ((s[m].toNat : Int) ≤ 57) = False := eq_false (by omega)
        have t9 : ((s[m].toNat : Int) == 95) = false := by rw [beq_eq_false_iff_ne]; omega
        clear A0 A1 A2
        go_wp2
        all_goals go_ret
        all_goals exact ⟨ret_bool (by rw [HS.out, HN.out]; rfl), rfl⟩
      rcases Int.lt_or_le (s[m].toNat : Int) 91 with A3 | A3
      · have HN : Hid (s_nmB s[m].toNat = true) := s_nm_65 (by omega) (by omega)
        have t0 : (97 ≤ (s[m].toNat : Int)) = False := eq_false (by omega)
        have t1 : ((s[m].toNat : Int) ≤ 122) = True := eq_true (by omega)
        have t2 : (65 ≤ (s[m].toNat : Int)) = True := eq_true (by omega)
        have t3 : ((s[m].toNat : Int) ≤ 90) = True := eq_true (by omega)
        have t4 : (48 ≤ (s[m].toNat : Int)) = True := eq_true (by omega)
        have t5 : ((s[m].toNat : Int) ≤ 57) = False := eq_false (by omega)
        have t9 : ((s[m].toNat : Int) == 95) = false := by rw [beq_eq_false_iff_ne]; omega
        clear A0 A1 A2 A3
        go_wp2
        all_goals go_round
        all_goals first | exact ⟨m + 1, by omega, by go_num, by rw [HS.out, HN.out]; rfl⟩ | (simp [intOf]; omega)
      rcases Int.lt_or_le (s[m].toNat : Int) 95 with A4 | A4
      · have HN : Hid (s_nmB s[m].toNat = false) := s_nm_91 (by omega) (by omega)
        have t0 : (97 ≤ (s[m].toNat : Int)) = False := eq_false (by omega)
        have t1 : ((s[m].toNat : Int) ≤ 122) = True := eq_true (by omega)
        have t2 : (65 ≤ (s[m].toNat : Int)) = True := eq_true (by omega)
        have t3 : ((s[m].toNat : Int) ≤ 90) = False := eq_false (by omega)
        have t4 : (48 ≤ (s[m].toNat : Int)) = True := eq_true (by omega)
        have t5 : ((s[m].toNat : Int) ≤ 57) = False := eq_false (by omega)
        have t9 : ((s[m].toNat : Int) == 95) = false := by rw [beq_eq_false_iff_ne]; omega
        clear A0 A1 A2 A3 A4
        go_wp2
        all_goals go_ret
        all_goals exact ⟨ret_bool (by rw [HS.out, HN.out]; rfl), rfl⟩
      rcases Int.lt_or_le (s[m].toNat : Int) 96 with A5 | A5
      · have HN : Hid (s_nmB s[m].toNat = true) := s_nm_95 (by omega) (by omega)
        have t0 : (97 ≤ (s[m].toNat : Int)) = False := eq_false (by omega)
        have t1 : ((s[m].toNat : Int) ≤ 122) = True := eq_true (by omega)
        have t2 : (65 ≤ (s[m].toNat : Int)) = True := eq_true (by omega)
        have t3 : ((s[m].toNat : Int) ≤ 90) = False := eq_false (by omega)
        have t4 : (48 ≤ (s[m].toNat : Int)) = True := eq_true (by omega)
        have t5 : ((s[m].toNat : Int) ≤ 57) = False := eq_false (by omega)
        have t9 : ((s[m].toNat : Int) == 95) = true := by rw [beq_iff_eq]; omega
        clear A0 A1 A2 A3 A4 A5
        go_wp2
        all_goals go_round
        all_goals first | exact ⟨m + 1, by omega, by go_num, by rw [HS.out, HN.out]; rfl⟩ | (simp [intOf]; omega)
      rcases Int.lt_or_le (s[m].toNat : Int) 97 with A6 | A6
      · have HN : Hid (s_nmB s[m].toNat = false) := s_nm_96 (by omega) (by omega)
        have t0 : (97 ≤ (s[m].toNat : Int)) = False := eq_false (by omega)
        have t1 : ((s[m].toNat : Int) ≤ 122) = True := eq_true (by omega)
        have t2 : (65 ≤ (s[m].toNat : Int)) = True := eq_true (by omega)
        have t3 : ((s[m].toNat : Int) ≤ 90) = False := eq_false (by omega)
        have t4 : (48 ≤ (s[m].toNat : Int)) = True := eq_true (by omega)
        have t5 : ((s[m].toNat : Int) ≤ 57) = False := eq_false (by omega)
        have t9 : ((s[m].toNat : Int) == 95) = false := by rw [beq_eq_false_iff_ne]; omega
        clear A0 A1 A2 A3 A4 A5 A6
        go_wp2
        all_goals go_ret
        all_goals exact ⟨ret_bool (by rw [HS.out, HN.out]; rfl), rfl⟩
      rcases Int.lt_or_le (s[m].toNat : Int) 123 with A7 | A7
      · have HN : Hid (s_nmB s[m].toNat = true) := s_nm_97 (by omega) (by omega)
        have t0 : (97 ≤ (s[m].toNat : Int)) = True := eq_true (by omega)
        have t1 : ((s[m].toNat : Int) ≤ 122) = True := eq_true (by omega)
        have t2 : (65 ≤ (s[m].toNat : Int)) = True := eq_true (by omega)
        have t3 : ((s[m].toNat : Int) ≤ 90) = False := eq_false (by omega)
        have t4 : (48 ≤ (s[m].toNat : Int)) = True := eq_true (by omega)
        have t5 : ((s[m].toNat : Int) ≤ 57) = False := eq_false (by omega)
        have t9 : ((s[m].toNat : Int) == 95) = false := by rw [beq_eq_false_iff_ne]; omega
        clear A0 A1 A2 A3 A4 A5 A6 A7
        go_wp2
        all_goals go_round
        all_goals first | exact ⟨m + 1, by omega, by go_num, by rw [HS.out, HN.out]; rfl⟩ | (simp [intOf]; omega)
      have HN : Hid (s_nmB s[m].toNat = false) := s_nm_123 (by omega)
      have t0 : (97 ≤ (s[m].toNat : Int)) = True := eq_true (by omega)
      have t1 : ((s[m].toNat : Int) ≤ 122) = False := eq_false (by omega)
      have t2 : (65 ≤ (s[m].toNat : Int)) = True := eq_true (by omega)
      have t3 : ((s[m].toNat : Int) ≤ 90) = False := eq_false (by omega)
      have t4 : (48 ≤ (s[m].toNat : Int)) = True := eq_true (by omega)
      have t5 : ((s[m].toNat : Int) ≤ 57) = False := eq_false (by omega)
      have t9 : ((s[m].toNat : Int) == 95) = false := by rw [beq_eq_false_iff_ne]; omega
      clear A0 A1 A2 A3 A4 A5 A6 A7
      go_wp2
      all_goals go_ret
      all_goals exact ⟨ret_bool (by rw [HS.out, HN.out]; rfl), rfl⟩
    · have HE : Hid (true = s_nmL s 0) := by show _ = _; rw [← HV.out, s_nmL_end s m hge]
      go_wp2
      go_ret
      exact ⟨ret_bool HE.out, rfl⟩
theorem rName_0 (s : ByteArray) (w : World) (z0 : (s.size : Int) < 1) : Calls Tryz.prog 109 #[.string s] w fun e w' => e = .returned (.bool false) ∧ w' = w := by
  go_enter Tryz.func109, Tryz.ntmps109
  go_wp2
  all_goals go_ret
  all_goals exact ⟨rfl, rfl⟩
theorem rName_64 (s : ByteArray) (w : World) (z1 : 64 < (s.size : Int)) : Calls Tryz.prog 109 #[.string s] w fun e w' => e = .returned (.bool false) ∧ w' = w := by
  have z0 : decide ((s.size : Int) < 1) = false := decide_eq_false (by omega)
  go_enter Tryz.func109, Tryz.ntmps109
  go_wp2
  all_goals go_ret
  all_goals exact ⟨rfl, rfl⟩
theorem rName_dg (s : ByteArray) (w : World) (h0 : 0 < s.size) (h1 : (s.size : Int) ≤ 64) (hd : 48 ≤ (s[0].toNat : Int)) (hd2 : (s[0].toNat : Int) ≤ 57) : Calls Tryz.prog 109 #[.string s] w fun e w' => e = .returned (.bool false) ∧ w' = w := by
  have z0 : decide ((s.size : Int) < 1) = false := decide_eq_false (by omega)
  have z1 : decide (64 < (s.size : Int)) = false := decide_eq_false (by omega)
  go_enter Tryz.func109, Tryz.ntmps109
  go_wp2
  all_goals go_ret
  all_goals exact ⟨rfl, rfl⟩
theorem rName_any (s : ByteArray) (w : World) : Calls Tryz.prog 109 #[.string s] w fun e w' => e = .returned (.bool (s_nameS s)) ∧ w' = w := by
  rcases Nat.eq_zero_or_pos s.size with h0 | h0
  · have e : s_nameS s = false := by unfold s_nameS; rw [dif_neg (by omega)]
    rw [e]; exact rName_0 s w (by omega)
  rcases Int.lt_or_le 64 (s.size : Int) with h1 | h1
  · have e : s_nameS s = false := by unfold s_nameS; rw [dif_pos h0, decide_eq_false (by omega)]; rfl
    rw [e]; exact rName_64 s w h1
  cases hd : s_dgB s[0].toNat
  · have e : s_nameS s = s_nmL s 0 := by unfold s_nameS; rw [dif_pos h0, decide_eq_true h1, hd]; rfl
    rw [e]
    rcases Int.lt_or_le (s[0].toNat : Int) 48 with a | a
    · exact rName_lo s w h0 h1 a
    · rcases Int.lt_or_le 57 (s[0].toNat : Int) with b | b
      · exact rName_hi s w h0 h1 b
      · unfold s_dgB at hd; rw [decide_eq_true a, decide_eq_true b] at hd; cases hd
  · have e : s_nameS s = false := by unfold s_nameS; rw [dif_pos h0, decide_eq_true h1, hd]; rfl
    unfold s_dgB at hd
    rw [Bool.and_eq_true, decide_eq_true_eq, decide_eq_true_eq] at hd
    rw [e]; exact rName_dg s w h0 h1 hd.1 hd.2

end Go.Proofs.YtcemogaacicnfaaGreatDoor
