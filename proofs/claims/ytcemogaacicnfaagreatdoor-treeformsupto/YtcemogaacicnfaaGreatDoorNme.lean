/- Which texts are names: package schema and the document's answer. -/
import Derived.Test.YtcemogaacicnfaaGreatDoorLxn
namespace Go.Proofs.YtcemogaacicnfaaGreatDoor
set_option maxHeartbeats 4000000
open Go.ChangeShapes Go.WideShapes Go.ChangeAt Go.RowKit

def s_dgB (n : Int) : Bool := decide (48 ≤ n) && decide (n ≤ 57)
def s_ltB (n : Int) : Bool := (decide (97 ≤ n) && decide (n ≤ 122)) || (decide (65 ≤ n) && decide (n ≤ 90))
def s_nmB (n : Int) : Bool := s_ltB n || s_dgB n || n == 95

theorem s_isDigit_any (n : Int) (w : World) : Calls Tryz.prog 129 #[.int .u8 n] w fun e w' => e = .returned (.bool (s_dgB n)) ∧ w' = w := by
  rcases Int.lt_or_le n 48 with h | h
  · have e : s_dgB n = false := by simp [s_dgB]; omega
    rw [e]
    go_enter Tryz.func129, Tryz.ntmps129
    go_wp2
    all_goals go_ret
    all_goals exact ⟨rfl, rfl⟩
  · have e : s_dgB n = decide (n ≤ 57) := by simp [s_dgB, h]
    rw [e]
    go_enter Tryz.func129, Tryz.ntmps129
    go_wp2
    all_goals go_ret
    all_goals exact ⟨rfl, rfl⟩

theorem s_isLetter_any (n : Int) (w : World) : Calls Tryz.prog 130 #[.int .u8 n] w fun e w' => e = .returned (.bool (s_ltB n)) ∧ w' = w := by
  rcases Int.lt_or_le n 65 with h | h
  · have e : s_ltB n = false := by simp [s_ltB]; omega
    rw [e]
    go_enter Tryz.func130, Tryz.ntmps130
    go_wp2
    all_goals go_ret
    all_goals exact ⟨rfl, rfl⟩
  rcases Int.lt_or_le n 97 with h1 | h1
  · have e : s_ltB n = decide (n ≤ 90) := by simp [s_ltB, h]; omega
    rw [e]
    go_enter Tryz.func130, Tryz.ntmps130
    go_wp2
    all_goals go_ret
    all_goals exact ⟨rfl, rfl⟩
  rcases Int.lt_or_le 122 n with h2 | h2
  · have e : s_ltB n = false := by simp [s_ltB]; omega
    rw [e]
    go_enter Tryz.func130, Tryz.ntmps130
    go_wp2
    all_goals go_ret
    all_goals first | exact ⟨rfl, rfl⟩ | exact ⟨ret_bool (by rw [Bool.or_eq_false_iff, decide_eq_false_iff_not, decide_eq_false_iff_not]; omega), rfl⟩
  · have e : s_ltB n = true := by simp [s_ltB]; omega
    rw [e]
    go_enter Tryz.func130, Tryz.ntmps130
    go_wp2
    all_goals go_ret
    all_goals exact ⟨rfl, rfl⟩

theorem s_all_step (s : ByteArray) (m : Nat) (h : m < s.size) (f : UInt8 → Bool) : (s.data.toList.drop m).all f = (f s[m] && (s.data.toList.drop (m + 1)).all f) := by
  have hl : m < s.data.toList.length := by rw [Array.length_toList]; exact h
  rw [List.drop_eq_getElem_cons hl, List.all_cons]
  rfl
def s_nmF (c : UInt8) : Bool := s_nmB c.toNat
def s_nmL (s : ByteArray) (m : Nat) : Bool := (s.data.toList.drop m).all s_nmF
theorem s_nmL_step (s : ByteArray) (m : Nat) (h : m < s.size) : s_nmL s m = (s_nmB s[m].toNat && s_nmL s (m + 1)) := s_all_step s m h s_nmF
theorem s_nmL_end (s : ByteArray) (m : Nat) (h : s.size ≤ m) : s_nmL s m = true := by
  unfold s_nmL
  rw [List.drop_eq_nil_of_le (by rw [Array.length_toList]; exact h)]
  rfl
/-- Is a text a name? -/
def s_nameS (s : ByteArray) : Bool := if h : 0 < s.size then decide ((s.size : Int) ≤ 64) && !s_dgB s[0].toNat && s_nmL s 0 else false

theorem Name_loop (s : ByteArray) (w : World) (h0 : 0 < s.size) (h1 : (s.size : Int) ≤ 64) (hd : s_dgB s[0].toNat = false) : Calls Tryz.prog 120 #[.string s] w fun e w' => e = .returned (.bool (s_nmL s 0)) ∧ w' = w := by
  have z0 : ((s.size : Int) == 0) = false := by rw [beq_eq_false_iff_ne]; omega
  have z1 : decide (64 < (s.size : Int)) = false := decide_eq_false (by omega)
  go_enter Tryz.func120, Tryz.ntmps120
  go_wp2_with (go_at_call 129; refine (s_isDigit_any _ _).mono ?_; rintro e w' ⟨rfl, rfl⟩)
  clear z0 z1 hd
  go_loop [19] (fun i => ∃ m : Nat, m ≤ s.size ∧ i = .int .i64 m ∧ s_nmL s m = s_nmL s 0) (fun i => s.size - (intOf i).toNat)
  case atStart => exact ⟨0, Nat.zero_le _, rfl, rfl⟩
  case round =>
    obtain ⟨m, hm, rfl, hV⟩ := hrel
    have HV : Hid (s_nmL s m = s_nmL s 0) := hV
    clear hV
    rcases Nat.lt_or_ge m s.size with hlt | hge
    · generalize hl : s_ltB s[m].toNat = L
      generalize hg : s_dgB s[m].toNat = D
      generalize hu : ((s[m].toNat : Int) == 95) = U
      have HN : Hid (s_nmB s[m].toNat = (L || D || U)) := by show _ = _; unfold s_nmB; rw [hl, hg, hu]
      have HS : Hid (s_nmL s 0 = (s_nmB s[m].toNat && s_nmL s (m + 1))) := by show _ = _; rw [← HV.out]; exact s_nmL_step s m hlt
      cases L <;> cases D <;> cases U
      all_goals go_wp2_with (first | (go_at_call 129; refine (s_isDigit_any _ _).mono ?_; rintro e w' ⟨rfl, rfl⟩) | (go_at_call 130; refine (s_isLetter_any _ _).mono ?_; rintro e w' ⟨rfl, rfl⟩))
      all_goals first
        | (go_round; (case rel => exact ⟨m + 1, by omega, by go_num, by rw [HS.out, HN.out]; rfl⟩); (case measure => simp [intOf]; omega))
        | (go_ret; exact ⟨ret_bool (by rw [HS.out, HN.out]; rfl), rfl⟩)
    · have HE : Hid (true = s_nmL s 0) := by show _ = _; rw [← HV.out, s_nmL_end s m hge]
      go_wp2
      go_ret
      exact ⟨ret_bool HE.out, rfl⟩
theorem Name_0 (s : ByteArray) (w : World) (z0 : ((s.size : Int) == 0) = true) : Calls Tryz.prog 120 #[.string s] w fun e w' => e = .returned (.bool false) ∧ w' = w := by
  go_enter Tryz.func120, Tryz.ntmps120
  go_wp2
  all_goals go_ret
  all_goals exact ⟨rfl, rfl⟩
theorem Name_64 (s : ByteArray) (w : World) (z0 : ((s.size : Int) == 0) = false) (z1 : 64 < (s.size : Int)) : Calls Tryz.prog 120 #[.string s] w fun e w' => e = .returned (.bool false) ∧ w' = w := by
  go_enter Tryz.func120, Tryz.ntmps120
  go_wp2
  all_goals go_ret
  all_goals exact ⟨rfl, rfl⟩
theorem Name_dg (s : ByteArray) (w : World) (h0 : 0 < s.size) (h1 : (s.size : Int) ≤ 64) (hd : s_dgB s[0].toNat = true) : Calls Tryz.prog 120 #[.string s] w fun e w' => e = .returned (.bool false) ∧ w' = w := by
  have z0 : ((s.size : Int) == 0) = false := by rw [beq_eq_false_iff_ne]; omega
  have z1 : decide (64 < (s.size : Int)) = false := decide_eq_false (by omega)
  go_enter Tryz.func120, Tryz.ntmps120
  go_wp2_with (go_at_call 129; refine (s_isDigit_any _ _).mono ?_; rintro e w' ⟨rfl, rfl⟩)
  all_goals go_ret
  all_goals exact ⟨rfl, rfl⟩
theorem Name_any (s : ByteArray) (w : World) : Calls Tryz.prog 120 #[.string s] w fun e w' => e = .returned (.bool (s_nameS s)) ∧ w' = w := by
  rcases Nat.eq_zero_or_pos s.size with h0 | h0
  · have e : s_nameS s = false := by unfold s_nameS; rw [dif_neg (by omega)]
    rw [e]; exact Name_0 s w (by rw [h0]; rfl)
  have z0 : ((s.size : Int) == 0) = false := by rw [beq_eq_false_iff_ne]; omega
  rcases Int.lt_or_le 64 (s.size : Int) with h1 | h1
  · have e : s_nameS s = false := by unfold s_nameS; rw [dif_pos h0, decide_eq_false (by omega)]; rfl
    rw [e]; exact Name_64 s w z0 h1
  cases hd : s_dgB s[0].toNat
  · have e : s_nameS s = s_nmL s 0 := by unfold s_nameS; rw [dif_pos h0, decide_eq_true h1, hd]; rfl
    rw [e]; exact Name_loop s w h0 h1 hd
  · have e : s_nameS s = false := by unfold s_nameS; rw [dif_pos h0, decide_eq_true h1, hd]; rfl
    rw [e]; exact Name_dg s w h0 h1 hd
end Go.Proofs.YtcemogaacicnfaaGreatDoor
