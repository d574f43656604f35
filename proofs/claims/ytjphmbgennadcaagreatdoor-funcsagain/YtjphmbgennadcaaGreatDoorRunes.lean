/- The document's own test of valid UTF-8: it is the library's. -/
import Derived.Test.YtjphmbgennadcaaGreatDoorRMay
import Derived.LoopN
import Derived.Lib.ValidU
import Derived.Lib.DecodeN
import Derived.Lib.TrimUEq
namespace Go.Proofs.YtjphmbgennadcaaGreatDoor
open Go.ChangeShapes Go.WideShapes Go.ChangeAt Go.RowKit

theorem vd_fuel : ∀ (f g : Nat) (l : List UInt8), l.length ≤ f → l.length ≤ g → Lib.validGoD f l = Lib.validGoD g l
  | 0, 0, _, _, _ => rfl
  | 0, g + 1, l, h, _ => by
    have : l = [] := List.length_eq_zero_iff.1 (by omega)
    subst this; simp [Lib.validGoD]
  | f + 1, 0, l, _, h => by
    have : l = [] := List.length_eq_zero_iff.1 (by omega)
    subst this; simp [Lib.validGoD]
  | f + 1, g + 1, l, h, h' => by
    unfold Lib.validGoD
    by_cases e : l = []
    · rw [if_pos e, if_pos e]
    · rw [if_neg e, if_neg e]
      have hw := Lib.decodeL_width l
      have hl : 1 ≤ l.length := by
        cases l with
        | nil => exact absurd rfl e
        | cons a r => simp
      have hd : (l.drop (Lib.decodeL l).2).length ≤ l.length - 1 := by rw [List.length_drop]; omega
      rw [vd_fuel f g (l.drop (Lib.decodeL l).2) (by omega) (by omega)]
theorem vd_step (l : List UInt8) (hne : l ≠ []) : Lib.validD l = if (Lib.decodeL l).1 = 65533 ∧ (Lib.decodeL l).2 = 1 then false else Lib.validD (l.drop (Lib.decodeL l).2) := by
  unfold Lib.validD
  obtain ⟨n, hn⟩ : ∃ n, l.length = n + 1 := ⟨l.length - 1, by have : l.length ≠ 0 := fun e => hne (List.length_eq_zero_iff.1 e); omega⟩
  rw [hn, Lib.validGoD, if_neg hne]
  have hw := Lib.decodeL_width l
  have hd : (l.drop (Lib.decodeL l).2).length ≤ n := by rw [List.length_drop]; omega
  rw [vd_fuel n (l.drop (Lib.decodeL l).2).length _ hd (Nat.le_refl _)]
theorem drop_ne (s : ByteArray) (m : Nat) (h : m < s.size) : s.data.toList.drop m ≠ [] := fun e => by
  have := congrArg List.length e
  rw [List.length_drop, ← Lib.size_eq] at this
  simp at this; omega
/-- What the decoder gives at place m, of its bytes. -/
theorem dec_at (s : ByteArray) (m : Nat) : Lib.decodeL (s.data.toList.drop m) = Lib.decodeN (s.size - m) (s.get! m).toNat (s.get! (m + 1)).toNat (s.get! (m + 2)).toNat (s.get! (m + 3)).toNat := by
  rw [Lib.decodeL_drop, Lib.decode_at]
theorem get_at (s : ByteArray) (m : Nat) (h : m < s.size) : s.get! m = s[m] := by
  show s.data.getD m default = _
  simp only [Array.getD_eq_getD_getElem?]
  rw [Array.getElem?_eq_getElem (by simpa using h)]; rfl
theorem vd_bad (s : ByteArray) (m : Nat) (h : m < s.size) (hd : Lib.decodeN (s.size - m) (s.get! m).toNat (s.get! (m + 1)).toNat (s.get! (m + 2)).toNat (s.get! (m + 3)).toNat = (65533, 1)) : Lib.validD (s.data.toList.drop m) = false := by
  rw [vd_step _ (drop_ne s m h), dec_at, hd]; rfl
theorem vd_ok (s : ByteArray) (m j c : Nat) (h : m < s.size) (hj : j ≠ 1 ∨ c ≠ 65533) (hd : Lib.decodeN (s.size - m) (s.get! m).toNat (s.get! (m + 1)).toNat (s.get! (m + 2)).toNat (s.get! (m + 3)).toNat = (c, j)) : Lib.validD (s.data.toList.drop (m + j)) = Lib.validD (s.data.toList.drop m) := by
  rw [vd_step _ (drop_ne s m h), dec_at, hd, if_neg (by simp only; omega), List.drop_drop]
theorem dn_bad {n b0 b1 b2 b3 : Nat} (h0 : 128 ≤ b0) (h2 : ¬ (192 ≤ b0 ∧ b0 < 224 ∧ 2 ≤ n ∧ 128 ≤ b1 ∧ b1 < 192 ∧ 128 ≤ (b0 - 192) * 64 + (b1 - 128)))
    (h3 : ¬ (224 ≤ b0 ∧ b0 < 240 ∧ 3 ≤ n ∧ 128 ≤ b1 ∧ b1 < 192 ∧ 128 ≤ b2 ∧ b2 < 192 ∧ 2048 ≤ ((b0 - 224) * 64 + (b1 - 128)) * 64 + (b2 - 128) ∧ ¬ (55296 ≤ ((b0 - 224) * 64 + (b1 - 128)) * 64 + (b2 - 128) ∧ ((b0 - 224) * 64 + (b1 - 128)) * 64 + (b2 - 128) < 57344)))
    (h4 : ¬ (240 ≤ b0 ∧ b0 < 248 ∧ 4 ≤ n ∧ 128 ≤ b1 ∧ b1 < 192 ∧ 128 ≤ b2 ∧ b2 < 192 ∧ 128 ≤ b3 ∧ b3 < 192 ∧ 65536 ≤ (((b0 - 240) * 64 + (b1 - 128)) * 64 + (b2 - 128)) * 64 + (b3 - 128) ∧ (((b0 - 240) * 64 + (b1 - 128)) * 64 + (b2 - 128)) * 64 + (b3 - 128) ≤ 1114111)) (hb : b0 < 256) :
    Lib.decodeN n b0 b1 b2 b3 = (65533, 1) := by
  unfold Lib.decodeN
  repeat' split
  all_goals first | rfl | (exfalso; omega)

theorem dn_1 {n b0 b1 b2 b3 : Nat} (h : b0 < 128) : Lib.decodeN n b0 b1 b2 b3 = (b0, 1) := by unfold Lib.decodeN; rw [if_pos h]
theorem dn_2 {n b0 b1 b2 b3 : Nat} (h0 : 192 ≤ b0) (h1 : b0 < 224) (hn : 2 ≤ n) (c1 : 128 ≤ b1) (c2 : b1 < 192) (hv : 128 ≤ (b0 - 192) * 64 + (b1 - 128)) : ∃ c, Lib.decodeN n b0 b1 b2 b3 = (c, 2) := by
  unfold Lib.decodeN
  rw [if_neg (by omega), if_pos (by omega), if_pos (by omega)]
  exact ⟨_, rfl⟩
theorem dn_3 {n b0 b1 b2 b3 : Nat} (h0 : 224 ≤ b0) (h1 : b0 < 240) (hn : 3 ≤ n) (c1 : 128 ≤ b1) (c2 : b1 < 192) (d1 : 128 ≤ b2) (d2 : b2 < 192) (hv : 2048 ≤ ((b0 - 224) * 64 + (b1 - 128)) * 64 + (b2 - 128)) (hu : ¬ (55296 ≤ ((b0 - 224) * 64 + (b1 - 128)) * 64 + (b2 - 128) ∧ ((b0 - 224) * 64 + (b1 - 128)) * 64 + (b2 - 128) < 57344)) : ∃ c, Lib.decodeN n b0 b1 b2 b3 = (c, 3) := by
  unfold Lib.decodeN
  rw [if_neg (by omega), if_neg (by omega), if_pos (by omega), if_pos (by omega)]
  exact ⟨_, rfl⟩
theorem dn_4 {n b0 b1 b2 b3 : Nat} (h0 : 240 ≤ b0) (h1 : b0 < 248) (hn : 4 ≤ n) (c1 : 128 ≤ b1) (c2 : b1 < 192) (d1 : 128 ≤ b2) (d2 : b2 < 192) (e1 : 128 ≤ b3) (e2 : b3 < 192) (hv : 65536 ≤ (((b0 - 240) * 64 + (b1 - 128)) * 64 + (b2 - 128)) * 64 + (b3 - 128)) (hu : (((b0 - 240) * 64 + (b1 - 128)) * 64 + (b2 - 128)) * 64 + (b3 - 128) ≤ 1114111) : ∃ c, Lib.decodeN n b0 b1 b2 b3 = (c, 4) := by
  unfold Lib.decodeN
  rw [if_neg (by omega), if_neg (by omega), if_neg (by omega), if_pos (by omega), if_pos (by omega)]
  exact ⟨_, rfl⟩

set_option maxRecDepth 100000 in
set_option maxHeartbeats 32000000 in
theorem runes_any (s : ByteArray) (w : World) (hs : (s.size : Int) ≤ 1024) : Calls Tryz.prog 40 #[.string s] w fun e w' => e = .returned (.bool (Lib.validD s.data.toList)) ∧ w' = w := by
  go_enter Tryz.func40, Tryz.ntmps40
  go_wp2
  go_loop [3] (fun i => ∃ m : Nat, m ≤ s.size ∧ i = .int .i64 m ∧ Lib.validD (s.data.toList.drop m) = Lib.validD s.data.toList) (fun i => s.size - (intOf i).toNat)
  case atStart => exact ⟨0, Nat.zero_le _, rfl, rfl⟩
  case round =>
    obtain ⟨m, hm, rfl, hV⟩ := hrel
    have HV : Hid (Lib.validD (s.data.toList.drop m) = Lib.validD s.data.toList) := hV
    clear hV
    by_cases hlt : m < s.size
    · have y0 := (s[m]).toNat_lt
      rcases Int.lt_or_le ((s[m].toNat : Int)) (128) with A | A
      · have HD := fun c => vd_ok s m 1 c hlt
        rw [get_at s m hlt] at HD
        have HN : Hid (Lib.validD (s.data.toList.drop (m + 1)) = Lib.validD s.data.toList) := by
          show _ = _
          rw [← HV.out]
          exact HD _ (Or.inr (by omega)) (dn_1 (by omega))
        clear HD HV
        go_wp2
        refine wp_loop_rounds 1 ?_
        all_goals rw [rounds_succ]
        all_goals go_wp2
        all_goals
          go_round
          case rel => exact ⟨m + 1, by omega, by go_num, HN.out⟩
          case measure => simp [intOf]; omega
      · rcases Int.lt_or_le ((s[m].toNat : Int)) (192) with B | B
        · have HD := vd_bad s m hlt
          rw [get_at s m hlt] at HD
          have HB : Hid (false = Lib.validD s.data.toList) := by
            show _ = _
            rw [← HV.out]
            exact (HD (dn_bad (by omega) (by omega) (by omega) (by omega) (by omega))).symm
          clear HD HV
          go_wp2
          all_goals go_ret
          all_goals exact ⟨ret_bool HB.out, rfl⟩
        · clear A
          rcases Int.lt_or_le ((s[m].toNat : Int)) (224) with C | C
          · rcases Int.lt_or_le ((s.size : Int)) ((m : Int) + 2) with l2 | l2
            · have HD := vd_bad s m hlt
              rw [get_at s m hlt] at HD
              have HB : Hid (false = Lib.validD s.data.toList) := by
                show _ = _
                rw [← HV.out]
                exact (HD (dn_bad (by omega) (by omega) (by omega) (by omega) (by omega))).symm
              clear HD HV
              go_wp2
              all_goals go_ret
              all_goals exact ⟨ret_bool HB.out, rfl⟩
            · have z1 : m + 1 < s.size := by omega
              have y1 := (s[m + 1]).toNat_lt
              rcases Int.lt_or_le ((s[m + 1].toNat : Int)) (128) with q1 | q1
              · have HD := vd_bad s m hlt
                rw [get_at s m hlt] at HD
                rw [get_at s (m + 1) (by omega)] at HD
                have HB : Hid (false = Lib.validD s.data.toList) := by
                  show _ = _
                  rw [← HV.out]
                  exact (HD (dn_bad (by omega) (by omega) (by omega) (by omega) (by omega))).symm
                clear HD HV
                go_wp2
                refine wp_loop_rounds 1 ?_
                all_goals rw [rounds_succ]
                all_goals go_wp2
                all_goals go_ret
                all_goals exact ⟨ret_bool HB.out, rfl⟩
              · rcases Int.lt_or_le ((s[m + 1].toNat : Int)) (192) with q1b | q1b
                · rcases Int.lt_or_le (((s[m].toNat : Int) - 192) * 64 + (s[m + 1].toNat : Int) - 128) (128) with v1 | v1
                  · have HD := vd_bad s m hlt
                    rw [get_at s m hlt] at HD
                    rw [get_at s (m + 1) (by omega)] at HD
                    have HB : Hid (false = Lib.validD s.data.toList) := by
                      show _ = _
                      rw [← HV.out]
                      exact (HD (dn_bad (by omega) (by omega) (by omega) (by omega) (by omega))).symm
                    clear HD HV
                    go_wp2
                    refine wp_loop_rounds 2 ?_
                    all_goals rw [rounds_succ]
                    all_goals go_wp2
                    all_goals rw [rounds_succ]
                    all_goals go_wp2
                    all_goals go_ret
                    all_goals exact ⟨ret_bool HB.out, rfl⟩
                  · have HD := fun c => vd_ok s m 2 c hlt
                    rw [get_at s m hlt] at HD
                    rw [get_at s (m + 1) (by omega)] at HD
                    have HN : Hid (Lib.validD (s.data.toList.drop (m + 2)) = Lib.validD s.data.toList) := by
                      show _ = _
                      rw [← HV.out]
                      exact (dn_2 (by omega) (by omega) (by omega) (by omega) (by omega) (by omega)).elim fun c hc => HD c (by omega) hc
                    clear HD HV
                    go_wp2
                    refine wp_loop_rounds 2 ?_
                    all_goals rw [rounds_succ]
                    all_goals go_wp2
                    all_goals rw [rounds_succ]
                    all_goals go_wp2
                    all_goals
                      go_round
                      case rel => exact ⟨m + 2, by omega, by go_num, HN.out⟩
                      case measure => simp [intOf]; omega
                · have HD := vd_bad s m hlt
                  rw [get_at s m hlt] at HD
                  rw [get_at s (m + 1) (by omega)] at HD
                  have HB : Hid (false = Lib.validD s.data.toList) := by
                    show _ = _
                    rw [← HV.out]
                    exact (HD (dn_bad (by omega) (by omega) (by omega) (by omega) (by omega))).symm
                  clear HD HV
                  go_wp2
                  refine wp_loop_rounds 1 ?_
                  all_goals rw [rounds_succ]
                  all_goals go_wp2
                  all_goals go_ret
                  all_goals exact ⟨ret_bool HB.out, rfl⟩
          · clear B
            rcases Int.lt_or_le ((s[m].toNat : Int)) (240) with D | D
            · rcases Int.lt_or_le ((s.size : Int)) ((m : Int) + 3) with l3 | l3
              · have HD := vd_bad s m hlt
                rw [get_at s m hlt] at HD
                have HB : Hid (false = Lib.validD s.data.toList) := by
                  show _ = _
                  rw [← HV.out]
                  exact (HD (dn_bad (by omega) (by omega) (by omega) (by omega) (by omega))).symm
                clear HD HV
                go_wp2
                all_goals go_ret
                all_goals exact ⟨ret_bool HB.out, rfl⟩
              · have z1 : m + 1 < s.size := by omega
                have z2 : m + 2 < s.size := by omega
                have y1 := (s[m + 1]).toNat_lt
                have y2 := (s[m + 2]).toNat_lt
                rcases Int.lt_or_le ((s[m + 1].toNat : Int)) (128) with q1 | q1
                · have HD := vd_bad s m hlt
                  rw [get_at s m hlt] at HD
                  rw [get_at s (m + 1) (by omega)] at HD
                  rw [get_at s (m + 2) (by omega)] at HD
                  have HB : Hid (false = Lib.validD s.data.toList) := by
                    show _ = _
                    rw [← HV.out]
                    exact (HD (dn_bad (by omega) (by omega) (by omega) (by omega) (by omega))).symm
                  clear HD HV
                  go_wp2
                  refine wp_loop_rounds 1 ?_
                  all_goals rw [rounds_succ]
                  all_goals go_wp2
                  all_goals go_ret
                  all_goals exact ⟨ret_bool HB.out, rfl⟩
                · rcases Int.lt_or_le ((s[m + 1].toNat : Int)) (192) with q1b | q1b
                  · rcases Int.lt_or_le ((s[m + 2].toNat : Int)) (128) with q2 | q2
                    · have HD := vd_bad s m hlt
                      rw [get_at s m hlt] at HD
                      rw [get_at s (m + 1) (by omega)] at HD
                      rw [get_at s (m + 2) (by omega)] at HD
                      have HB : Hid (false = Lib.validD s.data.toList) := by
                        show _ = _
                        rw [← HV.out]
                        exact (HD (dn_bad (by omega) (by omega) (by omega) (by omega) (by omega))).symm
                      clear HD HV
                      go_wp2
                      refine wp_loop_rounds 2 ?_
                      all_goals rw [rounds_succ]
                      all_goals go_wp2
                      all_goals rw [rounds_succ]
                      all_goals go_wp2
                      all_goals go_ret
                      all_goals exact ⟨ret_bool HB.out, rfl⟩
                    · rcases Int.lt_or_le ((s[m + 2].toNat : Int)) (192) with q2b | q2b
                      · rcases Int.lt_or_le ((((s[m].toNat : Int) - 224) * 64 + (s[m + 1].toNat : Int) - 128) * 64 + (s[m + 2].toNat : Int) - 128) (2048) with v1 | v1
                        · have HD := vd_bad s m hlt
                          rw [get_at s m hlt] at HD
                          rw [get_at s (m + 1) (by omega)] at HD
                          rw [get_at s (m + 2) (by omega)] at HD
                          have HB : Hid (false = Lib.validD s.data.toList) := by
                            show _ = _
                            rw [← HV.out]
                            exact (HD (dn_bad (by omega) (by omega) (by omega) (by omega) (by omega))).symm
                          clear HD HV
                          go_wp2
                          refine wp_loop_rounds 3 ?_
                          all_goals rw [rounds_succ]
                          all_goals go_wp2
                          all_goals rw [rounds_succ]
                          all_goals go_wp2
                          all_goals rw [rounds_succ]
                          all_goals go_wp2
                          all_goals go_ret
                          all_goals exact ⟨ret_bool HB.out, rfl⟩
                        · rcases Int.lt_or_le ((((s[m].toNat : Int) - 224) * 64 + (s[m + 1].toNat : Int) - 128) * 64 + (s[m + 2].toNat : Int) - 128) (55296) with v2 | v2
                          · have HD := fun c => vd_ok s m 3 c hlt
                            rw [get_at s m hlt] at HD
                            rw [get_at s (m + 1) (by omega)] at HD
                            rw [get_at s (m + 2) (by omega)] at HD
                            have HN : Hid (Lib.validD (s.data.toList.drop (m + 3)) = Lib.validD s.data.toList) := by
                              show _ = _
                              rw [← HV.out]
                              exact (dn_3 (by omega) (by omega) (by omega) (by omega) (by omega) (by omega) (by omega) (by omega) (by omega)).elim fun c hc => HD c (by omega) hc
                            clear HD HV
                            go_wp2
                            refine wp_loop_rounds 3 ?_
                            all_goals rw [rounds_succ]
                            all_goals go_wp2
                            all_goals rw [rounds_succ]
                            all_goals go_wp2
                            all_goals rw [rounds_succ]
                            all_goals go_wp2
                            all_goals
                              go_round
                              case rel => exact ⟨m + 3, by omega, by go_num, HN.out⟩
                              case measure => simp [intOf]; omega
                          · rcases Int.lt_or_le ((((s[m].toNat : Int) - 224) * 64 + (s[m + 1].toNat : Int) - 128) * 64 + (s[m + 2].toNat : Int) - 128) (57344) with v3 | v3
                            · have HD := vd_bad s m hlt
                              rw [get_at s m hlt] at HD
                              rw [get_at s (m + 1) (by omega)] at HD
                              rw [get_at s (m + 2) (by omega)] at HD
                              have HB : Hid (false = Lib.validD s.data.toList) := by
                                show _ = _
                                rw [← HV.out]
                                exact (HD (dn_bad (by omega) (by omega) (by omega) (by omega) (by omega))).symm
                              clear HD HV
                              go_wp2
                              refine wp_loop_rounds 3 ?_
                              all_goals rw [rounds_succ]
                              all_goals go_wp2
                              all_goals rw [rounds_succ]
                              all_goals go_wp2
                              all_goals rw [rounds_succ]
                              all_goals go_wp2
                              all_goals go_ret
                              all_goals exact ⟨ret_bool HB.out, rfl⟩
                            · have HD := fun c => vd_ok s m 3 c hlt
                              rw [get_at s m hlt] at HD
                              rw [get_at s (m + 1) (by omega)] at HD
                              rw [get_at s (m + 2) (by omega)] at HD
                              have HN : Hid (Lib.validD (s.data.toList.drop (m + 3)) = Lib.validD s.data.toList) := by
                                show _ = _
                                rw [← HV.out]
                                exact (dn_3 (by omega) (by omega) (by omega) (by omega) (by omega) (by omega) (by omega) (by omega) (by omega)).elim fun c hc => HD c (by omega) hc
                              clear HD HV
                              go_wp2
                              refine wp_loop_rounds 3 ?_
                              all_goals rw [rounds_succ]
                              all_goals go_wp2
                              all_goals rw [rounds_succ]
                              all_goals go_wp2
                              all_goals rw [rounds_succ]
                              all_goals go_wp2
                              all_goals
                                go_round
                                case rel => exact ⟨m + 3, by omega, by go_num, HN.out⟩
                                case measure => simp [intOf]; omega
                      · have HD := vd_bad s m hlt
                        rw [get_at s m hlt] at HD
                        rw [get_at s (m + 1) (by omega)] at HD
                        rw [get_at s (m + 2) (by omega)] at HD
                        have HB : Hid (false = Lib.validD s.data.toList) := by
                          show _ = _
                          rw [← HV.out]
                          exact (HD (dn_bad (by omega) (by omega) (by omega) (by omega) (by omega))).symm
                        clear HD HV
                        go_wp2
                        refine wp_loop_rounds 2 ?_
                        all_goals rw [rounds_succ]
                        all_goals go_wp2
                        all_goals rw [rounds_succ]
                        all_goals go_wp2
                        all_goals go_ret
                        all_goals exact ⟨ret_bool HB.out, rfl⟩
                  · have HD := vd_bad s m hlt
                    rw [get_at s m hlt] at HD
                    rw [get_at s (m + 1) (by omega)] at HD
                    rw [get_at s (m + 2) (by omega)] at HD
                    have HB : Hid (false = Lib.validD s.data.toList) := by
                      show _ = _
                      rw [← HV.out]
                      exact (HD (dn_bad (by omega) (by omega) (by omega) (by omega) (by omega))).symm
                    clear HD HV
                    go_wp2
                    refine wp_loop_rounds 1 ?_
                    all_goals rw [rounds_succ]
                    all_goals go_wp2
                    all_goals go_ret
                    all_goals exact ⟨ret_bool HB.out, rfl⟩
            · clear C
              rcases Int.lt_or_le ((s[m].toNat : Int)) (248) with E | E
              · rcases Int.lt_or_le ((s.size : Int)) ((m : Int) + 4) with l4 | l4
                · have HD := vd_bad s m hlt
                  rw [get_at s m hlt] at HD
                  have HB : Hid (false = Lib.validD s.data.toList) := by
                    show _ = _
                    rw [← HV.out]
                    exact (HD (dn_bad (by omega) (by omega) (by omega) (by omega) (by omega))).symm
                  clear HD HV
                  go_wp2
                  all_goals go_ret
                  all_goals exact ⟨ret_bool HB.out, rfl⟩
                · have z1 : m + 1 < s.size := by omega
                  have z2 : m + 2 < s.size := by omega
                  have z3 : m + 3 < s.size := by omega
                  have y1 := (s[m + 1]).toNat_lt
                  have y2 := (s[m + 2]).toNat_lt
                  have y3 := (s[m + 3]).toNat_lt
                  rcases Int.lt_or_le ((s[m + 1].toNat : Int)) (128) with q1 | q1
                  · have HD := vd_bad s m hlt
                    rw [get_at s m hlt] at HD
                    rw [get_at s (m + 1) (by omega)] at HD
                    rw [get_at s (m + 2) (by omega)] at HD
                    rw [get_at s (m + 3) (by omega)] at HD
                    have HB : Hid (false = Lib.validD s.data.toList) := by
                      show _ = _
                      rw [← HV.out]
                      exact (HD (dn_bad (by omega) (by omega) (by omega) (by omega) (by omega))).symm
                    clear HD HV
                    go_wp2
                    refine wp_loop_rounds 1 ?_
                    all_goals rw [rounds_succ]
                    all_goals go_wp2
                    all_goals go_ret
                    all_goals exact ⟨ret_bool HB.out, rfl⟩
                  · rcases Int.lt_or_le ((s[m + 1].toNat : Int)) (192) with q1b | q1b
                    · rcases Int.lt_or_le ((s[m + 2].toNat : Int)) (128) with q2 | q2
                      · have HD := vd_bad s m hlt
                        rw [get_at s m hlt] at HD
                        rw [get_at s (m + 1) (by omega)] at HD
                        rw [get_at s (m + 2) (by omega)] at HD
                        rw [get_at s (m + 3) (by omega)] at HD
                        have HB : Hid (false = Lib.validD s.data.toList) := by
                          show _ = _
                          rw [← HV.out]
                          exact (HD (dn_bad (by omega) (by omega) (by omega) (by omega) (by omega))).symm
                        clear HD HV
                        go_wp2
                        refine wp_loop_rounds 2 ?_
                        all_goals rw [rounds_succ]
                        all_goals go_wp2
                        all_goals rw [rounds_succ]
                        all_goals go_wp2
                        all_goals go_ret
                        all_goals exact ⟨ret_bool HB.out, rfl⟩
                      · rcases Int.lt_or_le ((s[m + 2].toNat : Int)) (192) with q2b | q2b
                        · rcases Int.lt_or_le ((s[m + 3].toNat : Int)) (128) with q3 | q3
                          · have HD := vd_bad s m hlt
                            rw [get_at s m hlt] at HD
                            rw [get_at s (m + 1) (by omega)] at HD
                            rw [get_at s (m + 2) (by omega)] at HD
                            rw [get_at s (m + 3) (by omega)] at HD
                            have HB : Hid (false = Lib.validD s.data.toList) := by
                              show _ = _
                              rw [← HV.out]
                              exact (HD (dn_bad (by omega) (by omega) (by omega) (by omega) (by omega))).symm
                            clear HD HV
                            go_wp2
                            refine wp_loop_rounds 3 ?_
                            all_goals rw [rounds_succ]
                            all_goals go_wp2
                            all_goals rw [rounds_succ]
                            all_goals go_wp2
                            all_goals rw [rounds_succ]
                            all_goals go_wp2
                            all_goals go_ret
                            all_goals exact ⟨ret_bool HB.out, rfl⟩
                          · rcases Int.lt_or_le ((s[m + 3].toNat : Int)) (192) with q3b | q3b
                            · rcases Int.lt_or_le (((((s[m].toNat : Int) - 240) * 64 + (s[m + 1].toNat : Int) - 128) * 64 + (s[m + 2].toNat : Int) - 128) * 64 + (s[m + 3].toNat : Int) - 128) (65536) with v1 | v1
                              · have HD := vd_bad s m hlt
                                rw [get_at s m hlt] at HD
                                rw [get_at s (m + 1) (by omega)] at HD
                                rw [get_at s (m + 2) (by omega)] at HD
                                rw [get_at s (m + 3) (by omega)] at HD
                                have HB : Hid (false = Lib.validD s.data.toList) := by
                                  show _ = _
                                  rw [← HV.out]
                                  exact (HD (dn_bad (by omega) (by omega) (by omega) (by omega) (by omega))).symm
                                clear HD HV
                                go_wp2
                                refine wp_loop_rounds 4 ?_
                                all_goals rw [rounds_succ]
                                all_goals go_wp2
                                all_goals rw [rounds_succ]
                                all_goals go_wp2
                                all_goals rw [rounds_succ]
                                all_goals go_wp2
                                all_goals rw [rounds_succ]
                                all_goals go_wp2
                                all_goals go_ret
                                all_goals exact ⟨ret_bool HB.out, rfl⟩
                              · rcases Int.lt_or_le (((((s[m].toNat : Int) - 240) * 64 + (s[m + 1].toNat : Int) - 128) * 64 + (s[m + 2].toNat : Int) - 128) * 64 + (s[m + 3].toNat : Int) - 128) (1114112) with v2 | v2
                                · have HD := fun c => vd_ok s m 4 c hlt
                                  rw [get_at s m hlt] at HD
                                  rw [get_at s (m + 1) (by omega)] at HD
                                  rw [get_at s (m + 2) (by omega)] at HD
                                  rw [get_at s (m + 3) (by omega)] at HD
                                  have HN : Hid (Lib.validD (s.data.toList.drop (m + 4)) = Lib.validD s.data.toList) := by
                                    show _ = _
                                    rw [← HV.out]
                                    exact (dn_4 (by omega) (by omega) (by omega) (by omega) (by omega) (by omega) (by omega) (by omega) (by omega) (by omega) (by omega)).elim fun c hc => HD c (by omega) hc
                                  clear HD HV
                                  go_wp2
                                  refine wp_loop_rounds 4 ?_
                                  all_goals rw [rounds_succ]
                                  all_goals go_wp2
                                  all_goals rw [rounds_succ]
                                  all_goals go_wp2
                                  all_goals rw [rounds_succ]
                                  all_goals go_wp2
                                  all_goals rw [rounds_succ]
                                  all_goals go_wp2
                                  all_goals
                                    go_round
                                    case rel => exact ⟨m + 4, by omega, by go_num, HN.out⟩
                                    case measure => simp [intOf]; omega
                                · have HD := vd_bad s m hlt
                                  rw [get_at s m hlt] at HD
                                  rw [get_at s (m + 1) (by omega)] at HD
                                  rw [get_at s (m + 2) (by omega)] at HD
                                  rw [get_at s (m + 3) (by omega)] at HD
                                  have HB : Hid (false = Lib.validD s.data.toList) := by
                                    show _ = _
                                    rw [← HV.out]
                                    exact (HD (dn_bad (by omega) (by omega) (by omega) (by omega) (by omega))).symm
                                  clear HD HV
                                  go_wp2
                                  refine wp_loop_rounds 4 ?_
                                  all_goals rw [rounds_succ]
                                  all_goals go_wp2
                                  all_goals rw [rounds_succ]
                                  all_goals go_wp2
                                  all_goals rw [rounds_succ]
                                  all_goals go_wp2
                                  all_goals rw [rounds_succ]
                                  all_goals go_wp2
                                  all_goals go_ret
                                  all_goals exact ⟨ret_bool HB.out, rfl⟩
                            · have HD := vd_bad s m hlt
                              rw [get_at s m hlt] at HD
                              rw [get_at s (m + 1) (by omega)] at HD
                              rw [get_at s (m + 2) (by omega)] at HD
                              rw [get_at s (m + 3) (by omega)] at HD
                              have HB : Hid (false = Lib.validD s.data.toList) := by
                                show _ = _
                                rw [← HV.out]
                                exact (HD (dn_bad (by omega) (by omega) (by omega) (by omega) (by omega))).symm
                              clear HD HV
                              go_wp2
                              refine wp_loop_rounds 3 ?_
                              all_goals rw [rounds_succ]
                              all_goals go_wp2
                              all_goals rw [rounds_succ]
                              all_goals go_wp2
                              all_goals rw [rounds_succ]
                              all_goals go_wp2
                              all_goals go_ret
                              all_goals exact ⟨ret_bool HB.out, rfl⟩
                        · have HD := vd_bad s m hlt
                          rw [get_at s m hlt] at HD
                          rw [get_at s (m + 1) (by omega)] at HD
                          rw [get_at s (m + 2) (by omega)] at HD
                          rw [get_at s (m + 3) (by omega)] at HD
                          have HB : Hid (false = Lib.validD s.data.toList) := by
                            show _ = _
                            rw [← HV.out]
                            exact (HD (dn_bad (by omega) (by omega) (by omega) (by omega) (by omega))).symm
                          clear HD HV
                          go_wp2
                          refine wp_loop_rounds 2 ?_
                          all_goals rw [rounds_succ]
                          all_goals go_wp2
                          all_goals rw [rounds_succ]
                          all_goals go_wp2
                          all_goals go_ret
                          all_goals exact ⟨ret_bool HB.out, rfl⟩
                    · have HD := vd_bad s m hlt
                      rw [get_at s m hlt] at HD
                      rw [get_at s (m + 1) (by omega)] at HD
                      rw [get_at s (m + 2) (by omega)] at HD
                      rw [get_at s (m + 3) (by omega)] at HD
                      have HB : Hid (false = Lib.validD s.data.toList) := by
                        show _ = _
                        rw [← HV.out]
                        exact (HD (dn_bad (by omega) (by omega) (by omega) (by omega) (by omega))).symm
                      clear HD HV
                      go_wp2
                      refine wp_loop_rounds 1 ?_
                      all_goals rw [rounds_succ]
                      all_goals go_wp2
                      all_goals go_ret
                      all_goals exact ⟨ret_bool HB.out, rfl⟩
              · have HD := vd_bad s m hlt
                rw [get_at s m hlt] at HD
                have HB : Hid (false = Lib.validD s.data.toList) := by
                  show _ = _
                  rw [← HV.out]
                  exact (HD (dn_bad (by omega) (by omega) (by omega) (by omega) (by omega))).symm
                clear HD HV
                go_wp2
                all_goals go_ret
                all_goals exact ⟨ret_bool HB.out, rfl⟩
    · have HE : Hid (true = Lib.validD s.data.toList) := by
        show _ = _
        rw [← HV.out, List.drop_of_length_le (by rw [← Lib.size_eq]; omega)]
        rfl
      clear HV
      go_wp2
      go_ret
      exact ⟨ret_bool HE.out, rfl⟩
end Go.Proofs.YtjphmbgennadcaaGreatDoor
