/- The reference's kinds: null, num, text, whole, kindOk, alike. -/
import Derived.Test.YtjphmbgennadcaaGreatDoorCom
namespace Go.Proofs.YtjphmbgennadcaaGreatDoor
set_option maxHeartbeats 4000000
set_option maxRecDepth 20000
set_option linter.unusedSimpArgs false
open Go.ChangeShapes Go.WideShapes Go.ChangeAt Go.RowKit

theorem rnull_any (k : Int) (w : World) : Calls Tryz.prog 68 #[.int .i64 k] w fun e w' => e = .returned (.bool (k == 0)) ∧ w' = w := by
  go_enter Tryz.func68, Tryz.ntmps68; go_wp2; go_ret; exact ⟨rfl, rfl⟩
theorem rnum_any (k : Int) (w : World) : Calls Tryz.prog 25 #[.int .i64 k] w fun e w' => e = .returned (.bool (k == 0 || isNum k)) ∧ w' = w := by
  have hN := rnull_any k w
  cases h0 : (k == 0) with
  | true =>
    rw [h0] at hN
    go_enter Tryz.func25, Tryz.ntmps25; go_wp2_with fail
    refine hN.mono ?_
    rintro e w1 ⟨rfl, rfl⟩
    go_wp2; go_ret; exact ⟨rfl, rfl⟩
  | false =>
    rw [h0] at hN
    cases h2 : (k == 2) with
    | true =>
      have HN : Hid (isNum k = true) := by show _ = _; unfold isNum; rw [h2]; rfl
      go_enter Tryz.func25, Tryz.ntmps25; go_wp2_with fail
      refine hN.mono ?_
      rintro e w1 ⟨rfl, rfl⟩
      go_wp2; go_ret; exact ⟨ret_bool (by rw [HN.out]; rfl), rfl⟩
    | false =>
      have HN : Hid (isNum k = (k == 3)) := by show _ = _; unfold isNum; rw [h2]; rfl
      go_enter Tryz.func25, Tryz.ntmps25; go_wp2_with fail
      refine hN.mono ?_
      rintro e w1 ⟨rfl, rfl⟩
      go_wp2; go_ret; exact ⟨ret_bool (by rw [HN.out]; rfl), rfl⟩
theorem rtext_any (k : Int) (w : World) : Calls Tryz.prog 27 #[.int .i64 k] w fun e w' => e = .returned (.bool (k == 0 || isT k)) ∧ w' = w := by
  have hN := rnull_any k w
  unfold isT
  cases h0 : (k == 0) with
  | true =>
    rw [h0] at hN
    go_enter Tryz.func27, Tryz.ntmps27; go_wp2_with fail
    refine hN.mono ?_
    rintro e w1 ⟨rfl, rfl⟩
    go_wp2; go_ret; exact ⟨rfl, rfl⟩
  | false =>
    rw [h0] at hN
    go_enter Tryz.func27, Tryz.ntmps27; go_wp2_with fail
    refine hN.mono ?_
    rintro e w1 ⟨rfl, rfl⟩
    go_wp2; go_ret; exact ⟨rfl, rfl⟩
theorem rwhole_any (k : Int) (w : World) : Calls Tryz.prog 28 #[.int .i64 k] w fun e w' => e = .returned (.bool (k == 0 || isI k)) ∧ w' = w := by
  have hN := rnull_any k w
  unfold isI
  cases h0 : (k == 0) with
  | true =>
    rw [h0] at hN
    go_enter Tryz.func28, Tryz.ntmps28; go_wp2_with fail
    refine hN.mono ?_
    rintro e w1 ⟨rfl, rfl⟩
    go_wp2; go_ret; exact ⟨rfl, rfl⟩
  | false =>
    rw [h0] at hN
    go_enter Tryz.func28, Tryz.ntmps28; go_wp2_with fail
    refine hN.mono ?_
    rintro e w1 ⟨rfl, rfl⟩
    go_wp2; go_ret; exact ⟨rfl, rfl⟩
theorem rkindOk_any (k : Int) (w : World) : Calls Tryz.prog 24 #[.int .i64 k] w fun e w' => e = .returned (.bool (isK k)) ∧ w' = w := by
  unfold isK
  rcases Int.lt_or_le k 0 with h0 | h0
  · rw [decide_eq_false (show ¬ 0 ≤ k by omega)]
    go_enter Tryz.func24, Tryz.ntmps24; go_wp2; go_ret; exact ⟨rfl, rfl⟩
  · rw [decide_eq_true h0, Bool.true_and]
    go_enter Tryz.func24, Tryz.ntmps24; go_wp2; go_ret; exact ⟨rfl, rfl⟩
theorem ralike_some (b off cap : Nat) (l : List Int) (w : World) (hlen : l.length ≤ 9223372036854775807) (hc : ∀ i, i < l.length → w.cell? ⟨b, off + i, none⟩ = some (.int .i64 (l.getD i 0))) :
    Calls Tryz.prog 26 #[.slice (some ⟨b, off, none⟩) l.length cap] w fun e w' => e = .returned (.tuple #[.int .i64 (comG l), .bool (alkB l)]) ∧ w' = w := by
  have HC : Hid _ := hc
  clear hc
  go_enter Tryz.func26, Tryz.ntmps26
  go_wp2
  go_loop [4, 5] (fun k i => ∃ (m : Nat) (q : Int), m ≤ l.length ∧ k = .int .i64 q ∧ i = .int .i64 m ∧ comP q (l.drop m) = comP 0 l) (fun _ i => l.length - (intOf i).toNat)
  case atStart => exact ⟨0, 0, Nat.zero_le _, rfl, rfl, rfl⟩
  case round =>
    obtain ⟨m, q, hm, rfl, rfl, hV⟩ := hrel
    have HV : Hid (comP q (l.drop m) = comP 0 l) := hV
    clear hV
    rcases Nat.lt_or_ge m l.length with hlt | hge
    · have c0 := HC.out m hlt
      have HD : Hid (l.drop m = l.getD m 0 :: l.drop (m + 1)) := dropI hlt
      generalize l.getD m 0 = x at c0 HD
      have hU := rnull_any x w
      have hU2 := rnull_any q w
      by_cases hx : x = 0
      · subst hx
        have HN : Hid (comP q (l.drop (m + 1)) = comP 0 l) := by show _ = _; rw [← HV.out, HD.out, comP]; rfl
        go_wp2_with fail
        refine hU.mono ?_
        rintro e w1 ⟨rfl, rfl⟩
        clear hU hU2
        go_wp2
        go_round
        case rel => exact ⟨m + 1, q, by omega, rfl, by go_num, HN.out⟩
        case measure => simp [intOf]; omega
      · have hx0 : (x == 0) = false := by simpa using hx
        rw [hx0] at hU
        clear hx
        by_cases hq : x = q
        · subst hq
          have HN : Hid (comP x (l.drop (m + 1)) = comP 0 l) := by show _ = _; rw [← HV.out, HD.out, comP, hx0]; simp
          go_wp2_with fail
          refine hU.mono ?_
          rintro e w1 ⟨rfl, rfl⟩
          clear hU hU2
          go_wp2
          go_round
          case rel => exact ⟨m + 1, x, by omega, rfl, by go_num, HN.out⟩
          case measure => simp [intOf]; omega
        · have hxq : (x == q) = false := by simpa using hq
          clear hq
          by_cases hq0 : q = 0
          · subst hq0
            have HN : Hid (comP x (l.drop (m + 1)) = comP 0 l) := by show _ = _; rw [← HV.out, HD.out, comP, hx0]; rfl
            clear hxq
            go_wp2_with fail
            refine hU.mono ?_
            rintro e w1 ⟨rfl, rfl⟩
            go_wp2_with fail
            refine hU2.mono ?_
            rintro e w1 ⟨rfl, rfl⟩
            clear hU hU2
            go_wp2
            go_round
            case rel => exact ⟨m + 1, x, by omega, rfl, by go_num, HN.out⟩
            case measure => simp [intOf]; omega
          · have hq0' : (q == 0) = false := by simpa using hq0
            rw [hq0'] at hU2
            clear hq0
            have hN1 := rnum_any x w
            have hN2 := rnum_any q w
            rw [hx0, Bool.false_or] at hN1
            rw [hq0', Bool.false_or] at hN2
            have HE : Hid (comP q (l.drop m) = if isNum x && isNum q then comP 3 (l.drop (m + 1)) else none) := by show _ = _; rw [HD.out, comP, hx0, hxq, hq0']; rfl
            clear hx0
            generalize isNum x = bx at *
            generalize isNum q = bq at *
            cases bq with
            | false =>
              have HN : Hid (comP 0 l = none) := by show _ = _; rw [← HV.out, HE.out, Bool.and_false]; rfl
              have H1 : Hid (comG l = 0) := by show _ = _; unfold comG; rw [HN.out]; rfl
              have H2 : Hid (alkB l = false) := by show _ = _; unfold alkB; rw [HN.out]; rfl
              go_wp2_with fail
              refine hU.mono ?_
              rintro e w1 ⟨rfl, rfl⟩
              go_wp2_with fail
              refine hU2.mono ?_
              rintro e w1 ⟨rfl, rfl⟩
              go_wp2_with fail
              refine hN2.mono ?_
              rintro e w1 ⟨rfl, rfl⟩
              go_wp2
              go_ret2
              exact ⟨ret_ib H1.out.symm H2.out.symm, rfl⟩
            | true =>
              cases bx with
              | false =>
                have HN : Hid (comP 0 l = none) := by show _ = _; rw [← HV.out, HE.out]; rfl
                have H1 : Hid (comG l = 0) := by show _ = _; unfold comG; rw [HN.out]; rfl
                have H2 : Hid (alkB l = false) := by show _ = _; unfold alkB; rw [HN.out]; rfl
                go_wp2_with fail
                refine hU.mono ?_
                rintro e w1 ⟨rfl, rfl⟩
                go_wp2_with fail
                refine hU2.mono ?_
                rintro e w1 ⟨rfl, rfl⟩
                go_wp2_with fail
                refine hN2.mono ?_
                rintro e w1 ⟨rfl, rfl⟩
                go_wp2_with fail
                refine hN1.mono ?_
                rintro e w1 ⟨rfl, rfl⟩
                go_wp2
                go_ret2
                exact ⟨ret_ib H1.out.symm H2.out.symm, rfl⟩
              | true =>
                have HN : Hid (comP 3 (l.drop (m + 1)) = comP 0 l) := by show _ = _; rw [← HV.out, HE.out]; rfl
                go_wp2_with fail
                refine hU.mono ?_
                rintro e w1 ⟨rfl, rfl⟩
                go_wp2_with fail
                refine hU2.mono ?_
                rintro e w1 ⟨rfl, rfl⟩
                go_wp2_with fail
                refine hN2.mono ?_
                rintro e w1 ⟨rfl, rfl⟩
                go_wp2_with fail
                refine hN1.mono ?_
                rintro e w1 ⟨rfl, rfl⟩
                clear hU hU2 hN1 hN2
                go_wp2
                go_round
                case rel => exact ⟨m + 1, 3, by omega, rfl, by go_num, HN.out⟩
                case measure => simp [intOf]; omega
    · obtain rfl : m = l.length := by omega
      have HN : Hid (comP 0 l = some q) := by show _ = _; rw [← HV.out, List.drop_length]; rfl
      have H1 : Hid (comG l = q) := by show _ = _; unfold comG; rw [HN.out]; rfl
      have H2 : Hid (alkB l = true) := by show _ = _; unfold alkB; rw [HN.out]; rfl
      go_wp2
      go_ret2
      exact ⟨ret_ib H1.out.symm H2.out.symm, rfl⟩
theorem ralike_none (a : Option Addr) (cap : Nat) (w : World) : Calls Tryz.prog 26 #[.slice a 0 cap] w fun e w' => e = .returned (.tuple #[.int .i64 0, .bool true]) ∧ w' = w := by
  go_enter Tryz.func26, Tryz.ntmps26
  go_wp2
  refine wp_loop_rounds 1 ?_
  rw [rounds_succ]
  go_wp2
  go_ret2
  exact ⟨rfl, rfl⟩
theorem ralike_any (a : Option Addr) (cap : Nat) (l : List Int) (w : World) (hlen : l.length ≤ 9223372036854775807) (hk : KsAt w a l) :
    Calls Tryz.prog 26 #[.slice a l.length cap] w fun e w' => e = .returned (.tuple #[.int .i64 (comG l), .bool (alkB l)]) ∧ w' = w := by
  rcases hk with h0 | ⟨b, off, rfl, hc⟩
  · obtain rfl : l = [] := List.length_eq_zero_iff.1 h0
    exact ralike_none a cap w
  · exact ralike_some b off cap l w hlen hc
end Go.Proofs.YtjphmbgennadcaaGreatDoor
