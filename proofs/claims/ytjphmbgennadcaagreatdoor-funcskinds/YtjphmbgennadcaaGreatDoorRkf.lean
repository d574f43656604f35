/- The reference's Kind: concat. -/
import Derived.Test.YtjphmbgennadcaaGreatDoorRkb
namespace Go.Proofs.YtjphmbgennadcaaGreatDoor
set_option maxHeartbeats 4000000
set_option maxRecDepth 20000
set_option linter.unusedSimpArgs false
open Go.ChangeShapes Go.WideShapes Go.ChangeAt Go.RowKit

theorem rk_con0 (a : Option Addr) (cap : Nat) (w : World) :
    Calls Tryz.prog 11 #[.string ⟨#[99, 111, 110, 99, 97, 116]⟩, .slice a 0 cap] w fun e w' => e = .returned (.tuple #[.int .i64 0, .int .i64 100]) ∧ Below w.heap.size w w' := by
  have g0 : ((⟨#[99, 111, 110, 99, 97, 116]⟩ : ByteArray).toList == (⟨#[97, 98, 115]⟩ : ByteArray).toList) = false := by kernel_rfl
  have g1 : ((⟨#[99, 111, 110, 99, 97, 116]⟩ : ByteArray).toList == (⟨#[99, 101, 105, 108]⟩ : ByteArray).toList) = false := by kernel_rfl
  have g2 : ((⟨#[99, 111, 110, 99, 97, 116]⟩ : ByteArray).toList == (⟨#[99, 111, 97, 108, 101, 115, 99, 101]⟩ : ByteArray).toList) = false := by kernel_rfl
  have g3 : ((⟨#[99, 111, 110, 99, 97, 116]⟩ : ByteArray).toList == (⟨#[99, 111, 110, 99, 97, 116]⟩ : ByteArray).toList) = true := by kernel_rfl
  have g4 : ((⟨#[99, 111, 110, 99, 97, 116]⟩ : ByteArray).toList == (⟨#[102, 108, 111, 111, 114]⟩ : ByteArray).toList) = false := by kernel_rfl
  have g5 : ((⟨#[99, 111, 110, 99, 97, 116]⟩ : ByteArray).toList == (⟨#[103, 114, 101, 97, 116, 101, 115, 116]⟩ : ByteArray).toList) = false := by kernel_rfl
  have g6 : ((⟨#[99, 111, 110, 99, 97, 116]⟩ : ByteArray).toList == (⟨#[108, 101, 97, 115, 116]⟩ : ByteArray).toList) = false := by kernel_rfl
  have g7 : ((⟨#[99, 111, 110, 99, 97, 116]⟩ : ByteArray).toList == (⟨#[108, 101, 110, 103, 116, 104]⟩ : ByteArray).toList) = false := by kernel_rfl
  have g8 : ((⟨#[99, 111, 110, 99, 97, 116]⟩ : ByteArray).toList == (⟨#[108, 111, 119, 101, 114]⟩ : ByteArray).toList) = false := by kernel_rfl
  have g9 : ((⟨#[99, 111, 110, 99, 97, 116]⟩ : ByteArray).toList == (⟨#[110, 117, 108, 108, 105, 102]⟩ : ByteArray).toList) = false := by kernel_rfl
  have g10 : ((⟨#[99, 111, 110, 99, 97, 116]⟩ : ByteArray).toList == (⟨#[114, 111, 117, 110, 100]⟩ : ByteArray).toList) = false := by kernel_rfl
  have g11 : ((⟨#[99, 111, 110, 99, 97, 116]⟩ : ByteArray).toList == (⟨#[115, 105, 103, 110]⟩ : ByteArray).toList) = false := by kernel_rfl
  have g12 : ((⟨#[99, 111, 110, 99, 97, 116]⟩ : ByteArray).toList == (⟨#[115, 117, 98, 115, 116, 114]⟩ : ByteArray).toList) = false := by kernel_rfl
  have g13 : ((⟨#[99, 111, 110, 99, 97, 116]⟩ : ByteArray).toList == (⟨#[116, 111, 100, 101, 99]⟩ : ByteArray).toList) = false := by kernel_rfl
  have g14 : ((⟨#[99, 111, 110, 99, 97, 116]⟩ : ByteArray).toList == (⟨#[116, 111, 105, 110, 116]⟩ : ByteArray).toList) = false := by kernel_rfl
  have g15 : ((⟨#[99, 111, 110, 99, 97, 116]⟩ : ByteArray).toList == (⟨#[116, 111, 116, 101, 120, 116]⟩ : ByteArray).toList) = false := by kernel_rfl
  have g16 : ((⟨#[99, 111, 110, 99, 97, 116]⟩ : ByteArray).toList == (⟨#[116, 114, 105, 109]⟩ : ByteArray).toList) = false := by kernel_rfl
  have g17 : ((⟨#[99, 111, 110, 99, 97, 116]⟩ : ByteArray).toList == (⟨#[117, 112, 112, 101, 114]⟩ : ByteArray).toList) = false := by kernel_rfl
  go_enter Tryz.func11, Tryz.ntmps11
  go_wp2
  refine wp_loop_rounds 1 ?_
  rw [rounds_succ]
  go_wp2
  refine wp_loop_rounds 1 ?_
  rw [rounds_succ]
  go_wp2
  go_ret2
  exact ⟨rfl, Below.refl _ _⟩
theorem and_ff {p q : Bool} (h : (false && p) = q) : q = false := by rw [← h]; rfl
theorem rk_con3 (a : Option Addr) (cap : Nat) (l : List Int) (w : World) (hlen : l.length ≤ 9223372036854775807) (hk : KsAt w a l) (hA : areK l = true) (hn : decide ((1 : Int) ≤ (l.length : Int)) = true) (P : Bool) (hP : allK isT l = P) :
    Calls Tryz.prog 11 #[.string ⟨#[99, 111, 110, 99, 97, 116]⟩, .slice a l.length cap] w fun e w' => e = .returned (.tuple #[.int .i64 (if P then 4 else 0), .int .i64 (if P then 0 else 100)]) ∧ Below w.heap.size w w' := by
  have HK : Hid (KsAt w a l) := hk
  have HX : Hid _ := fun i hi => areK_at hA i hi
  clear hk hA
  have g0 : ((⟨#[99, 111, 110, 99, 97, 116]⟩ : ByteArray).toList == (⟨#[97, 98, 115]⟩ : ByteArray).toList) = false := by kernel_rfl
  have g1 : ((⟨#[99, 111, 110, 99, 97, 116]⟩ : ByteArray).toList == (⟨#[99, 101, 105, 108]⟩ : ByteArray).toList) = false := by kernel_rfl
  have g2 : ((⟨#[99, 111, 110, 99, 97, 116]⟩ : ByteArray).toList == (⟨#[99, 111, 97, 108, 101, 115, 99, 101]⟩ : ByteArray).toList) = false := by kernel_rfl
  have g3 : ((⟨#[99, 111, 110, 99, 97, 116]⟩ : ByteArray).toList == (⟨#[99, 111, 110, 99, 97, 116]⟩ : ByteArray).toList) = true := by kernel_rfl
  have g4 : ((⟨#[99, 111, 110, 99, 97, 116]⟩ : ByteArray).toList == (⟨#[102, 108, 111, 111, 114]⟩ : ByteArray).toList) = false := by kernel_rfl
  have g5 : ((⟨#[99, 111, 110, 99, 97, 116]⟩ : ByteArray).toList == (⟨#[103, 114, 101, 97, 116, 101, 115, 116]⟩ : ByteArray).toList) = false := by kernel_rfl
  have g6 : ((⟨#[99, 111, 110, 99, 97, 116]⟩ : ByteArray).toList == (⟨#[108, 101, 97, 115, 116]⟩ : ByteArray).toList) = false := by kernel_rfl
  have g7 : ((⟨#[99, 111, 110, 99, 97, 116]⟩ : ByteArray).toList == (⟨#[108, 101, 110, 103, 116, 104]⟩ : ByteArray).toList) = false := by kernel_rfl
  have g8 : ((⟨#[99, 111, 110, 99, 97, 116]⟩ : ByteArray).toList == (⟨#[108, 111, 119, 101, 114]⟩ : ByteArray).toList) = false := by kernel_rfl
  have g9 : ((⟨#[99, 111, 110, 99, 97, 116]⟩ : ByteArray).toList == (⟨#[110, 117, 108, 108, 105, 102]⟩ : ByteArray).toList) = false := by kernel_rfl
  have g10 : ((⟨#[99, 111, 110, 99, 97, 116]⟩ : ByteArray).toList == (⟨#[114, 111, 117, 110, 100]⟩ : ByteArray).toList) = false := by kernel_rfl
  have g11 : ((⟨#[99, 111, 110, 99, 97, 116]⟩ : ByteArray).toList == (⟨#[115, 105, 103, 110]⟩ : ByteArray).toList) = false := by kernel_rfl
  have g12 : ((⟨#[99, 111, 110, 99, 97, 116]⟩ : ByteArray).toList == (⟨#[115, 117, 98, 115, 116, 114]⟩ : ByteArray).toList) = false := by kernel_rfl
  have g13 : ((⟨#[99, 111, 110, 99, 97, 116]⟩ : ByteArray).toList == (⟨#[116, 111, 100, 101, 99]⟩ : ByteArray).toList) = false := by kernel_rfl
  have g14 : ((⟨#[99, 111, 110, 99, 97, 116]⟩ : ByteArray).toList == (⟨#[116, 111, 105, 110, 116]⟩ : ByteArray).toList) = false := by kernel_rfl
  have g15 : ((⟨#[99, 111, 110, 99, 97, 116]⟩ : ByteArray).toList == (⟨#[116, 111, 116, 101, 120, 116]⟩ : ByteArray).toList) = false := by kernel_rfl
  have g16 : ((⟨#[99, 111, 110, 99, 97, 116]⟩ : ByteArray).toList == (⟨#[116, 114, 105, 109]⟩ : ByteArray).toList) = false := by kernel_rfl
  have g17 : ((⟨#[99, 111, 110, 99, 97, 116]⟩ : ByteArray).toList == (⟨#[117, 112, 112, 101, 114]⟩ : ByteArray).toList) = false := by kernel_rfl
  go_enter Tryz.func11, Tryz.ntmps11
  go_wp2
  go_loop [7] (fun i => ∃ (m : Nat), m ≤ l.length ∧ i = .int .i64 m) (fun i => l.length - (intOf i).toNat)
  case atStart => exact ⟨0, Nat.zero_le _, rfl⟩
  case round =>
    obtain ⟨m, hm, rfl⟩ := hrel
    rcases Nat.lt_or_ge m l.length with hlt | hge
    · obtain ⟨b, off, rfl, hc⟩ := ks_cells HK.out (by omega)
      have c0 := hc m hlt
      have hQ := rkindOk_any (l.getD m 0) w
      rw [HX.out m hlt] at hQ
      generalize l.getD m 0 = x at c0 hQ
      clear hc g0 g1 g2 g3 g4 g5 g6 g7 g8 g9 g10 g11 g12 g13 g14 g15 g16 g17
      go_wp2_with fail
      refine hQ.mono ?_
      rintro e w1 ⟨rfl, rfl⟩
      clear hQ
      go_wp2
      go_round
      case rel => exact ⟨m + 1, by omega, by go_num⟩
      case measure => simp [intOf]; omega
    · obtain rfl : m = l.length := by omega
      clear HX
      go_wp2
      go_loop [8, 10] (fun o i => ∃ (m : Nat) (v : Bool), m ≤ l.length ∧ o = .bool v ∧ i = .int .i64 m ∧ (v && allK isT (l.drop m)) = P) (fun _ i => l.length - (intOf i).toNat)
      case atStart => exact ⟨0, true, Nat.zero_le _, rfl, rfl, hP⟩
      case round =>
        obtain ⟨m, v, hm, rfl, rfl, hV⟩ := hrel
        have HV : Hid ((v && allK isT (l.drop m)) = P) := hV
        clear hV hP
        rcases Nat.lt_or_ge m l.length with hlt | hge
        · obtain ⟨b, off, rfl, hc⟩ := ks_cells HK.out (by omega)
          have c0 := hc m hlt
          have HD : Hid (l.drop m = l.getD m 0 :: l.drop (m + 1)) := dropI hlt
          have hQ := rtext_any (l.getD m 0) w
          generalize l.getD m 0 = x at c0 hQ HD
          clear hc
          cases v with
          | false =>
            have HN : Hid ((false && allK isT (l.drop (m + 1))) = P) := (and_ff HV.out).symm
            clear hQ
            go_wp2
            go_round
            case rel => exact ⟨m + 1, false, by omega, rfl, by go_num, HN.out⟩
            case measure => simp [intOf]; omega
          | true =>
            have HN : Hid (((x == 0 || isT x) && allK isT (l.drop (m + 1))) = P) := by show _ = _; rw [← HV.out, HD.out]; rfl
            generalize (x == 0 || isT x) = bx at *
            go_wp2_with fail
            refine hQ.mono ?_
            rintro e w1 ⟨rfl, rfl⟩
            clear hQ
            go_wp2
            go_round
            case rel => exact ⟨m + 1, bx, by omega, rfl, by go_num, HN.out⟩
            case measure => simp [intOf]; omega
        · obtain rfl : m = l.length := by omega
          have HN : Hid (v = P) := by show _ = _; rw [← HV.out, List.drop_length]; cases v <;> rfl
          obtain rfl := HN.out
          clear HN HV HK
          cases v
          all_goals
            go_wp2
            go_ret2
            exact ⟨rfl, Below.refl _ _⟩
end Go.Proofs.YtjphmbgennadcaaGreatDoor
