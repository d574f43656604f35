/- The reference's Kind: no kinds. -/
import Derived.Test.YtjphmbgennadcaaGreatDoorRkb
namespace Go.Proofs.YtjphmbgennadcaaGreatDoor
set_option maxHeartbeats 4000000
set_option maxRecDepth 20000
set_option linter.unusedSimpArgs false
open Go.ChangeShapes Go.WideShapes Go.ChangeAt Go.RowKit

theorem rk_bad (s : ByteArray) (a : Option Addr) (cap : Nat) (l : List Int) (w : World) (hlen : l.length ≤ 9223372036854775807) (hk : KsAt w a l) (hA : areK l = false) :
    Calls Tryz.prog 11 #[.string s, .slice a l.length cap] w fun e w' => e = .returned (.tuple #[.int .i64 0, .int .i64 100]) ∧ Below w.heap.size w w' := by
  have HK : Hid (KsAt w a l) := hk
  clear hk
  go_enter Tryz.func11, Tryz.ntmps11
  go_wp2
  go_loop [7] (fun i => ∃ (m : Nat), m ≤ l.length ∧ i = .int .i64 m ∧ areK (l.drop m) = false) (fun i => l.length - (intOf i).toNat)
  case atStart => exact ⟨0, Nat.zero_le _, rfl, hA⟩
  case round =>
    obtain ⟨m, hm, rfl, hV⟩ := hrel
    rcases Nat.lt_or_ge m l.length with hlt | hge
    · obtain ⟨b, off, rfl, hc⟩ := ks_cells HK.out (by omega)
      have c0 := hc m hlt
      have hQ := rkindOk_any (l.getD m 0) w
      rw [dropI hlt] at hV
      generalize l.getD m 0 = x at c0 hQ hV
      have HV : Hid ((isK x && areK (l.drop (m + 1))) = false) := hV
      generalize isK x = bx at *
      clear hc hV hA
      cases bx with
      | false =>
        go_wp2_with fail
        refine hQ.mono ?_
        rintro e w1 ⟨rfl, rfl⟩
        go_wp2
        go_ret2
        exact ⟨rfl, Below.refl _ _⟩
      | true =>
        go_wp2_with fail
        refine hQ.mono ?_
        rintro e w1 ⟨rfl, rfl⟩
        clear hQ
        go_wp2
        go_round
        case rel => exact ⟨m + 1, by omega, by go_num, HV.out⟩
        case measure => simp [intOf]; omega
    · rw [List.drop_eq_nil_of_le hge] at hV; cases hV
end Go.Proofs.YtjphmbgennadcaaGreatDoor
