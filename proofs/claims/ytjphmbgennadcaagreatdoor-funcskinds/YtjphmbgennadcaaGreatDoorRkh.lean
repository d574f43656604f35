/- The reference's Kind: no name. -/
import Derived.Test.YtjphmbgennadcaaGreatDoorRkb
namespace Go.Proofs.YtjphmbgennadcaaGreatDoor
set_option maxHeartbeats 4000000
set_option maxRecDepth 20000
set_option linter.unusedSimpArgs false
open Go.ChangeShapes Go.WideShapes Go.ChangeAt Go.RowKit

theorem rk_none (s : ByteArray) (a : Option Addr) (cap : Nat) (l : List Int) (w : World) (hlen : l.length ≤ 9223372036854775807) (hk : KsAt w a l) (hA : areK l = true)
    (g0 : (s.toList == [97, 98, 115]) = false) (g1 : (s.toList == [99, 101, 105, 108]) = false) (g2 : (s.toList == [99, 111, 97, 108, 101, 115, 99, 101]) = false) (g3 : (s.toList == [99, 111, 110, 99, 97, 116]) = false) (g4 : (s.toList == [102, 108, 111, 111, 114]) = false) (g5 : (s.toList == [103, 114, 101, 97, 116, 101, 115, 116]) = false) (g6 : (s.toList == [108, 101, 97, 115, 116]) = false) (g7 : (s.toList == [108, 101, 110, 103, 116, 104]) = false) (g8 : (s.toList == [108, 111, 119, 101, 114]) = false) (g9 : (s.toList == [110, 117, 108, 108, 105, 102]) = false) (g10 : (s.toList == [114, 111, 117, 110, 100]) = false) (g11 : (s.toList == [115, 105, 103, 110]) = false) (g12 : (s.toList == [115, 117, 98, 115, 116, 114]) = false) (g13 : (s.toList == [116, 111, 100, 101, 99]) = false) (g14 : (s.toList == [116, 111, 105, 110, 116]) = false) (g15 : (s.toList == [116, 111, 116, 101, 120, 116]) = false) (g16 : (s.toList == [116, 114, 105, 109]) = false) (g17 : (s.toList == [117, 112, 112, 101, 114]) = false) :
    Calls Tryz.prog 11 #[.string s, .slice a l.length cap] w fun e w' => e = .returned (.tuple #[.int .i64 0, .int .i64 100]) ∧ Below w.heap.size w w' := by
  have HK : Hid (KsAt w a l) := hk
  have HX : Hid _ := fun i hi => areK_at hA i hi
  clear hk hA
  go_enter Tryz.func11, Tryz.ntmps11
  go_wp2
  go_loop [7] (fun i => ∃ (m : Nat), m ≤ l.length ∧ i = .int .i64 m) (fun i => l.length - (intOf i).toNat)
  case atStart => exact ⟨0, Nat.zero_le _, rfl⟩
  case round =>
    obtain ⟨m, hm, rfl⟩ := hrel
    rcases Nat.lt_or_ge m l.length with hlt | hge
    · obtain ⟨b, off, rfl, hc⟩ := ks_cells HK.out (by omega)
      have c0 := hc m hlt
      have hQ := rkindOk_any (l.getD m 0) w
      rw [HX.out m hlt] at hQ
      generalize l.getD m 0 = x at c0 hQ
      clear hc g0 g1 g2 g3 g4 g5 g6 g7 g8 g9 g10 g11 g12 g13 g14 g15 g16 g17
      go_wp2_with fail
      refine hQ.mono ?_
      rintro e w1 ⟨rfl, rfl⟩
      clear hQ
      go_wp2
      go_round
      case rel => exact ⟨m + 1, by omega, by go_num⟩
      case measure => simp [intOf]; omega
    · obtain rfl : m = l.length := by omega
      clear HK HX
      go_wp2
      go_ret2
      exact ⟨rfl, Below.refl _ _⟩
end Go.Proofs.YtjphmbgennadcaaGreatDoor
