/- The reference's Kind: too few, too many. -/
import Derived.Test.YtjphmbgennadcaaGreatDoorRka
import Derived.Test.YtjphmbgennadcaaGreatDoorKin
namespace Go.Proofs.YtjphmbgennadcaaGreatDoor
set_option maxHeartbeats 4000000
set_option maxRecDepth 20000
set_option linter.unusedSimpArgs false
open Go.ChangeShapes Go.WideShapes Go.ChangeAt Go.RowKit

theorem ks_cells {w : World} {a : Option Addr} {l : List Int} (h : KsAt w a l) (h0 : 0 < l.length) : ∃ b off, a = some ⟨b, off, none⟩ ∧ ∀ i, i < l.length → w.cell? ⟨b, off + i, none⟩ = some (.int .i64 (l.getD i 0)) := by
  rcases h with h | h
  · omega
  · exact h
theorem areK_at {l : List Int} (h : areK l = true) (i : Nat) (hi : i < l.length) : isK (l.getD i 0) = true := by
  rw [List.getD_eq_getElem?_getD, List.getElem?_eq_getElem hi]
  exact List.all_eq_true.1 h _ (List.getElem_mem hi)
theorem rk_no0 (a : Option Addr) (cap : Nat) (l : List Int) (w : World) (hlen : l.length ≤ 9223372036854775807) (hk : KsAt w a l) (hA : areK l = true) (hn : ((l.length : Int) == 1) = false) :
    Calls Tryz.prog 11 #[.string ⟨#[97, 98, 115]⟩, .slice a l.length cap] w fun e w' => e = .returned (.tuple #[.int .i64 0, .int .i64 100]) ∧ Below w.heap.size w w' := by
  have HK : Hid (KsAt w a l) := hk
  have HX : Hid _ := fun i hi => areK_at hA i hi
  clear hk hA
  have g0 : ((⟨#[97, 98, 115]⟩ : ByteArray).toList == (⟨#[97, 98, 115]⟩ : ByteArray).toList) = true := by kernel_rfl
  have g1 : ((⟨#[97, 98, 115]⟩ : ByteArray).toList == (⟨#[99, 101, 105, 108]⟩ : ByteArray).toList) = false := by kernel_rfl
  have g2 : ((⟨#[97, 98, 115]⟩ : ByteArray).toList == (⟨#[99, 111, 97, 108, 101, 115, 99, 101]⟩ : ByteArray).toList) = false := by kernel_rfl
  have g3 : ((⟨#[97, 98, 115]⟩ : ByteArray).toList == (⟨#[99, 111, 110, 99, 97, 116]⟩ : ByteArray).toList) = false := by kernel_rfl
  have g4 : ((⟨#[97, 98, 115]⟩ : ByteArray).toList == (⟨#[102, 108, 111, 111, 114]⟩ : ByteArray).toList) = false := by kernel_rfl
  have g5 : ((⟨#[97, 98, 115]⟩ : ByteArray).toList == (⟨#[103, 114, 101, 97, 116, 101, 115, 116]⟩ : ByteArray).toList) = false := by kernel_rfl
  have g6 : ((⟨#[97, 98, 115]⟩ : ByteArray).toList == (⟨#[108, 101, 97, 115, 116]⟩ : ByteArray).toList) = false := by kernel_rfl
  have g7 : ((⟨#[97, 98, 115]⟩ : ByteArray).toList == (⟨#[108, 101, 110, 103, 116, 104]⟩ : ByteArray).toList) = false := by kernel_rfl
  have g8 : ((⟨#[97, 98, 115]⟩ : ByteArray).toList == (⟨#[108, 111, 119, 101, 114]⟩ : ByteArray).toList) = false := by kernel_rfl
  have g9 : ((⟨#[97, 98, 115]⟩ : ByteArray).toList == (⟨#[110, 117, 108, 108, 105, 102]⟩ : ByteArray).toList) = false := by kernel_rfl
  have g10 : ((⟨#[97, 98, 115]⟩ : ByteArray).toList == (⟨#[114, 111, 117, 110, 100]⟩ : ByteArray).toList) = false := by kernel_rfl
  have g11 : ((⟨#[97, 98, 115]⟩ : ByteArray).toList == (⟨#[115, 105, 103, 110]⟩ : ByteArray).toList) = false := by kernel_rfl
  have g12 : ((⟨#[97, 98, 115]⟩ : ByteArray).toList == (⟨#[115, 117, 98, 115, 116, 114]⟩ : ByteArray).toList) = false := by kernel_rfl
  have g13 : ((⟨#[97, 98, 115]⟩ : ByteArray).toList == (⟨#[116, 111, 100, 101, 99]⟩ : ByteArray).toList) = false := by kernel_rfl
  have g14 : ((⟨#[97, 98, 115]⟩ : ByteArray).toList == (⟨#[116, 111, 105, 110, 116]⟩ : ByteArray).toList) = false := by kernel_rfl
  have g15 : ((⟨#[97, 98, 115]⟩ : ByteArray).toList == (⟨#[116, 111, 116, 101, 120, 116]⟩ : ByteArray).toList) = false := by kernel_rfl
  have g16 : ((⟨#[97, 98, 115]⟩ : ByteArray).toList == (⟨#[116, 114, 105, 109]⟩ : ByteArray).toList) = false := by kernel_rfl
  have g17 : ((⟨#[97, 98, 115]⟩ : ByteArray).toList == (⟨#[117, 112, 112, 101, 114]⟩ : ByteArray).toList) = false := by kernel_rfl
  go_enter Tryz.func11, Tryz.ntmps11
  go_wp2
  go_loop [7] (fun i => ∃ (m : Nat), m ≤ l.length ∧ i = .int .i64 m) (fun i => l.length - (intOf i).toNat)
  case atStart => exact ⟨0, Nat.zero_le _, rfl⟩
  case round =>
    obtain ⟨m, hm, rfl⟩ := hrel
    rcases Nat.lt_or_ge m l.length with hlt | hge
    · obtain ⟨b, off, rfl, hc⟩ := ks_cells HK.out (by omega)
      have c0 := hc m hlt
      have hQ := rkindOk_any (l.getD m 0) w
      rw [HX.out m hlt] at hQ
      generalize l.getD m 0 = x at c0 hQ
      clear hc g0 g1 g2 g3 g4 g5 g6 g7 g8 g9 g10 g11 g12 g13 g14 g15 g16 g17
      go_wp2_with fail
      refine hQ.mono ?_
      rintro e w1 ⟨rfl, rfl⟩
      clear hQ
      go_wp2
      go_round
      case rel => exact ⟨m + 1, by omega, by go_num⟩
      case measure => simp [intOf]; omega
    · obtain rfl : m = l.length := by omega
      clear HK HX
      go_wp2
      go_ret2
      exact ⟨rfl, Below.refl _ _⟩
theorem rk_no1 (a : Option Addr) (cap : Nat) (l : List Int) (w : World) (hlen : l.length ≤ 9223372036854775807) (hk : KsAt w a l) (hA : areK l = true) (hn : ((l.length : Int) == 1) = false) :
    Calls Tryz.prog 11 #[.string ⟨#[99, 101, 105, 108]⟩, .slice a l.length cap] w fun e w' => e = .returned (.tuple #[.int .i64 0, .int .i64 100]) ∧ Below w.heap.size w w' := by
  have HK : Hid (KsAt w a l) := hk
  have HX : Hid _ := fun i hi => areK_at hA i hi
  clear hk hA
  have g0 : ((⟨#[99, 101, 105, 108]⟩ : ByteArray).toList == (⟨#[97, 98, 115]⟩ : ByteArray).toList) = false := by kernel_rfl
  have g1 : ((⟨#[99, 101, 105, 108]⟩ : ByteArray).toList == (⟨#[99, 101, 105, 108]⟩ : ByteArray).toList) = true := by kernel_rfl
  have g2 : ((⟨#[99, 101, 105, 108]⟩ : ByteArray).toList == (⟨#[99, 111, 97, 108, 101, 115, 99, 101]⟩ : ByteArray).toList) = false := by kernel_rfl
  have g3 : ((⟨#[99, 101, 105, 108]⟩ : ByteArray).toList == (⟨#[99, 111, 110, 99, 97, 116]⟩ : ByteArray).toList) = false := by kernel_rfl
  have g4 : ((⟨#[99, 101, 105, 108]⟩ : ByteArray).toList == (⟨#[102, 108, 111, 111, 114]⟩ : ByteArray).toList) = false := by kernel_rfl
  have g5 : ((⟨#[99, 101, 105, 108]⟩ : ByteArray).toList == (⟨#[103, 114, 101, 97, 116, 101, 115, 116]⟩ : ByteArray).toList) = false := by kernel_rfl
  have g6 : ((⟨#[99, 101, 105, 108]⟩ : ByteArray).toList == (⟨#[108, 101, 97, 115, 116]⟩ : ByteArray).toList) = false := by kernel_rfl
  have g7 : ((⟨#[99, 101, 105, 108]⟩ : ByteArray).toList == (⟨#[108, 101, 110, 103, 116, 104]⟩ : ByteArray).toList) = false := by kernel_rfl
  have g8 : ((⟨#[99, 101, 105, 108]⟩ : ByteArray).toList == (⟨#[108, 111, 119, 101, 114]⟩ : ByteArray).toList) = false := by kernel_rfl
  have g9 : ((⟨#[99, 101, 105, 108]⟩ : ByteArray).toList == (⟨#[110, 117, 108, 108, 105, 102]⟩ : ByteArray).toList) = false := by kernel_rfl
  have g10 : ((⟨#[99, 101, 105, 108]⟩ : ByteArray).toList == (⟨#[114, 111, 117, 110, 100]⟩ : ByteArray).toList) = false := by kernel_rfl
  have g11 : ((⟨#[99, 101, 105, 108]⟩ : ByteArray).toList == (⟨#[115, 105, 103, 110]⟩ : ByteArray).toList) = false := by kernel_rfl
  have g12 : ((⟨#[99, 101, 105, 108]⟩ : ByteArray).toList == (⟨#[115, 117, 98, 115, 116, 114]⟩ : ByteArray).toList) = false := by kernel_rfl
  have g13 : ((⟨#[99, 101, 105, 108]⟩ : ByteArray).toList == (⟨#[116, 111, 100, 101, 99]⟩ : ByteArray).toList) = false := by kernel_rfl
  have g14 : ((⟨#[99, 101, 105, 108]⟩ : ByteArray).toList == (⟨#[116, 111, 105, 110, 116]⟩ : ByteArray).toList) = false := by kernel_rfl
  have g15 : ((⟨#[99, 101, 105, 108]⟩ : ByteArray).toList == (⟨#[116, 111, 116, 101, 120, 116]⟩ : ByteArray).toList) = false := by kernel_rfl
  have g16 : ((⟨#[99, 101, 105, 108]⟩ : ByteArray).toList == (⟨#[116, 114, 105, 109]⟩ : ByteArray).toList) = false := by kernel_rfl
  have g17 : ((⟨#[99, 101, 105, 108]⟩ : ByteArray).toList == (⟨#[117, 112, 112, 101, 114]⟩ : ByteArray).toList) = false := by kernel_rfl
  go_enter Tryz.func11, Tryz.ntmps11
  go_wp2
  go_loop [7] (fun i => ∃ (m : Nat), m ≤ l.length ∧ i = .int .i64 m) (fun i => l.length - (intOf i).toNat)
  case atStart => exact ⟨0, Nat.zero_le _, rfl⟩
  case round =>
    obtain ⟨m, hm, rfl⟩ := hrel
    rcases Nat.lt_or_ge m l.length with hlt | hge
    · obtain ⟨b, off, rfl, hc⟩ := ks_cells HK.out (by omega)
      have c0 := hc m hlt
      have hQ := rkindOk_any (l.getD m 0) w
      rw [HX.out m hlt] at hQ
      generalize l.getD m 0 = x at c0 hQ
      clear hc g0 g1 g2 g3 g4 g5 g6 g7 g8 g9 g10 g11 g12 g13 g14 g15 g16 g17
      go_wp2_with fail
      refine hQ.mono ?_
      rintro e w1 ⟨rfl, rfl⟩
      clear hQ
      go_wp2
      go_round
      case rel => exact ⟨m + 1, by omega, by go_num⟩
      case measure => simp [intOf]; omega
    · obtain rfl : m = l.length := by omega
      clear HK HX
      go_wp2
      go_ret2
      exact ⟨rfl, Below.refl _ _⟩
theorem rk_no4 (a : Option Addr) (cap : Nat) (l : List Int) (w : World) (hlen : l.length ≤ 9223372036854775807) (hk : KsAt w a l) (hA : areK l = true) (hn : ((l.length : Int) == 1) = false) :
    Calls Tryz.prog 11 #[.string ⟨#[102, 108, 111, 111, 114]⟩, .slice a l.length cap] w fun e w' => e = .returned (.tuple #[.int .i64 0, .int .i64 100]) ∧ Below w.heap.size w w' := by
  have HK : Hid (KsAt w a l) := hk
  have HX : Hid _ := fun i hi => areK_at hA i hi
  clear hk hA
  have g0 : ((⟨#[102, 108, 111, 111, 114]⟩ : ByteArray).toList == (⟨#[97, 98, 115]⟩ : ByteArray).toList) = false := by kernel_rfl
  have g1 : ((⟨#[102, 108, 111, 111, 114]⟩ : ByteArray).toList == (⟨#[99, 101, 105, 108]⟩ : ByteArray).toList) = false := by kernel_rfl
  have g2 : ((⟨#[102, 108, 111, 111, 114]⟩ : ByteArray).toList == (⟨#[99, 111, 97, 108, 101, 115, 99, 101]⟩ : ByteArray).toList) = false := by kernel_rfl
  have g3 : ((⟨#[102, 108, 111, 111, 114]⟩ : ByteArray).toList == (⟨#[99, 111, 110, 99, 97, 116]⟩ : ByteArray).toList) = false := by kernel_rfl
  have g4 : ((⟨#[102, 108, 111, 111, 114]⟩ : ByteArray).toList == (⟨#[102, 108, 111, 111, 114]⟩ : ByteArray).toList) = true := by kernel_rfl
  have g5 : ((⟨#[102, 108, 111, 111, 114]⟩ : ByteArray).toList == (⟨#[103, 114, 101, 97, 116, 101, 115, 116]⟩ : ByteArray).toList) = false := by kernel_rfl
  have g6 : ((⟨#[102, 108, 111, 111, 114]⟩ : ByteArray).toList == (⟨#[108, 101, 97, 115, 116]⟩ : ByteArray).toList) = false := by kernel_rfl
  have g7 : ((⟨#[102, 108, 111, 111, 114]⟩ : ByteArray).toList == (⟨#[108, 101, 110, 103, 116, 104]⟩ : ByteArray).toList) = false := by kernel_rfl
  have g8 : ((⟨#[102, 108, 111, 111, 114]⟩ : ByteArray).toList == (⟨#[108, 111, 119, 101, 114]⟩ : ByteArray).toList) = false := by kernel_rfl
  have g9 : ((⟨#[102, 108, 111, 111, 114]⟩ : ByteArray).toList == (⟨#[110, 117, 108, 108, 105, 102]⟩ : ByteArray).toList) = false := by kernel_rfl
  have g10 : ((⟨#[102, 108, 111, 111, 114]⟩ : ByteArray).toList == (⟨#[114, 111, 117, 110, 100]⟩ : ByteArray).toList) = false := by kernel_rfl
  have g11 : ((⟨#[102, 108, 111, 111, 114]⟩ : ByteArray).toList == (⟨#[115, 105, 103, 110]⟩ : ByteArray).toList) = false := by kernel_rfl
  have g12 : ((⟨#[102, 108, 111, 111, 114]⟩ : ByteArray).toList == (⟨#[115, 117, 98, 115, 116, 114]⟩ : ByteArray).toList) = false := by kernel_rfl
  have g13 : ((⟨#[102, 108, 111, 111, 114]⟩ : ByteArray).toList == (⟨#[116, 111, 100, 101, 99]⟩ : ByteArray).toList) = false := by kernel_rfl
  have g14 : ((⟨#[102, 108, 111, 111, 114]⟩ : ByteArray).toList == (⟨#[116, 111, 105, 110, 116]⟩ : ByteArray).toList) = false := by kernel_rfl
  have g15 : ((⟨#[102, 108, 111, 111, 114]⟩ : ByteArray).toList == (⟨#[116, 111, 116, 101, 120, 116]⟩ : ByteArray).toList) = false := by kernel_rfl
  have g16 : ((⟨#[102, 108, 111, 111, 114]⟩ : ByteArray).toList == (⟨#[116, 114, 105, 109]⟩ : ByteArray).toList) = false := by kernel_rfl
  have g17 : ((⟨#[102, 108, 111, 111, 114]⟩ : ByteArray).toList == (⟨#[117, 112, 112, 101, 114]⟩ : ByteArray).toList) = false := by kernel_rfl
  go_enter Tryz.func11, Tryz.ntmps11
  go_wp2
  go_loop [7] (fun i => ∃ (m : Nat), m ≤ l.length ∧ i = .int .i64 m) (fun i => l.length - (intOf i).toNat)
  case atStart => exact ⟨0, Nat.zero_le _, rfl⟩
  case round =>
    obtain ⟨m, hm, rfl⟩ := hrel
    rcases Nat.lt_or_ge m l.length with hlt | hge
    · obtain ⟨b, off, rfl, hc⟩ := ks_cells HK.out (by omega)
      have c0 := hc m hlt
      have hQ := rkindOk_any (l.getD m 0) w
      rw [HX.out m hlt] at hQ
      generalize l.getD m 0 = x at c0 hQ
      clear hc g0 g1 g2 g3 g4 g5 g6 g7 g8 g9 g10 g11 g12 g13 g14 g15 g16 g17
      go_wp2_with fail
      refine hQ.mono ?_
      rintro e w1 ⟨rfl, rfl⟩
      clear hQ
      go_wp2
      go_round
      case rel => exact ⟨m + 1, by omega, by go_num⟩
      case measure => simp [intOf]; omega
    · obtain rfl : m = l.length := by omega
      clear HK HX
      go_wp2
      go_ret2
      exact ⟨rfl, Below.refl _ _⟩
theorem rk_no7 (a : Option Addr) (cap : Nat) (l : List Int) (w : World) (hlen : l.length ≤ 9223372036854775807) (hk : KsAt w a l) (hA : areK l = true) (hn : ((l.length : Int) == 1) = false) :
    Calls Tryz.prog 11 #[.string ⟨#[108, 101, 110, 103, 116, 104]⟩, .slice a l.length cap] w fun e w' => e = .returned (.tuple #[.int .i64 0, .int .i64 100]) ∧ Below w.heap.size w w' := by
  have HK : Hid (KsAt w a l) := hk
  have HX : Hid _ := fun i hi => areK_at hA i hi
  clear hk hA
  have g0 : ((⟨#[108, 101, 110, 103, 116, 104]⟩ : ByteArray).toList == (⟨#[97, 98, 115]⟩ : ByteArray).toList) = false := by kernel_rfl
  have g1 : ((⟨#[108, 101, 110, 103, 116, 104]⟩ : ByteArray).toList == (⟨#[99, 101, 105, 108]⟩ : ByteArray).toList) = false := by kernel_rfl
  have g2 : ((⟨#[108, 101, 110, 103, 116, 104]⟩ : ByteArray).toList == (⟨#[99, 111, 97, 108, 101, 115, 99, 101]⟩ : ByteArray).toList) = false := by kernel_rfl
  have g3 : ((⟨#[108, 101, 110, 103, 116, 104]⟩ : ByteArray).toList == (⟨#[99, 111, 110, 99, 97, 116]⟩ : ByteArray).toList) = false := by kernel_rfl
  have g4 : ((⟨#[108, 101, 110, 103, 116, 104]⟩ : ByteArray).toList == (⟨#[102, 108, 111, 111, 114]⟩ : ByteArray).toList) = false := by kernel_rfl
  have g5 : ((⟨#[108, 101, 110, 103, 116, 104]⟩ : ByteArray).toList == (⟨#[103, 114, 101, 97, 116, 101, 115, 116]⟩ : ByteArray).toList) = false := by kernel_rfl
  have g6 : ((⟨#[108, 101, 110, 103, 116, 104]⟩ : ByteArray).toList == (⟨#[108, 101, 97, 115, 116]⟩ : ByteArray).toList) = false := by kernel_rfl
  have g7 : ((⟨#[108, 101, 110, 103, 116, 104]⟩ : ByteArray).toList == (⟨#[108, 101, 110, 103, 116, 104]⟩ : ByteArray).toList) = true := by kernel_rfl
  have g8 : ((⟨#[108, 101, 110, 103, 116, 104]⟩ : ByteArray).toList == (⟨#[108, 111, 119, 101, 114]⟩ : ByteArray).toList) = false := by kernel_rfl
  have g9 : ((⟨#[108, 101, 110, 103, 116, 104]⟩ : ByteArray).toList == (⟨#[110, 117, 108, 108, 105, 102]⟩ : ByteArray).toList) = false := by kernel_rfl
  have g10 : ((⟨#[108, 101, 110, 103, 116, 104]⟩ : ByteArray).toList == (⟨#[114, 111, 117, 110, 100]⟩ : ByteArray).toList) = false := by kernel_rfl
  have g11 : ((⟨#[108, 101, 110, 103, 116, 104]⟩ : ByteArray).toList == (⟨#[115, 105, 103, 110]⟩ : ByteArray).toList) = false := by kernel_rfl
  have g12 : ((⟨#[108, 101, 110, 103, 116, 104]⟩ : ByteArray).toList == (⟨#[115, 117, 98, 115, 116, 114]⟩ : ByteArray).toList) = false := by kernel_rfl
  have g13 : ((⟨#[108, 101, 110, 103, 116, 104]⟩ : ByteArray).toList == (⟨#[116, 111, 100, 101, 99]⟩ : ByteArray).toList) = false := by kernel_rfl
  have g14 : ((⟨#[108, 101, 110, 103, 116, 104]⟩ : ByteArray).toList == (⟨#[116, 111, 105, 110, 116]⟩ : ByteArray).toList) = false := by kernel_rfl
  have g15 : ((⟨#[108, 101, 110, 103, 116, 104]⟩ : ByteArray).toList == (⟨#[116, 111, 116, 101, 120, 116]⟩ : ByteArray).toList) = false := by kernel_rfl
  have g16 : ((⟨#[108, 101, 110, 103, 116, 104]⟩ : ByteArray).toList == (⟨#[116, 114, 105, 109]⟩ : ByteArray).toList) = false := by kernel_rfl
  have g17 : ((⟨#[108, 101, 110, 103, 116, 104]⟩ : ByteArray).toList == (⟨#[117, 112, 112, 101, 114]⟩ : ByteArray).toList) = false := by kernel_rfl
  go_enter Tryz.func11, Tryz.ntmps11
  go_wp2
  go_loop [7] (fun i => ∃ (m : Nat), m ≤ l.length ∧ i = .int .i64 m) (fun i => l.length - (intOf i).toNat)
  case atStart => exact ⟨0, Nat.zero_le _, rfl⟩
  case round =>
    obtain ⟨m, hm, rfl⟩ := hrel
    rcases Nat.lt_or_ge m l.length with hlt | hge
    · obtain ⟨b, off, rfl, hc⟩ := ks_cells HK.out (by omega)
      have c0 := hc m hlt
      have hQ := rkindOk_any (l.getD m 0) w
      rw [HX.out m hlt] at hQ
      generalize l.getD m 0 = x at c0 hQ
      clear hc g0 g1 g2 g3 g4 g5 g6 g7 g8 g9 g10 g11 g12 g13 g14 g15 g16 g17
      go_wp2_with fail
      refine hQ.mono ?_
      rintro e w1 ⟨rfl, rfl⟩
      clear hQ
      go_wp2
      go_round
      case rel => exact ⟨m + 1, by omega, by go_num⟩
      case measure => simp [intOf]; omega
    · obtain rfl : m = l.length := by omega
      clear HK HX
      go_wp2
      go_ret2
      exact ⟨rfl, Below.refl _ _⟩
theorem rk_no8 (a : Option Addr) (cap : Nat) (l : List Int) (w : World) (hlen : l.length ≤ 9223372036854775807) (hk : KsAt w a l) (hA : areK l = true) (hn : ((l.length : Int) == 1) = false) :
    Calls Tryz.prog 11 #[.string ⟨#[108, 111, 119, 101, 114]⟩, .slice a l.length cap] w fun e w' => e = .returned (.tuple #[.int .i64 0, .int .i64 100]) ∧ Below w.heap.size w w' := by
  have HK : Hid (KsAt w a l) := hk
  have HX : Hid _ := fun i hi => areK_at hA i hi
  clear hk hA
  have g0 : ((⟨#[108, 111, 119, 101, 114]⟩ : ByteArray).toList == (⟨#[97, 98, 115]⟩ : ByteArray).toList) = false := by kernel_rfl
  have g1 : ((⟨#[108, 111, 119, 101, 114]⟩ : ByteArray).toList == (⟨#[99, 101, 105, 108]⟩ : ByteArray).toList) = false := by kernel_rfl
  have g2 : ((⟨#[108, 111, 119, 101, 114]⟩ : ByteArray).toList == (⟨#[99, 111, 97, 108, 101, 115, 99, 101]⟩ : ByteArray).toList) = false := by kernel_rfl
  have g3 : ((⟨#[108, 111, 119, 101, 114]⟩ : ByteArray).toList == (⟨#[99, 111, 110, 99, 97, 116]⟩ : ByteArray).toList) = false := by kernel_rfl
  have g4 : ((⟨#[108, 111, 119, 101, 114]⟩ : ByteArray).toList == (⟨#[102, 108, 111, 111, 114]⟩ : ByteArray).toList) = false := by kernel_rfl
  have g5 : ((⟨#[108, 111, 119, 101, 114]⟩ : ByteArray).toList == (⟨#[103, 114, 101, 97, 116, 101, 115, 116]⟩ : ByteArray).toList) = false := by kernel_rfl
  have g6 : ((⟨#[108, 111, 119, 101, 114]⟩ : ByteArray).toList == (⟨#[108, 101, 97, 115, 116]⟩ : ByteArray).toList) = false := by kernel_rfl
  have g7 : ((⟨#[108, 111, 119, 101, 114]⟩ : ByteArray).toList == (⟨#[108, 101, 110, 103, 116, 104]⟩ : ByteArray).toList) = false := by kernel_rfl
  have g8 : ((⟨#[108, 111, 119, 101, 114]⟩ : ByteArray).toList == (⟨#[108, 111, 119, 101, 114]⟩ : ByteArray).toList) = true := by kernel_rfl
  have g9 : ((⟨#[108, 111, 119, 101, 114]⟩ : ByteArray).toList == (⟨#[110, 117, 108, 108, 105, 102]⟩ : ByteArray).toList) = false := by kernel_rfl
  have g10 : ((⟨#[108, 111, 119, 101, 114]⟩ : ByteArray).toList == (⟨#[114, 111, 117, 110, 100]⟩ : ByteArray).toList) = false := by kernel_rfl
  have g11 : ((⟨#[108, 111, 119, 101, 114]⟩ : ByteArray).toList == (⟨#[115, 105, 103, 110]⟩ : ByteArray).toList) = false := by kernel_rfl
  have g12 : ((⟨#[108, 111, 119, 101, 114]⟩ : ByteArray).toList == (⟨#[115, 117, 98, 115, 116, 114]⟩ : ByteArray).toList) = false := by kernel_rfl
  have g13 : ((⟨#[108, 111, 119, 101, 114]⟩ : ByteArray).toList == (⟨#[116, 111, 100, 101, 99]⟩ : ByteArray).toList) = false := by kernel_rfl
  have g14 : ((⟨#[108, 111, 119, 101, 114]⟩ : ByteArray).toList == (⟨#[116, 111, 105, 110, 116]⟩ : ByteArray).toList) = false := by kernel_rfl
  have g15 : ((⟨#[108, 111, 119, 101, 114]⟩ : ByteArray).toList == (⟨#[116, 111, 116, 101, 120, 116]⟩ : ByteArray).toList) = false := by kernel_rfl
  have g16 : ((⟨#[108, 111, 119, 101, 114]⟩ : ByteArray).toList == (⟨#[116, 114, 105, 109]⟩ : ByteArray).toList) = false := by kernel_rfl
  have g17 : ((⟨#[108, 111, 119, 101, 114]⟩ : ByteArray).toList == (⟨#[117, 112, 112, 101, 114]⟩ : ByteArray).toList) = false := by kernel_rfl
  go_enter Tryz.func11, Tryz.ntmps11
  go_wp2
  go_loop [7] (fun i => ∃ (m : Nat), m ≤ l.length ∧ i = .int .i64 m) (fun i => l.length - (intOf i).toNat)
  case atStart => exact ⟨0, Nat.zero_le _, rfl⟩
  case round =>
    obtain ⟨m, hm, rfl⟩ := hrel
    rcases Nat.lt_or_ge m l.length with hlt | hge
    · obtain ⟨b, off, rfl, hc⟩ := ks_cells HK.out (by omega)
      have c0 := hc m hlt
      have hQ := rkindOk_any (l.getD m 0) w
      rw [HX.out m hlt] at hQ
      generalize l.getD m 0 = x at c0 hQ
      clear hc g0 g1 g2 g3 g4 g5 g6 g7 g8 g9 g10 g11 g12 g13 g14 g15 g16 g17
      go_wp2_with fail
      refine hQ.mono ?_
      rintro e w1 ⟨rfl, rfl⟩
      clear hQ
      go_wp2
      go_round
      case rel => exact ⟨m + 1, by omega, by go_num⟩
      case measure => simp [intOf]; omega
    · obtain rfl : m = l.length := by omega
      clear HK HX
      go_wp2
      go_ret2
      exact ⟨rfl, Below.refl _ _⟩
theorem rk_no10 (a : Option Addr) (cap : Nat) (l : List Int) (w : World) (hlen : l.length ≤ 9223372036854775807) (hk : KsAt w a l) (hA : areK l = true) (hn : ((l.length : Int) == 1) = false) :
    Calls Tryz.prog 11 #[.string ⟨#[114, 111, 117, 110, 100]⟩, .slice a l.length cap] w fun e w' => e = .returned (.tuple #[.int .i64 0, .int .i64 100]) ∧ Below w.heap.size w w' := by
  have HK : Hid (KsAt w a l) := hk
  have HX : Hid _ := fun i hi => areK_at hA i hi
  clear hk hA
  have g0 : ((⟨#[114, 111, 117, 110, 100]⟩ : ByteArray).toList == (⟨#[97, 98, 115]⟩ : ByteArray).toList) = false := by kernel_rfl
  have g1 : ((⟨#[114, 111, 117, 110, 100]⟩ : ByteArray).toList == (⟨#[99, 101, 105, 108]⟩ : ByteArray).toList) = false := by kernel_rfl
  have g2 : ((⟨#[114, 111, 117, 110, 100]⟩ : ByteArray).toList == (⟨#[99, 111, 97, 108, 101, 115, 99, 101]⟩ : ByteArray).toList) = false := by kernel_rfl
  have g3 : ((⟨#[114, 111, 117, 110, 100]⟩ : ByteArray).toList == (⟨#[99, 111, 110, 99, 97, 116]⟩ : ByteArray).toList) = false := by kernel_rfl
  have g4 : ((⟨#[114, 111, 117, 110, 100]⟩ : ByteArray).toList == (⟨#[102, 108, 111, 111, 114]⟩ : ByteArray).toList) = false := by kernel_rfl
  have g5 : ((⟨#[114, 111, 117, 110, 100]⟩ : ByteArray).toList == (⟨#[103, 114, 101, 97, 116, 101, 115, 116]⟩ : ByteArray).toList) = false := by kernel_rfl
  have g6 : ((⟨#[114, 111, 117, 110, 100]⟩ : ByteArray).toList == (⟨#[108, 101, 97, 115, 116]⟩ : ByteArray).toList) = false := by kernel_rfl
  have g7 : ((⟨#[114, 111, 117, 110, 100]⟩ : ByteArray).toList == (⟨#[108, 101, 110, 103, 116, 104]⟩ : ByteArray).toList) = false := by kernel_rfl
  have g8 : ((⟨#[114, 111, 117, 110, 100]⟩ : ByteArray).toList == (⟨#[108, 111, 119, 101, 114]⟩ : ByteArray).toList) = false := by kernel_rfl
  have g9 : ((⟨#[114, 111, 117, 110, 100]⟩ : ByteArray).toList == (⟨#[110, 117, 108, 108, 105, 102]⟩ : ByteArray).toList) = false := by kernel_rfl
  have g10 : ((⟨#[114, 111, 117, 110, 100]⟩ : ByteArray).toList == (⟨#[114, 111, 117, 110, 100]⟩ : ByteArray).toList) = true := by kernel_rfl
  have g11 : ((⟨#[114, 111, 117, 110, 100]⟩ : ByteArray).toList == (⟨#[115, 105, 103, 110]⟩ : ByteArray).toList) = false := by kernel_rfl
  have g12 : ((⟨#[114, 111, 117, 110, 100]⟩ : ByteArray).toList == (⟨#[115, 117, 98, 115, 116, 114]⟩ : ByteArray).toList) = false := by kernel_rfl
  have g13 : ((⟨#[114, 111, 117, 110, 100]⟩ : ByteArray).toList == (⟨#[116, 111, 100, 101, 99]⟩ : ByteArray).toList) = false := by kernel_rfl
  have g14 : ((⟨#[114, 111, 117, 110, 100]⟩ : ByteArray).toList == (⟨#[116, 111, 105, 110, 116]⟩ : ByteArray).toList) = false := by kernel_rfl
  have g15 : ((⟨#[114, 111, 117, 110, 100]⟩ : ByteArray).toList == (⟨#[116, 111, 116, 101, 120, 116]⟩ : ByteArray).toList) = false := by kernel_rfl
  have g16 : ((⟨#[114, 111, 117, 110, 100]⟩ : ByteArray).toList == (⟨#[116, 114, 105, 109]⟩ : ByteArray).toList) = false := by kernel_rfl
  have g17 : ((⟨#[114, 111, 117, 110, 100]⟩ : ByteArray).toList == (⟨#[117, 112, 112, 101, 114]⟩ : ByteArray).toList) = false := by kernel_rfl
  go_enter Tryz.func11, Tryz.ntmps11
  go_wp2
  go_loop [7] (fun i => ∃ (m : Nat), m ≤ l.length ∧ i = .int .i64 m) (fun i => l.length - (intOf i).toNat)
  case atStart => exact ⟨0, Nat.zero_le _, rfl⟩
  case round =>
    obtain ⟨m, hm, rfl⟩ := hrel
    rcases Nat.lt_or_ge m l.length with hlt | hge
    · obtain ⟨b, off, rfl, hc⟩ := ks_cells HK.out (by omega)
      have c0 := hc m hlt
      have hQ := rkindOk_any (l.getD m 0) w
      rw [HX.out m hlt] at hQ
      generalize l.getD m 0 = x at c0 hQ
      clear hc g0 g1 g2 g3 g4 g5 g6 g7 g8 g9 g10 g11 g12 g13 g14 g15 g16 g17
      go_wp2_with fail
      refine hQ.mono ?_
      rintro e w1 ⟨rfl, rfl⟩
      clear hQ
      go_wp2
      go_round
      case rel => exact ⟨m + 1, by omega, by go_num⟩
      case measure => simp [intOf]; omega
    · obtain rfl : m = l.length := by omega
      clear HK HX
      go_wp2
      go_ret2
      exact ⟨rfl, Below.refl _ _⟩
theorem rk_no11 (a : Option Addr) (cap : Nat) (l : List Int) (w : World) (hlen : l.length ≤ 9223372036854775807) (hk : KsAt w a l) (hA : areK l = true) (hn : ((l.length : Int) == 1) = false) :
    Calls Tryz.prog 11 #[.string ⟨#[115, 105, 103, 110]⟩, .slice a l.length cap] w fun e w' => e = .returned (.tuple #[.int .i64 0, .int .i64 100]) ∧ Below w.heap.size w w' := by
  have HK : Hid (KsAt w a l) := hk
  have HX : Hid _ := fun i hi => areK_at hA i hi
  clear hk hA
  have g0 : ((⟨#[115, 105, 103, 110]⟩ : ByteArray).toList == (⟨#[97, 98, 115]⟩ : ByteArray).toList) = false := by kernel_rfl
  have g1 : ((⟨#[115, 105, 103, 110]⟩ : ByteArray).toList == (⟨#[99, 101, 105, 108]⟩ : ByteArray).toList) = false := by kernel_rfl
  have g2 : ((⟨#[115, 105, 103, 110]⟩ : ByteArray).toList == (⟨#[99, 111, 97, 108, 101, 115, 99, 101]⟩ : ByteArray).toList) = false := by kernel_rfl
  have g3 : ((⟨#[115, 105, 103, 110]⟩ : ByteArray).toList == (⟨#[99, 111, 110, 99, 97, 116]⟩ : ByteArray).toList) = false := by kernel_rfl
  have g4 : ((⟨#[115, 105, 103, 110]⟩ : ByteArray).toList == (⟨#[102, 108, 111, 111, 114]⟩ : ByteArray).toList) = false := by kernel_rfl
  have g5 : ((⟨#[115, 105, 103, 110]⟩ : ByteArray).toList == (⟨#[103, 114, 101, 97, 116, 101, 115, 116]⟩ : ByteArray).toList) = false := by kernel_rfl
  have g6 : ((⟨#[115, 105, 103, 110]⟩ : ByteArray).toList == (⟨#[108, 101, 97, 115, 116]⟩ : ByteArray).toList) = false := by kernel_rfl
  have g7 : ((⟨#[115, 105, 103, 110]⟩ : ByteArray).toList == (⟨#[108, 101, 110, 103, 116, 104]⟩ : ByteArray).toList) = false := by kernel_rfl
  have g8 : ((⟨#[115, 105, 103, 110]⟩ : ByteArray).toList == (⟨#[108, 111, 119, 101, 114]⟩ : ByteArray).toList) = false := by kernel_rfl
  have g9 : ((⟨#[115, 105, 103, 110]⟩ : ByteArray).toList == (⟨#[110, 117, 108, 108, 105, 102]⟩ : ByteArray).toList) = false := by kernel_rfl
  have g10 : ((⟨#[115, 105, 103, 110]⟩ : ByteArray).toList == (⟨#[114, 111, 117, 110, 100]⟩ : ByteArray).toList) = false := by kernel_rfl
  have g11 : ((⟨#[115, 105, 103, 110]⟩ : ByteArray).toList == (⟨#[115, 105, 103, 110]⟩ : ByteArray).toList) = true := by kernel_rfl
  have g12 : ((⟨#[115, 105, 103, 110]⟩ : ByteArray).toList == (⟨#[115, 117, 98, 115, 116, 114]⟩ : ByteArray).toList) = false := by kernel_rfl
  have g13 : ((⟨#[115, 105, 103, 110]⟩ : ByteArray).toList == (⟨#[116, 111, 100, 101, 99]⟩ : ByteArray).toList) = false := by kernel_rfl
  have g14 : ((⟨#[115, 105, 103, 110]⟩ : ByteArray).toList == (⟨#[116, 111, 105, 110, 116]⟩ : ByteArray).toList) = false := by kernel_rfl
  have g15 : ((⟨#[115, 105, 103, 110]⟩ : ByteArray).toList == (⟨#[116, 111, 116, 101, 120, 116]⟩ : ByteArray).toList) = false := by kernel_rfl
  have g16 : ((⟨#[115, 105, 103, 110]⟩ : ByteArray).toList == (⟨#[116, 114, 105, 109]⟩ : ByteArray).toList) = false := by kernel_rfl
  have g17 : ((⟨#[115, 105, 103, 110]⟩ : ByteArray).toList == (⟨#[117, 112, 112, 101, 114]⟩ : ByteArray).toList) = false := by kernel_rfl
  go_enter Tryz.func11, Tryz.ntmps11
  go_wp2
  go_loop [7] (fun i => ∃ (m : Nat), m ≤ l.length ∧ i = .int .i64 m) (fun i => l.length - (intOf i).toNat)
  case atStart => exact ⟨0, Nat.zero_le _, rfl⟩
  case round =>
    obtain ⟨m, hm, rfl⟩ := hrel
    rcases Nat.lt_or_ge m l.length with hlt | hge
    · obtain ⟨b, off, rfl, hc⟩ := ks_cells HK.out (by omega)
      have c0 := hc m hlt
      have hQ := rkindOk_any (l.getD m 0) w
      rw [HX.out m hlt] at hQ
      generalize l.getD m 0 = x at c0 hQ
      clear hc g0 g1 g2 g3 g4 g5 g6 g7 g8 g9 g10 g11 g12 g13 g14 g15 g16 g17
      go_wp2_with fail
      refine hQ.mono ?_
      rintro e w1 ⟨rfl, rfl⟩
      clear hQ
      go_wp2
      go_round
      case rel => exact ⟨m + 1, by omega, by go_num⟩
      case measure => simp [intOf]; omega
    · obtain rfl : m = l.length := by omega
      clear HK HX
      go_wp2
      go_ret2
      exact ⟨rfl, Below.refl _ _⟩
theorem rk_no13 (a : Option Addr) (cap : Nat) (l : List Int) (w : World) (hlen : l.length ≤ 9223372036854775807) (hk : KsAt w a l) (hA : areK l = true) (hn : ((l.length : Int) == 1) = false) :
    Calls Tryz.prog 11 #[.string ⟨#[116, 111, 100, 101, 99]⟩, .slice a l.length cap] w fun e w' => e = .returned (.tuple #[.int .i64 0, .int .i64 100]) ∧ Below w.heap.size w w' := by
  have HK : Hid (KsAt w a l) := hk
  have HX : Hid _ := fun i hi => areK_at hA i hi
  clear hk hA
  have g0 : ((⟨#[116, 111, 100, 101, 99]⟩ : ByteArray).toList == (⟨#[97, 98, 115]⟩ : ByteArray).toList) = false := by kernel_rfl
  have g1 : ((⟨#[116, 111, 100, 101, 99]⟩ : ByteArray).toList == (⟨#[99, 101, 105, 108]⟩ : ByteArray).toList) = false := by kernel_rfl
  have g2 : ((⟨#[116, 111, 100, 101, 99]⟩ : ByteArray).toList == (⟨#[99, 111, 97, 108, 101, 115, 99, 101]⟩ : ByteArray).toList) = false := by kernel_rfl
  have g3 : ((⟨#[116, 111, 100, 101, 99]⟩ : ByteArray).toList == (⟨#[99, 111, 110, 99, 97, 116]⟩ : ByteArray).toList) = false := by kernel_rfl
  have g4 : ((⟨#[116, 111, 100, 101, 99]⟩ : ByteArray).toList == (⟨#[102, 108, 111, 111, 114]⟩ : ByteArray).toList) = false := by kernel_rfl
  have g5 : ((⟨#[116, 111, 100, 101, 99]⟩ : ByteArray).toList == (⟨#[103, 114, 101, 97, 116, 101, 115, 116]⟩ : ByteArray).toList) = false := by kernel_rfl
  have g6 : ((⟨#[116, 111, 100, 101, 99]⟩ : ByteArray).toList == (⟨#[108, 101, 97, 115, 116]⟩ : ByteArray).toList) = false := by kernel_rfl
  have g7 : ((⟨#[116, 111, 100, 101, 99]⟩ : ByteArray).toList == (⟨#[108, 101, 110, 103, 116, 104]⟩ : ByteArray).toList) = false := by kernel_rfl
  have g8 : ((⟨#[116, 111, 100, 101, 99]⟩ : ByteArray).toList == (⟨#[108, 111, 119, 101, 114]⟩ : ByteArray).toList) = false := by kernel_rfl
  have g9 : ((⟨#[116, 111, 100, 101, 99]⟩ : ByteArray).toList == (⟨#[110, 117, 108, 108, 105, 102]⟩ : ByteArray).toList) = false := by kernel_rfl
  have g10 : ((⟨#[116, 111, 100, 101, 99]⟩ : ByteArray).toList == (⟨#[114, 111, 117, 110, 100]⟩ : ByteArray).toList) = false := by kernel_rfl
  have g11 : ((⟨#[116, 111, 100, 101, 99]⟩ : ByteArray).toList == (⟨#[115, 105, 103, 110]⟩ : ByteArray).toList) = false := by kernel_rfl
  have g12 : ((⟨#[116, 111, 100, 101, 99]⟩ : ByteArray).toList == (⟨#[115, 117, 98, 115, 116, 114]⟩ : ByteArray).toList) = false := by kernel_rfl
  have g13 : ((⟨#[116, 111, 100, 101, 99]⟩ : ByteArray).toList == (⟨#[116, 111, 100, 101, 99]⟩ : ByteArray).toList) = true := by kernel_rfl
  have g14 : ((⟨#[116, 111, 100, 101, 99]⟩ : ByteArray).toList == (⟨#[116, 111, 105, 110, 116]⟩ : ByteArray).toList) = false := by kernel_rfl
  have g15 : ((⟨#[116, 111, 100, 101, 99]⟩ : ByteArray).toList == (⟨#[116, 111, 116, 101, 120, 116]⟩ : ByteArray).toList) = false := by kernel_rfl
  have g16 : ((⟨#[116, 111, 100, 101, 99]⟩ : ByteArray).toList == (⟨#[116, 114, 105, 109]⟩ : ByteArray).toList) = false := by kernel_rfl
  have g17 : ((⟨#[116, 111, 100, 101, 99]⟩ : ByteArray).toList == (⟨#[117, 112, 112, 101, 114]⟩ : ByteArray).toList) = false := by kernel_rfl
  go_enter Tryz.func11, Tryz.ntmps11
  go_wp2
  go_loop [7] (fun i => ∃ (m : Nat), m ≤ l.length ∧ i = .int .i64 m) (fun i => l.length - (intOf i).toNat)
  case atStart => exact ⟨0, Nat.zero_le _, rfl⟩
  case round =>
    obtain ⟨m, hm, rfl⟩ := hrel
    rcases Nat.lt_or_ge m l.length with hlt | hge
    · obtain ⟨b, off, rfl, hc⟩ := ks_cells HK.out (by omega)
      have c0 := hc m hlt
      have hQ := rkindOk_any (l.getD m 0) w
      rw [HX.out m hlt] at hQ
      generalize l.getD m 0 = x at c0 hQ
      clear hc g0 g1 g2 g3 g4 g5 g6 g7 g8 g9 g10 g11 g12 g13 g14 g15 g16 g17
      go_wp2_with fail
      refine hQ.mono ?_
      rintro e w1 ⟨rfl, rfl⟩
      clear hQ
      go_wp2
      go_round
      case rel => exact ⟨m + 1, by omega, by go_num⟩
      case measure => simp [intOf]; omega
    · obtain rfl : m = l.length := by omega
      clear HK HX
      go_wp2
      go_ret2
      exact ⟨rfl, Below.refl _ _⟩
theorem rk_no14 (a : Option Addr) (cap : Nat) (l : List Int) (w : World) (hlen : l.length ≤ 9223372036854775807) (hk : KsAt w a l) (hA : areK l = true) (hn : ((l.length : Int) == 1) = false) :
    Calls Tryz.prog 11 #[.string ⟨#[116, 111, 105, 110, 116]⟩, .slice a l.length cap] w fun e w' => e = .returned (.tuple #[.int .i64 0, .int .i64 100]) ∧ Below w.heap.size w w' := by
  have HK : Hid (KsAt w a l) := hk
  have HX : Hid _ := fun i hi => areK_at hA i hi
  clear hk hA
  have g0 : ((⟨#[116, 111, 105, 110, 116]⟩ : ByteArray).toList == (⟨#[97, 98, 115]⟩ : ByteArray).toList) = false := by kernel_rfl
  have g1 : ((⟨#[116, 111, 105, 110, 116]⟩ : ByteArray).toList == (⟨#[99, 101, 105, 108]⟩ : ByteArray).toList) = false := by kernel_rfl
  have g2 : ((⟨#[116, 111, 105, 110, 116]⟩ : ByteArray).toList == (⟨#[99, 111, 97, 108, 101, 115, 99, 101]⟩ : ByteArray).toList) = false := by kernel_rfl
  have g3 : ((⟨#[116, 111, 105, 110, 116]⟩ : ByteArray).toList == (⟨#[99, 111, 110, 99, 97, 116]⟩ : ByteArray).toList) = false := by kernel_rfl
  have g4 : ((⟨#[116, 111, 105, 110, 116]⟩ : ByteArray).toList == (⟨#[102, 108, 111, 111, 114]⟩ : ByteArray).toList) = false := by kernel_rfl
  have g5 : ((⟨#[116, 111, 105, 110, 116]⟩ : ByteArray).toList == (⟨#[103, 114, 101, 97, 116, 101, 115, 116]⟩ : ByteArray).toList) = false := by kernel_rfl
  have g6 : ((⟨#[116, 111, 105, 110, 116]⟩ : ByteArray).toList == (⟨#[108, 101, 97, 115, 116]⟩ : ByteArray).toList) = false := by kernel_rfl
  have g7 : ((⟨#[116, 111, 105, 110, 116]⟩ : ByteArray).toList == (⟨#[108, 101, 110, 103, 116, 104]⟩ : ByteArray).toList) = false := by kernel_rfl
  have g8 : ((⟨#[116, 111, 105, 110, 116]⟩ : ByteArray).toList == (⟨#[108, 111, 119, 101, 114]⟩ : ByteArray).toList) = false := by kernel_rfl
  have g9 : ((⟨#[116, 111, 105, 110, 116]⟩ : ByteArray).toList == (⟨#[110, 117, 108, 108, 105, 102]⟩ : ByteArray).toList) = false := by kernel_rfl
  have g10 : ((⟨#[116, 111, 105, 110, 116]⟩ : ByteArray).toList == (⟨#[114, 111, 117, 110, 100]⟩ : ByteArray).toList) = false := by kernel_rfl
  have g11 : ((⟨#[116, 111, 105, 110, 116]⟩ : ByteArray).toList == (⟨#[115, 105, 103, 110]⟩ : ByteArray).toList) = false := by kernel_rfl
  have g12 : ((⟨#[116, 111, 105, 110, 116]⟩ : ByteArray).toList == (⟨#[115, 117, 98, 115, 116, 114]⟩ : ByteArray).toList) = false := by kernel_rfl
  have g13 : ((⟨#[116, 111, 105, 110, 116]⟩ : ByteArray).toList == (⟨#[116, 111, 100, 101, 99]⟩ : ByteArray).toList) = false := by kernel_rfl
  have g14 : ((⟨#[116, 111, 105, 110, 116]⟩ : ByteArray).toList == (⟨#[116, 111, 105, 110, 116]⟩ : ByteArray).toList) = true := by kernel_rfl
  have g15 : ((⟨#[116, 111, 105, 110, 116]⟩ : ByteArray).toList == (⟨#[116, 111, 116, 101, 120, 116]⟩ : ByteArray).toList) = false := by kernel_rfl
  have g16 : ((⟨#[116, 111, 105, 110, 116]⟩ : ByteArray).toList == (⟨#[116, 114, 105, 109]⟩ : ByteArray).toList) = false := by kernel_rfl
  have g17 : ((⟨#[116, 111, 105, 110, 116]⟩ : ByteArray).toList == (⟨#[117, 112, 112, 101, 114]⟩ : ByteArray).toList) = false := by kernel_rfl
  go_enter Tryz.func11, Tryz.ntmps11
  go_wp2
  go_loop [7] (fun i => ∃ (m : Nat), m ≤ l.length ∧ i = .int .i64 m) (fun i => l.length - (intOf i).toNat)
  case atStart => exact ⟨0, Nat.zero_le _, rfl⟩
  case round =>
    obtain ⟨m, hm, rfl⟩ := hrel
    rcases Nat.lt_or_ge m l.length with hlt | hge
    · obtain ⟨b, off, rfl, hc⟩ := ks_cells HK.out (by omega)
      have c0 := hc m hlt
      have hQ := rkindOk_any (l.getD m 0) w
      rw [HX.out m hlt] at hQ
      generalize l.getD m 0 = x at c0 hQ
      clear hc g0 g1 g2 g3 g4 g5 g6 g7 g8 g9 g10 g11 g12 g13 g14 g15 g16 g17
      go_wp2_with fail
      refine hQ.mono ?_
      rintro e w1 ⟨rfl, rfl⟩
      clear hQ
      go_wp2
      go_round
      case rel => exact ⟨m + 1, by omega, by go_num⟩
      case measure => simp [intOf]; omega
    · obtain rfl : m = l.length := by omega
      clear HK HX
      go_wp2
      go_ret2
      exact ⟨rfl, Below.refl _ _⟩
theorem rk_no15 (a : Option Addr) (cap : Nat) (l : List Int) (w : World) (hlen : l.length ≤ 9223372036854775807) (hk : KsAt w a l) (hA : areK l = true) (hn : ((l.length : Int) == 1) = false) :
    Calls Tryz.prog 11 #[.string ⟨#[116, 111, 116, 101, 120, 116]⟩, .slice a l.length cap] w fun e w' => e = .returned (.tuple #[.int .i64 0, .int .i64 100]) ∧ Below w.heap.size w w' := by
  have HK : Hid (KsAt w a l) := hk
  have HX : Hid _ := fun i hi => areK_at hA i hi
  clear hk hA
  have g0 : ((⟨#[116, 111, 116, 101, 120, 116]⟩ : ByteArray).toList == (⟨#[97, 98, 115]⟩ : ByteArray).toList) = false := by kernel_rfl
  have g1 : ((⟨#[116, 111, 116, 101, 120, 116]⟩ : ByteArray).toList == (⟨#[99, 101, 105, 108]⟩ : ByteArray).toList) = false := by kernel_rfl
  have g2 : ((⟨#[116, 111, 116, 101, 120, 116]⟩ : ByteArray).toList == (⟨#[99, 111, 97, 108, 101, 115, 99, 101]⟩ : ByteArray).toList) = false := by kernel_rfl
  have g3 : ((⟨#[116, 111, 116, 101, 120, 116]⟩ : ByteArray).toList == (⟨#[99, 111, 110, 99, 97, 116]⟩ : ByteArray).toList) = false := by kernel_rfl
  have g4 : ((⟨#[116, 111, 116, 101, 120, 116]⟩ : ByteArray).toList == (⟨#[102, 108, 111, 111, 114]⟩ : ByteArray).toList) = false := by kernel_rfl
  have g5 : ((⟨#[116, 111, 116, 101, 120, 116]⟩ : ByteArray).toList == (⟨#[103, 114, 101, 97, 116, 101, 115, 116]⟩ : ByteArray).toList) = false := by kernel_rfl
  have g6 : ((⟨#[116, 111, 116, 101, 120, 116]⟩ : ByteArray).toList == (⟨#[108, 101, 97, 115, 116]⟩ : ByteArray).toList) = false := by kernel_rfl
  have g7 : ((⟨#[116, 111, 116, 101, 120, 116]⟩ : ByteArray).toList == (⟨#[108, 101, 110, 103, 116, 104]⟩ : ByteArray).toList) = false := by kernel_rfl
  have g8 : ((⟨#[116, 111, 116, 101, 120, 116]⟩ : ByteArray).toList == (⟨#[108, 111, 119, 101, 114]⟩ : ByteArray).toList) = false := by kernel_rfl
  have g9 : ((⟨#[116, 111, 116, 101, 120, 116]⟩ : ByteArray).toList == (⟨#[110, 117, 108, 108, 105, 102]⟩ : ByteArray).toList) = false := by kernel_rfl
  have g10 : ((⟨#[116, 111, 116, 101, 120, 116]⟩ : ByteArray).toList == (⟨#[114, 111, 117, 110, 100]⟩ : ByteArray).toList) = false := by kernel_rfl
  have g11 : ((⟨#[116, 111, 116, 101, 120, 116]⟩ : ByteArray).toList == (⟨#[115, 105, 103, 110]⟩ : ByteArray).toList) = false := by kernel_rfl
  have g12 : ((⟨#[116, 111, 116, 101, 120, 116]⟩ : ByteArray).toList == (⟨#[115, 117, 98, 115, 116, 114]⟩ : ByteArray).toList) = false := by kernel_rfl
  have g13 : ((⟨#[116, 111, 116, 101, 120, 116]⟩ : ByteArray).toList == (⟨#[116, 111, 100, 101, 99]⟩ : ByteArray).toList) = false := by kernel_rfl
  have g14 : ((⟨#[116, 111, 116, 101, 120, 116]⟩ : ByteArray).toList == (⟨#[116, 111, 105, 110, 116]⟩ : ByteArray).toList) = false := by kernel_rfl
  have g15 : ((⟨#[116, 111, 116, 101, 120, 116]⟩ : ByteArray).toList == (⟨#[116, 111, 116, 101, 120, 116]⟩ : ByteArray).toList) = true := by kernel_rfl
  have g16 : ((⟨#[116, 111, 116, 101, 120, 116]⟩ : ByteArray).toList == (⟨#[116, 114, 105, 109]⟩ : ByteArray).toList) = false := by kernel_rfl
  have g17 : ((⟨#[116, 111, 116, 101, 120, 116]⟩ : ByteArray).toList == (⟨#[117, 112, 112, 101, 114]⟩ : ByteArray).toList) = false := by kernel_rfl
  go_enter Tryz.func11, Tryz.ntmps11
  go_wp2
  go_loop [7] (fun i => ∃ (m : Nat), m ≤ l.length ∧ i = .int .i64 m) (fun i => l.length - (intOf i).toNat)
  case atStart => exact ⟨0, Nat.zero_le _, rfl⟩
  case round =>
    obtain ⟨m, hm, rfl⟩ := hrel
    rcases Nat.lt_or_ge m l.length with hlt | hge
    · obtain ⟨b, off, rfl, hc⟩ := ks_cells HK.out (by omega)
      have c0 := hc m hlt
      have hQ := rkindOk_any (l.getD m 0) w
      rw [HX.out m hlt] at hQ
      generalize l.getD m 0 = x at c0 hQ
      clear hc g0 g1 g2 g3 g4 g5 g6 g7 g8 g9 g10 g11 g12 g13 g14 g15 g16 g17
      go_wp2_with fail
      refine hQ.mono ?_
      rintro e w1 ⟨rfl, rfl⟩
      clear hQ
      go_wp2
      go_round
      case rel => exact ⟨m + 1, by omega, by go_num⟩
      case measure => simp [intOf]; omega
    · obtain rfl : m = l.length := by omega
      clear HK HX
      go_wp2
      go_ret2
      exact ⟨rfl, Below.refl _ _⟩
theorem rk_no16 (a : Option Addr) (cap : Nat) (l : List Int) (w : World) (hlen : l.length ≤ 9223372036854775807) (hk : KsAt w a l) (hA : areK l = true) (hn : ((l.length : Int) == 1) = false) :
    Calls Tryz.prog 11 #[.string ⟨#[116, 114, 105, 109]⟩, .slice a l.length cap] w fun e w' => e = .returned (.tuple #[.int .i64 0, .int .i64 100]) ∧ Below w.heap.size w w' := by
  have HK : Hid (KsAt w a l) := hk
  have HX : Hid _ := fun i hi => areK_at hA i hi
  clear hk hA
  have g0 : ((⟨#[116, 114, 105, 109]⟩ : ByteArray).toList == (⟨#[97, 98, 115]⟩ : ByteArray).toList) = false := by kernel_rfl
  have g1 : ((⟨#[116, 114, 105, 109]⟩ : ByteArray).toList == (⟨#[99, 101, 105, 108]⟩ : ByteArray).toList) = false := by kernel_rfl
  have g2 : ((⟨#[116, 114, 105, 109]⟩ : ByteArray).toList == (⟨#[99, 111, 97, 108, 101, 115, 99, 101]⟩ : ByteArray).toList) = false := by kernel_rfl
  have g3 : ((⟨#[116, 114, 105, 109]⟩ : ByteArray).toList == (⟨#[99, 111, 110, 99, 97, 116]⟩ : ByteArray).toList) = false := by kernel_rfl
  have g4 : ((⟨#[116, 114, 105, 109]⟩ : ByteArray).toList == (⟨#[102, 108, 111, 111, 114]⟩ : ByteArray).toList) = false := by kernel_rfl
  have g5 : ((⟨#[116, 114, 105, 109]⟩ : ByteArray).toList == (⟨#[103, 114, 101, 97, 116, 101, 115, 116]⟩ : ByteArray).toList) = false := by kernel_rfl
  have g6 : ((⟨#[116, 114, 105, 109]⟩ : ByteArray).toList == (⟨#[108, 101, 97, 115, 116]⟩ : ByteArray).toList) = false := by kernel_rfl
  have g7 : ((⟨#[116, 114, 105, 109]⟩ : ByteArray).toList == (⟨#[108, 101, 110, 103, 116, 104]⟩ : ByteArray).toList) = false := by kernel_rfl
  have g8 : ((⟨#[116, 114, 105, 109]⟩ : ByteArray).toList == (⟨#[108, 111, 119, 101, 114]⟩ : ByteArray).toList) = false := by kernel_rfl
  have g9 : ((⟨#[116, 114, 105, 109]⟩ : ByteArray).toList == (⟨#[110, 117, 108, 108, 105, 102]⟩ : ByteArray).toList) = false := by kernel_rfl
  have g10 : ((⟨#[116, 114, 105, 109]⟩ : ByteArray).toList == (⟨#[114, 111, 117, 110, 100]⟩ : ByteArray).toList) = false := by kernel_rfl
  have g11 : ((⟨#[116, 114, 105, 109]⟩ : ByteArray).toList == (⟨#[115, 105, 103, 110]⟩ : ByteArray).toList) = false := by kernel_rfl
  have g12 : ((⟨#[116, 114, 105, 109]⟩ : ByteArray).toList == (⟨#[115, 117, 98, 115, 116, 114]⟩ : ByteArray).toList) = false := by kernel_rfl
  have g13 : ((⟨#[116, 114, 105, 109]⟩ : ByteArray).toList == (⟨#[116, 111, 100, 101, 99]⟩ : ByteArray).toList) = false := by kernel_rfl
  have g14 : ((⟨#[116, 114, 105, 109]⟩ : ByteArray).toList == (⟨#[116, 111, 105, 110, 116]⟩ : ByteArray).toList) = false := by kernel_rfl
  have g15 : ((⟨#[116, 114, 105, 109]⟩ : ByteArray).toList == (⟨#[116, 111, 116, 101, 120, 116]⟩ : ByteArray).toList) = false := by kernel_rfl
  have g16 : ((⟨#[116, 114, 105, 109]⟩ : ByteArray).toList == (⟨#[116, 114, 105, 109]⟩ : ByteArray).toList) = true := by kernel_rfl
  have g17 : ((⟨#[116, 114, 105, 109]⟩ : ByteArray).toList == (⟨#[117, 112, 112, 101, 114]⟩ : ByteArray).toList) = false := by kernel_rfl
  go_enter Tryz.func11, Tryz.ntmps11
  go_wp2
  go_loop [7] (fun i => ∃ (m : Nat), m ≤ l.length ∧ i = .int .i64 m) (fun i => l.length - (intOf i).toNat)
  case atStart => exact ⟨0, Nat.zero_le _, rfl⟩
  case round =>
    obtain ⟨m, hm, rfl⟩ := hrel
    rcases Nat.lt_or_ge m l.length with hlt | hge
    · obtain ⟨b, off, rfl, hc⟩ := ks_cells HK.out (by omega)
      have c0 := hc m hlt
      have hQ := rkindOk_any (l.getD m 0) w
      rw [HX.out m hlt] at hQ
      generalize l.getD m 0 = x at c0 hQ
      clear hc g0 g1 g2 g3 g4 g5 g6 g7 g8 g9 g10 g11 g12 g13 g14 g15 g16 g17
      go_wp2_with fail
      refine hQ.mono ?_
      rintro e w1 ⟨rfl, rfl⟩
      clear hQ
      go_wp2
      go_round
      case rel => exact ⟨m + 1, by omega, by go_num⟩
      case measure => simp [intOf]; omega
    · obtain rfl : m = l.length := by omega
      clear HK HX
      go_wp2
      go_ret2
      exact ⟨rfl, Below.refl _ _⟩
theorem rk_no17 (a : Option Addr) (cap : Nat) (l : List Int) (w : World) (hlen : l.length ≤ 9223372036854775807) (hk : KsAt w a l) (hA : areK l = true) (hn : ((l.length : Int) == 1) = false) :
    Calls Tryz.prog 11 #[.string ⟨#[117, 112, 112, 101, 114]⟩, .slice a l.length cap] w fun e w' => e = .returned (.tuple #[.int .i64 0, .int .i64 100]) ∧ Below w.heap.size w w' := by
  have HK : Hid (KsAt w a l) := hk
  have HX : Hid _ := fun i hi => areK_at hA i hi
  clear hk hA
  have g0 : ((⟨#[117, 112, 112, 101, 114]⟩ : ByteArray).toList == (⟨#[97, 98, 115]⟩ : ByteArray).toList) = false := by kernel_rfl
  have g1 : ((⟨#[117, 112, 112, 101, 114]⟩ : ByteArray).toList == (⟨#[99, 101, 105, 108]⟩ : ByteArray).toList) = false := by kernel_rfl
  have g2 : ((⟨#[117, 112, 112, 101, 114]⟩ : ByteArray).toList == (⟨#[99, 111, 97, 108, 101, 115, 99, 101]⟩ : ByteArray).toList) = false := by kernel_rfl
  have g3 : ((⟨#[117, 112, 112, 101, 114]⟩ : ByteArray).toList == (⟨#[99, 111, 110, 99, 97, 116]⟩ : ByteArray).toList) = false := by kernel_rfl
  have g4 : ((⟨#[117, 112, 112, 101, 114]⟩ : ByteArray).toList == (⟨#[102, 108, 111, 111, 114]⟩ : ByteArray).toList) = false := by kernel_rfl
  have g5 : ((⟨#[117, 112, 112, 101, 114]⟩ : ByteArray).toList == (⟨#[103, 114, 101, 97, 116, 101, 115, 116]⟩ : ByteArray).toList) = false := by kernel_rfl
  have g6 : ((⟨#[117, 112, 112, 101, 114]⟩ : ByteArray).toList == (⟨#[108, 101, 97, 115, 116]⟩ : ByteArray).toList) = false := by kernel_rfl
  have g7 : ((⟨#[117, 112, 112, 101, 114]⟩ : ByteArray).toList == (⟨#[108, 101, 110, 103, 116, 104]⟩ : ByteArray).toList) = false := by kernel_rfl
  have g8 : ((⟨#[117, 112, 112, 101, 114]⟩ : ByteArray).toList == (⟨#[108, 111, 119, 101, 114]⟩ : ByteArray).toList) = false := by kernel_rfl
  have g9 : ((⟨#[117, 112, 112, 101, 114]⟩ : ByteArray).toList == (⟨#[110, 117, 108, 108, 105, 102]⟩ : ByteArray).toList) = false := by kernel_rfl
  have g10 : ((⟨#[117, 112, 112, 101, 114]⟩ : ByteArray).toList == (⟨#[114, 111, 117, 110, 100]⟩ : ByteArray).toList) = false := by kernel_rfl
  have g11 : ((⟨#[117, 112, 112, 101, 114]⟩ : ByteArray).toList == (⟨#[115, 105, 103, 110]⟩ : ByteArray).toList) = false := by kernel_rfl
  have g12 : ((⟨#[117, 112, 112, 101, 114]⟩ : ByteArray).toList == (⟨#[115, 117, 98, 115, 116, 114]⟩ : ByteArray).toList) = false := by kernel_rfl
  have g13 : ((⟨#[117, 112, 112, 101, 114]⟩ : ByteArray).toList == (⟨#[116, 111, 100, 101, 99]⟩ : ByteArray).toList) = false := by kernel_rfl
  have g14 : ((⟨#[117, 112, 112, 101, 114]⟩ : ByteArray).toList == (⟨#[116, 111, 105, 110, 116]⟩ : ByteArray).toList) = false := by kernel_rfl
  have g15 : ((⟨#[117, 112, 112, 101, 114]⟩ : ByteArray).toList == (⟨#[116, 111, 116, 101, 120, 116]⟩ : ByteArray).toList) = false := by kernel_rfl
  have g16 : ((⟨#[117, 112, 112, 101, 114]⟩ : ByteArray).toList == (⟨#[116, 114, 105, 109]⟩ : ByteArray).toList) = false := by kernel_rfl
  have g17 : ((⟨#[117, 112, 112, 101, 114]⟩ : ByteArray).toList == (⟨#[117, 112, 112, 101, 114]⟩ : ByteArray).toList) = true := by kernel_rfl
  go_enter Tryz.func11, Tryz.ntmps11
  go_wp2
  go_loop [7] (fun i => ∃ (m : Nat), m ≤ l.length ∧ i = .int .i64 m) (fun i => l.length - (intOf i).toNat)
  case atStart => exact ⟨0, Nat.zero_le _, rfl⟩
  case round =>
    obtain ⟨m, hm, rfl⟩ := hrel
    rcases Nat.lt_or_ge m l.length with hlt | hge
    · obtain ⟨b, off, rfl, hc⟩ := ks_cells HK.out (by omega)
      have c0 := hc m hlt
      have hQ := rkindOk_any (l.getD m 0) w
      rw [HX.out m hlt] at hQ
      generalize l.getD m 0 = x at c0 hQ
      clear hc g0 g1 g2 g3 g4 g5 g6 g7 g8 g9 g10 g11 g12 g13 g14 g15 g16 g17
      go_wp2_with fail
      refine hQ.mono ?_
      rintro e w1 ⟨rfl, rfl⟩
      clear hQ
      go_wp2
      go_round
      case rel => exact ⟨m + 1, by omega, by go_num⟩
      case measure => simp [intOf]; omega
    · obtain rfl : m = l.length := by omega
      clear HK HX
      go_wp2
      go_ret2
      exact ⟨rfl, Below.refl _ _⟩
theorem rk_no12 (a : Option Addr) (cap : Nat) (l : List Int) (w : World) (hlen : l.length ≤ 9223372036854775807) (hk : KsAt w a l) (hA : areK l = true) (hn : ((l.length : Int) == 3) = false) :
    Calls Tryz.prog 11 #[.string ⟨#[115, 117, 98, 115, 116, 114]⟩, .slice a l.length cap] w fun e w' => e = .returned (.tuple #[.int .i64 0, .int .i64 100]) ∧ Below w.heap.size w w' := by
  have HK : Hid (KsAt w a l) := hk
  have HX : Hid _ := fun i hi => areK_at hA i hi
  clear hk hA
  have g0 : ((⟨#[115, 117, 98, 115, 116, 114]⟩ : ByteArray).toList == (⟨#[97, 98, 115]⟩ : ByteArray).toList) = false := by kernel_rfl
  have g1 : ((⟨#[115, 117, 98, 115, 116, 114]⟩ : ByteArray).toList == (⟨#[99, 101, 105, 108]⟩ : ByteArray).toList) = false := by kernel_rfl
  have g2 : ((⟨#[115, 117, 98, 115, 116, 114]⟩ : ByteArray).toList == (⟨#[99, 111, 97, 108, 101, 115, 99, 101]⟩ : ByteArray).toList) = false := by kernel_rfl
  have g3 : ((⟨#[115, 117, 98, 115, 116, 114]⟩ : ByteArray).toList == (⟨#[99, 111, 110, 99, 97, 116]⟩ : ByteArray).toList) = false := by kernel_rfl
  have g4 : ((⟨#[115, 117, 98, 115, 116, 114]⟩ : ByteArray).toList == (⟨#[102, 108, 111, 111, 114]⟩ : ByteArray).toList) = false := by kernel_rfl
  have g5 : ((⟨#[115, 117, 98, 115, 116, 114]⟩ : ByteArray).toList == (⟨#[103, 114, 101, 97, 116, 101, 115, 116]⟩ : ByteArray).toList) = false := by kernel_rfl
  have g6 : ((⟨#[115, 117, 98, 115, 116, 114]⟩ : ByteArray).toList == (⟨#[108, 101, 97, 115, 116]⟩ : ByteArray).toList) = false := by kernel_rfl
  have g7 : ((⟨#[115, 117, 98, 115, 116, 114]⟩ : ByteArray).toList == (⟨#[108, 101, 110, 103, 116, 104]⟩ : ByteArray).toList) = false := by kernel_rfl
  have g8 : ((⟨#[115, 117, 98, 115, 116, 114]⟩ : ByteArray).toList == (⟨#[108, 111, 119, 101, 114]⟩ : ByteArray).toList) = false := by kernel_rfl
  have g9 : ((⟨#[115, 117, 98, 115, 116, 114]⟩ : ByteArray).toList == (⟨#[110, 117, 108, 108, 105, 102]⟩ : ByteArray).toList) = false := by kernel_rfl
  have g10 : ((⟨#[115, 117, 98, 115, 116, 114]⟩ : ByteArray).toList == (⟨#[114, 111, 117, 110, 100]⟩ : ByteArray).toList) = false := by kernel_rfl
  have g11 : ((⟨#[115, 117, 98, 115, 116, 114]⟩ : ByteArray).toList == (⟨#[115, 105, 103, 110]⟩ : ByteArray).toList) = false := by kernel_rfl
  have g12 : ((⟨#[115, 117, 98, 115, 116, 114]⟩ : ByteArray).toList == (⟨#[115, 117, 98, 115, 116, 114]⟩ : ByteArray).toList) = true := by kernel_rfl
  have g13 : ((⟨#[115, 117, 98, 115, 116, 114]⟩ : ByteArray).toList == (⟨#[116, 111, 100, 101, 99]⟩ : ByteArray).toList) = false := by kernel_rfl
  have g14 : ((⟨#[115, 117, 98, 115, 116, 114]⟩ : ByteArray).toList == (⟨#[116, 111, 105, 110, 116]⟩ : ByteArray).toList) = false := by kernel_rfl
  have g15 : ((⟨#[115, 117, 98, 115, 116, 114]⟩ : ByteArray).toList == (⟨#[116, 111, 116, 101, 120, 116]⟩ : ByteArray).toList) = false := by kernel_rfl
  have g16 : ((⟨#[115, 117, 98, 115, 116, 114]⟩ : ByteArray).toList == (⟨#[116, 114, 105, 109]⟩ : ByteArray).toList) = false := by kernel_rfl
  have g17 : ((⟨#[115, 117, 98, 115, 116, 114]⟩ : ByteArray).toList == (⟨#[117, 112, 112, 101, 114]⟩ : ByteArray).toList) = false := by kernel_rfl
  go_enter Tryz.func11, Tryz.ntmps11
  go_wp2
  go_loop [7] (fun i => ∃ (m : Nat), m ≤ l.length ∧ i = .int .i64 m) (fun i => l.length - (intOf i).toNat)
  case atStart => exact ⟨0, Nat.zero_le _, rfl⟩
  case round =>
    obtain ⟨m, hm, rfl⟩ := hrel
    rcases Nat.lt_or_ge m l.length with hlt | hge
    · obtain ⟨b, off, rfl, hc⟩ := ks_cells HK.out (by omega)
      have c0 := hc m hlt
      have hQ := rkindOk_any (l.getD m 0) w
      rw [HX.out m hlt] at hQ
      generalize l.getD m 0 = x at c0 hQ
      clear hc g0 g1 g2 g3 g4 g5 g6 g7 g8 g9 g10 g11 g12 g13 g14 g15 g16 g17
      go_wp2_with fail
      refine hQ.mono ?_
      rintro e w1 ⟨rfl, rfl⟩
      clear hQ
      go_wp2
      go_round
      case rel => exact ⟨m + 1, by omega, by go_num⟩
      case measure => simp [intOf]; omega
    · obtain rfl : m = l.length := by omega
      clear HK HX
      go_wp2
      go_ret2
      exact ⟨rfl, Below.refl _ _⟩
end Go.Proofs.YtjphmbgennadcaaGreatDoor
