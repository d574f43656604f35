/- The reference's Kind: nullif, substr. -/
import Derived.Test.YtjphmbgennadcaaGreatDoorRkb
namespace Go.Proofs.YtjphmbgennadcaaGreatDoor
set_option maxHeartbeats 4000000
set_option maxRecDepth 20000
set_option linter.unusedSimpArgs false
open Go.ChangeShapes Go.WideShapes Go.ChangeAt Go.RowKit

theorem rk_no9 (a : Option Addr) (cap : Nat) (l : List Int) (w : World) (hlen : l.length ≤ 9223372036854775807) (hk : KsAt w a l) (hA : areK l = true) (p : Bool) (hp : (alkB l && ((l.length : Int) == 2)) = p) (hp0 : p = false) :
    Calls Tryz.prog 11 #[.string ⟨#[110, 117, 108, 108, 105, 102]⟩, .slice a l.length cap] w fun e w' => e = .returned (.tuple #[.int .i64 0, .int .i64 100]) ∧ Below w.heap.size w w' := by
  have HK : Hid (KsAt w a l) := hk
  have HX : Hid _ := fun i hi => areK_at hA i hi
  clear hk hA
  subst hp0
  have g0 : ((⟨#[110, 117, 108, 108, 105, 102]⟩ : ByteArray).toList == (⟨#[97, 98, 115]⟩ : ByteArray).toList) = false := by kernel_rfl
  have g1 : ((⟨#[110, 117, 108, 108, 105, 102]⟩ : ByteArray).toList == (⟨#[99, 101, 105, 108]⟩ : ByteArray).toList) = false := by kernel_rfl
  have g2 : ((⟨#[110, 117, 108, 108, 105, 102]⟩ : ByteArray).toList == (⟨#[99, 111, 97, 108, 101, 115, 99, 101]⟩ : ByteArray).toList) = false := by kernel_rfl
  have g3 : ((⟨#[110, 117, 108, 108, 105, 102]⟩ : ByteArray).toList == (⟨#[99, 111, 110, 99, 97, 116]⟩ : ByteArray).toList) = false := by kernel_rfl
  have g4 : ((⟨#[110, 117, 108, 108, 105, 102]⟩ : ByteArray).toList == (⟨#[102, 108, 111, 111, 114]⟩ : ByteArray).toList) = false := by kernel_rfl
  have g5 : ((⟨#[110, 117, 108, 108, 105, 102]⟩ : ByteArray).toList == (⟨#[103, 114, 101, 97, 116, 101, 115, 116]⟩ : ByteArray).toList) = false := by kernel_rfl
  have g6 : ((⟨#[110, 117, 108, 108, 105, 102]⟩ : ByteArray).toList == (⟨#[108, 101, 97, 115, 116]⟩ : ByteArray).toList) = false := by kernel_rfl
  have g7 : ((⟨#[110, 117, 108, 108, 105, 102]⟩ : ByteArray).toList == (⟨#[108, 101, 110, 103, 116, 104]⟩ : ByteArray).toList) = false := by kernel_rfl
  have g8 : ((⟨#[110, 117, 108, 108, 105, 102]⟩ : ByteArray).toList == (⟨#[108, 111, 119, 101, 114]⟩ : ByteArray).toList) = false := by kernel_rfl
  have g9 : ((⟨#[110, 117, 108, 108, 105, 102]⟩ : ByteArray).toList == (⟨#[110, 117, 108, 108, 105, 102]⟩ : ByteArray).toList) = true := by kernel_rfl
  have g10 : ((⟨#[110, 117, 108, 108, 105, 102]⟩ : ByteArray).toList == (⟨#[114, 111, 117, 110, 100]⟩ : ByteArray).toList) = false := by kernel_rfl
  have g11 : ((⟨#[110, 117, 108, 108, 105, 102]⟩ : ByteArray).toList == (⟨#[115, 105, 103, 110]⟩ : ByteArray).toList) = false := by kernel_rfl
  have g12 : ((⟨#[110, 117, 108, 108, 105, 102]⟩ : ByteArray).toList == (⟨#[115, 117, 98, 115, 116, 114]⟩ : ByteArray).toList) = false := by kernel_rfl
  have g13 : ((⟨#[110, 117, 108, 108, 105, 102]⟩ : ByteArray).toList == (⟨#[116, 111, 100, 101, 99]⟩ : ByteArray).toList) = false := by kernel_rfl
  have g14 : ((⟨#[110, 117, 108, 108, 105, 102]⟩ : ByteArray).toList == (⟨#[116, 111, 105, 110, 116]⟩ : ByteArray).toList) = false := by kernel_rfl
  have g15 : ((⟨#[110, 117, 108, 108, 105, 102]⟩ : ByteArray).toList == (⟨#[116, 111, 116, 101, 120, 116]⟩ : ByteArray).toList) = false := by kernel_rfl
  have g16 : ((⟨#[110, 117, 108, 108, 105, 102]⟩ : ByteArray).toList == (⟨#[116, 114, 105, 109]⟩ : ByteArray).toList) = false := by kernel_rfl
  have g17 : ((⟨#[110, 117, 108, 108, 105, 102]⟩ : ByteArray).toList == (⟨#[117, 112, 112, 101, 114]⟩ : ByteArray).toList) = false := by kernel_rfl
  go_enter Tryz.func11, Tryz.ntmps11
  go_wp2
  go_loop [7] (fun i => ∃ (m : Nat), m ≤ l.length ∧ i = .int .i64 m) (fun i => l.length - (intOf i).toNat)
  case atStart => exact ⟨0, Nat.zero_le _, rfl⟩
  case round =>
    obtain ⟨m, hm, rfl⟩ := hrel
    rcases Nat.lt_or_ge m l.length with hlt | hge
    · obtain ⟨b, off, rfl, hc⟩ := ks_cells HK.out (by omega)
      have c0 := hc m hlt
      have hQ := rkindOk_any (l.getD m 0) w
      rw [HX.out m hlt] at hQ
      generalize l.getD m 0 = x at c0 hQ
      clear hc g0 g1 g2 g3 g4 g5 g6 g7 g8 g9 g10 g11 g12 g13 g14 g15 g16 g17
      go_wp2_with fail
      refine hQ.mono ?_
      rintro e w1 ⟨rfl, rfl⟩
      clear hQ
      go_wp2
      go_round
      case rel => exact ⟨m + 1, by omega, by go_num⟩
      case measure => simp [intOf]; omega
    · obtain rfl : m = l.length := by omega
      have hL := ralike_any a cap l w hlen HK.out
      generalize comG l = c at *
      generalize alkB l = q at *
      clear HK HX
      cases q with
      | false =>
        clear hp
        go_wp2_with fail
        refine hL.mono ?_
        rintro e w1 ⟨rfl, rfl⟩
        go_wp2
        go_ret2
        exact ⟨rfl, Below.refl _ _⟩
      | true =>
        have hp2 : ((l.length : Int) == 2) = false := by rw [Bool.true_and] at hp; exact hp
        clear hp
        go_wp2_with fail
        refine hL.mono ?_
        rintro e w1 ⟨rfl, rfl⟩
        go_wp2
        go_ret2
        exact ⟨rfl, Below.refl _ _⟩
theorem rk_two9 (b off cap : Nat) (x y : Int) (w : World) (hx : isK x = true) (hy : isK y = true) (c0 : w.cell? ⟨b, off, none⟩ = some (.int .i64 x)) (c1 : w.cell? ⟨b, off + 1, none⟩ = some (.int .i64 y)) (hq : alkB [x, y] = true) :
    Calls Tryz.prog 11 #[.string ⟨#[110, 117, 108, 108, 105, 102]⟩, .slice (some ⟨b, off, none⟩) 2 cap] w fun e w' => e = .returned (.tuple #[.int .i64 x, .int .i64 0]) ∧ Below w.heap.size w w' := by
  have hQ := rkindOk_any x w
  rw [hx] at hQ
  have hQ1 := rkindOk_any y w
  rw [hy] at hQ1
  have hL := ralike_any (some ⟨b, off, none⟩) cap [x, y] w (by simp) (Or.inr ⟨b, off, rfl, fun i hi => by
    match i, hi with
    | 0, _ => exact c0
    | 1, _ => exact c1
    | i + 2, h => simp at h; omega⟩)
  rw [hq] at hL
  have hl2 : ([x, y] : List Int).length = 2 := rfl
  rw [hl2] at hL
  generalize comG [x, y] = c at *
  clear hx hy hq hl2
  have g0 : ((⟨#[110, 117, 108, 108, 105, 102]⟩ : ByteArray).toList == (⟨#[97, 98, 115]⟩ : ByteArray).toList) = false := by kernel_rfl
  have g1 : ((⟨#[110, 117, 108, 108, 105, 102]⟩ : ByteArray).toList == (⟨#[99, 101, 105, 108]⟩ : ByteArray).toList) = false := by kernel_rfl
  have g2 : ((⟨#[110, 117, 108, 108, 105, 102]⟩ : ByteArray).toList == (⟨#[99, 111, 97, 108, 101, 115, 99, 101]⟩ : ByteArray).toList) = false := by kernel_rfl
  have g3 : ((⟨#[110, 117, 108, 108, 105, 102]⟩ : ByteArray).toList == (⟨#[99, 111, 110, 99, 97, 116]⟩ : ByteArray).toList) = false := by kernel_rfl
  have g4 : ((⟨#[110, 117, 108, 108, 105, 102]⟩ : ByteArray).toList == (⟨#[102, 108, 111, 111, 114]⟩ : ByteArray).toList) = false := by kernel_rfl
  have g5 : ((⟨#[110, 117, 108, 108, 105, 102]⟩ : ByteArray).toList == (⟨#[103, 114, 101, 97, 116, 101, 115, 116]⟩ : ByteArray).toList) = false := by kernel_rfl
  have g6 : ((⟨#[110, 117, 108, 108, 105, 102]⟩ : ByteArray).toList == (⟨#[108, 101, 97, 115, 116]⟩ : ByteArray).toList) = false := by kernel_rfl
  have g7 : ((⟨#[110, 117, 108, 108, 105, 102]⟩ : ByteArray).toList == (⟨#[108, 101, 110, 103, 116, 104]⟩ : ByteArray).toList) = false := by kernel_rfl
  have g8 : ((⟨#[110, 117, 108, 108, 105, 102]⟩ : ByteArray).toList == (⟨#[108, 111, 119, 101, 114]⟩ : ByteArray).toList) = false := by kernel_rfl
  have g9 : ((⟨#[110, 117, 108, 108, 105, 102]⟩ : ByteArray).toList == (⟨#[110, 117, 108, 108, 105, 102]⟩ : ByteArray).toList) = true := by kernel_rfl
  have g10 : ((⟨#[110, 117, 108, 108, 105, 102]⟩ : ByteArray).toList == (⟨#[114, 111, 117, 110, 100]⟩ : ByteArray).toList) = false := by kernel_rfl
  have g11 : ((⟨#[110, 117, 108, 108, 105, 102]⟩ : ByteArray).toList == (⟨#[115, 105, 103, 110]⟩ : ByteArray).toList) = false := by kernel_rfl
  have g12 : ((⟨#[110, 117, 108, 108, 105, 102]⟩ : ByteArray).toList == (⟨#[115, 117, 98, 115, 116, 114]⟩ : ByteArray).toList) = false := by kernel_rfl
  have g13 : ((⟨#[110, 117, 108, 108, 105, 102]⟩ : ByteArray).toList == (⟨#[116, 111, 100, 101, 99]⟩ : ByteArray).toList) = false := by kernel_rfl
  have g14 : ((⟨#[110, 117, 108, 108, 105, 102]⟩ : ByteArray).toList == (⟨#[116, 111, 105, 110, 116]⟩ : ByteArray).toList) = false := by kernel_rfl
  have g15 : ((⟨#[110, 117, 108, 108, 105, 102]⟩ : ByteArray).toList == (⟨#[116, 111, 116, 101, 120, 116]⟩ : ByteArray).toList) = false := by kernel_rfl
  have g16 : ((⟨#[110, 117, 108, 108, 105, 102]⟩ : ByteArray).toList == (⟨#[116, 114, 105, 109]⟩ : ByteArray).toList) = false := by kernel_rfl
  have g17 : ((⟨#[110, 117, 108, 108, 105, 102]⟩ : ByteArray).toList == (⟨#[117, 112, 112, 101, 114]⟩ : ByteArray).toList) = false := by kernel_rfl
  go_enter Tryz.func11, Tryz.ntmps11
  go_wp2
  refine wp_loop_rounds 3 ?_
  rw [rounds_succ]
  go_wp2_with fail
  refine hQ.mono ?_
  rintro e w1 ⟨rfl, rfl⟩
  go_wp2
  rw [rounds_succ]
  go_wp2_with fail
  refine hQ1.mono ?_
  rintro e w1 ⟨rfl, rfl⟩
  clear hQ hQ1
  go_wp2
  rw [rounds_succ]
  go_wp2_with fail
  refine hL.mono ?_
  rintro e w1 ⟨rfl, rfl⟩
  go_wp2
  go_ret2
  exact ⟨rfl, Below.refl _ _⟩
theorem rk_three12 (b off cap : Nat) (x y z : Int) (w : World) (p q r : Bool) (hx : isK x = true) (hy : isK y = true) (hz : isK z = true) (c0 : w.cell? ⟨b, off, none⟩ = some (.int .i64 x)) (c1 : w.cell? ⟨b, off + 1, none⟩ = some (.int .i64 y)) (c2 : w.cell? ⟨b, off + 2, none⟩ = some (.int .i64 z))
    (hp : (x == 0 || isT x) = p) (hq : (y == 0 || isI y) = q) (hr : (z == 0 || isI z) = r) :
    Calls Tryz.prog 11 #[.string ⟨#[115, 117, 98, 115, 116, 114]⟩, .slice (some ⟨b, off, none⟩) 3 cap] w fun e w' => e = .returned (.tuple #[.int .i64 (if p && q && r then 4 else 0), .int .i64 (if p && q && r then 0 else 100)]) ∧ Below w.heap.size w w' := by
  have hQ := rkindOk_any x w
  rw [hx] at hQ
  have hQ1 := rkindOk_any y w
  rw [hy] at hQ1
  have hQ2 := rkindOk_any z w
  rw [hz] at hQ2
  have hP := rtext_any x w
  rw [hp] at hP
  have hR := rwhole_any y w
  rw [hq] at hR
  have hS := rwhole_any z w
  rw [hr] at hS
  clear hx hy hz hp hq hr
  have g0 : ((⟨#[115, 117, 98, 115, 116, 114]⟩ : ByteArray).toList == (⟨#[97, 98, 115]⟩ : ByteArray).toList) = false := by kernel_rfl
  have g1 : ((⟨#[115, 117, 98, 115, 116, 114]⟩ : ByteArray).toList == (⟨#[99, 101, 105, 108]⟩ : ByteArray).toList) = false := by kernel_rfl
  have g2 : ((⟨#[115, 117, 98, 115, 116, 114]⟩ : ByteArray).toList == (⟨#[99, 111, 97, 108, 101, 115, 99, 101]⟩ : ByteArray).toList) = false := by kernel_rfl
  have g3 : ((⟨#[115, 117, 98, 115, 116, 114]⟩ : ByteArray).toList == (⟨#[99, 111, 110, 99, 97, 116]⟩ : ByteArray).toList) = false := by kernel_rfl
  have g4 : ((⟨#[115, 117, 98, 115, 116, 114]⟩ : ByteArray).toList == (⟨#[102, 108, 111, 111, 114]⟩ : ByteArray).toList) = false := by kernel_rfl
  have g5 : ((⟨#[115, 117, 98, 115, 116, 114]⟩ : ByteArray).toList == (⟨#[103, 114, 101, 97, 116, 101, 115, 116]⟩ : ByteArray).toList) = false := by kernel_rfl
  have g6 : ((⟨#[115, 117, 98, 115, 116, 114]⟩ : ByteArray).toList == (⟨#[108, 101, 97, 115, 116]⟩ : ByteArray).toList) = false := by kernel_rfl
  have g7 : ((⟨#[115, 117, 98, 115, 116, 114]⟩ : ByteArray).toList == (⟨#[108, 101, 110, 103, 116, 104]⟩ : ByteArray).toList) = false := by kernel_rfl
  have g8 : ((⟨#[115, 117, 98, 115, 116, 114]⟩ : ByteArray).toList == (⟨#[108, 111, 119, 101, 114]⟩ : ByteArray).toList) = false := by kernel_rfl
  have g9 : ((⟨#[115, 117, 98, 115, 116, 114]⟩ : ByteArray).toList == (⟨#[110, 117, 108, 108, 105, 102]⟩ : ByteArray).toList) = false := by kernel_rfl
  have g10 : ((⟨#[115, 117, 98, 115, 116, 114]⟩ : ByteArray).toList == (⟨#[114, 111, 117, 110, 100]⟩ : ByteArray).toList) = false := by kernel_rfl
  have g11 : ((⟨#[115, 117, 98, 115, 116, 114]⟩ : ByteArray).toList == (⟨#[115, 105, 103, 110]⟩ : ByteArray).toList) = false := by kernel_rfl
  have g12 : ((⟨#[115, 117, 98, 115, 116, 114]⟩ : ByteArray).toList == (⟨#[115, 117, 98, 115, 116, 114]⟩ : ByteArray).toList) = true := by kernel_rfl
  have g13 : ((⟨#[115, 117, 98, 115, 116, 114]⟩ : ByteArray).toList == (⟨#[116, 111, 100, 101, 99]⟩ : ByteArray).toList) = false := by kernel_rfl
  have g14 : ((⟨#[115, 117, 98, 115, 116, 114]⟩ : ByteArray).toList == (⟨#[116, 111, 105, 110, 116]⟩ : ByteArray).toList) = false := by kernel_rfl
  have g15 : ((⟨#[115, 117, 98, 115, 116, 114]⟩ : ByteArray).toList == (⟨#[116, 111, 116, 101, 120, 116]⟩ : ByteArray).toList) = false := by kernel_rfl
  have g16 : ((⟨#[115, 117, 98, 115, 116, 114]⟩ : ByteArray).toList == (⟨#[116, 114, 105, 109]⟩ : ByteArray).toList) = false := by kernel_rfl
  have g17 : ((⟨#[115, 117, 98, 115, 116, 114]⟩ : ByteArray).toList == (⟨#[117, 112, 112, 101, 114]⟩ : ByteArray).toList) = false := by kernel_rfl
  go_enter Tryz.func11, Tryz.ntmps11
  go_wp2
  refine wp_loop_rounds 4 ?_
  rw [rounds_succ]
  go_wp2_with fail
  refine hQ.mono ?_
  rintro e w1 ⟨rfl, rfl⟩
  go_wp2
  rw [rounds_succ]
  go_wp2_with fail
  refine hQ1.mono ?_
  rintro e w1 ⟨rfl, rfl⟩
  go_wp2
  rw [rounds_succ]
  go_wp2_with fail
  refine hQ2.mono ?_
  rintro e w1 ⟨rfl, rfl⟩
  clear hQ hQ1 hQ2
  go_wp2
  rw [rounds_succ]
  cases p with
  | false =>
    go_wp2_with fail
    refine hP.mono ?_
    rintro e w1 ⟨rfl, rfl⟩
    go_wp2
    go_ret2
    exact ⟨rfl, Below.refl _ _⟩
  | true =>
    cases q with
    | false =>
      go_wp2_with fail
      refine hP.mono ?_
      rintro e w1 ⟨rfl, rfl⟩
      go_wp2_with fail
      refine hR.mono ?_
      rintro e w1 ⟨rfl, rfl⟩
      go_wp2
      go_ret2
      exact ⟨rfl, Below.refl _ _⟩
    | true =>
      cases r
      all_goals
        go_wp2_with fail
        refine hP.mono ?_
        rintro e w1 ⟨rfl, rfl⟩
        go_wp2_with fail
        refine hR.mono ?_
        rintro e w1 ⟨rfl, rfl⟩
        go_wp2_with fail
        refine hS.mono ?_
        rintro e w1 ⟨rfl, rfl⟩
        go_wp2
        go_ret2
        exact ⟨rfl, Below.refl _ _⟩
end Go.Proofs.YtjphmbgennadcaaGreatDoor
