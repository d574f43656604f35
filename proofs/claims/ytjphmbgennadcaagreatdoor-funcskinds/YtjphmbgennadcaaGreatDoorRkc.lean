/- The reference's Kind: of one. -/
import Derived.Test.YtjphmbgennadcaaGreatDoorRkb
namespace Go.Proofs.YtjphmbgennadcaaGreatDoor
set_option maxHeartbeats 4000000
set_option maxRecDepth 20000
set_option linter.unusedSimpArgs false
open Go.ChangeShapes Go.WideShapes Go.ChangeAt Go.RowKit

theorem rk_one1 (b off cap : Nat) (x : Int) (w : World) (q : Bool) (hx : isK x = true) (c0 : w.cell? ⟨b, off, none⟩ = some (.int .i64 x)) (hq : (x == 0 || isNum x) = q) :
    Calls Tryz.prog 11 #[.string ⟨#[99, 101, 105, 108]⟩, .slice (some ⟨b, off, none⟩) 1 cap] w fun e w' => e = .returned (.tuple #[.int .i64 (if q then 2 else 0), .int .i64 (if q then 0 else 100)]) ∧ Below w.heap.size w w' := by
  have hQ := rkindOk_any x w
  rw [hx] at hQ
  have hT := fun w => rnum_any x w
  simp only [hq] at hT
  clear hx hq
  have g0 : ((⟨#[99, 101, 105, 108]⟩ : ByteArray).toList == (⟨#[97, 98, 115]⟩ : ByteArray).toList) = false := by kernel_rfl
  have g1 : ((⟨#[99, 101, 105, 108]⟩ : ByteArray).toList == (⟨#[99, 101, 105, 108]⟩ : ByteArray).toList) = true := by kernel_rfl
  have g2 : ((⟨#[99, 101, 105, 108]⟩ : ByteArray).toList == (⟨#[99, 111, 97, 108, 101, 115, 99, 101]⟩ : ByteArray).toList) = false := by kernel_rfl
  have g3 : ((⟨#[99, 101, 105, 108]⟩ : ByteArray).toList == (⟨#[99, 111, 110, 99, 97, 116]⟩ : ByteArray).toList) = false := by kernel_rfl
  have g4 : ((⟨#[99, 101, 105, 108]⟩ : ByteArray).toList == (⟨#[102, 108, 111, 111, 114]⟩ : ByteArray).toList) = false := by kernel_rfl
  have g5 : ((⟨#[99, 101, 105, 108]⟩ : ByteArray).toList == (⟨#[103, 114, 101, 97, 116, 101, 115, 116]⟩ : ByteArray).toList) = false := by kernel_rfl
  have g6 : ((⟨#[99, 101, 105, 108]⟩ : ByteArray).toList == (⟨#[108, 101, 97, 115, 116]⟩ : ByteArray).toList) = false := by kernel_rfl
  have g7 : ((⟨#[99, 101, 105, 108]⟩ : ByteArray).toList == (⟨#[108, 101, 110, 103, 116, 104]⟩ : ByteArray).toList) = false := by kernel_rfl
  have g8 : ((⟨#[99, 101, 105, 108]⟩ : ByteArray).toList == (⟨#[108, 111, 119, 101, 114]⟩ : ByteArray).toList) = false := by kernel_rfl
  have g9 : ((⟨#[99, 101, 105, 108]⟩ : ByteArray).toList == (⟨#[110, 117, 108, 108, 105, 102]⟩ : ByteArray).toList) = false := by kernel_rfl
  have g10 : ((⟨#[99, 101, 105, 108]⟩ : ByteArray).toList == (⟨#[114, 111, 117, 110, 100]⟩ : ByteArray).toList) = false := by kernel_rfl
  have g11 : ((⟨#[99, 101, 105, 108]⟩ : ByteArray).toList == (⟨#[115, 105, 103, 110]⟩ : ByteArray).toList) = false := by kernel_rfl
  have g12 : ((⟨#[99, 101, 105, 108]⟩ : ByteArray).toList == (⟨#[115, 117, 98, 115, 116, 114]⟩ : ByteArray).toList) = false := by kernel_rfl
  have g13 : ((⟨#[99, 101, 105, 108]⟩ : ByteArray).toList == (⟨#[116, 111, 100, 101, 99]⟩ : ByteArray).toList) = false := by kernel_rfl
  have g14 : ((⟨#[99, 101, 105, 108]⟩ : ByteArray).toList == (⟨#[116, 111, 105, 110, 116]⟩ : ByteArray).toList) = false := by kernel_rfl
  have g15 : ((⟨#[99, 101, 105, 108]⟩ : ByteArray).toList == (⟨#[116, 111, 116, 101, 120, 116]⟩ : ByteArray).toList) = false := by kernel_rfl
  have g16 : ((⟨#[99, 101, 105, 108]⟩ : ByteArray).toList == (⟨#[116, 114, 105, 109]⟩ : ByteArray).toList) = false := by kernel_rfl
  have g17 : ((⟨#[99, 101, 105, 108]⟩ : ByteArray).toList == (⟨#[117, 112, 112, 101, 114]⟩ : ByteArray).toList) = false := by kernel_rfl
  go_enter Tryz.func11, Tryz.ntmps11
  go_wp2
  refine wp_loop_rounds 2 ?_
  rw [rounds_succ]
  go_wp2_with fail
  refine hQ.mono ?_
  rintro e w1 ⟨rfl, rfl⟩
  clear hQ
  go_wp2
  rw [rounds_succ]
  cases q
  all_goals
    go_wp2_with fail
    refine (hT _).mono ?_
    rintro e w2 ⟨rfl, rfl⟩
    go_wp2
    go_ret2
    exact ⟨rfl, (Bel.out (by repeat (first | exact Bel.refl _ | assumption | refine Bel.drew ?_ | refine Bel.drewN ?_ _ | refine Bel.alloc ?_ _ | refine Bel.setCell ?_ (by simp <;> omega) _ | refine Bel.step ?_ (by assumption))))⟩
theorem rk_one4 (b off cap : Nat) (x : Int) (w : World) (q : Bool) (hx : isK x = true) (c0 : w.cell? ⟨b, off, none⟩ = some (.int .i64 x)) (hq : (x == 0 || isNum x) = q) :
    Calls Tryz.prog 11 #[.string ⟨#[102, 108, 111, 111, 114]⟩, .slice (some ⟨b, off, none⟩) 1 cap] w fun e w' => e = .returned (.tuple #[.int .i64 (if q then 2 else 0), .int .i64 (if q then 0 else 100)]) ∧ Below w.heap.size w w' := by
  have hQ := rkindOk_any x w
  rw [hx] at hQ
  have hT := fun w => rnum_any x w
  simp only [hq] at hT
  clear hx hq
  have g0 : ((⟨#[102, 108, 111, 111, 114]⟩ : ByteArray).toList == (⟨#[97, 98, 115]⟩ : ByteArray).toList) = false := by kernel_rfl
  have g1 : ((⟨#[102, 108, 111, 111, 114]⟩ : ByteArray).toList == (⟨#[99, 101, 105, 108]⟩ : ByteArray).toList) = false := by kernel_rfl
  have g2 : ((⟨#[102, 108, 111, 111, 114]⟩ : ByteArray).toList == (⟨#[99, 111, 97, 108, 101, 115, 99, 101]⟩ : ByteArray).toList) = false := by kernel_rfl
  have g3 : ((⟨#[102, 108, 111, 111, 114]⟩ : ByteArray).toList == (⟨#[99, 111, 110, 99, 97, 116]⟩ : ByteArray).toList) = false := by kernel_rfl
  have g4 : ((⟨#[102, 108, 111, 111, 114]⟩ : ByteArray).toList == (⟨#[102, 108, 111, 111, 114]⟩ : ByteArray).toList) = true := by kernel_rfl
  have g5 : ((⟨#[102, 108, 111, 111, 114]⟩ : ByteArray).toList == (⟨#[103, 114, 101, 97, 116, 101, 115, 116]⟩ : ByteArray).toList) = false := by kernel_rfl
  have g6 : ((⟨#[102, 108, 111, 111, 114]⟩ : ByteArray).toList == (⟨#[108, 101, 97, 115, 116]⟩ : ByteArray).toList) = false := by kernel_rfl
  have g7 : ((⟨#[102, 108, 111, 111, 114]⟩ : ByteArray).toList == (⟨#[108, 101, 110, 103, 116, 104]⟩ : ByteArray).toList) = false := by kernel_rfl
  have g8 : ((⟨#[102, 108, 111, 111, 114]⟩ : ByteArray).toList == (⟨#[108, 111, 119, 101, 114]⟩ : ByteArray).toList) = false := by kernel_rfl
  have g9 : ((⟨#[102, 108, 111, 111, 114]⟩ : ByteArray).toList == (⟨#[110, 117, 108, 108, 105, 102]⟩ : ByteArray).toList) = false := by kernel_rfl
  have g10 : ((⟨#[102, 108, 111, 111, 114]⟩ : ByteArray).toList == (⟨#[114, 111, 117, 110, 100]⟩ : ByteArray).toList) = false := by kernel_rfl
  have g11 : ((⟨#[102, 108, 111, 111, 114]⟩ : ByteArray).toList == (⟨#[115, 105, 103, 110]⟩ : ByteArray).toList) = false := by kernel_rfl
  have g12 : ((⟨#[102, 108, 111, 111, 114]⟩ : ByteArray).toList == (⟨#[115, 117, 98, 115, 116, 114]⟩ : ByteArray).toList) = false := by kernel_rfl
  have g13 : ((⟨#[102, 108, 111, 111, 114]⟩ : ByteArray).toList == (⟨#[116, 111, 100, 101, 99]⟩ : ByteArray).toList) = false := by kernel_rfl
  have g14 : ((⟨#[102, 108, 111, 111, 114]⟩ : ByteArray).toList == (⟨#[116, 111, 105, 110, 116]⟩ : ByteArray).toList) = false := by kernel_rfl
  have g15 : ((⟨#[102, 108, 111, 111, 114]⟩ : ByteArray).toList == (⟨#[116, 111, 116, 101, 120, 116]⟩ : ByteArray).toList) = false := by kernel_rfl
  have g16 : ((⟨#[102, 108, 111, 111, 114]⟩ : ByteArray).toList == (⟨#[116, 114, 105, 109]⟩ : ByteArray).toList) = false := by kernel_rfl
  have g17 : ((⟨#[102, 108, 111, 111, 114]⟩ : ByteArray).toList == (⟨#[117, 112, 112, 101, 114]⟩ : ByteArray).toList) = false := by kernel_rfl
  go_enter Tryz.func11, Tryz.ntmps11
  go_wp2
  refine wp_loop_rounds 2 ?_
  rw [rounds_succ]
  go_wp2_with fail
  refine hQ.mono ?_
  rintro e w1 ⟨rfl, rfl⟩
  clear hQ
  go_wp2
  rw [rounds_succ]
  cases q
  all_goals
    go_wp2_with fail
    refine (hT _).mono ?_
    rintro e w2 ⟨rfl, rfl⟩
    go_wp2
    go_ret2
    exact ⟨rfl, (Bel.out (by repeat (first | exact Bel.refl _ | assumption | refine Bel.drew ?_ | refine Bel.drewN ?_ _ | refine Bel.alloc ?_ _ | refine Bel.setCell ?_ (by simp <;> omega) _ | refine Bel.step ?_ (by assumption))))⟩
theorem rk_one10 (b off cap : Nat) (x : Int) (w : World) (q : Bool) (hx : isK x = true) (c0 : w.cell? ⟨b, off, none⟩ = some (.int .i64 x)) (hq : (x == 0 || isNum x) = q) :
    Calls Tryz.prog 11 #[.string ⟨#[114, 111, 117, 110, 100]⟩, .slice (some ⟨b, off, none⟩) 1 cap] w fun e w' => e = .returned (.tuple #[.int .i64 (if q then 2 else 0), .int .i64 (if q then 0 else 100)]) ∧ Below w.heap.size w w' := by
  have hQ := rkindOk_any x w
  rw [hx] at hQ
  have hT := fun w => rnum_any x w
  simp only [hq] at hT
  clear hx hq
  have g0 : ((⟨#[114, 111, 117, 110, 100]⟩ : ByteArray).toList == (⟨#[97, 98, 115]⟩ : ByteArray).toList) = false := by kernel_rfl
  have g1 : ((⟨#[114, 111, 117, 110, 100]⟩ : ByteArray).toList == (⟨#[99, 101, 105, 108]⟩ : ByteArray).toList) = false := by kernel_rfl
  have g2 : ((⟨#[114, 111, 117, 110, 100]⟩ : ByteArray).toList == (⟨#[99, 111, 97, 108, 101, 115, 99, 101]⟩ : ByteArray).toList) = false := by kernel_rfl
  have g3 : ((⟨#[114, 111, 117, 110, 100]⟩ : ByteArray).toList == (⟨#[99, 111, 110, 99, 97, 116]⟩ : ByteArray).toList) = false := by kernel_rfl
  have g4 : ((⟨#[114, 111, 117, 110, 100]⟩ : ByteArray).toList == (⟨#[102, 108, 111, 111, 114]⟩ : ByteArray).toList) = false := by kernel_rfl
  have g5 : ((⟨#[114, 111, 117, 110, 100]⟩ : ByteArray).toList == (⟨#[103, 114, 101, 97, 116, 101, 115, 116]⟩ : ByteArray).toList) = false := by kernel_rfl
  have g6 : ((⟨#[114, 111, 117, 110, 100]⟩ : ByteArray).toList == (⟨#[108, 101, 97, 115, 116]⟩ : ByteArray).toList) = false := by kernel_rfl
  have g7 : ((⟨#[114, 111, 117, 110, 100]⟩ : ByteArray).toList == (⟨#[108, 101, 110, 103, 116, 104]⟩ : ByteArray).toList) = false := by kernel_rfl
  have g8 : ((⟨#[114, 111, 117, 110, 100]⟩ : ByteArray).toList == (⟨#[108, 111, 119, 101, 114]⟩ : ByteArray).toList) = false := by kernel_rfl
  have g9 : ((⟨#[114, 111, 117, 110, 100]⟩ : ByteArray).toList == (⟨#[110, 117, 108, 108, 105, 102]⟩ : ByteArray).toList) = false := by kernel_rfl
  have g10 : ((⟨#[114, 111, 117, 110, 100]⟩ : ByteArray).toList == (⟨#[114, 111, 117, 110, 100]⟩ : ByteArray).toList) = true := by kernel_rfl
  have g11 : ((⟨#[114, 111, 117, 110, 100]⟩ : ByteArray).toList == (⟨#[115, 105, 103, 110]⟩ : ByteArray).toList) = false := by kernel_rfl
  have g12 : ((⟨#[114, 111, 117, 110, 100]⟩ : ByteArray).toList == (⟨#[115, 117, 98, 115, 116, 114]⟩ : ByteArray).toList) = false := by kernel_rfl
  have g13 : ((⟨#[114, 111, 117, 110, 100]⟩ : ByteArray).toList == (⟨#[116, 111, 100, 101, 99]⟩ : ByteArray).toList) = false := by kernel_rfl
  have g14 : ((⟨#[114, 111, 117, 110, 100]⟩ : ByteArray).toList == (⟨#[116, 111, 105, 110, 116]⟩ : ByteArray).toList) = false := by kernel_rfl
  have g15 : ((⟨#[114, 111, 117, 110, 100]⟩ : ByteArray).toList == (⟨#[116, 111, 116, 101, 120, 116]⟩ : ByteArray).toList) = false := by kernel_rfl
  have g16 : ((⟨#[114, 111, 117, 110, 100]⟩ : ByteArray).toList == (⟨#[116, 114, 105, 109]⟩ : ByteArray).toList) = false := by kernel_rfl
  have g17 : ((⟨#[114, 111, 117, 110, 100]⟩ : ByteArray).toList == (⟨#[117, 112, 112, 101, 114]⟩ : ByteArray).toList) = false := by kernel_rfl
  go_enter Tryz.func11, Tryz.ntmps11
  go_wp2
  refine wp_loop_rounds 2 ?_
  rw [rounds_succ]
  go_wp2_with fail
  refine hQ.mono ?_
  rintro e w1 ⟨rfl, rfl⟩
  clear hQ
  go_wp2
  rw [rounds_succ]
  cases q
  all_goals
    go_wp2_with fail
    refine (hT _).mono ?_
    rintro e w2 ⟨rfl, rfl⟩
    go_wp2
    go_ret2
    exact ⟨rfl, (Bel.out (by repeat (first | exact Bel.refl _ | assumption | refine Bel.drew ?_ | refine Bel.drewN ?_ _ | refine Bel.alloc ?_ _ | refine Bel.setCell ?_ (by simp <;> omega) _ | refine Bel.step ?_ (by assumption))))⟩
theorem rk_one11 (b off cap : Nat) (x : Int) (w : World) (q : Bool) (hx : isK x = true) (c0 : w.cell? ⟨b, off, none⟩ = some (.int .i64 x)) (hq : (x == 0 || isNum x) = q) :
    Calls Tryz.prog 11 #[.string ⟨#[115, 105, 103, 110]⟩, .slice (some ⟨b, off, none⟩) 1 cap] w fun e w' => e = .returned (.tuple #[.int .i64 (if q then 2 else 0), .int .i64 (if q then 0 else 100)]) ∧ Below w.heap.size w w' := by
  have hQ := rkindOk_any x w
  rw [hx] at hQ
  have hT := fun w => rnum_any x w
  simp only [hq] at hT
  clear hx hq
  have g0 : ((⟨#[115, 105, 103, 110]⟩ : ByteArray).toList == (⟨#[97, 98, 115]⟩ : ByteArray).toList) = false := by kernel_rfl
  have g1 : ((⟨#[115, 105, 103, 110]⟩ : ByteArray).toList == (⟨#[99, 101, 105, 108]⟩ : ByteArray).toList) = false := by kernel_rfl
  have g2 : ((⟨#[115, 105, 103, 110]⟩ : ByteArray).toList == (⟨#[99, 111, 97, 108, 101, 115, 99, 101]⟩ : ByteArray).toList) = false := by kernel_rfl
  have g3 : ((⟨#[115, 105, 103, 110]⟩ : ByteArray).toList == (⟨#[99, 111, 110, 99, 97, 116]⟩ : ByteArray).toList) = false := by kernel_rfl
  have g4 : ((⟨#[115, 105, 103, 110]⟩ : ByteArray).toList == (⟨#[102, 108, 111, 111, 114]⟩ : ByteArray).toList) = false := by kernel_rfl
  have g5 : ((⟨#[115, 105, 103, 110]⟩ : ByteArray).toList == (⟨#[103, 114, 101, 97, 116, 101, 115, 116]⟩ : ByteArray).toList) = false := by kernel_rfl
  have g6 : ((⟨#[115, 105, 103, 110]⟩ : ByteArray).toList == (⟨#[108, 101, 97, 115, 116]⟩ : ByteArray).toList) = false := by kernel_rfl
  have g7 : ((⟨#[115, 105, 103, 110]⟩ : ByteArray).toList == (⟨#[108, 101, 110, 103, 116, 104]⟩ : ByteArray).toList) = false := by kernel_rfl
  have g8 : ((⟨#[115, 105, 103, 110]⟩ : ByteArray).toList == (⟨#[108, 111, 119, 101, 114]⟩ : ByteArray).toList) = false := by kernel_rfl
  have g9 : ((⟨#[115, 105, 103, 110]⟩ : ByteArray).toList == (⟨#[110, 117, 108, 108, 105, 102]⟩ : ByteArray).toList) = false := by kernel_rfl
  have g10 : ((⟨#[115, 105, 103, 110]⟩ : ByteArray).toList == (⟨#[114, 111, 117, 110, 100]⟩ : ByteArray).toList) = false := by kernel_rfl
  have g11 : ((⟨#[115, 105, 103, 110]⟩ : ByteArray).toList == (⟨#[115, 105, 103, 110]⟩ : ByteArray).toList) = true := by kernel_rfl
  have g12 : ((⟨#[115, 105, 103, 110]⟩ : ByteArray).toList == (⟨#[115, 117, 98, 115, 116, 114]⟩ : ByteArray).toList) = false := by kernel_rfl
  have g13 : ((⟨#[115, 105, 103, 110]⟩ : ByteArray).toList == (⟨#[116, 111, 100, 101, 99]⟩ : ByteArray).toList) = false := by kernel_rfl
  have g14 : ((⟨#[115, 105, 103, 110]⟩ : ByteArray).toList == (⟨#[116, 111, 105, 110, 116]⟩ : ByteArray).toList) = false := by kernel_rfl
  have g15 : ((⟨#[115, 105, 103, 110]⟩ : ByteArray).toList == (⟨#[116, 111, 116, 101, 120, 116]⟩ : ByteArray).toList) = false := by kernel_rfl
  have g16 : ((⟨#[115, 105, 103, 110]⟩ : ByteArray).toList == (⟨#[116, 114, 105, 109]⟩ : ByteArray).toList) = false := by kernel_rfl
  have g17 : ((⟨#[115, 105, 103, 110]⟩ : ByteArray).toList == (⟨#[117, 112, 112, 101, 114]⟩ : ByteArray).toList) = false := by kernel_rfl
  go_enter Tryz.func11, Tryz.ntmps11
  go_wp2
  refine wp_loop_rounds 2 ?_
  rw [rounds_succ]
  go_wp2_with fail
  refine hQ.mono ?_
  rintro e w1 ⟨rfl, rfl⟩
  clear hQ
  go_wp2
  rw [rounds_succ]
  cases q
  all_goals
    go_wp2_with fail
    refine (hT _).mono ?_
    rintro e w2 ⟨rfl, rfl⟩
    go_wp2
    go_ret2
    exact ⟨rfl, (Bel.out (by repeat (first | exact Bel.refl _ | assumption | refine Bel.drew ?_ | refine Bel.drewN ?_ _ | refine Bel.alloc ?_ _ | refine Bel.setCell ?_ (by simp <;> omega) _ | refine Bel.step ?_ (by assumption))))⟩
theorem rk_one14 (b off cap : Nat) (x : Int) (w : World) (q : Bool) (hx : isK x = true) (c0 : w.cell? ⟨b, off, none⟩ = some (.int .i64 x)) (hq : (x == 0 || isNum x) = q) :
    Calls Tryz.prog 11 #[.string ⟨#[116, 111, 105, 110, 116]⟩, .slice (some ⟨b, off, none⟩) 1 cap] w fun e w' => e = .returned (.tuple #[.int .i64 (if q then 2 else 0), .int .i64 (if q then 0 else 100)]) ∧ Below w.heap.size w w' := by
  have hQ := rkindOk_any x w
  rw [hx] at hQ
  have hT := fun w => rnum_any x w
  simp only [hq] at hT
  clear hx hq
  have g0 : ((⟨#[116, 111, 105, 110, 116]⟩ : ByteArray).toList == (⟨#[97, 98, 115]⟩ : ByteArray).toList) = false := by kernel_rfl
  have g1 : ((⟨#[116, 111, 105, 110, 116]⟩ : ByteArray).toList == (⟨#[99, 101, 105, 108]⟩ : ByteArray).toList) = false := by kernel_rfl
  have g2 : ((⟨#[116, 111, 105, 110, 116]⟩ : ByteArray).toList == (⟨#[99, 111, 97, 108, 101, 115, 99, 101]⟩ : ByteArray).toList) = false := by kernel_rfl
  have g3 : ((⟨#[116, 111, 105, 110, 116]⟩ : ByteArray).toList == (⟨#[99, 111, 110, 99, 97, 116]⟩ : ByteArray).toList) = false := by kernel_rfl
  have g4 : ((⟨#[116, 111, 105, 110, 116]⟩ : ByteArray).toList == (⟨#[102, 108, 111, 111, 114]⟩ : ByteArray).toList) = false := by kernel_rfl
  have g5 : ((⟨#[116, 111, 105, 110, 116]⟩ : ByteArray).toList == (⟨#[103, 114, 101, 97, 116, 101, 115, 116]⟩ : ByteArray).toList) = false := by kernel_rfl
  have g6 : ((⟨#[116, 111, 105, 110, 116]⟩ : ByteArray).toList == (⟨#[108, 101, 97, 115, 116]⟩ : ByteArray).toList) = false := by kernel_rfl
  have g7 : ((⟨#[116, 111, 105, 110, 116]⟩ : ByteArray).toList == (⟨#[108, 101, 110, 103, 116, 104]⟩ : ByteArray).toList) = false := by kernel_rfl
  have g8 : ((⟨#[116, 111, 105, 110, 116]⟩ : ByteArray).toList == (⟨#[108, 111, 119, 101, 114]⟩ : ByteArray).toList) = false := by kernel_rfl
  have g9 : ((⟨#[116, 111, 105, 110, 116]⟩ : ByteArray).toList == (⟨#[110, 117, 108, 108, 105, 102]⟩ : ByteArray).toList) = false := by kernel_rfl
  have g10 : ((⟨#[116, 111, 105, 110, 116]⟩ : ByteArray).toList == (⟨#[114, 111, 117, 110, 100]⟩ : ByteArray).toList) = false := by kernel_rfl
  have g11 : ((⟨#[116, 111, 105, 110, 116]⟩ : ByteArray).toList == (⟨#[115, 105, 103, 110]⟩ : ByteArray).toList) = false := by kernel_rfl
  have g12 : ((⟨#[116, 111, 105, 110, 116]⟩ : ByteArray).toList == (⟨#[115, 117, 98, 115, 116, 114]⟩ : ByteArray).toList) = false := by kernel_rfl
  have g13 : ((⟨#[116, 111, 105, 110, 116]⟩ : ByteArray).toList == (⟨#[116, 111, 100, 101, 99]⟩ : ByteArray).toList) = false := by kernel_rfl
  have g14 : ((⟨#[116, 111, 105, 110, 116]⟩ : ByteArray).toList == (⟨#[116, 111, 105, 110, 116]⟩ : ByteArray).toList) = true := by kernel_rfl
  have g15 : ((⟨#[116, 111, 105, 110, 116]⟩ : ByteArray).toList == (⟨#[116, 111, 116, 101, 120, 116]⟩ : ByteArray).toList) = false := by kernel_rfl
  have g16 : ((⟨#[116, 111, 105, 110, 116]⟩ : ByteArray).toList == (⟨#[116, 114, 105, 109]⟩ : ByteArray).toList) = false := by kernel_rfl
  have g17 : ((⟨#[116, 111, 105, 110, 116]⟩ : ByteArray).toList == (⟨#[117, 112, 112, 101, 114]⟩ : ByteArray).toList) = false := by kernel_rfl
  go_enter Tryz.func11, Tryz.ntmps11
  go_wp2
  refine wp_loop_rounds 2 ?_
  rw [rounds_succ]
  go_wp2_with fail
  refine hQ.mono ?_
  rintro e w1 ⟨rfl, rfl⟩
  clear hQ
  go_wp2
  rw [rounds_succ]
  cases q
  all_goals
    go_wp2_with fail
    refine (hT _).mono ?_
    rintro e w2 ⟨rfl, rfl⟩
    go_wp2
    go_ret2
    exact ⟨rfl, (Bel.out (by repeat (first | exact Bel.refl _ | assumption | refine Bel.drew ?_ | refine Bel.drewN ?_ _ | refine Bel.alloc ?_ _ | refine Bel.setCell ?_ (by simp <;> omega) _ | refine Bel.step ?_ (by assumption))))⟩
theorem rk_one13 (b off cap : Nat) (x : Int) (w : World) (q : Bool) (hx : isK x = true) (c0 : w.cell? ⟨b, off, none⟩ = some (.int .i64 x)) (hq : (x == 0 || isNum x) = q) :
    Calls Tryz.prog 11 #[.string ⟨#[116, 111, 100, 101, 99]⟩, .slice (some ⟨b, off, none⟩) 1 cap] w fun e w' => e = .returned (.tuple #[.int .i64 (if q then 3 else 0), .int .i64 (if q then 0 else 100)]) ∧ Below w.heap.size w w' := by
  have hQ := rkindOk_any x w
  rw [hx] at hQ
  have hT := fun w => rnum_any x w
  simp only [hq] at hT
  clear hx hq
  have g0 : ((⟨#[116, 111, 100, 101, 99]⟩ : ByteArray).toList == (⟨#[97, 98, 115]⟩ : ByteArray).toList) = false := by kernel_rfl
  have g1 : ((⟨#[116, 111, 100, 101, 99]⟩ : ByteArray).toList == (⟨#[99, 101, 105, 108]⟩ : ByteArray).toList) = false := by kernel_rfl
  have g2 : ((⟨#[116, 111, 100, 101, 99]⟩ : ByteArray).toList == (⟨#[99, 111, 97, 108, 101, 115, 99, 101]⟩ : ByteArray).toList) = false := by kernel_rfl
  have g3 : ((⟨#[116, 111, 100, 101, 99]⟩ : ByteArray).toList == (⟨#[99, 111, 110, 99, 97, 116]⟩ : ByteArray).toList) = false := by kernel_rfl
  have g4 : ((⟨#[116, 111, 100, 101, 99]⟩ : ByteArray).toList == (⟨#[102, 108, 111, 111, 114]⟩ : ByteArray).toList) = false := by kernel_rfl
  have g5 : ((⟨#[116, 111, 100, 101, 99]⟩ : ByteArray).toList == (⟨#[103, 114, 101, 97, 116, 101, 115, 116]⟩ : ByteArray).toList) = false := by kernel_rfl
  have g6 : ((⟨#[116, 111, 100, 101, 99]⟩ : ByteArray).toList == (⟨#[108, 101, 97, 115, 116]⟩ : ByteArray).toList) = false := by kernel_rfl
  have g7 : ((⟨#[116, 111, 100, 101, 99]⟩ : ByteArray).toList == (⟨#[108, 101, 110, 103, 116, 104]⟩ : ByteArray).toList) = false := by kernel_rfl
  have g8 : ((⟨#[116, 111, 100, 101, 99]⟩ : ByteArray).toList == (⟨#[108, 111, 119, 101, 114]⟩ : ByteArray).toList) = false := by kernel_rfl
  have g9 : ((⟨#[116, 111, 100, 101, 99]⟩ : ByteArray).toList == (⟨#[110, 117, 108, 108, 105, 102]⟩ : ByteArray).toList) = false := by kernel_rfl
  have g10 : ((⟨#[116, 111, 100, 101, 99]⟩ : ByteArray).toList == (⟨#[114, 111, 117, 110, 100]⟩ : ByteArray).toList) = false := by kernel_rfl
  have g11 : ((⟨#[116, 111, 100, 101, 99]⟩ : ByteArray).toList == (⟨#[115, 105, 103, 110]⟩ : ByteArray).toList) = false := by kernel_rfl
  have g12 : ((⟨#[116, 111, 100, 101, 99]⟩ : ByteArray).toList == (⟨#[115, 117, 98, 115, 116, 114]⟩ : ByteArray).toList) = false := by kernel_rfl
  have g13 : ((⟨#[116, 111, 100, 101, 99]⟩ : ByteArray).toList == (⟨#[116, 111, 100, 101, 99]⟩ : ByteArray).toList) = true := by kernel_rfl
  have g14 : ((⟨#[116, 111, 100, 101, 99]⟩ : ByteArray).toList == (⟨#[116, 111, 105, 110, 116]⟩ : ByteArray).toList) = false := by kernel_rfl
  have g15 : ((⟨#[116, 111, 100, 101, 99]⟩ : ByteArray).toList == (⟨#[116, 111, 116, 101, 120, 116]⟩ : ByteArray).toList) = false := by kernel_rfl
  have g16 : ((⟨#[116, 111, 100, 101, 99]⟩ : ByteArray).toList == (⟨#[116, 114, 105, 109]⟩ : ByteArray).toList) = false := by kernel_rfl
  have g17 : ((⟨#[116, 111, 100, 101, 99]⟩ : ByteArray).toList == (⟨#[117, 112, 112, 101, 114]⟩ : ByteArray).toList) = false := by kernel_rfl
  go_enter Tryz.func11, Tryz.ntmps11
  go_wp2
  refine wp_loop_rounds 2 ?_
  rw [rounds_succ]
  go_wp2_with fail
  refine hQ.mono ?_
  rintro e w1 ⟨rfl, rfl⟩
  clear hQ
  go_wp2
  rw [rounds_succ]
  cases q
  all_goals
    go_wp2_with fail
    refine (hT _).mono ?_
    rintro e w2 ⟨rfl, rfl⟩
    go_wp2
    go_ret2
    exact ⟨rfl, (Bel.out (by repeat (first | exact Bel.refl _ | assumption | refine Bel.drew ?_ | refine Bel.drewN ?_ _ | refine Bel.alloc ?_ _ | refine Bel.setCell ?_ (by simp <;> omega) _ | refine Bel.step ?_ (by assumption))))⟩
theorem rk_one7 (b off cap : Nat) (x : Int) (w : World) (q : Bool) (hx : isK x = true) (c0 : w.cell? ⟨b, off, none⟩ = some (.int .i64 x)) (hq : (x == 0 || isT x) = q) :
    Calls Tryz.prog 11 #[.string ⟨#[108, 101, 110, 103, 116, 104]⟩, .slice (some ⟨b, off, none⟩) 1 cap] w fun e w' => e = .returned (.tuple #[.int .i64 (if q then 2 else 0), .int .i64 (if q then 0 else 100)]) ∧ Below w.heap.size w w' := by
  have hQ := rkindOk_any x w
  rw [hx] at hQ
  have hT := fun w => rtext_any x w
  simp only [hq] at hT
  clear hx hq
  have g0 : ((⟨#[108, 101, 110, 103, 116, 104]⟩ : ByteArray).toList == (⟨#[97, 98, 115]⟩ : ByteArray).toList) = false := by kernel_rfl
  have g1 : ((⟨#[108, 101, 110, 103, 116, 104]⟩ : ByteArray).toList == (⟨#[99, 101, 105, 108]⟩ : ByteArray).toList) = false := by kernel_rfl
  have g2 : ((⟨#[108, 101, 110, 103, 116, 104]⟩ : ByteArray).toList == (⟨#[99, 111, 97, 108, 101, 115, 99, 101]⟩ : ByteArray).toList) = false := by kernel_rfl
  have g3 : ((⟨#[108, 101, 110, 103, 116, 104]⟩ : ByteArray).toList == (⟨#[99, 111, 110, 99, 97, 116]⟩ : ByteArray).toList) = false := by kernel_rfl
  have g4 : ((⟨#[108, 101, 110, 103, 116, 104]⟩ : ByteArray).toList == (⟨#[102, 108, 111, 111, 114]⟩ : ByteArray).toList) = false := by kernel_rfl
  have g5 : ((⟨#[108, 101, 110, 103, 116, 104]⟩ : ByteArray).toList == (⟨#[103, 114, 101, 97, 116, 101, 115, 116]⟩ : ByteArray).toList) = false := by kernel_rfl
  have g6 : ((⟨#[108, 101, 110, 103, 116, 104]⟩ : ByteArray).toList == (⟨#[108, 101, 97, 115, 116]⟩ : ByteArray).toList) = false := by kernel_rfl
  have g7 : ((⟨#[108, 101, 110, 103, 116, 104]⟩ : ByteArray).toList == (⟨#[108, 101, 110, 103, 116, 104]⟩ : ByteArray).toList) = true := by kernel_rfl
  have g8 : ((⟨#[108, 101, 110, 103, 116, 104]⟩ : ByteArray).toList == (⟨#[108, 111, 119, 101, 114]⟩ : ByteArray).toList) = false := by kernel_rfl
  have g9 : ((⟨#[108, 101, 110, 103, 116, 104]⟩ : ByteArray).toList == (⟨#[110, 117, 108, 108, 105, 102]⟩ : ByteArray).toList) = false := by kernel_rfl
  have g10 : ((⟨#[108, 101, 110, 103, 116, 104]⟩ : ByteArray).toList == (⟨#[114, 111, 117, 110, 100]⟩ : ByteArray).toList) = false := by kernel_rfl
  have g11 : ((⟨#[108, 101, 110, 103, 116, 104]⟩ : ByteArray).toList == (⟨#[115, 105, 103, 110]⟩ : ByteArray).toList) = false := by kernel_rfl
  have g12 : ((⟨#[108, 101, 110, 103, 116, 104]⟩ : ByteArray).toList == (⟨#[115, 117, 98, 115, 116, 114]⟩ : ByteArray).toList) = false := by kernel_rfl
  have g13 : ((⟨#[108, 101, 110, 103, 116, 104]⟩ : ByteArray).toList == (⟨#[116, 111, 100, 101, 99]⟩ : ByteArray).toList) = false := by kernel_rfl
  have g14 : ((⟨#[108, 101, 110, 103, 116, 104]⟩ : ByteArray).toList == (⟨#[116, 111, 105, 110, 116]⟩ : ByteArray).toList) = false := by kernel_rfl
  have g15 : ((⟨#[108, 101, 110, 103, 116, 104]⟩ : ByteArray).toList == (⟨#[116, 111, 116, 101, 120, 116]⟩ : ByteArray).toList) = false := by kernel_rfl
  have g16 : ((⟨#[108, 101, 110, 103, 116, 104]⟩ : ByteArray).toList == (⟨#[116, 114, 105, 109]⟩ : ByteArray).toList) = false := by kernel_rfl
  have g17 : ((⟨#[108, 101, 110, 103, 116, 104]⟩ : ByteArray).toList == (⟨#[117, 112, 112, 101, 114]⟩ : ByteArray).toList) = false := by kernel_rfl
  go_enter Tryz.func11, Tryz.ntmps11
  go_wp2
  refine wp_loop_rounds 2 ?_
  rw [rounds_succ]
  go_wp2_with fail
  refine hQ.mono ?_
  rintro e w1 ⟨rfl, rfl⟩
  clear hQ
  go_wp2
  rw [rounds_succ]
  cases q
  all_goals
    go_wp2_with fail
    refine (hT _).mono ?_
    rintro e w2 ⟨rfl, rfl⟩
    go_wp2
    go_ret2
    exact ⟨rfl, (Bel.out (by repeat (first | exact Bel.refl _ | assumption | refine Bel.drew ?_ | refine Bel.drewN ?_ _ | refine Bel.alloc ?_ _ | refine Bel.setCell ?_ (by simp <;> omega) _ | refine Bel.step ?_ (by assumption))))⟩
theorem rk_one8 (b off cap : Nat) (x : Int) (w : World) (q : Bool) (hx : isK x = true) (c0 : w.cell? ⟨b, off, none⟩ = some (.int .i64 x)) (hq : (x == 0 || isT x) = q) :
    Calls Tryz.prog 11 #[.string ⟨#[108, 111, 119, 101, 114]⟩, .slice (some ⟨b, off, none⟩) 1 cap] w fun e w' => e = .returned (.tuple #[.int .i64 (if q then 4 else 0), .int .i64 (if q then 0 else 100)]) ∧ Below w.heap.size w w' := by
  have hQ := rkindOk_any x w
  rw [hx] at hQ
  have hT := fun w => rtext_any x w
  simp only [hq] at hT
  clear hx hq
  have g0 : ((⟨#[108, 111, 119, 101, 114]⟩ : ByteArray).toList == (⟨#[97, 98, 115]⟩ : ByteArray).toList) = false := by kernel_rfl
  have g1 : ((⟨#[108, 111, 119, 101, 114]⟩ : ByteArray).toList == (⟨#[99, 101, 105, 108]⟩ : ByteArray).toList) = false := by kernel_rfl
  have g2 : ((⟨#[108, 111, 119, 101, 114]⟩ : ByteArray).toList == (⟨#[99, 111, 97, 108, 101, 115, 99, 101]⟩ : ByteArray).toList) = false := by kernel_rfl
  have g3 : ((⟨#[108, 111, 119, 101, 114]⟩ : ByteArray).toList == (⟨#[99, 111, 110, 99, 97, 116]⟩ : ByteArray).toList) = false := by kernel_rfl
  have g4 : ((⟨#[108, 111, 119, 101, 114]⟩ : ByteArray).toList == (⟨#[102, 108, 111, 111, 114]⟩ : ByteArray).toList) = false := by kernel_rfl
  have g5 : ((⟨#[108, 111, 119, 101, 114]⟩ : ByteArray).toList == (⟨#[103, 114, 101, 97, 116, 101, 115, 116]⟩ : ByteArray).toList) = false := by kernel_rfl
  have g6 : ((⟨#[108, 111, 119, 101, 114]⟩ : ByteArray).toList == (⟨#[108, 101, 97, 115, 116]⟩ : ByteArray).toList) = false := by kernel_rfl
  have g7 : ((⟨#[108, 111, 119, 101, 114]⟩ : ByteArray).toList == (⟨#[108, 101, 110, 103, 116, 104]⟩ : ByteArray).toList) = false := by kernel_rfl
  have g8 : ((⟨#[108, 111, 119, 101, 114]⟩ : ByteArray).toList == (⟨#[108, 111, 119, 101, 114]⟩ : ByteArray).toList) = true := by kernel_rfl
  have g9 : ((⟨#[108, 111, 119, 101, 114]⟩ : ByteArray).toList == (⟨#[110, 117, 108, 108, 105, 102]⟩ : ByteArray).toList) = false := by kernel_rfl
  have g10 : ((⟨#[108, 111, 119, 101, 114]⟩ : ByteArray).toList == (⟨#[114, 111, 117, 110, 100]⟩ : ByteArray).toList) = false := by kernel_rfl
  have g11 : ((⟨#[108, 111, 119, 101, 114]⟩ : ByteArray).toList == (⟨#[115, 105, 103, 110]⟩ : ByteArray).toList) = false := by kernel_rfl
  have g12 : ((⟨#[108, 111, 119, 101, 114]⟩ : ByteArray).toList == (⟨#[115, 117, 98, 115, 116, 114]⟩ : ByteArray).toList) = false := by kernel_rfl
  have g13 : ((⟨#[108, 111, 119, 101, 114]⟩ : ByteArray).toList == (⟨#[116, 111, 100, 101, 99]⟩ : ByteArray).toList) = false := by kernel_rfl
  have g14 : ((⟨#[108, 111, 119, 101, 114]⟩ : ByteArray).toList == (⟨#[116, 111, 105, 110, 116]⟩ : ByteArray).toList) = false := by kernel_rfl
  have g15 : ((⟨#[108, 111, 119, 101, 114]⟩ : ByteArray).toList == (⟨#[116, 111, 116, 101, 120, 116]⟩ : ByteArray).toList) = false := by kernel_rfl
  have g16 : ((⟨#[108, 111, 119, 101, 114]⟩ : ByteArray).toList == (⟨#[116, 114, 105, 109]⟩ : ByteArray).toList) = false := by kernel_rfl
  have g17 : ((⟨#[108, 111, 119, 101, 114]⟩ : ByteArray).toList == (⟨#[117, 112, 112, 101, 114]⟩ : ByteArray).toList) = false := by kernel_rfl
  go_enter Tryz.func11, Tryz.ntmps11
  go_wp2
  refine wp_loop_rounds 2 ?_
  rw [rounds_succ]
  go_wp2_with fail
  refine hQ.mono ?_
  rintro e w1 ⟨rfl, rfl⟩
  clear hQ
  go_wp2
  rw [rounds_succ]
  cases q
  all_goals
    go_wp2_with fail
    refine (hT _).mono ?_
    rintro e w2 ⟨rfl, rfl⟩
    go_wp2
    go_ret2
    exact ⟨rfl, (Bel.out (by repeat (first | exact Bel.refl _ | assumption | refine Bel.drew ?_ | refine Bel.drewN ?_ _ | refine Bel.alloc ?_ _ | refine Bel.setCell ?_ (by simp <;> omega) _ | refine Bel.step ?_ (by assumption))))⟩
theorem rk_one16 (b off cap : Nat) (x : Int) (w : World) (q : Bool) (hx : isK x = true) (c0 : w.cell? ⟨b, off, none⟩ = some (.int .i64 x)) (hq : (x == 0 || isT x) = q) :
    Calls Tryz.prog 11 #[.string ⟨#[116, 114, 105, 109]⟩, .slice (some ⟨b, off, none⟩) 1 cap] w fun e w' => e = .returned (.tuple #[.int .i64 (if q then 4 else 0), .int .i64 (if q then 0 else 100)]) ∧ Below w.heap.size w w' := by
  have hQ := rkindOk_any x w
  rw [hx] at hQ
  have hT := fun w => rtext_any x w
  simp only [hq] at hT
  clear hx hq
  have g0 : ((⟨#[116, 114, 105, 109]⟩ : ByteArray).toList == (⟨#[97, 98, 115]⟩ : ByteArray).toList) = false := by kernel_rfl
  have g1 : ((⟨#[116, 114, 105, 109]⟩ : ByteArray).toList == (⟨#[99, 101, 105, 108]⟩ : ByteArray).toList) = false := by kernel_rfl
  have g2 : ((⟨#[116, 114, 105, 109]⟩ : ByteArray).toList == (⟨#[99, 111, 97, 108, 101, 115, 99, 101]⟩ : ByteArray).toList) = false := by kernel_rfl
  have g3 : ((⟨#[116, 114, 105, 109]⟩ : ByteArray).toList == (⟨#[99, 111, 110, 99, 97, 116]⟩ : ByteArray).toList) = false := by kernel_rfl
  have g4 : ((⟨#[116, 114, 105, 109]⟩ : ByteArray).toList == (⟨#[102, 108, 111, 111, 114]⟩ : ByteArray).toList) = false := by kernel_rfl
  have g5 : ((⟨#[116, 114, 105, 109]⟩ : ByteArray).toList == (⟨#[103, 114, 101, 97, 116, 101, 115, 116]⟩ : ByteArray).toList) = false := by kernel_rfl
  have g6 : ((⟨#[116, 114, 105, 109]⟩ : ByteArray).toList == (⟨#[108, 101, 97, 115, 116]⟩ : ByteArray).toList) = false := by kernel_rfl
  have g7 : ((⟨#[116, 114, 105, 109]⟩ : ByteArray).toList == (⟨#[108, 101, 110, 103, 116, 104]⟩ : ByteArray).toList) = false := by kernel_rfl
  have g8 : ((⟨#[116, 114, 105, 109]⟩ : ByteArray).toList == (⟨#[108, 111, 119, 101, 114]⟩ : ByteArray).toList) = false := by kernel_rfl
  have g9 : ((⟨#[116, 114, 105, 109]⟩ : ByteArray).toList == (⟨#[110, 117, 108, 108, 105, 102]⟩ : ByteArray).toList) = false := by kernel_rfl
  have g10 : ((⟨#[116, 114, 105, 109]⟩ : ByteArray).toList == (⟨#[114, 111, 117, 110, 100]⟩ : ByteArray).toList) = false := by kernel_rfl
  have g11 : ((⟨#[116, 114, 105, 109]⟩ : ByteArray).toList == (⟨#[115, 105, 103, 110]⟩ : ByteArray).toList) = false := by kernel_rfl
  have g12 : ((⟨#[116, 114, 105, 109]⟩ : ByteArray).toList == (⟨#[115, 117, 98, 115, 116, 114]⟩ : ByteArray).toList) = false := by kernel_rfl
  have g13 : ((⟨#[116, 114, 105, 109]⟩ : ByteArray).toList == (⟨#[116, 111, 100, 101, 99]⟩ : ByteArray).toList) = false := by kernel_rfl
  have g14 : ((⟨#[116, 114, 105, 109]⟩ : ByteArray).toList == (⟨#[116, 111, 105, 110, 116]⟩ : ByteArray).toList) = false := by kernel_rfl
  have g15 : ((⟨#[116, 114, 105, 109]⟩ : ByteArray).toList == (⟨#[116, 111, 116, 101, 120, 116]⟩ : ByteArray).toList) = false := by kernel_rfl
  have g16 : ((⟨#[116, 114, 105, 109]⟩ : ByteArray).toList == (⟨#[116, 114, 105, 109]⟩ : ByteArray).toList) = true := by kernel_rfl
  have g17 : ((⟨#[116, 114, 105, 109]⟩ : ByteArray).toList == (⟨#[117, 112, 112, 101, 114]⟩ : ByteArray).toList) = false := by kernel_rfl
  go_enter Tryz.func11, Tryz.ntmps11
  go_wp2
  refine wp_loop_rounds 2 ?_
  rw [rounds_succ]
  go_wp2_with fail
  refine hQ.mono ?_
  rintro e w1 ⟨rfl, rfl⟩
  clear hQ
  go_wp2
  rw [rounds_succ]
  cases q
  all_goals
    go_wp2_with fail
    refine (hT _).mono ?_
    rintro e w2 ⟨rfl, rfl⟩
    go_wp2
    go_ret2
    exact ⟨rfl, (Bel.out (by repeat (first | exact Bel.refl _ | assumption | refine Bel.drew ?_ | refine Bel.drewN ?_ _ | refine Bel.alloc ?_ _ | refine Bel.setCell ?_ (by simp <;> omega) _ | refine Bel.step ?_ (by assumption))))⟩
theorem rk_one17 (b off cap : Nat) (x : Int) (w : World) (q : Bool) (hx : isK x = true) (c0 : w.cell? ⟨b, off, none⟩ = some (.int .i64 x)) (hq : (x == 0 || isT x) = q) :
    Calls Tryz.prog 11 #[.string ⟨#[117, 112, 112, 101, 114]⟩, .slice (some ⟨b, off, none⟩) 1 cap] w fun e w' => e = .returned (.tuple #[.int .i64 (if q then 4 else 0), .int .i64 (if q then 0 else 100)]) ∧ Below w.heap.size w w' := by
  have hQ := rkindOk_any x w
  rw [hx] at hQ
  have hT := fun w => rtext_any x w
  simp only [hq] at hT
  clear hx hq
  have g0 : ((⟨#[117, 112, 112, 101, 114]⟩ : ByteArray).toList == (⟨#[97, 98, 115]⟩ : ByteArray).toList) = false := by kernel_rfl
  have g1 : ((⟨#[117, 112, 112, 101, 114]⟩ : ByteArray).toList == (⟨#[99, 101, 105, 108]⟩ : ByteArray).toList) = false := by kernel_rfl
  have g2 : ((⟨#[117, 112, 112, 101, 114]⟩ : ByteArray).toList == (⟨#[99, 111, 97, 108, 101, 115, 99, 101]⟩ : ByteArray).toList) = false := by kernel_rfl
  have g3 : ((⟨#[117, 112, 112, 101, 114]⟩ : ByteArray).toList == (⟨#[99, 111, 110, 99, 97, 116]⟩ : ByteArray).toList) = false := by kernel_rfl
  have g4 : ((⟨#[117, 112, 112, 101, 114]⟩ : ByteArray).toList == (⟨#[102, 108, 111, 111, 114]⟩ : ByteArray).toList) = false := by kernel_rfl
  have g5 : ((⟨#[117, 112, 112, 101, 114]⟩ : ByteArray).toList == (⟨#[103, 114, 101, 97, 116, 101, 115, 116]⟩ : ByteArray).toList) = false := by kernel_rfl
  have g6 : ((⟨#[117, 112, 112, 101, 114]⟩ : ByteArray).toList == (⟨#[108, 101, 97, 115, 116]⟩ : ByteArray).toList) = false := by kernel_rfl
  have g7 : ((⟨#[117, 112, 112, 101, 114]⟩ : ByteArray).toList == (⟨#[108, 101, 110, 103, 116, 104]⟩ : ByteArray).toList) = false := by kernel_rfl
  have g8 : ((⟨#[117, 112, 112, 101, 114]⟩ : ByteArray).toList == (⟨#[108, 111, 119, 101, 114]⟩ : ByteArray).toList) = false := by kernel_rfl
  have g9 : ((⟨#[117, 112, 112, 101, 114]⟩ : ByteArray).toList == (⟨#[110, 117, 108, 108, 105, 102]⟩ : ByteArray).toList) = false := by kernel_rfl
  have g10 : ((⟨#[117, 112, 112, 101, 114]⟩ : ByteArray).toList == (⟨#[114, 111, 117, 110, 100]⟩ : ByteArray).toList) = false := by kernel_rfl
  have g11 : ((⟨#[117, 112, 112, 101, 114]⟩ : ByteArray).toList == (⟨#[115, 105, 103, 110]⟩ : ByteArray).toList) = false := by kernel_rfl
  have g12 : ((⟨#[117, 112, 112, 101, 114]⟩ : ByteArray).toList == (⟨#[115, 117, 98, 115, 116, 114]⟩ : ByteArray).toList) = false := by kernel_rfl
  have g13 : ((⟨#[117, 112, 112, 101, 114]⟩ : ByteArray).toList == (⟨#[116, 111, 100, 101, 99]⟩ : ByteArray).toList) = false := by kernel_rfl
  have g14 : ((⟨#[117, 112, 112, 101, 114]⟩ : ByteArray).toList == (⟨#[116, 111, 105, 110, 116]⟩ : ByteArray).toList) = false := by kernel_rfl
  have g15 : ((⟨#[117, 112, 112, 101, 114]⟩ : ByteArray).toList == (⟨#[116, 111, 116, 101, 120, 116]⟩ : ByteArray).toList) = false := by kernel_rfl
  have g16 : ((⟨#[117, 112, 112, 101, 114]⟩ : ByteArray).toList == (⟨#[116, 114, 105, 109]⟩ : ByteArray).toList) = false := by kernel_rfl
  have g17 : ((⟨#[117, 112, 112, 101, 114]⟩ : ByteArray).toList == (⟨#[117, 112, 112, 101, 114]⟩ : ByteArray).toList) = true := by kernel_rfl
  go_enter Tryz.func11, Tryz.ntmps11
  go_wp2
  refine wp_loop_rounds 2 ?_
  rw [rounds_succ]
  go_wp2_with fail
  refine hQ.mono ?_
  rintro e w1 ⟨rfl, rfl⟩
  clear hQ
  go_wp2
  rw [rounds_succ]
  cases q
  all_goals
    go_wp2_with fail
    refine (hT _).mono ?_
    rintro e w2 ⟨rfl, rfl⟩
    go_wp2
    go_ret2
    exact ⟨rfl, (Bel.out (by repeat (first | exact Bel.refl _ | assumption | refine Bel.drew ?_ | refine Bel.drewN ?_ _ | refine Bel.alloc ?_ _ | refine Bel.setCell ?_ (by simp <;> omega) _ | refine Bel.step ?_ (by assumption))))⟩
theorem rk_one15 (b off cap : Nat) (x : Int) (w : World) (q : Bool) (hx : isK x = true) (c0 : w.cell? ⟨b, off, none⟩ = some (.int .i64 x)) (hq : true = q) :
    Calls Tryz.prog 11 #[.string ⟨#[116, 111, 116, 101, 120, 116]⟩, .slice (some ⟨b, off, none⟩) 1 cap] w fun e w' => e = .returned (.tuple #[.int .i64 (if q then 4 else 0), .int .i64 (if q then 0 else 100)]) ∧ Below w.heap.size w w' := by
  have hQ := rkindOk_any x w
  rw [hx] at hQ
  subst hq
  clear hx
  have g0 : ((⟨#[116, 111, 116, 101, 120, 116]⟩ : ByteArray).toList == (⟨#[97, 98, 115]⟩ : ByteArray).toList) = false := by kernel_rfl
  have g1 : ((⟨#[116, 111, 116, 101, 120, 116]⟩ : ByteArray).toList == (⟨#[99, 101, 105, 108]⟩ : ByteArray).toList) = false := by kernel_rfl
  have g2 : ((⟨#[116, 111, 116, 101, 120, 116]⟩ : ByteArray).toList == (⟨#[99, 111, 97, 108, 101, 115, 99, 101]⟩ : ByteArray).toList) = false := by kernel_rfl
  have g3 : ((⟨#[116, 111, 116, 101, 120, 116]⟩ : ByteArray).toList == (⟨#[99, 111, 110, 99, 97, 116]⟩ : ByteArray).toList) = false := by kernel_rfl
  have g4 : ((⟨#[116, 111, 116, 101, 120, 116]⟩ : ByteArray).toList == (⟨#[102, 108, 111, 111, 114]⟩ : ByteArray).toList) = false := by kernel_rfl
  have g5 : ((⟨#[116, 111, 116, 101, 120, 116]⟩ : ByteArray).toList == (⟨#[103, 114, 101, 97, 116, 101, 115, 116]⟩ : ByteArray).toList) = false := by kernel_rfl
  have g6 : ((⟨#[116, 111, 116, 101, 120, 116]⟩ : ByteArray).toList == (⟨#[108, 101, 97, 115, 116]⟩ : ByteArray).toList) = false := by kernel_rfl
  have g7 : ((⟨#[116, 111, 116, 101, 120, 116]⟩ : ByteArray).toList == (⟨#[108, 101, 110, 103, 116, 104]⟩ : ByteArray).toList) = false := by kernel_rfl
  have g8 : ((⟨#[116, 111, 116, 101, 120, 116]⟩ : ByteArray).toList == (⟨#[108, 111, 119, 101, 114]⟩ : ByteArray).toList) = false := by kernel_rfl
  have g9 : ((⟨#[116, 111, 116, 101, 120, 116]⟩ : ByteArray).toList == (⟨#[110, 117, 108, 108, 105, 102]⟩ : ByteArray).toList) = false := by kernel_rfl
  have g10 : ((⟨#[116, 111, 116, 101, 120, 116]⟩ : ByteArray).toList == (⟨#[114, 111, 117, 110, 100]⟩ : ByteArray).toList) = false := by kernel_rfl
  have g11 : ((⟨#[116, 111, 116, 101, 120, 116]⟩ : ByteArray).toList == (⟨#[115, 105, 103, 110]⟩ : ByteArray).toList) = false := by kernel_rfl
  have g12 : ((⟨#[116, 111, 116, 101, 120, 116]⟩ : ByteArray).toList == (⟨#[115, 117, 98, 115, 116, 114]⟩ : ByteArray).toList) = false := by kernel_rfl
  have g13 : ((⟨#[116, 111, 116, 101, 120, 116]⟩ : ByteArray).toList == (⟨#[116, 111, 100, 101, 99]⟩ : ByteArray).toList) = false := by kernel_rfl
  have g14 : ((⟨#[116, 111, 116, 101, 120, 116]⟩ : ByteArray).toList == (⟨#[116, 111, 105, 110, 116]⟩ : ByteArray).toList) = false := by kernel_rfl
  have g15 : ((⟨#[116, 111, 116, 101, 120, 116]⟩ : ByteArray).toList == (⟨#[116, 111, 116, 101, 120, 116]⟩ : ByteArray).toList) = true := by kernel_rfl
  have g16 : ((⟨#[116, 111, 116, 101, 120, 116]⟩ : ByteArray).toList == (⟨#[116, 114, 105, 109]⟩ : ByteArray).toList) = false := by kernel_rfl
  have g17 : ((⟨#[116, 111, 116, 101, 120, 116]⟩ : ByteArray).toList == (⟨#[117, 112, 112, 101, 114]⟩ : ByteArray).toList) = false := by kernel_rfl
  go_enter Tryz.func11, Tryz.ntmps11
  go_wp2
  refine wp_loop_rounds 2 ?_
  rw [rounds_succ]
  go_wp2_with fail
  refine hQ.mono ?_
  rintro e w1 ⟨rfl, rfl⟩
  clear hQ
  go_wp2
  rw [rounds_succ]
  go_wp2
  go_ret2
  exact ⟨rfl, (Bel.out (by repeat (first | exact Bel.refl _ | assumption | refine Bel.drew ?_ | refine Bel.drewN ?_ _ | refine Bel.alloc ?_ _ | refine Bel.setCell ?_ (by simp <;> omega) _ | refine Bel.step ?_ (by assumption))))⟩
theorem rk_one0 (b off cap : Nat) (x : Int) (w : World) (q : Bool) (hx : isK x = true) (c0 : w.cell? ⟨b, off, none⟩ = some (.int .i64 x)) (hq : (x == 0 || isNum x) = q) :
    Calls Tryz.prog 11 #[.string ⟨#[97, 98, 115]⟩, .slice (some ⟨b, off, none⟩) 1 cap] w fun e w' => e = .returned (.tuple #[.int .i64 (if q then x else 0), .int .i64 (if q then 0 else 100)]) ∧ Below w.heap.size w w' := by
  have hQ := rkindOk_any x w
  rw [hx] at hQ
  have hT := fun w => rnum_any x w
  simp only [hq] at hT
  clear hx hq
  have g0 : ((⟨#[97, 98, 115]⟩ : ByteArray).toList == (⟨#[97, 98, 115]⟩ : ByteArray).toList) = true := by kernel_rfl
  have g1 : ((⟨#[97, 98, 115]⟩ : ByteArray).toList == (⟨#[99, 101, 105, 108]⟩ : ByteArray).toList) = false := by kernel_rfl
  have g2 : ((⟨#[97, 98, 115]⟩ : ByteArray).toList == (⟨#[99, 111, 97, 108, 101, 115, 99, 101]⟩ : ByteArray).toList) = false := by kernel_rfl
  have g3 : ((⟨#[97, 98, 115]⟩ : ByteArray).toList == (⟨#[99, 111, 110, 99, 97, 116]⟩ : ByteArray).toList) = false := by kernel_rfl
  have g4 : ((⟨#[97, 98, 115]⟩ : ByteArray).toList == (⟨#[102, 108, 111, 111, 114]⟩ : ByteArray).toList) = false := by kernel_rfl
  have g5 : ((⟨#[97, 98, 115]⟩ : ByteArray).toList == (⟨#[103, 114, 101, 97, 116, 101, 115, 116]⟩ : ByteArray).toList) = false := by kernel_rfl
  have g6 : ((⟨#[97, 98, 115]⟩ : ByteArray).toList == (⟨#[108, 101, 97, 115, 116]⟩ : ByteArray).toList) = false := by kernel_rfl
  have g7 : ((⟨#[97, 98, 115]⟩ : ByteArray).toList == (⟨#[108, 101, 110, 103, 116, 104]⟩ : ByteArray).toList) = false := by kernel_rfl
  have g8 : ((⟨#[97, 98, 115]⟩ : ByteArray).toList == (⟨#[108, 111, 119, 101, 114]⟩ : ByteArray).toList) = false := by kernel_rfl
  have g9 : ((⟨#[97, 98, 115]⟩ : ByteArray).toList == (⟨#[110, 117, 108, 108, 105, 102]⟩ : ByteArray).toList) = false := by kernel_rfl
  have g10 : ((⟨#[97, 98, 115]⟩ : ByteArray).toList == (⟨#[114, 111, 117, 110, 100]⟩ : ByteArray).toList) = false := by kernel_rfl
  have g11 : ((⟨#[97, 98, 115]⟩ : ByteArray).toList == (⟨#[115, 105, 103, 110]⟩ : ByteArray).toList) = false := by kernel_rfl
  have g12 : ((⟨#[97, 98, 115]⟩ : ByteArray).toList == (⟨#[115, 117, 98, 115, 116, 114]⟩ : ByteArray).toList) = false := by kernel_rfl
  have g13 : ((⟨#[97, 98, 115]⟩ : ByteArray).toList == (⟨#[116, 111, 100, 101, 99]⟩ : ByteArray).toList) = false := by kernel_rfl
  have g14 : ((⟨#[97, 98, 115]⟩ : ByteArray).toList == (⟨#[116, 111, 105, 110, 116]⟩ : ByteArray).toList) = false := by kernel_rfl
  have g15 : ((⟨#[97, 98, 115]⟩ : ByteArray).toList == (⟨#[116, 111, 116, 101, 120, 116]⟩ : ByteArray).toList) = false := by kernel_rfl
  have g16 : ((⟨#[97, 98, 115]⟩ : ByteArray).toList == (⟨#[116, 114, 105, 109]⟩ : ByteArray).toList) = false := by kernel_rfl
  have g17 : ((⟨#[97, 98, 115]⟩ : ByteArray).toList == (⟨#[117, 112, 112, 101, 114]⟩ : ByteArray).toList) = false := by kernel_rfl
  go_enter Tryz.func11, Tryz.ntmps11
  go_wp2
  refine wp_loop_rounds 2 ?_
  rw [rounds_succ]
  go_wp2_with fail
  refine hQ.mono ?_
  rintro e w1 ⟨rfl, rfl⟩
  clear hQ
  go_wp2
  rw [rounds_succ]
  go_wp2
  go_quiet ((go_at_call 25; exact Calls.quiet_of_same (hT _)))
  cases q
  all_goals
    go_wp2
    go_ret2
    exact ⟨rfl, (Bel.out (by repeat (first | exact Bel.refl _ | assumption | refine Bel.drew ?_ | refine Bel.drewN ?_ _ | refine Bel.alloc ?_ _ | refine Bel.setCell ?_ (by simp <;> omega) _ | refine Bel.step ?_ (by assumption))))⟩
end Go.Proofs.YtjphmbgennadcaaGreatDoor
