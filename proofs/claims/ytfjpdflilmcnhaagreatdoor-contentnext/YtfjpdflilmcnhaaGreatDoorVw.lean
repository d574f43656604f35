/- A view's parts: plain, up to a number (isPlain, isUpTo, isNone, isBare, isOfLength, isOfTime). -/
import Derived.Test.YtfjpdflilmcnhaaGreatDoorArr
namespace Go.Proofs.YtfjpdflilmcnhaaGreatDoor
open Go.ChangeShapes Go.WideShapes Go.ChangeAt Go.RowKit

def plB (c : Nat) (d : Bool) : Bool := (((c : Int) == 0) && !d)
def utB (n m : Int) : Bool := (decide (1 ≤ n) && decide (n ≤ m))
def vwV (k n : Int) (a : Option Addr) (c cap : Nat) (d : Bool) : Value := .agg #[.int .i64 k, .int .i64 n, .slice a c cap, .bool d]
theorem isPlain_any (k n : Int) (a : Option Addr) (c cap : Nat) (d : Bool) (w : World) : Calls Tryz.prog 56 #[vwV k n a c cap d] w fun e w' => e = .returned (.bool (plB c d)) ∧ Below w.heap.size w w' := by
  unfold vwV plB
  cases h : ((c : Int) == 0)
  · go_enter Tryz.func56, Tryz.ntmps56
    go_wp2
    go_ret
    exact ⟨rfl, (Bel.out (by repeat (first | exact Bel.refl _ | assumption | refine Bel.drew ?_ | refine Bel.drewN ?_ _ | refine Bel.alloc ?_ _ | refine Bel.setCell ?_ (by simp <;> omega) _ | refine Bel.step ?_ (by assumption))))⟩
  · cases d
    · go_enter Tryz.func56, Tryz.ntmps56
      go_wp2
      go_ret
      exact ⟨rfl, (Bel.out (by repeat (first | exact Bel.refl _ | assumption | refine Bel.drew ?_ | refine Bel.drewN ?_ _ | refine Bel.alloc ?_ _ | refine Bel.setCell ?_ (by simp <;> omega) _ | refine Bel.step ?_ (by assumption))))⟩
    · go_enter Tryz.func56, Tryz.ntmps56
      go_wp2
      go_ret
      exact ⟨rfl, (Bel.out (by repeat (first | exact Bel.refl _ | assumption | refine Bel.drew ?_ | refine Bel.drewN ?_ _ | refine Bel.alloc ?_ _ | refine Bel.setCell ?_ (by simp <;> omega) _ | refine Bel.step ?_ (by assumption))))⟩
theorem isUpTo_any (k n : Int) (a : Option Addr) (c cap : Nat) (d : Bool) (m : Int) (w : World) : Calls Tryz.prog 58 #[vwV k n a c cap d, .int .i64 m] w fun e w' => e = .returned (.bool (utB n m)) ∧ Below w.heap.size w w' := by
  have hE : ∀ b, utB n m = b → Ending.returned (.bool b) = Ending.returned (.bool (utB n m)) := fun b hb => by rw [hb]
  by_cases h : 1 ≤ n
  · by_cases h2 : n ≤ m
    · have HE : Hid _ := hE true (by simp [utB, h, h2])
      clear hE
      generalize utB n m = r at *
      unfold vwV
      go_enter Tryz.func58, Tryz.ntmps58
      go_wp2
      go_ret
      exact ⟨HE.out, (Bel.out (by repeat (first | exact Bel.refl _ | assumption | refine Bel.drew ?_ | refine Bel.drewN ?_ _ | refine Bel.alloc ?_ _ | refine Bel.setCell ?_ (by simp <;> omega) _ | refine Bel.step ?_ (by assumption))))⟩
    · have HE : Hid _ := hE false (by simp [utB, h2])
      clear hE
      generalize utB n m = r at *
      unfold vwV
      go_enter Tryz.func58, Tryz.ntmps58
      go_wp2
      go_ret
      exact ⟨HE.out, (Bel.out (by repeat (first | exact Bel.refl _ | assumption | refine Bel.drew ?_ | refine Bel.drewN ?_ _ | refine Bel.alloc ?_ _ | refine Bel.setCell ?_ (by simp <;> omega) _ | refine Bel.step ?_ (by assumption))))⟩
  · have HE : Hid _ := hE false (by simp [utB, h])
    clear hE
    generalize utB n m = r at *
    unfold vwV
    go_enter Tryz.func58, Tryz.ntmps58
    go_wp2
    go_ret
    exact ⟨HE.out, (Bel.out (by repeat (first | exact Bel.refl _ | assumption | refine Bel.drew ?_ | refine Bel.drewN ?_ _ | refine Bel.alloc ?_ _ | refine Bel.setCell ?_ (by simp <;> omega) _ | refine Bel.step ?_ (by assumption))))⟩
theorem isNone_any (k n : Int) (a : Option Addr) (c cap : Nat) (d : Bool) (m : Int) (w : World) : Calls Tryz.prog 35 #[vwV k n a c cap d, .int .i64 m] w fun e w' => e = .returned (.bool false) ∧ Below w.heap.size w w' := by
  unfold vwV
  go_enter Tryz.func35, Tryz.ntmps35
  go_wp2
  go_ret
  exact ⟨rfl, (Bel.out (by repeat (first | exact Bel.refl _ | assumption | refine Bel.drew ?_ | refine Bel.drewN ?_ _ | refine Bel.alloc ?_ _ | refine Bel.setCell ?_ (by simp <;> omega) _ | refine Bel.step ?_ (by assumption))))⟩
theorem isBare_any (k n : Int) (a : Option Addr) (c cap : Nat) (d : Bool) (m : Int) (w : World) : Calls Tryz.prog 38 #[vwV k n a c cap d, .int .i64 m] w fun e w' => e = .returned (.bool ((n == 0) && plB c d)) ∧ Below w.heap.size w w' := by
  have hp := isPlain_any k n a c cap d
  unfold vwV at hp ⊢
  cases h : (n == 0)
  · clear hp
    go_enter Tryz.func38, Tryz.ntmps38
    go_wp2
    go_ret
    exact ⟨rfl, (Bel.out (by repeat (first | exact Bel.refl _ | assumption | refine Bel.drew ?_ | refine Bel.drewN ?_ _ | refine Bel.alloc ?_ _ | refine Bel.setCell ?_ (by simp <;> omega) _ | refine Bel.step ?_ (by assumption))))⟩
  · generalize plB c d = b at *
    go_enter Tryz.func38, Tryz.ntmps38
    go_wp2_with fail
    refine (hp _).mono ?_
    rintro e w1 ⟨rfl, hb1⟩
    go_wp2
    go_ret
    exact ⟨by simp, (Bel.out (by repeat (first | exact Bel.refl _ | assumption | refine Bel.drew ?_ | refine Bel.drewN ?_ _ | refine Bel.alloc ?_ _ | refine Bel.setCell ?_ (by simp <;> omega) _ | refine Bel.step ?_ (by assumption))))⟩
theorem isOfLength_any (k n : Int) (a : Option Addr) (c cap : Nat) (d : Bool) (m : Int) (w : World) : Calls Tryz.prog 40 #[vwV k n a c cap d, .int .i64 m] w fun e w' => e = .returned (.bool (utB n 65536 && plB c d)) ∧ Below w.heap.size w w' := by
  have hp := isPlain_any k n a c cap d
  have hu := isUpTo_any k n a c cap d 65536
  unfold vwV at hp hu ⊢
  generalize plB c d = b at *
  generalize utB n 65536 = u at *
  cases u
  · clear hp
    go_enter Tryz.func40, Tryz.ntmps40
    go_wp2_with fail
    refine (hu _).mono ?_
    rintro e w1 ⟨rfl, hb1⟩
    go_wp2
    go_ret
    exact ⟨rfl, (Bel.out (by repeat (first | exact Bel.refl _ | assumption | refine Bel.drew ?_ | refine Bel.drewN ?_ _ | refine Bel.alloc ?_ _ | refine Bel.setCell ?_ (by simp <;> omega) _ | refine Bel.step ?_ (by assumption))))⟩
  · go_enter Tryz.func40, Tryz.ntmps40
    go_wp2_with fail
    refine (hu _).mono ?_
    rintro e w1 ⟨rfl, hb1⟩
    have y0 : w1.cell? ⟨w.heap.size, 0, none⟩ = some (.int .i64 k) := cell_below hb1 (by go_simp)
    have y1 : w1.cell? ⟨w.heap.size, 1, none⟩ = some (.int .i64 n) := cell_below hb1 (by go_simp)
    have y2 : w1.cell? ⟨w.heap.size, 2, none⟩ = some (.slice a c cap) := cell_below hb1 (by go_simp)
    have y3 : w1.cell? ⟨w.heap.size, 3, none⟩ = some (.bool d) := cell_below hb1 (by go_simp)
    go_wp2_with fail
    refine (hp _).mono ?_
    rintro e w2 ⟨rfl, hb2⟩
    go_wp2
    go_ret
    exact ⟨by simp, (Bel.out (by repeat (first | exact Bel.refl _ | assumption | refine Bel.drew ?_ | refine Bel.drewN ?_ _ | refine Bel.alloc ?_ _ | refine Bel.setCell ?_ (by simp <;> omega) _ | refine Bel.step ?_ (by assumption))))⟩
theorem isOfTime_any (k n : Int) (a : Option Addr) (c cap : Nat) (d : Bool) (m : Int) (w : World) : Calls Tryz.prog 42 #[vwV k n a c cap d, .int .i64 m] w fun e w' => e = .returned (.bool (utB n 1099511627776 && plB c d)) ∧ Below w.heap.size w w' := by
  have hp := isPlain_any k n a c cap d
  have hu := isUpTo_any k n a c cap d 1099511627776
  unfold vwV at hp hu ⊢
  generalize plB c d = b at *
  generalize utB n 1099511627776 = u at *
  cases u
  · clear hp
    go_enter Tryz.func42, Tryz.ntmps42
    go_wp2_with fail
    refine (hu _).mono ?_
    rintro e w1 ⟨rfl, hb1⟩
    go_wp2
    go_ret
    exact ⟨rfl, (Bel.out (by repeat (first | exact Bel.refl _ | assumption | refine Bel.drew ?_ | refine Bel.drewN ?_ _ | refine Bel.alloc ?_ _ | refine Bel.setCell ?_ (by simp <;> omega) _ | refine Bel.step ?_ (by assumption))))⟩
  · go_enter Tryz.func42, Tryz.ntmps42
    go_wp2_with fail
    refine (hu _).mono ?_
    rintro e w1 ⟨rfl, hb1⟩
    have y0 : w1.cell? ⟨w.heap.size, 0, none⟩ = some (.int .i64 k) := cell_below hb1 (by go_simp)
    have y1 : w1.cell? ⟨w.heap.size, 1, none⟩ = some (.int .i64 n) := cell_below hb1 (by go_simp)
    have y2 : w1.cell? ⟨w.heap.size, 2, none⟩ = some (.slice a c cap) := cell_below hb1 (by go_simp)
    have y3 : w1.cell? ⟨w.heap.size, 3, none⟩ = some (.bool d) := cell_below hb1 (by go_simp)
    go_wp2_with fail
    refine (hp _).mono ?_
    rintro e w2 ⟨rfl, hb2⟩
    go_wp2
    go_ret
    exact ⟨by simp, (Bel.out (by repeat (first | exact Bel.refl _ | assumption | refine Bel.drew ?_ | refine Bel.drewN ?_ _ | refine Bel.alloc ?_ _ | refine Bel.setCell ?_ (by simp <;> omega) _ | refine Bel.step ?_ (by assumption))))⟩
end Go.Proofs.YtfjpdflilmcnhaaGreatDoor
