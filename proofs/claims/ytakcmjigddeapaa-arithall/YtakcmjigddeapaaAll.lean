/- ArithAll is true: the law's walk. -/
import Derived.Test.YtakcmjigddeapaaSure
import Derived.Test.YtakcmjigddeapaaRApi2
import Derived.Test.YtakcmjigddeapaaRApi3
namespace Go.Proofs.Ytakcmjigddeapaa
open Go.ChangeShapes Go.WideShapes Go.ChangeAt Go.RowKit

theorem Box.away {w : World} {p q : Nat} {k n : Int} {t : ByteArray} (h : Box w p k n t) (hne : p ≠ q) (o : Nat) (v : Value) : Box (w.setCell ⟨q, o, none⟩ v) p k n t := by
  have h0 := h.c0; have h1 := h.c1; have h2 := h.c2
  refine ⟨?_, ?_, ?_, ?_⟩
  · rw [World.cell?_setCell_far]; exact h0; simpa using hne.symm
  · rw [World.cell?_setCell_far]; exact h1; simpa using hne.symm
  · rw [World.cell?_setCell_far]; exact h2; simpa using hne.symm
  · have := h.lt; simpa [World.setCell] using this
theorem Box.filled {w : World} {q : Nat} {k0 n0 : Int} {t0 : ByteArray} (h : Box w q k0 n0 t0) (k n : Int) (t : ByteArray) : Box (((w.setCell ⟨q, 0, none⟩ (.int .i64 k)).setCell ⟨q, 1, none⟩ (.int .i64 n)).setCell ⟨q, 2, none⟩ (.string t)) q k n t := by
  have h0 := h.c0; have h1 := h.c1; have h2 := h.c2
  refine ⟨by go_simp, by go_simp, by go_simp, ?_⟩
  have := h.lt; simpa [World.setCell] using this
theorem Box.filledFar {w : World} {p q : Nat} {k n : Int} {t : ByteArray} (h : Box w p k n t) (hne : p ≠ q) (u v x : Value) : Box (((w.setCell ⟨q, 0, none⟩ u).setCell ⟨q, 1, none⟩ v).setCell ⟨q, 2, none⟩ x) p k n t :=
  ((h.away hne 0 u).away hne 1 v).away hne 2 x
theorem frozen_filled (w : World) (p q : Nat) (o : Nat) (u v x : Value) : (((w.setCell ⟨q, 0, none⟩ u).setCell ⟨q, 1, none⟩ v).setCell ⟨q, 2, none⟩ x).frozen? ⟨p, o, none⟩ = w.frozen? ⟨p, o, none⟩ := by
  go_simp
theorem size_filled (w : World) (q : Nat) (u v x : Value) : (((w.setCell ⟨q, 0, none⟩ u).setCell ⟨q, 1, none⟩ v).setCell ⟨q, 2, none⟩ x).heap.size = w.heap.size := by
  simp [World.setCell]


set_option maxRecDepth 100000 in
set_option maxHeartbeats 16000000 in
theorem all_walk (k n : Int) (t : ByteArray) (k' n' : Int) (t' : ByteArray) (hn : In n) (hn' : In n') (w : World) : Calls Try.prog 3 #[.agg #[.int .i64 k, .int .i64 n, .string t], .agg #[.int .i64 k', .int .i64 n', .string t']] w fun e w' => e = .returned (.bool true) ∧ Below w.heap.size w w' := by
  go_enter Try.func3, Try.ntmps3
  go_wp2_with fail
  go_loopw [5] (fun s5 wr => ∃ op : Nat, op ≤ 8 ∧ s5 = .int .i64 op ∧ Box wr w.heap.size k n t ∧ Box wr (w.heap.size + 1) k' n' t' ∧ Bel w.heap.size w wr) (fun s5 _ => 8 - (intOf s5).toNat)
  case atStart => exact ⟨0, by omega, rfl, (Box.new w k n t).alloc _, ⟨by go_simp, by go_simp, by go_simp, by simp⟩, ((Bel.refl w).alloc _).alloc _⟩
  case round =>
    obtain ⟨op, hop, rfl, Aa, Ab, BB⟩ := hrel
    have xa := Aa.c0; have ya := Aa.c1; have za := Aa.c2; have la := Aa.lt
    have xb := Ab.c0; have yb := Ab.c1; have zb := Ab.c2; have lb := Ab.lt
    have na1 : ¬ w.heap.size = wr.heap.size := by omega
    have na2 : ¬ wr.heap.size = w.heap.size := by omega
    have na3 : ¬ w.heap.size = wr.heap.size + 1 := by omega
    have na4 : ¬ wr.heap.size + 1 = w.heap.size := by omega
    have nb1 : ¬ w.heap.size + 1 = wr.heap.size := by omega
    have nb2 : ¬ wr.heap.size = w.heap.size + 1 := by omega
    have nb3 : ¬ w.heap.size + 1 = wr.heap.size + 1 := by omega
    have nb4 : ¬ wr.heap.size + 1 = w.heap.size + 1 := by omega
    have hcase : op = 0 ∨ op = 1 ∨ op = 2 ∨ op = 3 ∨ op = 4 ∨ op = 5 ∨ op = 6 ∨ op = 7 ∨ op = 8 := by omega
    clear hop
    rcases hcase with rfl | rfl | rfl | rfl | rfl | rfl | rfl | rfl | rfl
    · have hA := fun w => Neg_any k n t hn w
      have hB := fun w => RNeg_any k n t hn w
      generalize negS k n = R at *
      obtain ⟨r1, r2, r3⟩ := R
      go_wp2_with fail
      refine (hA _).mono ?_
      rintro e w1 ⟨rfl, hb1⟩
      obtain ⟨hc1, hf1⟩ := bcell hb1
      have Aa1 : Box w1 w.heap.size k n t := Box.step (by repeat (first | exact Box.new _ _ _ _ | assumption | refine Box.alloc ?_ _)) hb1
      have Ab1 : Box w1 (w.heap.size + 1) k' n' t' := Box.step (by repeat (first | exact Box.new _ _ _ _ | assumption | refine Box.alloc ?_ _)) hb1
      have Ax1 : Box w1 wr.heap.size 0 0 ⟨#[]⟩ := Box.step (by repeat (first | exact Box.new _ _ _ _ | assumption | refine Box.alloc ?_ _)) hb1
      have Ay1 : Box w1 (wr.heap.size + 1) 0 0 ⟨#[]⟩ := Box.step ⟨by go_simp, by go_simp, by go_simp, by simp⟩ hb1
      have B1 : Bel w.heap.size w w1 := Bel.step (by repeat (first | exact Bel.refl _ | assumption | refine Bel.alloc ?_ _ | refine Bel.drew ?_ | refine Bel.drewN ?_ _)) hb1
      have xa1 := Aa1.c0; have ya1 := Aa1.c1; have za1 := Aa1.c2; have la1 := Aa1.lt
      have xb1 := Ab1.c0; have yb1 := Ab1.c1; have zb1 := Ab1.c2; have lb1 := Ab1.lt
      have xx1 := Ax1.c0; have yx1 := Ax1.c1; have zx1 := Ax1.c2; have lx1 := Ax1.lt
      have xy1 := Ay1.c0; have yy1 := Ay1.c1; have zy1 := Ay1.c2; have ly1 := Ay1.lt
      have fx1 : ∀ o, w1.frozen? ⟨wr.heap.size, o, none⟩ = false := fun o => by rw [hf1 _ o (by simp <;> omega)]; go_simp
      have fy1 : ∀ o, w1.frozen? ⟨wr.heap.size + 1, o, none⟩ = false := fun o => by rw [hf1 _ o (by simp <;> omega)]; go_simp
      clear hc1 hf1
      go_wp2_with fail
      refine (hB _).mono ?_
      rintro e w2 ⟨rfl, hb2⟩
      obtain ⟨_, hf2⟩ := bcell hb2
      have Aa2 : Box w2 w.heap.size k n t := Box.step (Aa1.filledFar (by omega) _ _ _) hb2
      have Ab2 : Box w2 (w.heap.size + 1) k' n' t' := Box.step (Ab1.filledFar (by omega) _ _ _) hb2
      have Ax2 : Box w2 wr.heap.size r1 r2 ⟨#[]⟩ := Box.step (Ax1.filled _ _ _) hb2
      have Ay2 : Box w2 (wr.heap.size + 1) 0 0 ⟨#[]⟩ := Box.step (Ay1.filledFar (by omega) _ _ _) hb2
      have hwr := BB.le
      have B2 : Bel w.heap.size w w2 := Bel.step (((B1.setCell (by simpa using hwr) _).setCell (by simpa using hwr) _).setCell (by simpa using hwr) _) hb2
      have xa2 := Aa2.c0; have ya2 := Aa2.c1; have za2 := Aa2.c2; have la2 := Aa2.lt
      have xb2 := Ab2.c0; have yb2 := Ab2.c1; have zb2 := Ab2.c2; have lb2 := Ab2.lt
      have xx2 := Ax2.c0; have yx2 := Ax2.c1; have zx2 := Ax2.c2; have lx2 := Ax2.lt
      have xy2 := Ay2.c0; have yy2 := Ay2.c1; have zy2 := Ay2.c2; have ly2 := Ay2.lt
      have fy2 : ∀ o, w2.frozen? ⟨wr.heap.size + 1, o, none⟩ = false := fun o => by rw [hf2 _ o (by rw [size_filled]; omega), frozen_filled]; exact fy1 o
      clear hf2
      go_wp2
      go_roundw
      case rel => exact ⟨1, by omega, rfl, Aa2.filledFar (by omega) _ _ _, Ab2.filledFar (by omega) _ _ _, ((B2.setCell (by simp; omega) _).setCell (by simp; omega) _).setCell (by simp; omega) _⟩
      case measure => simp [intOf]
    · have hA := fun w => Add_any k n t k' n' t' hn hn' w
      have hB := fun w => RAdd_any k n t k' n' t' hn hn' w
      generalize addS k n k' n' = R at *
      obtain ⟨r1, r2, r3⟩ := R
      go_wp2_with fail
      refine (hA _).mono ?_
      rintro e w1 ⟨rfl, hb1⟩
      obtain ⟨hc1, hf1⟩ := bcell hb1
      have Aa1 : Box w1 w.heap.size k n t := Box.step (by repeat (first | exact Box.new _ _ _ _ | assumption | refine Box.alloc ?_ _)) hb1
      have Ab1 : Box w1 (w.heap.size + 1) k' n' t' := Box.step (by repeat (first | exact Box.new _ _ _ _ | assumption | refine Box.alloc ?_ _)) hb1
      have Ax1 : Box w1 wr.heap.size 0 0 ⟨#[]⟩ := Box.step (by repeat (first | exact Box.new _ _ _ _ | assumption | refine Box.alloc ?_ _)) hb1
      have Ay1 : Box w1 (wr.heap.size + 1) 0 0 ⟨#[]⟩ := Box.step ⟨by go_simp, by go_simp, by go_simp, by simp⟩ hb1
      have B1 : Bel w.heap.size w w1 := Bel.step (by repeat (first | exact Bel.refl _ | assumption | refine Bel.alloc ?_ _ | refine Bel.drew ?_ | refine Bel.drewN ?_ _)) hb1
      have xa1 := Aa1.c0; have ya1 := Aa1.c1; have za1 := Aa1.c2; have la1 := Aa1.lt
      have xb1 := Ab1.c0; have yb1 := Ab1.c1; have zb1 := Ab1.c2; have lb1 := Ab1.lt
      have xx1 := Ax1.c0; have yx1 := Ax1.c1; have zx1 := Ax1.c2; have lx1 := Ax1.lt
      have xy1 := Ay1.c0; have yy1 := Ay1.c1; have zy1 := Ay1.c2; have ly1 := Ay1.lt
      have fx1 : ∀ o, w1.frozen? ⟨wr.heap.size, o, none⟩ = false := fun o => by rw [hf1 _ o (by simp <;> omega)]; go_simp
      have fy1 : ∀ o, w1.frozen? ⟨wr.heap.size + 1, o, none⟩ = false := fun o => by rw [hf1 _ o (by simp <;> omega)]; go_simp
      clear hc1 hf1
      go_wp2_with fail
      refine (hB _).mono ?_
      rintro e w2 ⟨rfl, hb2⟩
      obtain ⟨_, hf2⟩ := bcell hb2
      have Aa2 : Box w2 w.heap.size k n t := Box.step (Aa1.filledFar (by omega) _ _ _) hb2
      have Ab2 : Box w2 (w.heap.size + 1) k' n' t' := Box.step (Ab1.filledFar (by omega) _ _ _) hb2
      have Ax2 : Box w2 wr.heap.size r1 r2 ⟨#[]⟩ := Box.step (Ax1.filled _ _ _) hb2
      have Ay2 : Box w2 (wr.heap.size + 1) 0 0 ⟨#[]⟩ := Box.step (Ay1.filledFar (by omega) _ _ _) hb2
      have hwr := BB.le
      have B2 : Bel w.heap.size w w2 := Bel.step (((B1.setCell (by simpa using hwr) _).setCell (by simpa using hwr) _).setCell (by simpa using hwr) _) hb2
      have xa2 := Aa2.c0; have ya2 := Aa2.c1; have za2 := Aa2.c2; have la2 := Aa2.lt
      have xb2 := Ab2.c0; have yb2 := Ab2.c1; have zb2 := Ab2.c2; have lb2 := Ab2.lt
      have xx2 := Ax2.c0; have yx2 := Ax2.c1; have zx2 := Ax2.c2; have lx2 := Ax2.lt
      have xy2 := Ay2.c0; have yy2 := Ay2.c1; have zy2 := Ay2.c2; have ly2 := Ay2.lt
      have fy2 : ∀ o, w2.frozen? ⟨wr.heap.size + 1, o, none⟩ = false := fun o => by rw [hf2 _ o (by rw [size_filled]; omega), frozen_filled]; exact fy1 o
      clear hf2
      go_wp2
      go_roundw
      case rel => exact ⟨2, by omega, rfl, Aa2.filledFar (by omega) _ _ _, Ab2.filledFar (by omega) _ _ _, ((B2.setCell (by simp; omega) _).setCell (by simp; omega) _).setCell (by simp; omega) _⟩
      case measure => simp [intOf]
    · have hA := fun w => Sub_any k n t k' n' t' hn hn' w
      have hB := fun w => RSub_any k n t k' n' t' hn hn' w
      generalize subS k n k' n' = R at *
      obtain ⟨r1, r2, r3⟩ := R
      go_wp2_with fail
      refine (hA _).mono ?_
      rintro e w1 ⟨rfl, hb1⟩
      obtain ⟨hc1, hf1⟩ := bcell hb1
      have Aa1 : Box w1 w.heap.size k n t := Box.step (by repeat (first | exact Box.new _ _ _ _ | assumption | refine Box.alloc ?_ _)) hb1
      have Ab1 : Box w1 (w.heap.size + 1) k' n' t' := Box.step (by repeat (first | exact Box.new _ _ _ _ | assumption | refine Box.alloc ?_ _)) hb1
      have Ax1 : Box w1 wr.heap.size 0 0 ⟨#[]⟩ := Box.step (by repeat (first | exact Box.new _ _ _ _ | assumption | refine Box.alloc ?_ _)) hb1
      have Ay1 : Box w1 (wr.heap.size + 1) 0 0 ⟨#[]⟩ := Box.step ⟨by go_simp, by go_simp, by go_simp, by simp⟩ hb1
      have B1 : Bel w.heap.size w w1 := Bel.step (by repeat (first | exact Bel.refl _ | assumption | refine Bel.alloc ?_ _ | refine Bel.drew ?_ | refine Bel.drewN ?_ _)) hb1
      have xa1 := Aa1.c0; have ya1 := Aa1.c1; have za1 := Aa1.c2; have la1 := Aa1.lt
      have xb1 := Ab1.c0; have yb1 := Ab1.c1; have zb1 := Ab1.c2; have lb1 := Ab1.lt
      have xx1 := Ax1.c0; have yx1 := Ax1.c1; have zx1 := Ax1.c2; have lx1 := Ax1.lt
      have xy1 := Ay1.c0; have yy1 := Ay1.c1; have zy1 := Ay1.c2; have ly1 := Ay1.lt
      have fx1 : ∀ o, w1.frozen? ⟨wr.heap.size, o, none⟩ = false := fun o => by rw [hf1 _ o (by simp <;> omega)]; go_simp
      have fy1 : ∀ o, w1.frozen? ⟨wr.heap.size + 1, o, none⟩ = false := fun o => by rw [hf1 _ o (by simp <;> omega)]; go_simp
      clear hc1 hf1
      go_wp2_with fail
      refine (hB _).mono ?_
      rintro e w2 ⟨rfl, hb2⟩
      obtain ⟨_, hf2⟩ := bcell hb2
      have Aa2 : Box w2 w.heap.size k n t := Box.step (Aa1.filledFar (by omega) _ _ _) hb2
      have Ab2 : Box w2 (w.heap.size + 1) k' n' t' := Box.step (Ab1.filledFar (by omega) _ _ _) hb2
      have Ax2 : Box w2 wr.heap.size r1 r2 ⟨#[]⟩ := Box.step (Ax1.filled _ _ _) hb2
      have Ay2 : Box w2 (wr.heap.size + 1) 0 0 ⟨#[]⟩ := Box.step (Ay1.filledFar (by omega) _ _ _) hb2
      have hwr := BB.le
      have B2 : Bel w.heap.size w w2 := Bel.step (((B1.setCell (by simpa using hwr) _).setCell (by simpa using hwr) _).setCell (by simpa using hwr) _) hb2
      have xa2 := Aa2.c0; have ya2 := Aa2.c1; have za2 := Aa2.c2; have la2 := Aa2.lt
      have xb2 := Ab2.c0; have yb2 := Ab2.c1; have zb2 := Ab2.c2; have lb2 := Ab2.lt
      have xx2 := Ax2.c0; have yx2 := Ax2.c1; have zx2 := Ax2.c2; have lx2 := Ax2.lt
      have xy2 := Ay2.c0; have yy2 := Ay2.c1; have zy2 := Ay2.c2; have ly2 := Ay2.lt
      have fy2 : ∀ o, w2.frozen? ⟨wr.heap.size + 1, o, none⟩ = false := fun o => by rw [hf2 _ o (by rw [size_filled]; omega), frozen_filled]; exact fy1 o
      clear hf2
      go_wp2
      go_roundw
      case rel => exact ⟨3, by omega, rfl, Aa2.filledFar (by omega) _ _ _, Ab2.filledFar (by omega) _ _ _, ((B2.setCell (by simp; omega) _).setCell (by simp; omega) _).setCell (by simp; omega) _⟩
      case measure => simp [intOf]
    · have hA := fun w => Mul_any k n t k' n' t' hn hn' w
      have hB := fun w => RMul_any k n t k' n' t' hn hn' w
      generalize mulS k n k' n' = R at *
      obtain ⟨r1, r2, r3⟩ := R
      go_wp2_with fail
      refine (hA _).mono ?_
      rintro e w1 ⟨rfl, hb1⟩
      obtain ⟨hc1, hf1⟩ := bcell hb1
      have Aa1 : Box w1 w.heap.size k n t := Box.step (by repeat (first | exact Box.new _ _ _ _ | assumption | refine Box.alloc ?_ _)) hb1
      have Ab1 : Box w1 (w.heap.size + 1) k' n' t' := Box.step (by repeat (first | exact Box.new _ _ _ _ | assumption | refine Box.alloc ?_ _)) hb1
      have Ax1 : Box w1 wr.heap.size 0 0 ⟨#[]⟩ := Box.step (by repeat (first | exact Box.new _ _ _ _ | assumption | refine Box.alloc ?_ _)) hb1
      have Ay1 : Box w1 (wr.heap.size + 1) 0 0 ⟨#[]⟩ := Box.step ⟨by go_simp, by go_simp, by go_simp, by simp⟩ hb1
      have B1 : Bel w.heap.size w w1 := Bel.step (by repeat (first | exact Bel.refl _ | assumption | refine Bel.alloc ?_ _ | refine Bel.drew ?_ | refine Bel.drewN ?_ _)) hb1
      have xa1 := Aa1.c0; have ya1 := Aa1.c1; have za1 := Aa1.c2; have la1 := Aa1.lt
      have xb1 := Ab1.c0; have yb1 := Ab1.c1; have zb1 := Ab1.c2; have lb1 := Ab1.lt
      have xx1 := Ax1.c0; have yx1 := Ax1.c1; have zx1 := Ax1.c2; have lx1 := Ax1.lt
      have xy1 := Ay1.c0; have yy1 := Ay1.c1; have zy1 := Ay1.c2; have ly1 := Ay1.lt
      have fx1 : ∀ o, w1.frozen? ⟨wr.heap.size, o, none⟩ = false := fun o => by rw [hf1 _ o (by simp <;> omega)]; go_simp
      have fy1 : ∀ o, w1.frozen? ⟨wr.heap.size + 1, o, none⟩ = false := fun o => by rw [hf1 _ o (by simp <;> omega)]; go_simp
      clear hc1 hf1
      go_wp2_with fail
      refine (hB _).mono ?_
      rintro e w2 ⟨rfl, hb2⟩
      obtain ⟨_, hf2⟩ := bcell hb2
      have Aa2 : Box w2 w.heap.size k n t := Box.step (Aa1.filledFar (by omega) _ _ _) hb2
      have Ab2 : Box w2 (w.heap.size + 1) k' n' t' := Box.step (Ab1.filledFar (by omega) _ _ _) hb2
      have Ax2 : Box w2 wr.heap.size r1 r2 ⟨#[]⟩ := Box.step (Ax1.filled _ _ _) hb2
      have Ay2 : Box w2 (wr.heap.size + 1) 0 0 ⟨#[]⟩ := Box.step (Ay1.filledFar (by omega) _ _ _) hb2
      have hwr := BB.le
      have B2 : Bel w.heap.size w w2 := Bel.step (((B1.setCell (by simpa using hwr) _).setCell (by simpa using hwr) _).setCell (by simpa using hwr) _) hb2
      have xa2 := Aa2.c0; have ya2 := Aa2.c1; have za2 := Aa2.c2; have la2 := Aa2.lt
      have xb2 := Ab2.c0; have yb2 := Ab2.c1; have zb2 := Ab2.c2; have lb2 := Ab2.lt
      have xx2 := Ax2.c0; have yx2 := Ax2.c1; have zx2 := Ax2.c2; have lx2 := Ax2.lt
      have xy2 := Ay2.c0; have yy2 := Ay2.c1; have zy2 := Ay2.c2; have ly2 := Ay2.lt
      have fy2 : ∀ o, w2.frozen? ⟨wr.heap.size + 1, o, none⟩ = false := fun o => by rw [hf2 _ o (by rw [size_filled]; omega), frozen_filled]; exact fy1 o
      clear hf2
      go_wp2
      go_roundw
      case rel => exact ⟨4, by omega, rfl, Aa2.filledFar (by omega) _ _ _, Ab2.filledFar (by omega) _ _ _, ((B2.setCell (by simp; omega) _).setCell (by simp; omega) _).setCell (by simp; omega) _⟩
      case measure => simp [intOf]
    · have hA := fun w => Div_any k n t k' n' t' hn hn' w
      have hB := fun w => RDiv_any k n t k' n' t' hn hn' w
      generalize divS k n k' n' = R at *
      obtain ⟨r1, r2, r3⟩ := R
      go_wp2_with fail
      refine (hA _).mono ?_
      rintro e w1 ⟨rfl, hb1⟩
      obtain ⟨hc1, hf1⟩ := bcell hb1
      have Aa1 : Box w1 w.heap.size k n t := Box.step (by repeat (first | exact Box.new _ _ _ _ | assumption | refine Box.alloc ?_ _)) hb1
      have Ab1 : Box w1 (w.heap.size + 1) k' n' t' := Box.step (by repeat (first | exact Box.new _ _ _ _ | assumption | refine Box.alloc ?_ _)) hb1
      have Ax1 : Box w1 wr.heap.size 0 0 ⟨#[]⟩ := Box.step (by repeat (first | exact Box.new _ _ _ _ | assumption | refine Box.alloc ?_ _)) hb1
      have Ay1 : Box w1 (wr.heap.size + 1) 0 0 ⟨#[]⟩ := Box.step ⟨by go_simp, by go_simp, by go_simp, by simp⟩ hb1
      have B1 : Bel w.heap.size w w1 := Bel.step (by repeat (first | exact Bel.refl _ | assumption | refine Bel.alloc ?_ _ | refine Bel.drew ?_ | refine Bel.drewN ?_ _)) hb1
      have xa1 := Aa1.c0; have ya1 := Aa1.c1; have za1 := Aa1.c2; have la1 := Aa1.lt
      have xb1 := Ab1.c0; have yb1 := Ab1.c1; have zb1 := Ab1.c2; have lb1 := Ab1.lt
      have xx1 := Ax1.c0; have yx1 := Ax1.c1; have zx1 := Ax1.c2; have lx1 := Ax1.lt
      have xy1 := Ay1.c0; have yy1 := Ay1.c1; have zy1 := Ay1.c2; have ly1 := Ay1.lt
      have fx1 : ∀ o, w1.frozen? ⟨wr.heap.size, o, none⟩ = false := fun o => by rw [hf1 _ o (by simp <;> omega)]; go_simp
      have fy1 : ∀ o, w1.frozen? ⟨wr.heap.size + 1, o, none⟩ = false := fun o => by rw [hf1 _ o (by simp <;> omega)]; go_simp
      clear hc1 hf1
      go_wp2_with fail
      refine (hB _).mono ?_
      rintro e w2 ⟨rfl, hb2⟩
      obtain ⟨_, hf2⟩ := bcell hb2
      have Aa2 : Box w2 w.heap.size k n t := Box.step (Aa1.filledFar (by omega) _ _ _) hb2
      have Ab2 : Box w2 (w.heap.size + 1) k' n' t' := Box.step (Ab1.filledFar (by omega) _ _ _) hb2
      have Ax2 : Box w2 wr.heap.size r1 r2 ⟨#[]⟩ := Box.step (Ax1.filled _ _ _) hb2
      have Ay2 : Box w2 (wr.heap.size + 1) 0 0 ⟨#[]⟩ := Box.step (Ay1.filledFar (by omega) _ _ _) hb2
      have hwr := BB.le
      have B2 : Bel w.heap.size w w2 := Bel.step (((B1.setCell (by simpa using hwr) _).setCell (by simpa using hwr) _).setCell (by simpa using hwr) _) hb2
      have xa2 := Aa2.c0; have ya2 := Aa2.c1; have za2 := Aa2.c2; have la2 := Aa2.lt
      have xb2 := Ab2.c0; have yb2 := Ab2.c1; have zb2 := Ab2.c2; have lb2 := Ab2.lt
      have xx2 := Ax2.c0; have yx2 := Ax2.c1; have zx2 := Ax2.c2; have lx2 := Ax2.lt
      have xy2 := Ay2.c0; have yy2 := Ay2.c1; have zy2 := Ay2.c2; have ly2 := Ay2.lt
      have fy2 : ∀ o, w2.frozen? ⟨wr.heap.size + 1, o, none⟩ = false := fun o => by rw [hf2 _ o (by rw [size_filled]; omega), frozen_filled]; exact fy1 o
      clear hf2
      go_wp2
      go_roundw
      case rel => exact ⟨5, by omega, rfl, Aa2.filledFar (by omega) _ _ _, Ab2.filledFar (by omega) _ _ _, ((B2.setCell (by simp; omega) _).setCell (by simp; omega) _).setCell (by simp; omega) _⟩
      case measure => simp [intOf]
    · have hA := fun w => Mod_any k n t k' n' t' hn hn' w
      have hB := fun w => RMod_any k n t k' n' t' hn hn' w
      generalize modS k n k' n' = R at *
      obtain ⟨r1, r2, r3⟩ := R
      go_wp2_with fail
      refine (hA _).mono ?_
      rintro e w1 ⟨rfl, hb1⟩
      obtain ⟨hc1, hf1⟩ := bcell hb1
      have Aa1 : Box w1 w.heap.size k n t := Box.step (by repeat (first | exact Box.new _ _ _ _ | assumption | refine Box.alloc ?_ _)) hb1
      have Ab1 : Box w1 (w.heap.size + 1) k' n' t' := Box.step (by repeat (first | exact Box.new _ _ _ _ | assumption | refine Box.alloc ?_ _)) hb1
      have Ax1 : Box w1 wr.heap.size 0 0 ⟨#[]⟩ := Box.step (by repeat (first | exact Box.new _ _ _ _ | assumption | refine Box.alloc ?_ _)) hb1
      have Ay1 : Box w1 (wr.heap.size + 1) 0 0 ⟨#[]⟩ := Box.step ⟨by go_simp, by go_simp, by go_simp, by simp⟩ hb1
      have B1 : Bel w.heap.size w w1 := Bel.step (by repeat (first | exact Bel.refl _ | assumption | refine Bel.alloc ?_ _ | refine Bel.drew ?_ | refine Bel.drewN ?_ _)) hb1
      have xa1 := Aa1.c0; have ya1 := Aa1.c1; have za1 := Aa1.c2; have la1 := Aa1.lt
      have xb1 := Ab1.c0; have yb1 := Ab1.c1; have zb1 := Ab1.c2; have lb1 := Ab1.lt
      have xx1 := Ax1.c0; have yx1 := Ax1.c1; have zx1 := Ax1.c2; have lx1 := Ax1.lt
      have xy1 := Ay1.c0; have yy1 := Ay1.c1; have zy1 := Ay1.c2; have ly1 := Ay1.lt
      have fx1 : ∀ o, w1.frozen? ⟨wr.heap.size, o, none⟩ = false := fun o => by rw [hf1 _ o (by simp <;> omega)]; go_simp
      have fy1 : ∀ o, w1.frozen? ⟨wr.heap.size + 1, o, none⟩ = false := fun o => by rw [hf1 _ o (by simp <;> omega)]; go_simp
      clear hc1 hf1
      go_wp2_with fail
      refine (hB _).mono ?_
      rintro e w2 ⟨rfl, hb2⟩
      obtain ⟨_, hf2⟩ := bcell hb2
      have Aa2 : Box w2 w.heap.size k n t := Box.step (Aa1.filledFar (by omega) _ _ _) hb2
      have Ab2 : Box w2 (w.heap.size + 1) k' n' t' := Box.step (Ab1.filledFar (by omega) _ _ _) hb2
      have Ax2 : Box w2 wr.heap.size r1 r2 ⟨#[]⟩ := Box.step (Ax1.filled _ _ _) hb2
      have Ay2 : Box w2 (wr.heap.size + 1) 0 0 ⟨#[]⟩ := Box.step (Ay1.filledFar (by omega) _ _ _) hb2
      have hwr := BB.le
      have B2 : Bel w.heap.size w w2 := Bel.step (((B1.setCell (by simpa using hwr) _).setCell (by simpa using hwr) _).setCell (by simpa using hwr) _) hb2
      have xa2 := Aa2.c0; have ya2 := Aa2.c1; have za2 := Aa2.c2; have la2 := Aa2.lt
      have xb2 := Ab2.c0; have yb2 := Ab2.c1; have zb2 := Ab2.c2; have lb2 := Ab2.lt
      have xx2 := Ax2.c0; have yx2 := Ax2.c1; have zx2 := Ax2.c2; have lx2 := Ax2.lt
      have xy2 := Ay2.c0; have yy2 := Ay2.c1; have zy2 := Ay2.c2; have ly2 := Ay2.lt
      have fy2 : ∀ o, w2.frozen? ⟨wr.heap.size + 1, o, none⟩ = false := fun o => by rw [hf2 _ o (by rw [size_filled]; omega), frozen_filled]; exact fy1 o
      clear hf2
      go_wp2
      go_roundw
      case rel => exact ⟨6, by omega, rfl, Aa2.filledFar (by omega) _ _ _, Ab2.filledFar (by omega) _ _ _, ((B2.setCell (by simp; omega) _).setCell (by simp; omega) _).setCell (by simp; omega) _⟩
      case measure => simp [intOf]
    · have hA := fun w => Dec_any k n t hn w
      have hB := fun w => RDec_any k n t hn w
      generalize decS k n = R at *
      obtain ⟨r1, r2, r3⟩ := R
      go_wp2_with fail
      refine (hA _).mono ?_
      rintro e w1 ⟨rfl, hb1⟩
      obtain ⟨hc1, hf1⟩ := bcell hb1
      have Aa1 : Box w1 w.heap.size k n t := Box.step (by repeat (first | exact Box.new _ _ _ _ | assumption | refine Box.alloc ?_ _)) hb1
      have Ab1 : Box w1 (w.heap.size + 1) k' n' t' := Box.step (by repeat (first | exact Box.new _ _ _ _ | assumption | refine Box.alloc ?_ _)) hb1
      have Ax1 : Box w1 wr.heap.size 0 0 ⟨#[]⟩ := Box.step (by repeat (first | exact Box.new _ _ _ _ | assumption | refine Box.alloc ?_ _)) hb1
      have Ay1 : Box w1 (wr.heap.size + 1) 0 0 ⟨#[]⟩ := Box.step ⟨by go_simp, by go_simp, by go_simp, by simp⟩ hb1
      have B1 : Bel w.heap.size w w1 := Bel.step (by repeat (first | exact Bel.refl _ | assumption | refine Bel.alloc ?_ _ | refine Bel.drew ?_ | refine Bel.drewN ?_ _)) hb1
      have xa1 := Aa1.c0; have ya1 := Aa1.c1; have za1 := Aa1.c2; have la1 := Aa1.lt
      have xb1 := Ab1.c0; have yb1 := Ab1.c1; have zb1 := Ab1.c2; have lb1 := Ab1.lt
      have xx1 := Ax1.c0; have yx1 := Ax1.c1; have zx1 := Ax1.c2; have lx1 := Ax1.lt
      have xy1 := Ay1.c0; have yy1 := Ay1.c1; have zy1 := Ay1.c2; have ly1 := Ay1.lt
      have fx1 : ∀ o, w1.frozen? ⟨wr.heap.size, o, none⟩ = false := fun o => by rw [hf1 _ o (by simp <;> omega)]; go_simp
      have fy1 : ∀ o, w1.frozen? ⟨wr.heap.size + 1, o, none⟩ = false := fun o => by rw [hf1 _ o (by simp <;> omega)]; go_simp
      clear hc1 hf1
      go_wp2_with fail
      refine (hB _).mono ?_
      rintro e w2 ⟨rfl, hb2⟩
      obtain ⟨_, hf2⟩ := bcell hb2
      have Aa2 : Box w2 w.heap.size k n t := Box.step (Aa1.filledFar (by omega) _ _ _) hb2
      have Ab2 : Box w2 (w.heap.size + 1) k' n' t' := Box.step (Ab1.filledFar (by omega) _ _ _) hb2
      have Ax2 : Box w2 wr.heap.size r1 r2 ⟨#[]⟩ := Box.step (Ax1.filled _ _ _) hb2
      have Ay2 : Box w2 (wr.heap.size + 1) 0 0 ⟨#[]⟩ := Box.step (Ay1.filledFar (by omega) _ _ _) hb2
      have hwr := BB.le
      have B2 : Bel w.heap.size w w2 := Bel.step (((B1.setCell (by simpa using hwr) _).setCell (by simpa using hwr) _).setCell (by simpa using hwr) _) hb2
      have xa2 := Aa2.c0; have ya2 := Aa2.c1; have za2 := Aa2.c2; have la2 := Aa2.lt
      have xb2 := Ab2.c0; have yb2 := Ab2.c1; have zb2 := Ab2.c2; have lb2 := Ab2.lt
      have xx2 := Ax2.c0; have yx2 := Ax2.c1; have zx2 := Ax2.c2; have lx2 := Ax2.lt
      have xy2 := Ay2.c0; have yy2 := Ay2.c1; have zy2 := Ay2.c2; have ly2 := Ay2.lt
      have fy2 : ∀ o, w2.frozen? ⟨wr.heap.size + 1, o, none⟩ = false := fun o => by rw [hf2 _ o (by rw [size_filled]; omega), frozen_filled]; exact fy1 o
      clear hf2
      go_wp2
      go_roundw
      case rel => exact ⟨7, by omega, rfl, Aa2.filledFar (by omega) _ _ _, Ab2.filledFar (by omega) _ _ _, ((B2.setCell (by simp; omega) _).setCell (by simp; omega) _).setCell (by simp; omega) _⟩
      case measure => simp [intOf]
    · have hA := fun w => Int_any k n t hn w
      have hB := fun w => RInt_any k n t hn w
      generalize intS k n = R at *
      obtain ⟨r1, r2, r3⟩ := R
      go_wp2_with fail
      refine (hA _).mono ?_
      rintro e w1 ⟨rfl, hb1⟩
      obtain ⟨hc1, hf1⟩ := bcell hb1
      have Aa1 : Box w1 w.heap.size k n t := Box.step (by repeat (first | exact Box.new _ _ _ _ | assumption | refine Box.alloc ?_ _)) hb1
      have Ab1 : Box w1 (w.heap.size + 1) k' n' t' := Box.step (by repeat (first | exact Box.new _ _ _ _ | assumption | refine Box.alloc ?_ _)) hb1
      have Ax1 : Box w1 wr.heap.size 0 0 ⟨#[]⟩ := Box.step (by repeat (first | exact Box.new _ _ _ _ | assumption | refine Box.alloc ?_ _)) hb1
      have Ay1 : Box w1 (wr.heap.size + 1) 0 0 ⟨#[]⟩ := Box.step ⟨by go_simp, by go_simp, by go_simp, by simp⟩ hb1
      have B1 : Bel w.heap.size w w1 := Bel.step (by repeat (first | exact Bel.refl _ | assumption | refine Bel.alloc ?_ _ | refine Bel.drew ?_ | refine Bel.drewN ?_ _)) hb1
      have xa1 := Aa1.c0; have ya1 := Aa1.c1; have za1 := Aa1.c2; have la1 := Aa1.lt
      have xb1 := Ab1.c0; have yb1 := Ab1.c1; have zb1 := Ab1.c2; have lb1 := Ab1.lt
      have xx1 := Ax1.c0; have yx1 := Ax1.c1; have zx1 := Ax1.c2; have lx1 := Ax1.lt
      have xy1 := Ay1.c0; have yy1 := Ay1.c1; have zy1 := Ay1.c2; have ly1 := Ay1.lt
      have fx1 : ∀ o, w1.frozen? ⟨wr.heap.size, o, none⟩ = false := fun o => by rw [hf1 _ o (by simp <;> omega)]; go_simp
      have fy1 : ∀ o, w1.frozen? ⟨wr.heap.size + 1, o, none⟩ = false := fun o => by rw [hf1 _ o (by simp <;> omega)]; go_simp
      clear hc1 hf1
      go_wp2_with fail
      refine (hB _).mono ?_
      rintro e w2 ⟨rfl, hb2⟩
      obtain ⟨_, hf2⟩ := bcell hb2
      have Aa2 : Box w2 w.heap.size k n t := Box.step (Aa1.filledFar (by omega) _ _ _) hb2
      have Ab2 : Box w2 (w.heap.size + 1) k' n' t' := Box.step (Ab1.filledFar (by omega) _ _ _) hb2
      have Ax2 : Box w2 wr.heap.size r1 r2 ⟨#[]⟩ := Box.step (Ax1.filled _ _ _) hb2
      have Ay2 : Box w2 (wr.heap.size + 1) 0 0 ⟨#[]⟩ := Box.step (Ay1.filledFar (by omega) _ _ _) hb2
      have hwr := BB.le
      have B2 : Bel w.heap.size w w2 := Bel.step (((B1.setCell (by simpa using hwr) _).setCell (by simpa using hwr) _).setCell (by simpa using hwr) _) hb2
      have xa2 := Aa2.c0; have ya2 := Aa2.c1; have za2 := Aa2.c2; have la2 := Aa2.lt
      have xb2 := Ab2.c0; have yb2 := Ab2.c1; have zb2 := Ab2.c2; have lb2 := Ab2.lt
      have xx2 := Ax2.c0; have yx2 := Ax2.c1; have zx2 := Ax2.c2; have lx2 := Ax2.lt
      have xy2 := Ay2.c0; have yy2 := Ay2.c1; have zy2 := Ay2.c2; have ly2 := Ay2.lt
      have fy2 : ∀ o, w2.frozen? ⟨wr.heap.size + 1, o, none⟩ = false := fun o => by rw [hf2 _ o (by rw [size_filled]; omega), frozen_filled]; exact fy1 o
      clear hf2
      go_wp2
      go_roundw
      case rel => exact ⟨8, by omega, rfl, Aa2.filledFar (by omega) _ _ _, Ab2.filledFar (by omega) _ _ _, ((B2.setCell (by simp; omega) _).setCell (by simp; omega) _).setCell (by simp; omega) _⟩
      case measure => simp [intOf]
    · go_wp2_with (go_at_call 23; refine (sure_any _).mono ?_; rintro e w' ⟨rfl, hb⟩)
      go_ret
      exact ⟨rfl, (BB.step hb).out⟩
end Go.Proofs.Ytakcmjigddeapaa
