/- Boxes that hold a value: what is kept of them behind calls; and for regions that read several. -/
import Derived.Test.YtakcmjigddeapaaApi
namespace Go.Proofs.Ytakcmjigddeapaa
open Go.ChangeShapes Go.WideShapes Go.ChangeAt Go.RowKit

theorem Bel.of {a w : World} (h : Below a.heap.size a w) : Bel a.heap.size a w := ⟨h, h.size⟩
structure Box (w : World) (p : Nat) (k n : Int) (t : ByteArray) : Prop where
  c0 : w.cell? ⟨p, 0, none⟩ = some (.int .i64 k)
  c1 : w.cell? ⟨p, 1, none⟩ = some (.int .i64 n)
  c2 : w.cell? ⟨p, 2, none⟩ = some (.string t)
  lt : p < w.heap.size
theorem Box.new (w : World) (k n : Int) (t : ByteArray) : Box (w.alloc (.cells #[.int .i64 k, .int .i64 n, .string t] 23)) w.heap.size k n t :=
  ⟨by go_simp, by go_simp, by go_simp, by simp⟩
theorem Box.step {w w' : World} {p : Nat} {k n : Int} {t : ByteArray} (h : Box w p k n t) (hb : Below w.heap.size w w') : Box w' p k n t :=
  ⟨(hb.cell (p := ⟨p, 0, none⟩) h.lt).trans h.c0, (hb.cell (p := ⟨p, 1, none⟩) h.lt).trans h.c1, (hb.cell (p := ⟨p, 2, none⟩) h.lt).trans h.c2, Nat.lt_of_lt_of_le h.lt hb.size⟩
theorem Box.alloc {w : World} {p : Nat} {k n : Int} {t : ByteArray} (h : Box w p k n t) (o : Obj) : Box (w.alloc o) p k n t :=
  h.step ((Below.refl _ _).alloc (Nat.le_refl _) o)
theorem Box.drew {w : World} {p : Nat} {k n : Int} {t : ByteArray} (h : Box w p k n t) : Box w.drew p k n t := ⟨h.c0, h.c1, h.c2, h.lt⟩
theorem Box.drewN {w : World} {p : Nat} {k n : Int} {t : ByteArray} (h : Box w p k n t) (q : Nat) : Box (w.drewN q) p k n t := by
  induction q with
  | zero => exact h
  | succ q ih => exact ih.drew

theorem keep1 {w wx w' : World} {p0 : Nat} {a0 b0 c0 : Value} (hS : wx.cell? ⟨p0, 0, none⟩ = some a0 ∧ wx.cell? ⟨p0, 1, none⟩ = some b0 ∧ wx.cell? ⟨p0, 2, none⟩ = some c0 ∧ p0 < wx.heap.size ∧ Below w.heap.size w wx) (hb : Below wx.heap.size wx w') : w'.cell? ⟨p0, 0, none⟩ = some a0 ∧ w'.cell? ⟨p0, 1, none⟩ = some b0 ∧ w'.cell? ⟨p0, 2, none⟩ = some c0 ∧ p0 < w'.heap.size ∧ Below w.heap.size w w' := by
  obtain ⟨h0, h1, h2, l0, hB⟩ := hS
  have hz := hB.size
  have hz2 := hb.size
  refine ⟨?_, ?_, ?_, by omega, hB.trans (hb.mono hz)⟩
  · rw [hb.cell (by simpa using l0)]; exact h0
  · rw [hb.cell (by simpa using l0)]; exact h1
  · rw [hb.cell (by simpa using l0)]; exact h2
theorem keep1d {w wx : World} {p0 : Nat} {a0 b0 c0 : Value} (hS : wx.cell? ⟨p0, 0, none⟩ = some a0 ∧ wx.cell? ⟨p0, 1, none⟩ = some b0 ∧ wx.cell? ⟨p0, 2, none⟩ = some c0 ∧ p0 < wx.heap.size ∧ Below w.heap.size w wx) : wx.drew.cell? ⟨p0, 0, none⟩ = some a0 ∧ wx.drew.cell? ⟨p0, 1, none⟩ = some b0 ∧ wx.drew.cell? ⟨p0, 2, none⟩ = some c0 ∧ p0 < wx.drew.heap.size ∧ Below w.heap.size w wx.drew := by
  obtain ⟨h0, h1, h2, l0, hB⟩ := hS
  exact ⟨h0, h1, h2, l0, hB.drew⟩
theorem last1 {w wx : World} {p0 : Nat} {a0 b0 c0 : Value} (hS : wx.cell? ⟨p0, 0, none⟩ = some a0 ∧ wx.cell? ⟨p0, 1, none⟩ = some b0 ∧ wx.cell? ⟨p0, 2, none⟩ = some c0 ∧ p0 < wx.heap.size ∧ Below w.heap.size w wx) : Below w.heap.size w wx := by
  obtain ⟨h0, h1, h2, l0, hB⟩ := hS
  exact hB
theorem keep2 {w wx w' : World} {p0 p1 : Nat} {a0 b0 c0 a1 b1 c1 : Value} (hS : wx.cell? ⟨p0, 0, none⟩ = some a0 ∧ wx.cell? ⟨p0, 1, none⟩ = some b0 ∧ wx.cell? ⟨p0, 2, none⟩ = some c0 ∧ wx.cell? ⟨p1, 0, none⟩ = some a1 ∧ wx.cell? ⟨p1, 1, none⟩ = some b1 ∧ wx.cell? ⟨p1, 2, none⟩ = some c1 ∧ p0 < wx.heap.size ∧ p1 < wx.heap.size ∧ Below w.heap.size w wx) (hb : Below wx.heap.size wx w') : w'.cell? ⟨p0, 0, none⟩ = some a0 ∧ w'.cell? ⟨p0, 1, none⟩ = some b0 ∧ w'.cell? ⟨p0, 2, none⟩ = some c0 ∧ w'.cell? ⟨p1, 0, none⟩ = some a1 ∧ w'.cell? ⟨p1, 1, none⟩ = some b1 ∧ w'.cell? ⟨p1, 2, none⟩ = some c1 ∧ p0 < w'.heap.size ∧ p1 < w'.heap.size ∧ Below w.heap.size w w' := by
  obtain ⟨h0, h1, h2, h3, h4, h5, l0, l1, hB⟩ := hS
  have hz := hB.size
  have hz2 := hb.size
  refine ⟨?_, ?_, ?_, ?_, ?_, ?_, by omega, by omega, hB.trans (hb.mono hz)⟩
  · rw [hb.cell (by simpa using l0)]; exact h0
  · rw [hb.cell (by simpa using l0)]; exact h1
  · rw [hb.cell (by simpa using l0)]; exact h2
  · rw [hb.cell (by simpa using l1)]; exact h3
  · rw [hb.cell (by simpa using l1)]; exact h4
  · rw [hb.cell (by simpa using l1)]; exact h5
theorem keep2d {w wx : World} {p0 p1 : Nat} {a0 b0 c0 a1 b1 c1 : Value} (hS : wx.cell? ⟨p0, 0, none⟩ = some a0 ∧ wx.cell? ⟨p0, 1, none⟩ = some b0 ∧ wx.cell? ⟨p0, 2, none⟩ = some c0 ∧ wx.cell? ⟨p1, 0, none⟩ = some a1 ∧ wx.cell? ⟨p1, 1, none⟩ = some b1 ∧ wx.cell? ⟨p1, 2, none⟩ = some c1 ∧ p0 < wx.heap.size ∧ p1 < wx.heap.size ∧ Below w.heap.size w wx) : wx.drew.cell? ⟨p0, 0, none⟩ = some a0 ∧ wx.drew.cell? ⟨p0, 1, none⟩ = some b0 ∧ wx.drew.cell? ⟨p0, 2, none⟩ = some c0 ∧ wx.drew.cell? ⟨p1, 0, none⟩ = some a1 ∧ wx.drew.cell? ⟨p1, 1, none⟩ = some b1 ∧ wx.drew.cell? ⟨p1, 2, none⟩ = some c1 ∧ p0 < wx.drew.heap.size ∧ p1 < wx.drew.heap.size ∧ Below w.heap.size w wx.drew := by
  obtain ⟨h0, h1, h2, h3, h4, h5, l0, l1, hB⟩ := hS
  exact ⟨h0, h1, h2, h3, h4, h5, l0, l1, hB.drew⟩
theorem last2 {w wx : World} {p0 p1 : Nat} {a0 b0 c0 a1 b1 c1 : Value} (hS : wx.cell? ⟨p0, 0, none⟩ = some a0 ∧ wx.cell? ⟨p0, 1, none⟩ = some b0 ∧ wx.cell? ⟨p0, 2, none⟩ = some c0 ∧ wx.cell? ⟨p1, 0, none⟩ = some a1 ∧ wx.cell? ⟨p1, 1, none⟩ = some b1 ∧ wx.cell? ⟨p1, 2, none⟩ = some c1 ∧ p0 < wx.heap.size ∧ p1 < wx.heap.size ∧ Below w.heap.size w wx) : Below w.heap.size w wx := by
  obtain ⟨h0, h1, h2, h3, h4, h5, l0, l1, hB⟩ := hS
  exact hB
theorem keep4 {w wx w' : World} {p0 p1 p2 p3 : Nat} {a0 b0 c0 a1 b1 c1 a2 b2 c2 a3 b3 c3 : Value} (hS : wx.cell? ⟨p0, 0, none⟩ = some a0 ∧ wx.cell? ⟨p0, 1, none⟩ = some b0 ∧ wx.cell? ⟨p0, 2, none⟩ = some c0 ∧ wx.cell? ⟨p1, 0, none⟩ = some a1 ∧ wx.cell? ⟨p1, 1, none⟩ = some b1 ∧ wx.cell? ⟨p1, 2, none⟩ = some c1 ∧ wx.cell? ⟨p2, 0, none⟩ = some a2 ∧ wx.cell? ⟨p2, 1, none⟩ = some b2 ∧ wx.cell? ⟨p2, 2, none⟩ = some c2 ∧ wx.cell? ⟨p3, 0, none⟩ = some a3 ∧ wx.cell? ⟨p3, 1, none⟩ = some b3 ∧ wx.cell? ⟨p3, 2, none⟩ = some c3 ∧ p0 < wx.heap.size ∧ p1 < wx.heap.size ∧ p2 < wx.heap.size ∧ p3 < wx.heap.size ∧ Below w.heap.size w wx) (hb : Below wx.heap.size wx w') : w'.cell? ⟨p0, 0, none⟩ = some a0 ∧ w'.cell? ⟨p0, 1, none⟩ = some b0 ∧ w'.cell? ⟨p0, 2, none⟩ = some c0 ∧ w'.cell? ⟨p1, 0, none⟩ = some a1 ∧ w'.cell? ⟨p1, 1, none⟩ = some b1 ∧ w'.cell? ⟨p1, 2, none⟩ = some c1 ∧ w'.cell? ⟨p2, 0, none⟩ = some a2 ∧ w'.cell? ⟨p2, 1, none⟩ = some b2 ∧ w'.cell? ⟨p2, 2, none⟩ = some c2 ∧ w'.cell? ⟨p3, 0, none⟩ = some a3 ∧ w'.cell? ⟨p3, 1, none⟩ = some b3 ∧ w'.cell? ⟨p3, 2, none⟩ = some c3 ∧ p0 < w'.heap.size ∧ p1 < w'.heap.size ∧ p2 < w'.heap.size ∧ p3 < w'.heap.size ∧ Below w.heap.size w w' := by
  obtain ⟨h0, h1, h2, h3, h4, h5, h6, h7, h8, h9, h10, h11, l0, l1, l2, l3, hB⟩ := hS
  have hz := hB.size
  have hz2 := hb.size
  refine ⟨?_, ?_, ?_, ?_, ?_, ?_, ?_, ?_, ?_, ?_, ?_, ?_, by omega, by omega, by omega, by omega, hB.trans (hb.mono hz)⟩
  · rw [hb.cell (by simpa using l0)]; exact h0
  · rw [hb.cell (by simpa using l0)]; exact h1
  · rw [hb.cell (by simpa using l0)]; exact h2
  · rw [hb.cell (by simpa using l1)]; exact h3
  · rw [hb.cell (by simpa using l1)]; exact h4
  · rw [hb.cell (by simpa using l1)]; exact h5
  · rw [hb.cell (by simpa using l2)]; exact h6
  · rw [hb.cell (by simpa using l2)]; exact h7
  · rw [hb.cell (by simpa using l2)]; exact h8
  · rw [hb.cell (by simpa using l3)]; exact h9
  · rw [hb.cell (by simpa using l3)]; exact h10
  · rw [hb.cell (by simpa using l3)]; exact h11
theorem keep4d {w wx : World} {p0 p1 p2 p3 : Nat} {a0 b0 c0 a1 b1 c1 a2 b2 c2 a3 b3 c3 : Value} (hS : wx.cell? ⟨p0, 0, none⟩ = some a0 ∧ wx.cell? ⟨p0, 1, none⟩ = some b0 ∧ wx.cell? ⟨p0, 2, none⟩ = some c0 ∧ wx.cell? ⟨p1, 0, none⟩ = some a1 ∧ wx.cell? ⟨p1, 1, none⟩ = some b1 ∧ wx.cell? ⟨p1, 2, none⟩ = some c1 ∧ wx.cell? ⟨p2, 0, none⟩ = some a2 ∧ wx.cell? ⟨p2, 1, none⟩ = some b2 ∧ wx.cell? ⟨p2, 2, none⟩ = some c2 ∧ wx.cell? ⟨p3, 0, none⟩ = some a3 ∧ wx.cell? ⟨p3, 1, none⟩ = some b3 ∧ wx.cell? ⟨p3, 2, none⟩ = some c3 ∧ p0 < wx.heap.size ∧ p1 < wx.heap.size ∧ p2 < wx.heap.size ∧ p3 < wx.heap.size ∧ Below w.heap.size w wx) : wx.drew.cell? ⟨p0, 0, none⟩ = some a0 ∧ wx.drew.cell? ⟨p0, 1, none⟩ = some b0 ∧ wx.drew.cell? ⟨p0, 2, none⟩ = some c0 ∧ wx.drew.cell? ⟨p1, 0, none⟩ = some a1 ∧ wx.drew.cell? ⟨p1, 1, none⟩ = some b1 ∧ wx.drew.cell? ⟨p1, 2, none⟩ = some c1 ∧ wx.drew.cell? ⟨p2, 0, none⟩ = some a2 ∧ wx.drew.cell? ⟨p2, 1, none⟩ = some b2 ∧ wx.drew.cell? ⟨p2, 2, none⟩ = some c2 ∧ wx.drew.cell? ⟨p3, 0, none⟩ = some a3 ∧ wx.drew.cell? ⟨p3, 1, none⟩ = some b3 ∧ wx.drew.cell? ⟨p3, 2, none⟩ = some c3 ∧ p0 < wx.drew.heap.size ∧ p1 < wx.drew.heap.size ∧ p2 < wx.drew.heap.size ∧ p3 < wx.drew.heap.size ∧ Below w.heap.size w wx.drew := by
  obtain ⟨h0, h1, h2, h3, h4, h5, h6, h7, h8, h9, h10, h11, l0, l1, l2, l3, hB⟩ := hS
  exact ⟨h0, h1, h2, h3, h4, h5, h6, h7, h8, h9, h10, h11, l0, l1, l2, l3, hB.drew⟩
theorem last4 {w wx : World} {p0 p1 p2 p3 : Nat} {a0 b0 c0 a1 b1 c1 a2 b2 c2 a3 b3 c3 : Value} (hS : wx.cell? ⟨p0, 0, none⟩ = some a0 ∧ wx.cell? ⟨p0, 1, none⟩ = some b0 ∧ wx.cell? ⟨p0, 2, none⟩ = some c0 ∧ wx.cell? ⟨p1, 0, none⟩ = some a1 ∧ wx.cell? ⟨p1, 1, none⟩ = some b1 ∧ wx.cell? ⟨p1, 2, none⟩ = some c1 ∧ wx.cell? ⟨p2, 0, none⟩ = some a2 ∧ wx.cell? ⟨p2, 1, none⟩ = some b2 ∧ wx.cell? ⟨p2, 2, none⟩ = some c2 ∧ wx.cell? ⟨p3, 0, none⟩ = some a3 ∧ wx.cell? ⟨p3, 1, none⟩ = some b3 ∧ wx.cell? ⟨p3, 2, none⟩ = some c3 ∧ p0 < wx.heap.size ∧ p1 < wx.heap.size ∧ p2 < wx.heap.size ∧ p3 < wx.heap.size ∧ Below w.heap.size w wx) : Below w.heap.size w wx := by
  obtain ⟨h0, h1, h2, h3, h4, h5, h6, h7, h8, h9, h10, h11, l0, l1, l2, l3, hB⟩ := hS
  exact hB
end Go.Proofs.Ytakcmjigddeapaa
