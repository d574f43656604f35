/- What the texts of this seat share: 'Bel', what a walk's end is put together of. -/
import Derived.Test.YtfjpdflilmcnhaaGreatDoorChecked
import Derived.WalkKit
import Derived.ProofKit
import Derived.WalkSpells
import Derived.WalkLawsBesides
import Derived.Deep.RegionHeld3
import Derived.Deep.DrawnRows
import Derived.Deep.QuietTactic
import Derived.BigQuiet
import Derived.WalkSmall
import Derived.LoopN
namespace Go.Proofs.YtfjpdflilmcnhaaGreatDoor
open Go.ChangeShapes Go.WideShapes Go.ChangeAt Go.RowKit

/-- 'Below', and that the world is no smaller: what a walk's end is put together of. -/
structure Bel (B : Nat) (a w : World) : Prop where
  out : Below B a w
  le : B ≤ w.heap.size
theorem Bel.refl (a : World) : Bel a.heap.size a a := ⟨Below.refl _ _, Nat.le_refl _⟩
theorem Bel.drew {B : Nat} {a w : World} (h : Bel B a w) : Bel B a w.drew := ⟨h.out.drew, h.le⟩
theorem Bel.drewN {B : Nat} {a w : World} (h : Bel B a w) (q : Nat) : Bel B a (w.drewN q) := by
  induction q with
  | zero => exact h
  | succ q ih => exact ih.drew
theorem Bel.alloc {B : Nat} {a w : World} (h : Bel B a w) (o : Obj) : Bel B a (w.alloc o) := ⟨h.out.alloc h.le o, by have := h.le; simp; omega⟩
theorem Bel.setCell {B : Nat} {a w : World} (h : Bel B a w) {p : Addr} (hp : B ≤ p.block) (u : Value) : Bel B a (w.setCell p u) := ⟨h.out.setCell hp u, by have := h.le; simpa [World.setCell] using this⟩
theorem Bel.step {B : Nat} {a w w' : World} (h : Bel B a w) (hb : Below w.heap.size w w') : Bel B a w' := ⟨h.out.trans (hb.mono h.le), Nat.le_trans h.le hb.size⟩
theorem Bel.of {a w : World} (h : Below a.heap.size a w) : Bel a.heap.size a w := ⟨h, h.size⟩
theorem ret_int {k : IntKind} {a b : Int} (h : a = b) : Ending.returned (.int k a) = .returned (.int k b) := by rw [h]
theorem ret_bool {a b : Bool} (h : a = b) : Ending.returned (.bool a) = .returned (.bool b) := by rw [h]
theorem cell_lt {w : World} {b o : Nat} {v : Value} (h : w.cell? ⟨b, o, none⟩ = some v) : b < w.heap.size := by
  rcases Nat.lt_or_ge b w.heap.size with h' | h'
  · exact h'
  · unfold World.cell? at h; simp [Array.getElem?_eq_none h'] at h
theorem cell_below {w w' : World} (hb : Below w.heap.size w w') {b o : Nat} {v : Value} (h : w.cell? ⟨b, o, none⟩ = some v) : w'.cell? ⟨b, o, none⟩ = some v := by
  rw [hb.cell (p := ⟨b, o, none⟩) (cell_lt h)]; exact h
end Go.Proofs.YtfjpdflilmcnhaaGreatDoor
