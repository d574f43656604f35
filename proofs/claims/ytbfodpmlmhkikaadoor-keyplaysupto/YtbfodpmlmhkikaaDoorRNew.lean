/- The document's map: a row that is new. -/
import Derived.Test.YtbfodpmlmhkikaaDoorRMap
import Derived.Test.YtbfodpmlmhkikaaDoorTwin
import Derived.WalkSmall
namespace Go.Proofs.YtbfodpmlmhkikaaDoor
open Go.ChangeShapes Go.WideShapes Go.ChangeAt Go.RowKit

theorem info82 : (Tryd.prog.info? 82).map (fun i => (i.zero, i.size, i.bytes)) = some (some (.agg #[.slice none 0 0, .int .i64 0]), 2, 32) := by kernel_rfl
/-- The map when its slice has grown by a pair and is stored again. -/
theorem RfAt.more {w w3 w4 : World} {X B : Nat} {v v4 : Value} {P : List Ent} {a' : Option Addr} {cap' : Nat} {r : List Val} {n : Int} (h : RfAt w3 X B v P) (hr : RowAt w3 a' r) (ha : ∀ g o, a' = some ⟨g, o, none⟩ → w.heap.size ≤ g ∧ g < w3.heap.size)
    (hw : ∀ k, v.ownBlock = some k → k < w.heap.size) (hX : X < w.heap.size) (hB : B ≤ w.heap.size) {ob : Obj}
    (hown : w4.ownsRow B 82 2 v4 (P.length + 1) (prC P ++ [.slice a' r.length cap', .int .i64 n])) (hgrow : (w3.alloc ob).grownBy w4 v.ownBlock) (hloc : v4.ownBlock = v.ownBlock ∨ v4.ownBlock = some (w3.heap.size + 1)) :
    RfAt (w4.setCell ⟨X, 0, none⟩ v4) X B v4 (P ++ [⟨a', cap', r, n, 0⟩]) := by
  have hXl : X < w3.heap.size := cell_lt h.c
  have hsz : w3.heap.size + 1 ≤ w4.heap.size := by have := hgrow.size; simpa using this
  have hbk : ∀ k, k < w3.heap.size → v.ownBlock ≠ some k → w4.heap[k]? = w3.heap[k]? := fun k hk hne => (hgrow.block k (by simp; omega) (fun e => hne e.symm)).trans (Below.heap_alloc _ _ _ hk)
  have hn4 : v4.ownBlock ≠ some X := by
    rcases hloc with e | e
    · rw [e]; exact h.nX
    · rw [e]; intro e2; injection e2 with e2; omega
  have hcX : w4.cell? ⟨X, 0, none⟩ = some v := (World.cell?_of_block (a := ⟨X, 0, none⟩) (hbk X hXl h.nX)).trans h.c
  have hFs : Fr (fun k => k = X) w4 (w4.setCell ⟨X, 0, none⟩ v4) := (Fr.refl (fun k => k = X) w4).setCell (p := ⟨X, 0, none⟩) (Or.inl rfl) _
  have hF3 : Fr (fun k => v.ownBlock = some k) w3 w4 := ⟨hgrow.os, hgrow.tape, hgrow.output, by omega, fun k hk hS => hbk k hk hS⟩
  have hap : (P ++ [(⟨a', cap', r, n, 0⟩ : Ent)]).length = P.length + 1 := by simp
  refine ⟨World.cell?_setCell_same _ _ _ hcX, ?_, ?_, fun x hx => ?_, hn4⟩
  · rw [World.frozen?_setCell, hF3.frozen hXl h.nX]; exact h.f
  · rw [hap, prC_app]
    exact hown.kept (row := some X) ⟨hFs.os, hFs.tape, hFs.output, hFs.size, fun k hk hne => hFs.block k hk (fun e => hne (by rw [e]))⟩ (Or.inr hn4)
  · have hnew : ∀ y : Ent, RowAt w3 y.a y.row → (∀ g o, y.a = some ⟨g, o, none⟩ → B ≤ g ∧ g < w3.heap.size ∧ g ≠ X ∧ v.ownBlock ≠ some g) → RowAt (w4.setCell ⟨X, 0, none⟩ v4) y.a y.row ∧ ∀ g o, y.a = some ⟨g, o, none⟩ → B ≤ g ∧ g < (w4.setCell ⟨X, 0, none⟩ v4).heap.size ∧ g ≠ X ∧ v4.ownBlock ≠ some g := fun y h1 h2 =>
      ⟨hFs.vals (hF3.vals h1 (fun g o e => (h2 g o e).2.2.2)) (fun g o e => (h2 g o e).2.2.1), fun g o e => by
        obtain ⟨b1, b2, b3, b4⟩ := h2 g o e
        refine ⟨b1, Nat.lt_of_lt_of_le (show g < w4.heap.size by omega) hFs.size, b3, ?_⟩
        rcases hloc with e2 | e2
        · rw [e2]; exact b4
        · rw [e2]; intro e3; injection e3 with e3; omega⟩
    rcases List.mem_append.1 hx with hx | hx
    · exact hnew x (h.rows x hx).1 (h.rows x hx).2
    · simp only [List.mem_singleton] at hx
      subst hx
      refine hnew _ hr (fun g o e => ?_)
      have e' : a' = some ⟨g, o, none⟩ := e
      obtain ⟨b1, b2⟩ := ha g o e'
      exact ⟨by omega, b2, by omega, fun e2 => by have := hw g e2; omega⟩
end Go.Proofs.YtbfodpmlmhkikaaDoor
