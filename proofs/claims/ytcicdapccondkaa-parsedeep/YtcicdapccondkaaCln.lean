/- Trees side by side, copied (slices.Clone); trees that lie in new memory. -/
import Derived.Test.YtcicdapccondkaaGov
import Derived.Laws.AppendOwn
import Derived.Laws.OwnMore
import Derived.OwnWalk
import Derived.Lib.LazyBuf
namespace Go.Proofs.Ytcicdapccondkaa
open Go.ChangeShapes Go.WideShapes Go.ChangeAt Go.RowKit

theorem info24 : (Try.prog.info? 26).map (fun i => (i.zero, i.size, i.bytes)) = some (some (.agg #[.int .i64 0, .string ⟨#[]⟩, .int .i64 0, .int .i64 0, .slice none 0 0]), 5, 64) := by kernel_rfl
/-- A tree's kids lie from block lo on, and theirs. -/
def NdF (lo : Nat) (w : World) : (n : Nat) → Tr n → Option Addr → Prop
  | 0, _, _ => False
  | n + 1, x, sl => (ks (n + 1) x).length ≤ 9223372036854775807 ∧ (ks (n + 1) x = [] ∨ ∃ b off, sl = some ⟨b, off, none⟩ ∧ (lo ≤ b ∧ off = 0 ∧ ∀ j, w.frozen? ⟨b, j, none⟩ = false) ∧ ∀ i (y : Tr n), (ks (n + 1) x)[i]? = some y → ∃ s c, (w.cell? ⟨b, off + i * 5, none⟩ = some (.int .i64 (kd n y)) ∧ w.cell? ⟨b, off + i * 5 + 1, none⟩ = some (.string (bsA (tx n y))) ∧ w.cell? ⟨b, off + i * 5 + 2, none⟩ = some (.int .i64 (nu n y)) ∧ w.cell? ⟨b, off + i * 5 + 3, none⟩ = some (.int .i64 (pl n y)) ∧ w.cell? ⟨b, off + i * 5 + 4, none⟩ = some (.slice s (ks n y).length c)) ∧ NdF lo w n y s)
theorem NdF.at {lo : Nat} {w : World} : ∀ {n : Nat} {x : Tr n} {sl : Option Addr}, NdF lo w n x sl → NdAt w n x sl
  | 0, _, _, h => h
  | n + 1, x, sl, h => by
    obtain ⟨hl, h⟩ := h
    refine ⟨hl, ?_⟩
    rcases h with h | ⟨b, off, e, _, hc⟩
    · exact Or.inl h
    · refine Or.inr ⟨b, off, e, fun i y hi => ?_⟩
      obtain ⟨s, c, hcs, hp⟩ := hc i y hi
      exact ⟨s, c, hcs, NdF.at hp⟩
theorem NdF.keep {lo lo' : Nat} {w w' : World} (hlo : lo' ≤ lo) (hk : ∀ b, lo ≤ b → b < w.heap.size → w'.heap[b]? = w.heap[b]?) : ∀ {n : Nat} {x : Tr n} {sl : Option Addr}, NdF lo w n x sl → NdF lo' w' n x sl
  | 0, _, _, h => h
  | n + 1, x, sl, h => by
    obtain ⟨hl, h⟩ := h
    refine ⟨hl, ?_⟩
    rcases h with h | ⟨b, off, e, hb, hc⟩
    · exact Or.inl h
    · cases hks : ks (n + 1) x with
      | nil => exact Or.inl rfl
      | cons y0 r =>
        have hlt : b < w.heap.size := by
          obtain ⟨s, c, ⟨c0, _⟩, _⟩ := hc 0 y0 (by rw [hks]; rfl)
          exact cell_lt c0
        have e' := hk b hb.1 hlt
        rw [← hks]
        refine Or.inr ⟨b, off, e, ⟨by omega, hb.2.1, fun j => (World.frozen?_of_block (a := ⟨b, j, none⟩) e').trans (hb.2.2 j)⟩, fun i y hi => ?_⟩
        obtain ⟨s, c, ⟨c0, c1, c2, c3, c4⟩, hp⟩ := hc i y hi
        exact ⟨s, c, ⟨cell_same c0 e', cell_same c1 e', cell_same c2 e', cell_same c3 e', cell_same c4 e'⟩, NdF.keep hlo hk hp⟩
theorem NdF.below {lo : Nat} {w w' : World} (hb : Below w.heap.size w w') {n : Nat} {x : Tr n} {sl : Option Addr} (h : NdF lo w n x sl) : NdF lo w' n x sl := NdF.keep (Nat.le_refl _) (fun b _ h => hb.block b h) h
/-- What lies in len rows of five cells. -/
def rowV (w : World) (b off len : Nat) : List Value := (List.range (len * 5)).map fun j => (w.cell? ⟨b, off + j, none⟩).getD undef
theorem rowV_len (w : World) (b off len : Nat) : (rowV w b off len).length = len * 5 := by simp [rowV]
theorem rowV_at {w : World} {b off len j : Nat} (h : j < len * 5) : (rowV w b off len)[j]? = some ((w.cell? ⟨b, off + j, none⟩).getD undef) := by
  unfold rowV
  rw [List.getElem?_map, List.getElem?_range h]
  rfl
theorem rowV_inv {w : World} {b off len j : Nat} {u : Value} (h : (rowV w b off len)[j]? = some u) : j < len * 5 ∧ u = (w.cell? ⟨b, off + j, none⟩).getD undef := by
  have hj : j < len * 5 := by rw [← rowV_len w b off len]; exact (List.getElem?_eq_some_iff.1 h).1
  rw [rowV_at hj] at h
  exact ⟨hj, (Option.some.inj h).symm⟩
/-- Every cell of the rows. -/
theorem row_cell {n : Nat} {w : World} {b off : Nat} {l : List (Tr n)} {p : Tr n → Option Addr → Prop} (hc : ∀ i y, l[i]? = some y → ∃ s c, (w.cell? ⟨b, off + i * 5, none⟩ = some (.int .i64 (kd n y)) ∧ w.cell? ⟨b, off + i * 5 + 1, none⟩ = some (.string (bsA (tx n y))) ∧ w.cell? ⟨b, off + i * 5 + 2, none⟩ = some (.int .i64 (nu n y)) ∧ w.cell? ⟨b, off + i * 5 + 3, none⟩ = some (.int .i64 (pl n y)) ∧ w.cell? ⟨b, off + i * 5 + 4, none⟩ = some (.slice s (ks n y).length c)) ∧ p y s) (j : Nat) (hj : j < l.length * 5) :
    ∃ v : Value, w.cell? ⟨b, off + j, none⟩ = some v ∧ v.oneCell' = true := by
  have hi : j / 5 < l.length := by omega
  obtain ⟨s, c, ⟨c0, c1, c2, c3, c4⟩, _⟩ := hc (j / 5) _ (List.getElem?_eq_getElem hi)
  have h5 : j % 5 = 0 ∨ j % 5 = 1 ∨ j % 5 = 2 ∨ j % 5 = 3 ∨ j % 5 = 4 := by omega
  rcases h5 with h | h | h | h | h
  · exact ⟨_, by rw [show off + j = off + j / 5 * 5 by omega]; exact c0, rfl⟩
  · exact ⟨_, by rw [show off + j = off + j / 5 * 5 + 1 by omega]; exact c1, rfl⟩
  · exact ⟨_, by rw [show off + j = off + j / 5 * 5 + 2 by omega]; exact c2, rfl⟩
  · exact ⟨_, by rw [show off + j = off + j / 5 * 5 + 3 by omega]; exact c3, rfl⟩
  · exact ⟨_, by rw [show off + j = off + j / 5 * 5 + 4 by omega]; exact c4, rfl⟩
/-- A row of one's own, at block g: what the kids of l are, theirs by p. -/
def Row (w : World) (g n : Nat) (l : List (Tr n)) (p : Nat → Tr n → Option Addr → Prop) : Prop := ∀ i y, l[i]? = some y → ∃ s c, (w.cell? ⟨g, i * 5, none⟩ = some (.int .i64 (kd n y)) ∧ w.cell? ⟨g, i * 5 + 1, none⟩ = some (.string (bsA (tx n y))) ∧ w.cell? ⟨g, i * 5 + 2, none⟩ = some (.int .i64 (nu n y)) ∧ w.cell? ⟨g, i * 5 + 3, none⟩ = some (.int .i64 (pl n y)) ∧ w.cell? ⟨g, i * 5 + 4, none⟩ = some (.slice s (ks n y).length c)) ∧ p i y s
end Go.Proofs.Ytcicdapccondkaa
