/- A tree in new memory (Copy). -/
import Derived.Test.YtcicdapccondkaaCln
namespace Go.Proofs.Ytcicdapccondkaa
set_option maxRecDepth 20000
set_option maxHeartbeats 8000000
open Go.ChangeShapes Go.WideShapes Go.ChangeAt Go.RowKit

theorem sc_ne {w : World} {a b : Addr} {v : Value} (h : a ≠ b) : (w.setCell a v).cell? b = w.cell? b := World.cell?_setCell_other _ _ _ _ h
theorem sc_eq {w : World} {a : Addr} {u v : Value} (h : w.cell? a = some u) : (w.setCell a v).cell? a = some v := World.cell?_setCell_same _ _ _ h
/-- Five cells of a block. -/
structure Box5 (w : World) (b : Nat) (v0 v1 v2 v3 v4 : Value) : Prop where
  c0 : w.cell? ⟨b, 0, none⟩ = some v0
  c1 : w.cell? ⟨b, 1, none⟩ = some v1
  c2 : w.cell? ⟨b, 2, none⟩ = some v2
  c3 : w.cell? ⟨b, 3, none⟩ = some v3
  c4 : w.cell? ⟨b, 4, none⟩ = some v4
  f0 : w.frozen? ⟨b, 0, none⟩ = false
  f1 : w.frozen? ⟨b, 1, none⟩ = false
  f2 : w.frozen? ⟨b, 2, none⟩ = false
  f3 : w.frozen? ⟨b, 3, none⟩ = false
  f4 : w.frozen? ⟨b, 4, none⟩ = false
theorem Box5.new (w : World) (v0 v1 v2 v3 v4 : Value) (T : TypeId) : Box5 (w.alloc (.cells #[v0, v1, v2, v3, v4] T)) w.heap.size v0 v1 v2 v3 v4 := by
  refine ⟨?_, ?_, ?_, ?_, ?_, ?_, ?_, ?_, ?_, ?_⟩ <;> simp [go_sem]
theorem Box5.below {w w2 : World} {b : Nat} {v0 v1 v2 v3 v4 : Value} (h : Box5 w b v0 v1 v2 v3 v4) (hb : Below w.heap.size w w2) : Box5 w2 b v0 v1 v2 v3 v4 where
  c0 := cell_below hb h.c0
  c1 := cell_below hb h.c1
  c2 := cell_below hb h.c2
  c3 := cell_below hb h.c3
  c4 := cell_below hb h.c4
  f0 := (hb.frozen (p := ⟨b, 0, none⟩) (cell_lt h.c0)).trans h.f0
  f1 := (hb.frozen (p := ⟨b, 1, none⟩) (cell_lt h.c0)).trans h.f1
  f2 := (hb.frozen (p := ⟨b, 2, none⟩) (cell_lt h.c0)).trans h.f2
  f3 := (hb.frozen (p := ⟨b, 3, none⟩) (cell_lt h.c0)).trans h.f3
  f4 := (hb.frozen (p := ⟨b, 4, none⟩) (cell_lt h.c0)).trans h.f4
theorem Box5.drew {w : World} {b : Nat} {v0 v1 v2 v3 v4 : Value} (h : Box5 w b v0 v1 v2 v3 v4) : Box5 w.drew b v0 v1 v2 v3 v4 := h.below (Below.refl _ _).drew
theorem Box5.far {w : World} {b : Nat} {v0 v1 v2 v3 v4 : Value} (h : Box5 w b v0 v1 v2 v3 v4) (g o : Nat) (v : Value) (hg : g ≠ b) : Box5 (w.setCell ⟨g, o, none⟩ v) b v0 v1 v2 v3 v4 where
  c0 := by rw [World.cell?_setCell_far _ _ _ _ hg]; exact h.c0
  c1 := by rw [World.cell?_setCell_far _ _ _ _ hg]; exact h.c1
  c2 := by rw [World.cell?_setCell_far _ _ _ _ hg]; exact h.c2
  c3 := by rw [World.cell?_setCell_far _ _ _ _ hg]; exact h.c3
  c4 := by rw [World.cell?_setCell_far _ _ _ _ hg]; exact h.c4
  f0 := by rw [World.frozen?_setCell]; exact h.f0
  f1 := by rw [World.frozen?_setCell]; exact h.f1
  f2 := by rw [World.frozen?_setCell]; exact h.f2
  f3 := by rw [World.frozen?_setCell]; exact h.f3
  f4 := by rw [World.frozen?_setCell]; exact h.f4
theorem Box5.put4 {w : World} {b : Nat} {v0 v1 v2 v3 v4 : Value} (h : Box5 w b v0 v1 v2 v3 v4) (v : Value) : Box5 (w.setCell ⟨b, 4, none⟩ v) b v0 v1 v2 v3 v where
  c0 := by rw [sc_ne (by simp)]; exact h.c0
  c1 := by rw [sc_ne (by simp)]; exact h.c1
  c2 := by rw [sc_ne (by simp)]; exact h.c2
  c3 := by rw [sc_ne (by simp)]; exact h.c3
  c4 := sc_eq h.c4
  f0 := by rw [World.frozen?_setCell]; exact h.f0
  f1 := by rw [World.frozen?_setCell]; exact h.f1
  f2 := by rw [World.frozen?_setCell]; exact h.f2
  f3 := by rw [World.frozen?_setCell]; exact h.f3
  f4 := by rw [World.frozen?_setCell]; exact h.f4
/-- Five cells written. -/
def set5 (w : World) (g o : Nat) (v0 v1 v2 v3 v4 : Value) : World := ((((w.setCell ⟨g, o, none⟩ v0).setCell ⟨g, o + 1, none⟩ v1).setCell ⟨g, o + 2, none⟩ v2).setCell ⟨g, o + 3, none⟩ v3).setCell ⟨g, o + 4, none⟩ v4
theorem set5_far (w : World) (g o : Nat) (v0 v1 v2 v3 v4 : Value) (b j : Nat) (h : g ≠ b) : (set5 w g o v0 v1 v2 v3 v4).cell? ⟨b, j, none⟩ = w.cell? ⟨b, j, none⟩ := by
  unfold set5
  rw [World.cell?_setCell_far _ _ _ _ h, World.cell?_setCell_far _ _ _ _ h, World.cell?_setCell_far _ _ _ _ h, World.cell?_setCell_far _ _ _ _ h, World.cell?_setCell_far _ _ _ _ h]
theorem set5_off (w : World) (g o : Nat) (v0 v1 v2 v3 v4 : Value) (j : Nat) (h : j < o ∨ o + 4 < j) : (set5 w g o v0 v1 v2 v3 v4).cell? ⟨g, j, none⟩ = w.cell? ⟨g, j, none⟩ := by
  unfold set5
  have e : ∀ q, q ≤ 4 → (⟨g, o + q, none⟩ : Addr) ≠ ⟨g, j, none⟩ := fun q hq h2 => by injection h2; omega
  rw [sc_ne (e 4 (by omega)), sc_ne (e 3 (by omega)), sc_ne (e 2 (by omega)), sc_ne (e 1 (by omega))]
  exact sc_ne (e 0 (by omega))
theorem set5_at (w : World) (g o : Nat) (v0 v1 v2 v3 v4 : Value) {u0 u1 u2 u3 u4 : Value} (h0 : w.cell? ⟨g, o, none⟩ = some u0) (h1 : w.cell? ⟨g, o + 1, none⟩ = some u1) (h2 : w.cell? ⟨g, o + 2, none⟩ = some u2) (h3 : w.cell? ⟨g, o + 3, none⟩ = some u3) (h4 : w.cell? ⟨g, o + 4, none⟩ = some u4) :
    (set5 w g o v0 v1 v2 v3 v4).cell? ⟨g, o, none⟩ = some v0 ∧ (set5 w g o v0 v1 v2 v3 v4).cell? ⟨g, o + 1, none⟩ = some v1 ∧ (set5 w g o v0 v1 v2 v3 v4).cell? ⟨g, o + 2, none⟩ = some v2 ∧ (set5 w g o v0 v1 v2 v3 v4).cell? ⟨g, o + 3, none⟩ = some v3 ∧ (set5 w g o v0 v1 v2 v3 v4).cell? ⟨g, o + 4, none⟩ = some v4 := by
  unfold set5
  refine ⟨?_, ?_, ?_, ?_, ?_⟩
  · rw [sc_ne (by simp), sc_ne (by simp), sc_ne (by simp), sc_ne (by simp)]
    exact sc_eq h0
  · rw [sc_ne (by simp), sc_ne (by simp), sc_ne (by simp)]
    exact sc_eq (by rw [sc_ne (by simp)]; exact h1)
  · rw [sc_ne (by simp), sc_ne (by simp)]
    exact sc_eq (by rw [sc_ne (by simp), sc_ne (by simp)]; exact h2)
  · rw [sc_ne (by simp)]
    exact sc_eq (by rw [sc_ne (by simp), sc_ne (by simp), sc_ne (by simp)]; exact h3)
  · exact sc_eq (by rw [sc_ne (by simp), sc_ne (by simp), sc_ne (by simp), sc_ne (by simp)]; exact h4)
theorem set5_frozen (w : World) (g o : Nat) (v0 v1 v2 v3 v4 : Value) (p : Addr) : (set5 w g o v0 v1 v2 v3 v4).frozen? p = w.frozen? p := by
  unfold set5
  rw [World.frozen?_setCell, World.frozen?_setCell, World.frozen?_setCell, World.frozen?_setCell, World.frozen?_setCell]
theorem set5_below {B : Nat} {w0 w : World} (hb : Below B w0 w) (g o : Nat) (v0 v1 v2 v3 v4 : Value) (h : B ≤ g) : Below B w0 (set5 w g o v0 v1 v2 v3 v4) :=
  ((((hb.setCell (p := ⟨g, o, none⟩) h _).setCell (p := ⟨g, o + 1, none⟩) h _).setCell (p := ⟨g, o + 2, none⟩) h _).setCell (p := ⟨g, o + 3, none⟩) h _).setCell (p := ⟨g, o + 4, none⟩) h _
theorem set5_heap (w : World) (g o : Nat) (v0 v1 v2 v3 v4 : Value) (b : Nat) (h : b ≠ g) : (set5 w g o v0 v1 v2 v3 v4).heap[b]? = w.heap[b]? := by
  unfold set5
  rw [Below.heap_setCell _ _ _ _ h, Below.heap_setCell _ _ _ _ h, Below.heap_setCell _ _ _ _ h, Below.heap_setCell _ _ _ _ h, Below.heap_setCell _ _ _ _ h]
theorem set5_size (w : World) (g o : Nat) (v0 v1 v2 v3 v4 : Value) : (set5 w g o v0 v1 v2 v3 v4).heap.size = w.heap.size := by unfold set5; simp
theorem Box5.set5 {w : World} {b : Nat} {v0 v1 v2 v3 v4 : Value} (h : Box5 w b v0 v1 v2 v3 v4) (g o : Nat) (u0 u1 u2 u3 u4 : Value) (hg : g ≠ b) : Box5 (set5 w g o u0 u1 u2 u3 u4) b v0 v1 v2 v3 v4 :=
  ((((h.far g o u0 hg).far g (o + 1) u1 hg).far g (o + 2) u2 hg).far g (o + 3) u3 hg).far g (o + 4) u4 hg
/-- A row that is copied up to i. -/
def Mid (w0 w : World) (g i n : Nat) (l : List (Tr n)) : Prop := (∀ j, w.frozen? ⟨g, j, none⟩ = false) ∧ g < w.heap.size ∧ Row w g n l (fun j y s => (j < i → NdF (g + 1) w n y s) ∧ (i ≤ j → NdAt w0 n y s))
theorem Mid.step {w0 wr w3 : World} {g i n : Nat} {l : List (Tr n)} (h : Mid w0 wr g i n l) (hb : Below wr.heap.size wr w3) {y : Tr n} {s' : Option Addr} {c' : Nat} (hy : l[i]? = some y) (hF : NdF (g + 1) w3 n y s') :
    Mid w0 (set5 w3 g (i * 5) (.int .i64 (kd n y)) (.string (bsA (tx n y))) (.int .i64 (nu n y)) (.int .i64 (pl n y)) (.slice s' (ks n y).length c')) g (i + 1) n l := by
  obtain ⟨hf, hlt, hr⟩ := h
  have keep : ∀ {z : Tr n} {s : Option Addr}, NdF (g + 1) w3 n z s → NdF (g + 1) (set5 w3 g (i * 5) (.int .i64 (kd n y)) (.string (bsA (tx n y))) (.int .i64 (nu n y)) (.int .i64 (pl n y)) (.slice s' (ks n y).length c')) n z s := fun h => NdF.keep (Nat.le_refl _) (fun b hb _ => set5_heap _ _ _ _ _ _ _ _ _ (by omega)) h
  refine ⟨fun j => by rw [set5_frozen]; exact (hb.frozen (p := ⟨g, j, none⟩) hlt).trans (hf j), by rw [set5_size]; exact Nat.lt_of_lt_of_le hlt hb.size, fun j z hz => ?_⟩
  by_cases hji : j = i
  · subst hji
    rw [hy] at hz
    cases hz
    obtain ⟨s, c, ⟨c0, c1, c2, c3, c4⟩, _⟩ := hr j y hy
    exact ⟨s', c', set5_at w3 g (j * 5) _ _ _ _ _ (cell_below hb c0) (cell_below hb c1) (cell_below hb c2) (cell_below hb c3) (cell_below hb c4), fun _ => keep hF, fun h => absurd h (by omega)⟩
  · obtain ⟨s, c, ⟨c0, c1, c2, c3, c4⟩, hp, hq⟩ := hr j z hz
    refine ⟨s, c, ⟨?_, ?_, ?_, ?_, ?_⟩, fun h => keep (NdF.below hb (hp (by omega))), fun h => hq (by omega)⟩
    · rw [set5_off _ _ _ _ _ _ _ _ _ (by omega)]; exact cell_below hb c0
    · rw [set5_off _ _ _ _ _ _ _ _ _ (by omega)]; exact cell_below hb c1
    · rw [set5_off _ _ _ _ _ _ _ _ _ (by omega)]; exact cell_below hb c2
    · rw [set5_off _ _ _ _ _ _ _ _ _ (by omega)]; exact cell_below hb c3
    · rw [set5_off _ _ _ _ _ _ _ _ _ (by omega)]; exact cell_below hb c4
end Go.Proofs.Ytcicdapccondkaa
