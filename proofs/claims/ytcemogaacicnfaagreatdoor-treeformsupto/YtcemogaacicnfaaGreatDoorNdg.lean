/- Trees in memory whose rows of kids have the room that they tell. -/
import Derived.Test.YtcemogaacicnfaaGreatDoorTre
namespace Go.Proofs.YtcemogaacicnfaaGreatDoor
open Go.ChangeShapes Go.WideShapes Go.ChangeAt Go.RowKit

/-- Trees side by side at sl, with the room that is told. -/
def KsGL (n : Nat) (w : World) (sl : Option Addr) (cap : Nat) (l : List (Tr n)) (p : Tr n → Option Addr → Nat → Prop) : Prop :=
  l.length ≤ 9223372036854775807 ∧ (l = [] ∨ ∃ b off, sl = some ⟨b, off, none⟩ ∧ ∀ i y, l[i]? = some y → ∃ s c, (w.cell? ⟨b, off + i * 5, none⟩ = some (.int .i64 (kd n y)) ∧ w.cell? ⟨b, off + i * 5 + 1, none⟩ = some (.string (bsA (tx n y))) ∧ w.cell? ⟨b, off + i * 5 + 2, none⟩ = some (.int .i64 (nu n y)) ∧ w.cell? ⟨b, off + i * 5 + 3, none⟩ = some (.int .i64 (pl n y)) ∧ w.cell? ⟨b, off + i * 5 + 4, none⟩ = some (.slice s (ks n y).length c)) ∧ p y s c) ∧ l.length ≤ cap
def NdG (w : World) : (n : Nat) → Tr n → Option Addr → Nat → Prop
  | 0, _, _, _ => False
  | n + 1, x, sl, cap => KsGL n w sl cap (ks (n + 1) x) (NdG w n)
def KsG (w : World) (n : Nat) (sl : Option Addr) (cap : Nat) (l : List (Tr n)) : Prop := KsGL n w sl cap l (NdG w n)
theorem NdG.kids {w : World} {n : Nat} {x : Tr (n + 1)} {sl : Option Addr} {cap : Nat} (h : NdG w (n + 1) x sl cap) : KsG w n sl cap (ks (n + 1) x) := h
theorem KsGL.mono {n : Nat} {w w' : World} {sl : Option Addr} {cap : Nat} {l : List (Tr n)} {p q : Tr n → Option Addr → Nat → Prop} (h : KsGL n w sl cap l p) (hb : Below w.heap.size w w') (hpq : ∀ y s c, p y s c → q y s c) : KsGL n w' sl cap l q := by
  obtain ⟨hl, h, hcap⟩ := h
  refine ⟨hl, ?_, hcap⟩
  rcases h with h | ⟨b, off, e, hc⟩
  · exact Or.inl h
  · refine Or.inr ⟨b, off, e, fun i y hi => ?_⟩
    obtain ⟨s, c, ⟨c0, c1, c2, c3, c4⟩, hp⟩ := hc i y hi
    exact ⟨s, c, ⟨cell_below hb c0, cell_below hb c1, cell_below hb c2, cell_below hb c3, cell_below hb c4⟩, hpq y s c hp⟩
theorem NdG.below {w w' : World} (hb : Below w.heap.size w w') : ∀ {n : Nat} {x : Tr n} {sl : Option Addr} {cap : Nat}, NdG w n x sl cap → NdG w' n x sl cap
  | 0, _, _, _, h => h
  | n + 1, _, _, _, h => KsGL.mono (p := NdG w n) (q := NdG w' n) h hb (fun _ _ _ h => NdG.below hb h)
theorem KsG.below {w w' : World} {n : Nat} {sl : Option Addr} {cap : Nat} {l : List (Tr n)} (h : KsG w n sl cap l) (hb : Below w.heap.size w w') : KsG w' n sl cap l :=
  KsGL.mono h hb (fun _ _ _ h => NdG.below hb h)
theorem NdG.at {w : World} : ∀ {n : Nat} {x : Tr n} {sl : Option Addr} {cap : Nat}, NdG w n x sl cap → NdAt w n x sl
  | 0, _, _, _, h => h
  | n + 1, _, _, _, h => by
    obtain ⟨hl, h, _⟩ := h
    refine ⟨hl, ?_⟩
    rcases h with h | ⟨b, off, e, hc⟩
    · exact Or.inl h
    · refine Or.inr ⟨b, off, e, fun i y hi => ?_⟩
      obtain ⟨s, c, hcs, hp⟩ := hc i y hi
      exact ⟨s, c, hcs, NdG.at hp⟩
/-- The first of them, and those behind. -/
theorem KsG.take {w : World} {n : Nat} {sl : Option Addr} {cap : Nat} {l : List (Tr n)} (h : KsG w n sl cap l) (k : Nat) : KsG w n sl cap (l.take k) := by
  obtain ⟨hl, h, hcap⟩ := h
  have hk : (l.take k).length ≤ l.length := by rw [List.length_take]; omega
  refine ⟨by omega, ?_, by omega⟩
  rcases h with h | ⟨b, off, e, hc⟩
  · exact Or.inl (by rw [h]; simp)
  · refine Or.inr ⟨b, off, e, fun i y hi => hc i y ?_⟩
    rw [List.getElem?_take] at hi
    split at hi
    · exact hi
    · cases hi
theorem KsG.drop {w : World} {n : Nat} {b off cap : Nat} {l : List (Tr n)} (h : KsG w n (some ⟨b, off, none⟩) cap l) (k : Nat) : KsG w n (some ⟨b, off + k * 5, none⟩) (cap - k) (l.drop k) := by
  obtain ⟨hl, h, hcap⟩ := h
  have hk : (l.drop k).length = l.length - k := List.length_drop ..
  refine ⟨by omega, ?_, by omega⟩
  rcases h with h | ⟨b, off, e, hc⟩
  · exact Or.inl (by rw [h]; simp)
  · cases e
    refine Or.inr ⟨b, off + k * 5, rfl, fun i y hi => ?_⟩
    rw [List.getElem?_drop] at hi
    obtain ⟨s, c, hcs, hp⟩ := hc (k + i) y hi
    rw [show off + (k + i) * 5 = off + k * 5 + i * 5 by omega] at hcs
    exact ⟨s, c, hcs, hp⟩
end Go.Proofs.YtcemogaacicnfaaGreatDoor
