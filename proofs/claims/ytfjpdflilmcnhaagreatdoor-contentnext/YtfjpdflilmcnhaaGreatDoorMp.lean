/- Package key's map in memory: its ways, what it holds, its two counters. -/
import Derived.Test.YtfjpdflilmcnhaaGreatDoorKeys
namespace Go.Proofs.YtfjpdflilmcnhaaGreatDoor
open Go.ChangeShapes Go.WideShapes Go.ChangeAt Go.RowKit
open Go.ChangeMaps (setBlock)

def dv : Val := (0, 0, ⟨#[]⟩)
def kAt (r : List Val) (i : Nat) : Int := (r.getD i dv).1
def nAt (r : List Val) (i : Nat) : Int := (r.getD i dv).2.1
def tAt (r : List Val) (i : Nat) : ByteArray := (r.getD i dv).2.2
/-- A slice that holds these values. -/
def RowAt (w : World) (a : Option Addr) (r : List Val) : Prop := ValsAt w a r.length (kAt r) (nAt r) (tAt r)
theorem RowAt.below {w w' : World} {a : Option Addr} {r : List Val} (h : RowAt w a r) (hb : Below w.heap.size w w') : RowAt w' a r := ValsAt.below h hb
theorem RowAt.alloc {w : World} {a : Option Addr} {r : List Val} (h : RowAt w a r) (o : Obj) : RowAt (w.alloc o) a r := h.below ((Below.refl _ _).alloc (Nat.le_refl _) o)
theorem at_val (r : List Val) (i : Nat) : (kAt r i, nAt r i, tAt r i) = r.getD i dv := rfl
theorem drop_at {r : List Val} {i : Nat} (h : i < r.length) : r.drop i = (kAt r i, nAt r i, tAt r i) :: r.drop (i + 1) := by
  rw [at_val, List.drop_eq_getElem_cons h, List.getD_eq_getElem?_getD, List.getElem?_eq_getElem h]; rfl
theorem take_at {r : List Val} {i : Nat} (h : i < r.length) : r.take (i + 1) = r.take i ++ [(kAt r i, nAt r i, tAt r i)] := by
  rw [at_val, List.take_succ_eq_append_getElem h, List.getD_eq_getElem?_getD, List.getElem?_eq_getElem h]; rfl

/-- All blocks but those of S are as they were. -/
structure Fr (S : Nat → Prop) (w w' : World) : Prop where
  os : w'.os = w.os
  tape : w'.tape = w.tape
  output : w'.output = w.output
  size : w.heap.size ≤ w'.heap.size
  block : ∀ k, k < w.heap.size → ¬ S k → w'.heap[k]? = w.heap[k]?
variable {S : Nat → Prop} {w w' w'' : World}
theorem Fr.refl (S : Nat → Prop) (w : World) : Fr S w w := ⟨rfl, rfl, rfl, Nat.le_refl _, fun _ _ _ => rfl⟩
theorem Fr.trans (h : Fr S w w') (k : Fr S w' w'') : Fr S w w'' :=
  ⟨k.os.trans h.os, k.tape.trans h.tape, k.output.trans h.output, Nat.le_trans h.size k.size, fun i hi hS => (k.block i (Nat.lt_of_lt_of_le hi h.size) hS).trans (h.block i hi hS)⟩
theorem Fr.of (h : Below w.heap.size w w') : Fr S w w' := ⟨h.os, h.tape, h.output, h.size, fun k hk _ => h.block k hk⟩
theorem Fr.step (h : Fr S w w') (hb : Below w'.heap.size w' w'') : Fr S w w'' := h.trans (.of hb)
theorem Fr.alloc (h : Fr S w w') (o : Obj) : Fr S w (w'.alloc o) := h.step ((Below.refl _ _).alloc (Nat.le_refl _) o)
theorem Fr.drew (h : Fr S w w') : Fr S w w'.drew := h.step (Below.refl _ _).drew
theorem Fr.setBlock (h : Fr S w w') {b : Nat} (hb : S b) (o : Obj) : Fr S w (setBlock w' b o) :=
  h.trans ⟨rfl, rfl, rfl, by simp [Go.ChangeMaps.setBlock], fun k _ hS => by
    simp only [Go.ChangeMaps.setBlock]; rw [Array.getElem?_setIfInBounds_ne]; intro e; exact hS (e ▸ hb)⟩
theorem Fr.setCell (h : Fr S w w') {p : Addr} (hb : S p.block ∨ w.heap.size ≤ p.block) (v : Value) : Fr S w (w'.setCell p v) :=
  ⟨h.os, h.tape, h.output, by have := h.size; simpa [World.setCell] using this, fun k hk hS => by
    rw [Below.heap_setCell _ _ _ _ (by rintro rfl; rcases hb with hb | hb; exact hS hb; omega)]; exact h.block k hk hS⟩
theorem Fr.below {B : Nat} {a : World} (h : Fr S w w') (hB : B ≤ w.heap.size) (hS : ∀ k, S k → B ≤ k) (hb : Below B a w) : Below B a w' :=
  hb.trans ⟨h.os, h.tape, h.output, h.size, fun k hk => h.block k (by omega) (fun hk' => by have := hS k hk'; omega)⟩
theorem Fr.cell (h : Fr S w w') {b o : Nat} {v : Value} (hS : ¬ S b) (hc : w.cell? ⟨b, o, none⟩ = some v) : w'.cell? ⟨b, o, none⟩ = some v := by
  have := h.block b (cell_lt hc) hS
  unfold World.cell? at hc ⊢
  simpa [this] using hc
theorem Fr.frozen (h : Fr S w w') {b o : Nat} (hlt : b < w.heap.size) (hS : ¬ S b) : w'.frozen? ⟨b, o, none⟩ = w.frozen? ⟨b, o, none⟩ := by
  have := h.block b hlt hS
  unfold World.frozen?
  simp [this]
theorem Fr.vals {a : Option Addr} {r : List Val} (h : Fr S w w') (hr : RowAt w a r) (hS : ∀ g o, a = some ⟨g, o, none⟩ → ¬ S g) : RowAt w' a r := by
  rcases hr with hr | ⟨b, off, ha, hc⟩
  · exact Or.inl hr
  · have := hS b off ha
    exact Or.inr ⟨b, off, ha, fun i hi => ⟨h.cell this (hc i hi).1, h.cell this (hc i hi).2.1, h.cell this (hc i hi).2.2⟩⟩

theorem heap_lt {w : World} {b : Nat} {o : Obj} (h : w.heap[b]? = some o) : b < w.heap.size := by
  rcases Nat.lt_or_ge b w.heap.size with h' | h'
  · exact h'
  · rw [Array.getElem?_eq_none h'] at h; cases h
theorem MapIs.below {α β : Type} {eK : α → Value} {eV : β → Value} {b : Nat} {L : List (α × β)} {es : Array MapEntry} {clk : Nat} (h : MapIs eK eV w b L es clk) (hb : Below w.heap.size w w') : MapIs eK eV w' b L es clk :=
  ⟨(hb.block b (heap_lt h.at_)).trans h.at_, h.same, h.old, h.once⟩
end Go.Proofs.YtfjpdflilmcnhaaGreatDoor
