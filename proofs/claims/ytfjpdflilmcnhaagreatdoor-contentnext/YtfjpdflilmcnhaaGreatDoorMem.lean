/- Slices of columns, values and schemas in memory, by index; searches by index. -/
import Derived.Test.YtfjpdflilmcnhaaGreatDoorBase
namespace Go.Proofs.YtfjpdflilmcnhaaGreatDoor
open Go.ChangeShapes Go.WideShapes Go.ChangeAt Go.RowKit

/-- The first place from i on, below n, at which p holds. -/
def fnd (p : Nat → Bool) (n i : Nat) : Option Nat := (List.range' i (n - i)).find? p
theorem fnd_hit {p : Nat → Bool} {n i : Nat} (h : i < n) (hp : p i = true) : fnd p n i = some i := by
  unfold fnd
  rw [show n - i = (n - (i + 1)) + 1 by omega, List.range'_succ, List.find?_cons, hp]
theorem fnd_miss {p : Nat → Bool} {n i : Nat} (h : i < n) (hp : p i = false) : fnd p n i = fnd p n (i + 1) := by
  unfold fnd
  rw [show n - i = (n - (i + 1)) + 1 by omega, List.range'_succ, List.find?_cons, hp]
theorem fnd_end {p : Nat → Bool} {n i : Nat} (h : n ≤ i) : fnd p n i = none := by
  unfold fnd
  rw [show n - i = 0 by omega]; rfl
theorem fnd_lt {p : Nat → Bool} {n i j : Nat} (h : fnd p n i = some j) : i ≤ j ∧ j < n ∧ p j = true := by
  unfold fnd at h
  have h1 := List.mem_of_find?_eq_some h
  have h2 := List.find?_some h
  rw [List.mem_range'_1] at h1
  exact ⟨h1.1, by omega, h2⟩
/-- p holds at every place from i on, below n. -/
def allF (p : Nat → Bool) (n i : Nat) : Bool := (List.range' i (n - i)).all p
theorem allF_hit {p : Nat → Bool} {n i : Nat} (h : i < n) (hp : p i = true) : allF p n i = allF p n (i + 1) := by
  unfold allF
  rw [show n - i = (n - (i + 1)) + 1 by omega, List.range'_succ, List.all_cons, hp, Bool.true_and]
theorem allF_miss {p : Nat → Bool} {n i : Nat} (h : i < n) (hp : p i = false) : allF p n i = false := by
  unfold allF
  rw [show n - i = (n - (i + 1)) + 1 by omega, List.range'_succ, List.all_cons, hp, Bool.false_and]
theorem allF_end {p : Nat → Bool} {n i : Nat} (h : n ≤ i) : allF p n i = true := by
  unfold allF
  rw [show n - i = 0 by omega]; rfl
theorem allF_iff {p : Nat → Bool} {n i : Nat} : allF p n i = true ↔ ∀ j, i ≤ j → j < n → p j = true := by
  unfold allF
  rw [List.all_eq_true]
  constructor
  · intro h j h1 h2
    exact h j (by rw [List.mem_range'_1]; omega)
  · intro h j hj
    rw [List.mem_range'_1] at hj
    exact h j hj.1 (by omega)

def erI (e : Int) (ok : Bool) : Int := if ok then 0 else e
theorem ret_ok {e : Int} {b : Bool} (h : true = b) : Ending.returned (.int .i64 0) = .returned (.int .i64 (erI e b)) := by subst h; rfl
theorem ret_er {e : Int} {b : Bool} (h : false = b) : Ending.returned (.int .i64 e) = .returned (.int .i64 (erI e b)) := by subst h; rfl

/-- A slice of columns. -/
def ColsAt (w : World) (a : Option Addr) (n : Nat) (nm : Nat → ByteArray) (kd : Nat → Int) : Prop :=
  n = 0 ∨ ∃ b off, a = some ⟨b, off, none⟩ ∧ ∀ i, i < n → w.cell? ⟨b, off + i * 2, none⟩ = some (.string (nm i)) ∧ w.cell? ⟨b, off + i * 2 + 1, none⟩ = some (.int .i64 (kd i))
theorem ColsAt.below {w w' : World} {a : Option Addr} {n : Nat} {nm : Nat → ByteArray} {kd : Nat → Int} (h : ColsAt w a n nm kd) (hb : Below w.heap.size w w') : ColsAt w' a n nm kd := by
  rcases h with h | ⟨b, off, ha, hc⟩
  · exact Or.inl h
  · exact Or.inr ⟨b, off, ha, fun i hi => ⟨cell_below hb (hc i hi).1, cell_below hb (hc i hi).2⟩⟩
theorem ColsAt.alloc {w : World} {a : Option Addr} {n : Nat} {nm : Nat → ByteArray} {kd : Nat → Int} (h : ColsAt w a n nm kd) (o : Obj) : ColsAt (w.alloc o) a n nm kd := h.below ((Below.refl _ _).alloc (Nat.le_refl _) o)
/-- A slice of values. -/
def ValsAt (w : World) (a : Option Addr) (n : Nat) (k v : Nat → Int) (t : Nat → ByteArray) : Prop :=
  n = 0 ∨ ∃ b off, a = some ⟨b, off, none⟩ ∧ ∀ i, i < n → w.cell? ⟨b, off + i * 3, none⟩ = some (.int .i64 (k i)) ∧ w.cell? ⟨b, off + i * 3 + 1, none⟩ = some (.int .i64 (v i)) ∧ w.cell? ⟨b, off + i * 3 + 2, none⟩ = some (.string (t i))
theorem ValsAt.below {w w' : World} {a : Option Addr} {n : Nat} {k v : Nat → Int} {t : Nat → ByteArray} (h : ValsAt w a n k v t) (hb : Below w.heap.size w w') : ValsAt w' a n k v t := by
  rcases h with h | ⟨b, off, ha, hc⟩
  · exact Or.inl h
  · exact Or.inr ⟨b, off, ha, fun i hi => ⟨cell_below hb (hc i hi).1, cell_below hb (hc i hi).2.1, cell_below hb (hc i hi).2.2⟩⟩
theorem ValsAt.alloc {w : World} {a : Option Addr} {n : Nat} {k v : Nat → Int} {t : Nat → ByteArray} (h : ValsAt w a n k v t) (o : Obj) : ValsAt (w.alloc o) a n k v t := h.below ((Below.refl _ _).alloc (Nat.le_refl _) o)
end Go.Proofs.YtfjpdflilmcnhaaGreatDoor
