/- Trees, as they lie in memory; when two are the same. -/
import Derived.Test.YtcicdapccondkaaLxn
namespace Go.Proofs.Ytcicdapccondkaa
open Go.ChangeShapes Go.WideShapes Go.ChangeAt Go.RowKit

/-- Trees of a depth of at most so much: kind, text, number, place, kids. -/
def Tr : Nat → Type
  | 0 => Empty
  | n + 1 => Int × List UInt8 × Int × Int × List (Tr n)
def kd : (n : Nat) → Tr n → Int
  | 0, _ => 0
  | _ + 1, x => x.1
def tx : (n : Nat) → Tr n → List UInt8
  | 0, _ => []
  | _ + 1, x => x.2.1
def nu : (n : Nat) → Tr n → Int
  | 0, _ => 0
  | _ + 1, x => x.2.2.1
def pl : (n : Nat) → Tr n → Int
  | 0, _ => 0
  | _ + 1, x => x.2.2.2.1
def ks : (n : Nat) → Tr n → List (Tr n.pred)
  | 0, _ => []
  | _ + 1, x => x.2.2.2.2
/-- A tree as a value: its kids lie at sl. -/
def ndV (n : Nat) (x : Tr n) (sl : Option Addr) (cap : Nat) : Value := .agg #[.int .i64 (kd n x), .string (bsA (tx n x)), .int .i64 (nu n x), .int .i64 (pl n x), .slice sl (ks n x).length cap]
/-- Trees side by side at sl. -/
def KsL (n : Nat) (w : World) (sl : Option Addr) (l : List (Tr n)) (p : Tr n → Option Addr → Prop) : Prop :=
  l.length ≤ 9223372036854775807 ∧ (l = [] ∨ ∃ b off, sl = some ⟨b, off, none⟩ ∧ ∀ i y, l[i]? = some y → ∃ s c, (w.cell? ⟨b, off + i * 5, none⟩ = some (.int .i64 (kd n y)) ∧ w.cell? ⟨b, off + i * 5 + 1, none⟩ = some (.string (bsA (tx n y))) ∧ w.cell? ⟨b, off + i * 5 + 2, none⟩ = some (.int .i64 (nu n y)) ∧ w.cell? ⟨b, off + i * 5 + 3, none⟩ = some (.int .i64 (pl n y)) ∧ w.cell? ⟨b, off + i * 5 + 4, none⟩ = some (.slice s (ks n y).length c)) ∧ p y s)
/-- A tree's kids lie at sl, and theirs where they say. -/
def NdAt (w : World) : (n : Nat) → Tr n → Option Addr → Prop
  | 0, _, _ => False
  | n + 1, x, sl => KsL n w sl (ks (n + 1) x) (NdAt w n)
def KsAt (w : World) (n : Nat) (sl : Option Addr) (l : List (Tr n)) : Prop := KsL n w sl l (NdAt w n)
theorem NdAt.kids {w : World} {n : Nat} {x : Tr (n + 1)} {sl : Option Addr} (h : NdAt w (n + 1) x sl) : KsAt w n sl (ks (n + 1) x) := h
theorem KsL.mono {n : Nat} {w w' : World} {sl : Option Addr} {l : List (Tr n)} {p q : Tr n → Option Addr → Prop} (h : KsL n w sl l p) (hb : Below w.heap.size w w') (hpq : ∀ y s, p y s → q y s) : KsL n w' sl l q := by
  obtain ⟨hl, h⟩ := h
  refine ⟨hl, ?_⟩
  rcases h with h | ⟨b, off, e, hc⟩
  · exact Or.inl h
  · refine Or.inr ⟨b, off, e, fun i y hi => ?_⟩
    obtain ⟨s, c, ⟨c0, c1, c2, c3, c4⟩, hp⟩ := hc i y hi
    exact ⟨s, c, ⟨cell_below hb c0, cell_below hb c1, cell_below hb c2, cell_below hb c3, cell_below hb c4⟩, hpq y s hp⟩
theorem NdAt.below {w w' : World} (hb : Below w.heap.size w w') : ∀ {n : Nat} {x : Tr n} {sl : Option Addr}, NdAt w n x sl → NdAt w' n x sl
  | 0, _, _, h => h
  | n + 1, _, _, h => KsL.mono (p := NdAt w n) (q := NdAt w' n) h hb (fun _ _ h => NdAt.below hb h)
theorem KsAt.below {w w' : World} {n : Nat} {sl : Option Addr} {l : List (Tr n)} (h : KsAt w n sl l) (hb : Below w.heap.size w w') : KsAt w' n sl l :=
  KsL.mono h hb (fun _ _ h => NdAt.below hb h)
/-- The same, wherever they stand. -/
def samP : (n : Nat) → Tr n → Tr n → Bool
  | 0, _, _ => true
  | n + 1, x, y => decide (kd (n + 1) x = kd (n + 1) y) && (decide (tx (n + 1) x = tx (n + 1) y) && (decide (nu (n + 1) x = nu (n + 1) y) && (decide ((ks (n + 1) x).length = (ks (n + 1) y).length) && ((ks (n + 1) x).zip (ks (n + 1) y)).all fun p => samP n p.1 p.2)))
def samL (n : Nat) (l m : List (Tr n)) : Bool := decide (l.length = m.length) && (l.zip m).all fun p => samP n p.1 p.2
theorem samP_eq (n : Nat) (x y : Tr (n + 1)) : samP (n + 1) x y = (decide (kd (n + 1) x = kd (n + 1) y) && (decide (tx (n + 1) x = tx (n + 1) y) && (decide (nu (n + 1) x = nu (n + 1) y) && samL n (ks (n + 1) x) (ks (n + 1) y)))) := rfl
theorem samP_refl : ∀ (n : Nat) (x : Tr n), samP n x x = true
  | 0, _ => rfl
  | n + 1, x => by
    rw [samP_eq]
    unfold samL
    simp only [decide_true, Bool.true_and, List.all_eq_true]
    intro p hp
    obtain ⟨i, hi, rfl⟩ := List.getElem_of_mem hp
    rw [List.getElem_zip]
    exact samP_refl n _
theorem decide_comm {α : Type} [DecidableEq α] (a b : α) : decide (a = b) = decide (b = a) := by
  by_cases h : a = b
  · rw [h]
  · rw [decide_eq_false h, decide_eq_false (fun e => h e.symm)]
theorem all_zip_comm {α : Type} (f : α → α → Bool) (hf : ∀ a b, f a b = f b a) : ∀ l m : List α, (l.zip m).all (fun p => f p.1 p.2) = (m.zip l).all (fun p => f p.1 p.2)
  | [], m => by cases m <;> rfl
  | a :: l, [] => rfl
  | a :: l, b :: m => by simp only [List.zip_cons_cons, List.all_cons, hf a b, all_zip_comm f hf l m]
theorem samP_comm : ∀ (n : Nat) (x y : Tr n), samP n x y = samP n y x
  | 0, _, _ => rfl
  | n + 1, x, y => by
    rw [samP_eq, samP_eq, decide_comm (kd (n + 1) x), decide_comm (tx (n + 1) x), decide_comm (nu (n + 1) x)]
    unfold samL
    rw [decide_comm (ks (n + 1) x).length]
    exact congrArg (fun b => decide (kd (n + 1) y = kd (n + 1) x) && (decide (tx (n + 1) y = tx (n + 1) x) && (decide (nu (n + 1) y = nu (n + 1) x) && (decide ((ks (n + 1) y).length = (ks (n + 1) x).length) && b)))) (all_zip_comm (samP n) (fun a b => samP_comm n a b) (ks (n + 1) x) (ks (n + 1) y))
/-- The same tree at another place. -/
def plc (n : Nat) (x : Tr (n + 1)) (a : Int) : Tr (n + 1) := (x.1, x.2.1, x.2.2.1, a, x.2.2.2.2)
theorem sam_plc (n : Nat) (x y : Tr (n + 1)) (a : Int) : samP (n + 1) (plc n x a) y = samP (n + 1) x y := rfl
theorem ndAt_plc {w : World} {n : Nat} {x : Tr (n + 1)} {sl : Option Addr} (a : Int) (h : NdAt w (n + 1) x sl) : NdAt w (n + 1) (plc n x a) sl := h
/-- No tree in it has more kids than memory can bear. -/
def Wid : (n : Nat) → Tr n → Prop
  | 0, _ => True
  | n + 1, x => (ks (n + 1) x).length * 64 ≤ 140737488355328 ∧ ∀ y : Tr n, y ∈ ks (n + 1) x → Wid n y
/-- A tree of a greater bound. -/
def up : (n : Nat) → Tr n → Tr (n + 1)
  | 0, x => Empty.elim x
  | n + 1, x => (kd (n + 1) x, tx (n + 1) x, nu (n + 1) x, pl (n + 1) x, (ks (n + 1) x).map (up n))
end Go.Proofs.Ytcicdapccondkaa
