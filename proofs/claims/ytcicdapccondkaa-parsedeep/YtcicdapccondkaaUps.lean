/- Reading goes on, never back. -/
import Derived.Test.YtcicdapccondkaaTst
namespace Go.Proofs.Ytcicdapccondkaa
open Go.ChangeShapes Go.WideShapes Go.ChangeAt Go.RowKit
set_option linter.unusedSimpArgs false
set_option maxRecDepth 20000
set_option maxHeartbeats 4000000

theorem bnd_ok {α β : Type} {a : Rz α} {f : α → Nat → Rz β} {x : β} {j : Nat} (h : bnd a f = some (.inr (x, j))) : ∃ y k, a = some (.inr (y, k)) ∧ f y k = some (.inr (x, j)) := by
  match a, h with
  | none, h => cases h
  | some (.inl e), h => cases h
  | some (.inr (y, k)), h => exact ⟨y, k, rfl, h⟩
theorem needP_ok {T : List Tt} {k : Int} {t : List UInt8} {i j : Nat} {x : Tt} (h : needP T k t i = some (.inr (x, j))) : j = i + 1 := by
  unfold needP at h
  split at h
  · cases h; rfl
  · cases h
theorem okR_ok {α : Type} {a x : α} {i j : Nat} (h : okR a i = some (.inr (x, j))) : i = j := by cases h; rfl
section
variable {T : List Tt}
theorem lineP_up {k : Int} {L : List (List UInt8)} {p : Nat → Rz X} (hp : ∀ i x j, p i = some (.inr (x, j)) → i ≤ j) : ∀ (f : Nat) (n : X) (i j : Nat) (x : X), lineP T k L p f n i = some (.inr (x, j)) → i ≤ j
  | 0, n, i, j, x, h => by cases h
  | f + 1, n, i, j, x, h => by
    unfold lineP at h
    split at h
    · obtain ⟨y, k, h1, h2⟩ := bnd_ok h
      have u1 := hp _ _ _ h1
      have u2 := lineP_up hp f _ _ _ _ h2
      omega
    · exact Nat.le_of_eq (okR_ok h)
theorem prefP_up {k : Int} {t : List UInt8} {p : Nat → Nat → Rz X} (hp : Ups p) : ∀ (f : Nat) (i op j : Nat) (x : X), prefP T k t p f i op = some (.inr (x, j)) → i ≤ j
  | 0, i, op, j, x, h => by cases h
  | f + 1, i, op, j, x, h => by
    unfold prefP at h
    split at h
    · split at h
      · cases h
      · obtain ⟨y, k, h1, h2⟩ := bnd_ok h
        have u1 := prefP_up hp f _ _ _ _ h1
        have u2 := okR_ok h2
        omega
    · exact hp _ _ _ _ h
theorem line_up {k : Int} {L : List (List UInt8)} {p : Nat → Nat → Rz X} (hp : Ups p) (f : Nat) : Ups (fun i op => bnd (p i op) (lineP T k L (fun j => p j op) f)) := fun i op x j h => by
  obtain ⟨y, k, h1, h2⟩ := bnd_ok h
  have u1 := hp _ _ _ _ h1
  have u2 := lineP_up (fun i x j => hp i op x j) f _ _ _ _ h2
  omega
theorem whensP_up {E : Nat → Rz X} (hU : ∀ i x j, E i = some (.inr (x, j)) → i ≤ j) : ∀ (f : Nat) (l : List X) (i j : Nat) (l' : List X), whensP T E f l i = some (.inr (l', j)) → i ≤ j
  | 0, l, i, j, l', h => by cases h
  | f + 1, l, i, j, l', h => by
    unfold whensP at h
    split at h
    · obtain ⟨y, k, h1, h2⟩ := bnd_ok h
      have u1 := (whenP_ok hU h1).2
      have u2 := whensP_up hU f _ _ _ _ h2
      omega
    · exact Nat.le_of_eq (okR_ok h)
variable {E : Nat → Nat → Rz X}
theorem aggE_up (hU : Ups E) {i j k op : Nat} {m : Int} {x : X} (h : aggE T (fun j => E j op) i m j = some (.inr (x, k))) : j ≤ k := by
  unfold aggE at h
  obtain ⟨y, a, h1, h2⟩ := bnd_ok h
  obtain ⟨z, b, h3, h4⟩ := bnd_ok h2
  have u1 := hU _ _ _ _ h1
  have u2 := needP_ok h3
  have u3 := okR_ok h4
  omega
theorem aggP_up (hU : Ups E) : Ups (fun i op => aggP T (fun j => E j op) i) := fun i op x j h => by
  dsimp only at h
  unfold aggP at h
  obtain ⟨y, k, h1, h2⟩ := bnd_ok h
  have u1 := needP_ok h1
  split at h2
  · obtain ⟨z, b, h3, h4⟩ := bnd_ok h2
    have u2 := needP_ok h3
    have u3 := okR_ok h4
    omega
  · split at h2
    · have := aggE_up hU h2; omega
    · have := aggE_up hU h2; omega
theorem choiceP_up (hU : Ups E) (f : Nat) : Ups (fun i op => choiceP T (fun j => E j op) f i) := fun i op x j h => by
  dsimp only at h
  unfold choiceP at h
  obtain ⟨y, k, h1, h2⟩ := bnd_ok h
  obtain ⟨z, b, h3, h4⟩ := bnd_ok h2
  have u1 := (whenP_ok (fun i x j => hU i op x j) h1).2
  have u2 := whensP_up (fun i x j => hU i op x j) f _ _ _ _ h3
  split at h4
  · obtain ⟨y, c, h5, h6⟩ := bnd_ok h4
    obtain ⟨z, d, h7, h8⟩ := bnd_ok h6
    have u3 := hU _ _ _ _ h5
    have u4 := needP_ok h7
    have u5 := okR_ok h8
    omega
  · obtain ⟨y, c, h5, h6⟩ := bnd_ok h4
    have u4 := needP_ok h5
    have u5 := okR_ok h6
    omega
theorem wordP_up (hU : Ups E) (f : Nat) : Ups (fun i op => wordP T (fun j => E j op) f i) := fun i op x j h => by
  dsimp only at h
  unfold wordP at h
  repeat' split at h
  · have := okR_ok h; omega
  · have := okR_ok h; omega
  · have := okR_ok h; omega
  · exact aggP_up hU i op x j h
  · exact choiceP_up hU f i op x j h
  · cases h
theorem namedP_up (hU : Ups E) (f : Nat) : Ups (fun i op => namedP T (fun j => E j op) f i) := fun i op x j h => by
  dsimp only at h
  unfold namedP callP at h
  repeat' split at h
  · obtain ⟨y, c, h5, h6⟩ := bnd_ok h
    have u4 := needP_ok h5
    have u5 := okR_ok h6
    omega
  · obtain ⟨y, c, h5, h6⟩ := bnd_ok h
    obtain ⟨z, d, h7, h8⟩ := bnd_ok h6
    have u3 := (listE_ok (fun i x j => hU i op x j) h5).1
    have u4 := needP_ok h7
    have u5 := okR_ok h8
    omega
  · have := okR_ok h; omega
  · have := okR_ok h; omega
theorem brackP_up (hU : Ups E) : Ups (fun i op => brackP T (fun j => E j op) i) := fun i op x j h => by
  dsimp only at h
  unfold brackP at h
  obtain ⟨y, c, h5, h6⟩ := bnd_ok h
  obtain ⟨z, d, h7, h8⟩ := bnd_ok h6
  obtain ⟨a, b, h9, h10⟩ := bnd_ok h8
  have u1 := needP_ok h5
  have u2 := hU _ _ _ _ h7
  have u3 := needP_ok h9
  have u4 := okR_ok h10
  omega
theorem primP_up (hU : Ups E) (f : Nat) : Ups (primP T E f) := fun i op x j h => by
  unfold primP at h
  repeat' split at h
  · have := okR_ok h; omega
  · have := okR_ok h; omega
  · have := okR_ok h; omega
  · exact namedP_up hU f i op x j h
  · exact wordP_up hU f i op x j h
  · exact brackP_up hU i op x j h
  · cases h
theorem minusP_up (hU : Ups E) (f : Nat) : Ups (minusP T E f) := fun i op x j h => prefP_up (primP_up hU f) f i op j x h
theorem prodP_up (hU : Ups E) (f : Nat) : Ups (prodP T E f) := line_up (minusP_up hU f) f
theorem sumP_up (hU : Ups E) (f : Nat) : Ups (sumP T E f) := line_up (prodP_up hU f) f
theorem isNP_up {x y : X} {i j : Nat} (h : isNP T x i = some (.inr (y, j))) : i ≤ j := by
  unfold isNP at h
  split at h
  · obtain ⟨y, c, h5, h6⟩ := bnd_ok h
    have u1 := needP_ok h5
    have u4 := okR_ok h6
    omega
  · obtain ⟨y, c, h5, h6⟩ := bnd_ok h
    have u1 := needP_ok h5
    have u4 := okR_ok h6
    omega
theorem betP_up {S : Nat → Rz X} (hS : ∀ i x j, S i = some (.inr (x, j)) → i ≤ j) {x y : X} {i j : Nat} (h : betP T S x i = some (.inr (y, j))) : i ≤ j := by
  unfold betP at h
  obtain ⟨y, c, h5, h6⟩ := bnd_ok h
  obtain ⟨z, d, h7, h8⟩ := bnd_ok h6
  obtain ⟨a, b, h9, h10⟩ := bnd_ok h8
  have u1 := hS _ _ _ h5
  have u2 := needP_ok h7
  have u3 := hS _ _ _ h9
  have u4 := okR_ok h10
  omega
theorem inP_up {S : Nat → Rz X} (hS : ∀ i x j, S i = some (.inr (x, j)) → i ≤ j) {f : Nat} {x y : X} {i j : Nat} (h : inP T S f x i = some (.inr (y, j))) : i ≤ j := by
  unfold inP at h
  obtain ⟨y, c, h5, h6⟩ := bnd_ok h
  obtain ⟨z, d, h7, h8⟩ := bnd_ok h6
  obtain ⟨a, b, h9, h10⟩ := bnd_ok h8
  have u1 := needP_ok h5
  have u2 := (listE_ok hS h7).1
  have u3 := needP_ok h9
  have u4 := okR_ok h10
  omega
theorem testP_up (hU : Ups E) (f : Nat) : Ups (testP T E f) := fun i op x j h => by
  unfold testP at h
  obtain ⟨y, k, h1, h2⟩ := bnd_ok h
  have u1 := sumP_up hU f _ _ _ _ h1
  have hS : ∀ i x j, (fun k => sumP T E f k op) i = some (.inr (x, j)) → i ≤ j := fun i x j => sumP_up hU f i op x j
  have hE : ∀ i x j, (fun k => E k op) i = some (.inr (x, j)) → i ≤ j := fun i x j => hU i op x j
  repeat' split at h2
  · obtain ⟨z, b, h3, h4⟩ := bnd_ok h2
    have u2 := sumP_up hU f _ _ _ _ h3
    have u3 := okR_ok h4
    omega
  · have := isNP_up h2; omega
  · have := betP_up hS h2; omega
  · have := inP_up hE h2; omega
  · obtain ⟨z, b, h3, h4⟩ := bnd_ok h2
    have u2 := betP_up hS h3
    have u3 := okR_ok h4
    omega
  · obtain ⟨z, b, h3, h4⟩ := bnd_ok h2
    have u2 := inP_up hE h3
    have u3 := okR_ok h4
    omega
  · have := okR_ok h2; omega
  · have := okR_ok h2; omega
theorem notP_up (hU : Ups E) (f : Nat) : Ups (notP T E f) := fun i op x j h => prefP_up (testP_up hU f) f i op j x h
theorem andP_up (hU : Ups E) (f : Nat) : Ups (andP T E f) := line_up (notP_up hU f) f
theorem orP_up (hU : Ups E) (f : Nat) : Ups (orP T E f) := line_up (andP_up hU f) f
end
theorem exP_up (T : List Tt) : ∀ f, Ups (exP T f)
  | 0 => fun i op x j h => by cases h
  | f + 1 => fun i op x j h => by
    unfold exP at h
    split at h
    · cases h
    · exact orP_up (exP_up T f) f i (op + 1) x j h
end Go.Proofs.Ytcicdapccondkaa
