/- A copy of a row with one value turned: it fits no more. -/
import Derived.Test.YtjncoihppmbijaaDoorNullsMem
import Derived.Laws.OwnMore
namespace Go.Proofs.YtjncoihppmbijaaDoor
open Go.ChangeShapes Go.WideShapes Go.ChangeAt Go.RowKit

theorem owns_slice {w : World} {base e size n : Nat} {vv : Value} {xs : List Value} (h : w.ownsRow base e size vv n xs) : ∃ a cap, vv = .slice a n cap := by
  rcases h.2 with ⟨rfl, rfl⟩ | ⟨g, cap, cur, rfl, _⟩
  · exact ⟨none, 0, rfl⟩
  · exact ⟨_, _, rfl⟩
def up (p : Nat) (x : Int) (f : Nat → Int) : Nat → Int := fun i => if i = p then x else f i
def upT (p : Nat) (f : Nat → ByteArray) : Nat → ByteArray := fun i => if i = p then ⟨#[]⟩ else f i
def Row3 (w : World) (g n : Nat) (k v : Nat → Int) (t : Nat → ByteArray) : Prop :=
  ∀ i, i < n → w.cell? ⟨g, i * 3, none⟩ = some (.int .i64 (k i)) ∧ w.cell? ⟨g, i * 3 + 1, none⟩ = some (.int .i64 (v i)) ∧ w.cell? ⟨g, i * 3 + 2, none⟩ = some (.string (t i))
theorem cell_other {w : World} {g x y : Nat} {u : Value} (h : x ≠ y) : (w.setCell ⟨g, y, none⟩ u).cell? ⟨g, x, none⟩ = w.cell? ⟨g, x, none⟩ :=
  World.cell?_setCell_other _ _ _ _ (by intro e; injection e with _ e2 _; exact h e2.symm)
theorem turned {w : World} {g n p : Nat} {k v : Nat → Int} {t : Nat → ByteArray} (h : Row3 w g n k v t) (hp : p < n) (x y : Int) :
    Row3 (((w.setCell ⟨g, p * 3, none⟩ (.int .i64 x)).setCell ⟨g, p * 3 + 1, none⟩ (.int .i64 y)).setCell ⟨g, p * 3 + 2, none⟩ (.string ⟨#[]⟩)) g n (up p x k) (up p y v) (upT p t) := by
  intro i hi
  by_cases e : i = p
  · subst e
    obtain ⟨a, b, c⟩ := h i hi
    unfold up upT
    rw [if_pos rfl, if_pos rfl, if_pos rfl]
    refine ⟨?_, ?_, ?_⟩
    · rw [cell_other (by omega), cell_other (by omega)]; exact World.cell?_setCell_same _ _ _ a
    · rw [cell_other (by omega)]; exact World.cell?_setCell_same _ _ _ ((cell_other (by omega)).trans b)
    · exact World.cell?_setCell_same _ _ _ ((cell_other (by omega)).trans ((cell_other (by omega)).trans c))
  · obtain ⟨a, b, c⟩ := h i hi
    unfold up upT
    rw [if_neg e, if_neg e, if_neg e]
    refine ⟨?_, ?_, ?_⟩
    · rw [cell_other (by omega), cell_other (by omega), cell_other (by omega)]; exact a
    · rw [cell_other (by omega), cell_other (by omega), cell_other (by omega)]; exact b
    · rw [cell_other (by omega), cell_other (by omega), cell_other (by omega)]; exact c
theorem Row3.vals {w : World} {g n : Nat} {k v : Nat → Int} {t : Nat → ByteArray} (h : Row3 w g n k v t) : ValsAt w (some ⟨g, 0, none⟩) n k v t :=
  Or.inr ⟨g, 0, rfl, fun i hi => by rw [Nat.zero_add]; exact h i hi⟩
theorem misfit {len n p : Nat} {kd k v : Nat → Int} {t : Nat → ByteArray} (hp : p < n) (h : fcB (kd p) (k p) (v p) (t p) = false) : erI 31 (fitsS len kd n k v t) = 31 := by
  have : allF (ftP kd k v t) n 0 = false := by
    cases e : allF (ftP kd k v t) n 0
    · rfl
    · rw [allF_iff] at e
      have := e p (Nat.zero_le _) hp
      unfold ftP at this
      rw [h] at this; cases this
  unfold fitsS
  rw [this, Bool.and_false]; rfl
theorem fc_1 {kd : Int} (h : (kd == 1) = false) (n : Int) (t : ByteArray) : fcB kd 1 n t = false := by
  have : ((1 : Int) == kd) = false := by rw [beq_eq_false_iff_ne] at h ⊢; exact fun e => h e.symm
  unfold fcB; rw [this]; simp
theorem fc_2 (n : Int) (t : ByteArray) : fcB 1 2 n t = false := by unfold fcB; simp
theorem up_at (p : Nat) (x : Int) (f : Nat → Int) : up p x f p = x := if_pos rfl
theorem fits_len {len n : Nat} {kd k v : Nat → Int} {t : Nat → ByteArray} (h : fitsS len kd n k v t = true) : n = len := by
  unfold fitsS at h
  rw [Bool.and_eq_true, decide_eq_true_eq] at h
  exact h.1
/-- The place of 'at' in a row of n. -/
theorem at_place (at0 : Int) (n : Nat) (hn : 0 < n) (hm : n ≤ 1000) : ∃ p : Nat, p < n ∧ (at0.tmod n + n).tmod n = p ∧ -1000 ≤ at0.tmod n ∧ at0.tmod n ≤ 1000 := by
  have h1 : at0.tmod n < n := Int.tmod_lt_of_pos _ (by omega)
  have h2 : -(n : Int) < at0.tmod n := by
    have := Int.tmod_lt_of_pos (-at0) (b := (n : Int)) (by omega)
    rw [Int.neg_tmod] at this
    omega
  have h3 : 0 ≤ (at0.tmod n + n).tmod n := Int.tmod_nonneg _ (by omega)
  have h4 : (at0.tmod n + n).tmod n < n := Int.tmod_lt_of_pos _ (by omega)
  exact ⟨((at0.tmod n + n).tmod n).toNat, by omega, by omega, by omega, by omega⟩
end Go.Proofs.YtjncoihppmbijaaDoor
