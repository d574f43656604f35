/- Places of tokens: a source cut where a token begins has the tokens from there on. -/
import Derived.Test.YtcemogaacicnfaaGreatDoorLx
namespace Go.Proofs.YtcemogaacicnfaaGreatDoor
open Go.ChangeShapes Go.WideShapes Go.ChangeAt Go.RowKit

/-- Tokens without their places. -/
def bar (q : List (Tk × Int)) : List Tk := q.map (·.1)
theorem lx_shift (l : List UInt8) (a b : Int) : (lx l a).2.2 = (lx l b).2.2 ∧ bar (lx l a).1 = bar (lx l b).1 := by
  induction hn : l.length using Nat.strongRecOn generalizing l a b with
  | _ n IH =>
    subst hn
    by_cases h1 : (sk l).2 = false
    · rw [lx_bad h1, lx_bad h1]; exact ⟨rfl, rfl⟩
    · have h1' : (sk l).2 = true := by simpa using h1
      by_cases h2 : l.drop (sk l).1 = []
      · rw [lx_end h1' h2, lx_end h1' h2]; exact ⟨rfl, rfl⟩
      · by_cases h3 : (tokP (l.drop (sk l).1)).2.2 = 0
        · have hs := sk_le l
          have ht := tok_ok h2 h3
          have hd : (l.drop ((sk l).1 + (tokP (l.drop (sk l).1)).2.1.toNat)).length < l.length := by simp at ht ⊢; omega
          have ih := IH _ hd (l.drop ((sk l).1 + (tokP (l.drop (sk l).1)).2.1.toNat)) (a + (sk l).1 + (tokP (l.drop (sk l).1)).2.1) (b + (sk l).1 + (tokP (l.drop (sk l).1)).2.1) rfl
          rw [lx_go h1' h2 h3, lx_go h1' h2 h3, ih.1]
          split
          · exact ih
          · refine ⟨rfl, ?_⟩
            have := ih.2
            simp only [bar, List.map_cons] at this ⊢
            rw [this]
        · rw [lx_err h1' h2 h3, lx_err h1' h2 h3]; exact ⟨rfl, rfl⟩
/-- What a source of tokens looks like. -/
theorem lx_cases {l : List UInt8} {a : Int} (h : (lx l a).2.2 = 0) : (sk l).2 = true ∧ ((l.drop (sk l).1 = [] ∧ lx l a = ([], 0, 0)) ∨
    (l.drop (sk l).1 ≠ [] ∧ (tokP (l.drop (sk l).1)).2.2 = 0 ∧ (lx (l.drop ((sk l).1 + (tokP (l.drop (sk l).1)).2.1.toNat)) (a + (sk l).1 + (tokP (l.drop (sk l).1)).2.1)).2.2 = 0 ∧
      lx l a = (((tokP (l.drop (sk l).1)).1, a + (sk l).1) :: (lx (l.drop ((sk l).1 + (tokP (l.drop (sk l).1)).2.1.toNat)) (a + (sk l).1 + (tokP (l.drop (sk l).1)).2.1)).1, 0, 0))) := by
  by_cases h1 : (sk l).2 = false
  · rw [lx_bad h1] at h; cases h
  · have h1' : (sk l).2 = true := by simpa using h1
    refine ⟨h1', ?_⟩
    by_cases h2 : l.drop (sk l).1 = []
    · exact Or.inl ⟨h2, lx_end h1' h2⟩
    · by_cases h3 : (tokP (l.drop (sk l).1)).2.2 = 0
      · refine Or.inr ⟨h2, h3, ?_⟩
        rw [lx_go h1' h2 h3] at h ⊢
        split at h
        · next hx => exact absurd h hx
        · next hx => rw [if_neg hx]; exact ⟨Decidable.not_not.1 hx, rfl⟩
      · rw [lx_err h1' h2 h3] at h; exact absurd h h3
theorem lx_place0 {l : List UInt8} {a : Int} (h : (lx l a).2.2 = 0) : (lx l a).2.1 = 0 := by
  obtain ⟨_, h | h⟩ := lx_cases h
  · rw [h.2]
  · rw [h.2.2.2]
/-- The tokens at a token's own byte. -/
theorem lx_here {l : List UInt8} {a : Int} (b : Int) (h : (lx l a).2.2 = 0) (hne : l.drop (sk l).1 ≠ []) : (lx (l.drop (sk l).1) b).2.2 = 0 ∧ bar (lx (l.drop (sk l).1) b).1 = bar (lx l a).1 := by
  obtain ⟨h1, h2 | ⟨h2, h3, h4, h5⟩⟩ := lx_cases h
  · exact absurd h2.1 hne
  · have hs := stp_sk l
    have hz : stp (l.drop (sk l).1) = 0 := by rw [hs.2] at h1; simpa using h1
    have hk : sk (l.drop (sk l).1) = (0, true) := by rw [sk_stop (by omega), hz]; rfl
    have g2 : (l.drop (sk l).1).drop (sk (l.drop (sk l).1)).1 ≠ [] := by rw [hk]; exact h2
    have g3 : (tokP ((l.drop (sk l).1).drop (sk (l.drop (sk l).1)).1)).2.2 = 0 := by rw [hk]; exact h3
    have hsh := lx_shift (l.drop ((sk l).1 + (tokP (l.drop (sk l).1)).2.1.toNat)) (a + (sk l).1 + (tokP (l.drop (sk l).1)).2.1) (b + ((0 : Nat) : Int) + (tokP (l.drop (sk l).1)).2.1)
    rw [lx_go (by rw [hk]) g2 g3, h5]
    simp only [hk, List.drop_drop, Nat.zero_add, Nat.add_zero]
    rw [← hsh.1, h4]
    refine ⟨rfl, ?_⟩
    have := hsh.2
    simp only [bar, List.map_cons] at this ⊢
    simp [this]
theorem lx_places (l : List UInt8) (a : Int) (h : (lx l a).2.2 = 0) : ∀ (i : Nat) (t : Tk) (x : Int), (lx l a).1[i]? = some (t, x) → ∃ p : Nat, x = a + p ∧ p < l.length ∧
    (∀ b, (lx (l.drop p) b).2.2 = 0 ∧ bar (lx (l.drop p) b).1 = bar ((lx l a).1.drop i)) ∧ (∀ (j : Nat) (u : Tk) (y : Int), j < i → (lx l a).1[j]? = some (u, y) → y < x) := by
  induction hn : l.length using Nat.strongRecOn generalizing l a with
  | _ n IH =>
    subst hn
    intro i t x hi
    obtain ⟨h1, h2 | ⟨h2, h3, h4, h5⟩⟩ := lx_cases h
    · rw [h2.2] at hi; cases hi
    · have hs := sk_le l
      have ht := tok_ok h2 h3
      have hlt : (sk l).1 < l.length := by
        rcases Nat.lt_or_ge (sk l).1 l.length with g | g
        · exact g
        · exact absurd (List.drop_eq_nil_of_le g) h2
      cases i with
      | zero =>
        rw [h5] at hi
        simp only [List.getElem?_cons_zero, Option.some.injEq, Prod.mk.injEq] at hi
        refine ⟨(sk l).1, hi.2.symm, hlt, fun b => ?_, fun j _ _ hj => absurd hj (Nat.not_lt_zero _)⟩
        rw [List.drop_zero]
        exact lx_here b h h2
      | succ i =>
        have hd : (l.drop ((sk l).1 + (tokP (l.drop (sk l).1)).2.1.toNat)).length < l.length := by simp at ht ⊢; omega
        have hi' := hi
        rw [h5] at hi'
        simp only [List.getElem?_cons_succ] at hi'
        obtain ⟨p, hp, hpl, hb, hj⟩ := IH _ hd _ _ h4 rfl i t x hi'
        refine ⟨(sk l).1 + (tokP (l.drop (sk l).1)).2.1.toNat + p, ?_, ?_, ?_, ?_⟩
        · rw [hp]; simp only [Int.natCast_add]; have := ht.2.1; omega
        · simp at hpl; omega
        · intro b
          have := hb b
          rw [List.drop_drop] at this
          rw [h5]
          exact this
        · intro j u y hjl hju
          rw [h5] at hju
          cases j with
          | zero =>
            simp only [List.getElem?_cons_zero, Option.some.injEq, Prod.mk.injEq] at hju
            have := ht.2.1
            rw [← hju.2, hp]
            omega
          | succ j =>
            simp only [List.getElem?_cons_succ] at hju
            exact hj j u y (by omega) hju
end Go.Proofs.YtcemogaacicnfaaGreatDoor
