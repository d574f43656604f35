/- The order of all values is one: over three, turned round, and of a value against itself. -/
import Derived.Test.YtejniencggnkiaaDoorOrd
namespace Go.Proofs.YtejniencggnkiaaDoor

theorem cb_range : ∀ a b : List UInt8, -1 ≤ Lib.compareBytes a b ∧ Lib.compareBytes a b ≤ 1
  | [], [] => by decide
  | [], _ :: _ => by simp [Lib.compareBytes]
  | _ :: _, [] => by simp [Lib.compareBytes]
  | x :: a, y :: b => by
    have := cb_range a b
    unfold Lib.compareBytes
    by_cases h : x < y
    · rw [if_pos h]; omega
    · rw [if_neg h]
      by_cases h' : y < x
      · rw [if_pos h']; omega
      · rw [if_neg h']; exact this
theorem cb_anti : ∀ a b : List UInt8, Lib.compareBytes b a = -Lib.compareBytes a b
  | [], [] => by decide
  | [], _ :: _ => by simp [Lib.compareBytes]
  | _ :: _, [] => by simp [Lib.compareBytes]
  | x :: a, y :: b => by
    have ih := cb_anti a b
    unfold Lib.compareBytes
    by_cases h : x < y
    · have h' : ¬ y < x := fun e => by rw [UInt8.lt_iff_toNat_lt] at h e; omega
      rw [if_pos h, if_neg h', if_pos h]; rfl
    · by_cases h' : y < x
      · rw [if_pos h', if_neg h, if_pos h']
      · rw [if_neg h, if_neg h', if_neg h', if_neg h]; exact ih
theorem cb_refl : ∀ a : List UInt8, Lib.compareBytes a a = 0
  | [] => by decide
  | x :: a => by
    have ih := cb_refl a
    unfold Lib.compareBytes
    have h : ¬ x < x := fun e => by rw [UInt8.lt_iff_toNat_lt] at e; omega
    rw [if_neg h, if_neg h]; exact ih
theorem cb_trans : ∀ a b c : List UInt8, Lib.compareBytes a b ≤ 0 → Lib.compareBytes b c ≤ 0 → Lib.compareBytes a c ≤ 0
  | [], _, [] => fun _ _ => by decide
  | [], _, _ :: _ => fun _ _ => by simp [Lib.compareBytes]
  | _ :: _, [], _ => fun h _ => by simp [Lib.compareBytes] at h
  | _ :: _, _ :: _, [] => fun _ h => by simp [Lib.compareBytes] at h
  | x :: a, y :: b, z :: c => fun h1 h2 => by
    have ih := cb_trans a b c
    unfold Lib.compareBytes at h1 h2 ⊢
    simp only [UInt8.lt_iff_toNat_lt] at h1 h2 ⊢
    by_cases xy : x.toNat < y.toNat
    · by_cases yz : y.toNat < z.toNat
      · rw [if_pos (by omega)]; omega
      · rw [if_neg yz] at h2
        by_cases zy : z.toNat < y.toNat
        · rw [if_pos zy] at h2; omega
        · rw [if_pos (by omega)]; omega
    · rw [if_neg xy] at h1
      by_cases yx : y.toNat < x.toNat
      · rw [if_pos yx] at h1; omega
      · rw [if_neg yx] at h1
        by_cases yz : y.toNat < z.toNat
        · rw [if_pos (by omega)]; omega
        · rw [if_neg yz] at h2
          by_cases zy : z.toNat < y.toNat
          · rw [if_pos zy] at h2; omega
          · rw [if_neg zy] at h2
            rw [if_neg (by omega), if_neg (by omega)]
            exact ih h1 h2

theorem ci_spec (x y : Int) : (x < y ∧ Lib.compareInt x y = -1) ∨ (x = y ∧ Lib.compareInt x y = 0) ∨ (y < x ∧ Lib.compareInt x y = 1) := by
  unfold Lib.compareInt
  by_cases h : x < y
  · rw [if_pos h]; exact .inl ⟨h, rfl⟩
  · by_cases h' : x > y
    · rw [if_neg h, if_pos h']; exact .inr (.inr ⟨h', rfl⟩)
    · rw [if_neg h, if_neg h']; exact .inr (.inl ⟨by omega, rfl⟩)
/-- The first, unless it is nought; then the second. -/
def lex (p q : Int) : Int := if p = 0 then q else p
theorem lex_anti {x y q q' : Int} (h : q' = -q) : lex (Lib.compareInt y x) q' = -lex (Lib.compareInt x y) q := by
  unfold lex
  rcases ci_spec x y with ⟨a, e⟩ | ⟨a, e⟩ | ⟨a, e⟩ <;> rcases ci_spec y x with ⟨a', e'⟩ | ⟨a', e'⟩ | ⟨a', e'⟩ <;> rw [e, e'] <;> first | omega | (simp; done) | (simp; exact h)
theorem lex_range {x y q : Int} (h : -1 ≤ q ∧ q ≤ 1) : -1 ≤ lex (Lib.compareInt x y) q ∧ lex (Lib.compareInt x y) q ≤ 1 := by
  unfold lex
  rcases ci_spec x y with ⟨_, e⟩ | ⟨_, e⟩ | ⟨_, e⟩ <;> rw [e] <;> simp <;> omega
theorem lex_trans {x y z p q r : Int} (h : p ≤ 0 → q ≤ 0 → r ≤ 0) (h1 : lex (Lib.compareInt x y) p ≤ 0) (h2 : lex (Lib.compareInt y z) q ≤ 0) : lex (Lib.compareInt x z) r ≤ 0 := by
  unfold lex at *
  rcases ci_spec x y with ⟨a, e⟩ | ⟨a, e⟩ | ⟨a, e⟩ <;> rcases ci_spec y z with ⟨a', e'⟩ | ⟨a', e'⟩ | ⟨a', e'⟩ <;> rcases ci_spec x z with ⟨a'', e''⟩ | ⟨a'', e''⟩ | ⟨a'', e''⟩ <;> rw [e] at h1 <;> rw [e'] at h2 <;> rw [e''] <;> first | omega | (simp at h1 h2 ⊢; exact h h1 h2) | (simp at h1 h2 ⊢; omega) | simp

/-- What is held against each other, behind the ranks. -/
def keyA (k n : Int) : Int := if k = 1 then n else if k = 2 then sc k n else if k = 3 then sc k n else if k = 0 then 0 else if k = 4 then 0 else k
def keyB (k n : Int) : Int := if k = 2 then k else if k = 3 then k else if k = 0 then 0 else if k = 1 then 0 else if k = 4 then 0 else n
def keyC (k : Int) (t : ByteArray) : List UInt8 := if k = 0 then [] else if k = 1 then [] else if k = 2 then [] else if k = 3 then [] else t.data.toList
theorem kinds (k : Int) : k = 0 ∨ k = 1 ∨ k = 2 ∨ k = 3 ∨ k = 4 ∨ (k ≠ 0 ∧ k ≠ 1 ∧ k ≠ 2 ∧ k ≠ 3 ∧ k ≠ 4) := by omega
theorem lex0 (q : Int) : lex 0 q = q := rfl
theorem ci_self (x : Int) : Lib.compareInt x x = 0 := by rcases ci_spec x x with ⟨a, e⟩ | ⟨a, e⟩ | ⟨a, e⟩ <;> first | exact e | omega
theorem lex_r0 (p : Int) : lex p 0 = p := by unfold lex; split <;> omega
theorem ci_ne {x y : Int} (h : x ≠ y) : Lib.compareInt x y ≠ 0 := by rcases ci_spec x y with ⟨a, e⟩ | ⟨a, e⟩ | ⟨a, e⟩ <;> omega

theorem ord_lex (k n : Int) (t : ByteArray) (k' n' : Int) (t' : ByteArray) :
    ordC k n t k' n' t' = lex (Lib.compareInt (rkS k) (rkS k')) (lex (Lib.compareInt (keyA k n) (keyA k' n')) (lex (Lib.compareInt (keyB k n) (keyB k' n')) (Lib.compareBytes (keyC k t) (keyC k' t')))) := by
  by_cases hr : rkS k = rkS k'
  · have hr' : (rkS k != rkS k') = false := by simpa using hr
    unfold ordC
    rw [hr']
    rw [← hr, ci_self, lex0]
    simp only [Bool.false_eq_true, if_false]
    rcases kinds k with rfl | rfl | rfl | rfl | rfl | ⟨a0, a1, a2, a3, a4⟩ <;> rcases kinds k' with rfl | rfl | rfl | rfl | rfl | ⟨b0, b1, b2, b3, b4⟩
    all_goals first
      | (exfalso; simp [rkS, *] at hr; done)
      | skip
    · simp [rkS, cmpC, keyA, keyB, keyC, isNum, lex, ci_self, Lib.compareBytes]
    · simp [rkS, cmpC, keyA, keyB, keyC, isNum, lex, ci_self, Lib.compareBytes] <;> (split <;> simp_all)
    · simp [rkS, cmpC, keyA, keyB, keyC, isNum, lex, ci_self, Lib.compareBytes]
    · simp [rkS, cmpC, keyA, keyB, keyC, isNum, lex, Lib.compareBytes] <;> (split <;> simp_all)
    · simp [rkS, cmpC, keyA, keyB, keyC, isNum, lex, Lib.compareBytes] <;> (split <;> simp_all)
    · simp [rkS, cmpC, keyA, keyB, keyC, isNum, lex, ci_self, Lib.compareBytes]
    · simp [rkS, cmpC, keyA, keyB, keyC, isNum, lex, ci_self]
    · have e4 : rkS k = 4 := by simp [rkS, *]
      rw [e4]
      have eA : keyA k n = k := by simp [keyA, *]
      have eA' : keyA k' n' = k' := by simp [keyA, *]
      have eB : keyB k n = n := by simp [keyB, *]
      have eB' : keyB k' n' = n' := by simp [keyB, *]
      have eC : keyC k t = t.data.toList := by simp [keyC, *]
      have eC' : keyC k' t' = t'.data.toList := by simp [keyC, *]
      rw [eA, eA', eB, eB', eC, eC']
      simp only [beq_self_eq_true, if_true, othC]
      by_cases h1 : k = k'
      · subst h1
        rw [ci_self, lex0]
        simp only [bne_self_eq_false, Bool.false_eq_true, if_false]
        by_cases h2 : n = n'
        · subst h2
          rw [ci_self, lex0]
          simp
        · have : (n != n') = true := by simpa using h2
          rw [this, if_pos rfl, lex, if_neg (ci_ne h2)]
      · have : (k != k') = true := by simpa using h1
        rw [this, if_pos rfl, lex, if_neg (ci_ne h1)]
  · have hr' : (rkS k != rkS k') = true := by simpa using hr
    unfold ordC
    rw [hr', if_pos rfl, lex, if_neg (ci_ne hr)]

theorem ord_range (k n : Int) (t : ByteArray) (k' n' : Int) (t' : ByteArray) : -1 ≤ ordC k n t k' n' t' ∧ ordC k n t k' n' t' ≤ 1 := by
  rw [ord_lex]; exact lex_range (lex_range (lex_range (cb_range _ _)))
theorem ord_anti (k n : Int) (t : ByteArray) (k' n' : Int) (t' : ByteArray) : ordC k' n' t' k n t = -ordC k n t k' n' t' := by
  rw [ord_lex, ord_lex]; exact lex_anti (lex_anti (lex_anti (cb_anti _ _)))
theorem ord_refl (k n : Int) (t : ByteArray) : ordC k n t k n t = 0 := by
  have := ord_anti k n t k n t; omega
theorem ord_trans {k n : Int} {t : ByteArray} {k' n' : Int} {t' : ByteArray} {k'' n'' : Int} {t'' : ByteArray} (h1 : ordC k n t k' n' t' ≤ 0) (h2 : ordC k' n' t' k'' n'' t'' ≤ 0) : ordC k n t k'' n'' t'' ≤ 0 := by
  rw [ord_lex] at h1 h2 ⊢
  exact lex_trans (lex_trans (lex_trans (cb_trans _ _ _))) h1 h2
end Go.Proofs.YtejniencggnkiaaDoor
