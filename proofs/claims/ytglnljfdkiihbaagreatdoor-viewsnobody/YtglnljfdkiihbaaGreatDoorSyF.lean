/- A symbolic run of a program: regions whose order is open, whole. -/
import Derived.Test.YtglnljfdkiihbaaGreatDoorSyG
namespace Go.Sy

theorem filter_lt {p q : Nat → Bool} : ∀ {l : List Nat}, (∀ j, q j = true → p j = true) → (∃ i ∈ l, p i = true ∧ q i = false) → (l.filter q).length < (l.filter p).length
  | [], _, ⟨i, hi, _⟩ => by cases hi
  | a :: l, hpq, ⟨i, hi, h1, h2⟩ => by
    have hle : (l.filter q).length ≤ (l.filter p).length := by
      clear h1 h2 hi
      induction l with
      | nil => simp
      | cons b l ih =>
        simp only [List.filter_cons]
        cases hq : q b
        · cases hp : p b <;> simp <;> omega
        · rw [hpq b hq]; simp; omega
    simp only [List.filter_cons]
    rcases List.mem_cons.1 hi with rfl | hi'
    · rw [h1, h2]; simp; omega
    · have := filter_lt (l := l) hpq ⟨i, hi', h1, h2⟩
      cases hq : q a
      · cases hp : p a <;> simp <;> omega
      · rw [hpq a hq]; simp; omega

theorem wpAny_by {P : Program} {ops : Array Oper} {Q : Exit → Act → World → Prop} (I : Array Bool → Act → World → Prop) (hsz : ∀ {l a w}, I l a w → l.size = ops.size)
    (hstep : ∀ {l a w i}, I l a w → i ∈ Region.ready .any ops l → wpOp P ops Q i (fun a' w' => I (l.setIfInBounds i true) a' w') a w) (hend : ∀ {l a w}, I l a w → Region.ready .any ops l = [] → Q .normal a w) :
    ∀ (f : Nat) (l : Array Bool) (a : Act) (w : World), I l a w → ((List.range ops.size).filter fun j => !l.getD j true).length ≤ f → wpAny P .any ops Q f l a w := by
  intro f
  induction f with
  | zero =>
    intro l a w hi hf
    have hr : Region.ready .any ops l = [] := by
      have h0 : (List.range ops.size).filter (fun j => !l.getD j true) = [] := List.eq_nil_of_length_eq_zero (by omega)
      unfold Region.ready
      rw [List.filter_eq_nil_iff] at h0 ⊢
      intro j hj
      have := h0 j hj
      simp only [Bool.and_eq_true, not_and]
      intro h; exact absurd h this
    exact ⟨hr, hend hi hr⟩
  | succ f ih =>
    intro l a w hi hf
    refine ⟨fun hr => hend hi hr, fun i hr => ?_⟩
    refine wpOp_mono (fun a' w' h => ih _ a' w' h ?_) (hstep hi hr)
    have hm : i ∈ List.range ops.size ∧ (!l.getD i true) = true := by
      unfold Region.ready at hr
      rw [List.mem_filter] at hr
      simp only [Bool.and_eq_true] at hr
      exact ⟨hr.1, hr.2.1⟩
    have hil : i < l.size := by rw [hsz hi]; exact List.mem_range.1 hm.1
    have : ((List.range ops.size).filter fun j => !(l.setIfInBounds i true).getD j true).length < ((List.range ops.size).filter fun j => !l.getD j true).length := by
      refine filter_lt (fun j hj => ?_) ⟨i, hm.1, hm.2, ?_⟩
      · simp only [Bool.not_eq_true'] at hj ⊢
        rw [Array.getD_eq_getD_getElem?] at hj ⊢
        by_cases e : i = j
        · subst e; simp [hil] at hj
        · rwa [Array.getElem?_setIfInBounds_ne e] at hj
      · rw [Array.getD_eq_getD_getElem?]; simp [hil]
    omega

/-- p is one of the mask m that made the block of the name id, still to be seen at stage k. -/
def Cx (al : List (Nat × PI)) (nx : Nat) (EN : Nat → Option Ent) (m k id : Nat) (p : Nat × PI) : Prop := p ∈ al ∧ Nat.testBit m p.1 = true ∧ k ≤ p.2.kx ∧ (EN p.1).isSome = true ∧ nx + p.2.rk = id

theorem xs_cx {al : List (Nat × PI)} {nx m k id : Nat} {EN : Nat → Option Ent} {p : Nat × PI} (h : xs al nx m k EN id = some p) : Cx al nx EN m k id p := by
  unfold xs at h
  have h1 := List.find?_some h
  simp only [Bool.and_eq_true] at h1
  exact ⟨List.mem_of_find?_eq_some h, h1.1.1.1, Nat.le_of_ble_eq_true h1.1.1.2, h1.1.2, Nat.eq_of_beq_eq_true h1.2⟩
theorem xg_of {al : List (Nat × PI)} {nx m k id : Nat} {EN : Nat → Option Ent} {p : Nat × PI} (hinj : ∀ p ∈ al, ∀ q ∈ al, p.1 ≠ q.1 → p.2.rk ≠ q.2.rk) (h : Cx al nx EN m k id p) : xg al nx m k EN id = EN p.1 := by
  unfold xg
  cases hx : xs al nx m k EN id with
  | some q =>
    have hq := xs_cx hx
    have : p.1 = q.1 := by
      rcases Nat.decEq p.1 q.1 with e | e
      · have := hinj p h.1 q hq.1 e
        have a := h.2.2.2.2; have b := hq.2.2.2.2
        omega
      · exact e
    rw [this]
  | none =>
    unfold xs at hx
    rw [List.find?_eq_none] at hx
    have := hx p h.1
    simp [h.2.1, h.2.2.2.1, h.2.2.2.2, Nat.ble_eq_true_of_le h.2.2.1] at this
theorem xg_none {al : List (Nat × PI)} {nx m k id : Nat} {EN : Nat → Option Ent} (h : ∀ p, ¬ Cx al nx EN m k id p) : xg al nx m k EN id = none := by
  unfold xg
  cases hx : xs al nx m k EN id with
  | some q => exact (h q (xs_cx hx)).elim
  | none => rfl
theorem xg_some {al : List (Nat × PI)} {nx m k id : Nat} {EN : Nat → Option Ent} {e : Ent} (h : xg al nx m k EN id = some e) : ∃ p, Cx al nx EN m k id p ∧ EN p.1 = some e := by
  unfold xg at h
  cases hx : xs al nx m k EN id with
  | some q => rw [hx] at h; exact ⟨q, xs_cx hx, h⟩
  | none => rw [hx] at h; cases h
theorem xg_congr {al : List (Nat × PI)} {nx m m' k k' : Nat} {EN : Nat → Option Ent} (hinj : ∀ p ∈ al, ∀ q ∈ al, p.1 ≠ q.1 → p.2.rk ≠ q.2.rk) (h : ∀ id p, Cx al nx EN m k id p ↔ Cx al nx EN m' k' id p) : xg al nx m k EN = xg al nx m' k' EN := by
  funext id
  by_cases he : ∃ p, Cx al nx EN m k id p
  · obtain ⟨p, hp⟩ := he
    rw [xg_of hinj hp, xg_of hinj ((h id p).1 hp)]
  · rw [xg_none fun p hp => he ⟨p, hp⟩, xg_none fun p hp => he ⟨p, (h id p).2 hp⟩]

theorem tv_zero {ops : Array Oper} {t : Tm} {V : Nat → Value} {s : Nat} : tv ops t V 0 s = tget t s := by
  unfold tv
  have : (List.range ops.size).find? (fun j => Nat.testBit 0 j && dstIs ops j s) = none := by
    rw [List.find?_eq_none]; intro j _; simp
  rw [this]
end Go.Sy
