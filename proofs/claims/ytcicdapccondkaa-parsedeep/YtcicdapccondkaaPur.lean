/- There is an answer. -/
import Derived.Test.YtcicdapccondkaaExr
namespace Go.Proofs.Ytcicdapccondkaa
section
open Go.ChangeShapes Go.WideShapes Go.ChangeAt Go.RowKit
set_option linter.unusedSimpArgs false
set_option maxRecDepth 20000
set_option maxHeartbeats 4000000

/-- An answer, with the place behind it within bounds. -/
def TotAt {α : Type} (n i : Nat) (a : Rz α) : Prop := ∃ r, a = some r ∧ (∀ x j, r = .inr (x, j) → i ≤ j ∧ j ≤ n) ∧ ∀ q, r = .inl q → q.2 ≠ 0
theorem TotAt.ok {α : Type} {n i j : Nat} (x : α) (h : i ≤ j) (h' : j ≤ n) : TotAt n i (okR x j) := ⟨_, rfl, (fun y k e => by cases e; exact ⟨h, h'⟩), fun q e => by cases e⟩
theorem TotAt.no {α : Type} {n i : Nat} (p : Nat) (e : Int) (he : e ≠ 0 := by decide) : TotAt (α := α) n i (noR p e) := ⟨_, rfl, (fun y k e => by cases e), fun q k => by cases k; exact he⟩
theorem TotAt.low {α : Type} {n i i' : Nat} {a : Rz α} (h : TotAt n i a) (hi : i' ≤ i) : TotAt n i' a := by
  obtain ⟨r, e, h, h0⟩ := h
  exact ⟨r, e, (fun x j k => ⟨by have := (h x j k).1; omega, (h x j k).2⟩), h0⟩
theorem TotAt.bnd {α β : Type} {n i : Nat} {a : Rz α} {f : α → Nat → Rz β} (h : TotAt n i a) (hf : ∀ y k, i ≤ k → k ≤ n → TotAt n k (f y k)) : TotAt n i (Go.Proofs.Ytcicdapccondkaa.bnd a f) := by
  obtain ⟨r, rfl, h, h0⟩ := h
  cases r with
  | inl q => exact ⟨.inl q, rfl, (fun x j e => by cases e), fun p e => by cases e; exact h0 q rfl⟩
  | inr q =>
    obtain ⟨y, k⟩ := q
    obtain ⟨h1, h2⟩ := h y k rfl
    exact (hf y k h1 h2).low h1
section
variable {T : List Tt} {n : Nat}
theorem need_tot (hn : T.length = n) (k : Int) (hk : k ≠ 0) (t : List UInt8) (i : Nat) : TotAt n (i + 1) (needP T k t i) := by
  unfold needP
  split
  · rename_i h
    exact TotAt.ok _ (Nat.le_refl _) (by have := isT_lt hk h; omega)
  · exact TotAt.no _ _
theorem line_tot (hn : T.length = n) {k : Int} (hk : k ≠ 0) {L : List (List UInt8)} {p : Nat → Rz X} {m : Nat} (hp : ∀ i, m ≤ i → i ≤ n → TotAt n i (p i)) : ∀ (f : Nat) (x : X) (i : Nat), m ≤ i → i ≤ n → n < f + i → TotAt n i (lineP T k L p f x i)
  | 0, x, i, h1, h2, h3 => absurd h3 (by omega)
  | f + 1, x, i, h1, h2, h3 => by
    unfold lineP
    split
    · rename_i h
      have hi := isT_lt hk h
      exact ((hp (i + 1) (by omega) (by omega)).bnd fun y k hk1 hk2 => line_tot hn hk hp f _ k (by omega) hk2 (by omega)).low (by omega)
    · exact TotAt.ok _ (Nat.le_refl _) h2
theorem pref_tot (hn : T.length = n) {k : Int} (hk : k ≠ 0) {t : List UInt8} {p : Nat → Nat → Rz X} {m : Nat} (hp : ∀ i op, m ≤ i → i ≤ n → TotAt n i (p i op)) : ∀ (f i op : Nat), m ≤ i → i ≤ n → n < f + i → TotAt n i (prefP T k t p f i op)
  | 0, i, op, h1, h2, h3 => absurd h3 (by omega)
  | f + 1, i, op, h1, h2, h3 => by
    unfold prefP
    split
    · rename_i h
      have hi := isT_lt hk h
      split
      · exact TotAt.no _ _
      · exact ((pref_tot hn hk hp f (i + 1) (op + 1) (by omega) (by omega) (by omega)).bnd fun y k hk1 hk2 => TotAt.ok _ (Nat.le_refl _) hk2).low (by omega)
    · exact hp i op h1 h2
theorem listP_tot (hn : T.length = n) {E : Nat → Rz X} {m : Nat} (hp : ∀ i, m ≤ i → i ≤ n → TotAt n i (E i)) : ∀ (f : Nat) (l : List X) (i : Nat), m ≤ i → i ≤ n → n < f + i → TotAt n i (listP T E f l i)
  | 0, l, i, h1, h2, h3 => absurd h3 (by omega)
  | f + 1, l, i, h1, h2, h3 => by
    unfold listP
    split
    · rename_i h
      have hi := isT_lt (by decide) h
      exact ((hp (i + 1) (by omega) (by omega)).bnd fun y k hk1 hk2 => listP_tot hn hp f _ k (by omega) hk2 (by omega)).low (by omega)
    · exact TotAt.ok _ (Nat.le_refl _) h2
theorem listE_tot (hn : T.length = n) {E : Nat → Rz X} {m : Nat} (hp : ∀ i, m ≤ i → i ≤ n → TotAt n i (E i)) (f i : Nat) (h1 : m ≤ i) (h2 : i ≤ n) (h3 : n < f + i) : TotAt n i (listE T E f i) :=
  (hp i h1 h2).bnd fun y k hk1 hk2 => listP_tot hn hp f _ k (by omega) hk2 (by omega)
theorem when_tot (hn : T.length = n) {E : Nat → Rz X} {m : Nat} (hp : ∀ i, m ≤ i → i ≤ n → TotAt n i (E i)) (i : Nat) (h1 : m ≤ i + 1) : TotAt n (i + 1) (whenP T E i) :=
  (need_tot hn 2 (by decide) _ i).bnd fun _ k hk1 hk2 => (hp k (by omega) hk2).bnd fun _ k hk1 hk2 => ((need_tot hn 2 (by decide) _ k).bnd fun _ k hk1 hk2 => (hp k (by omega) hk2).bnd fun _ k hk1 hk2 => TotAt.ok _ (Nat.le_refl _) hk2).low (by omega)
theorem whens_tot (hn : T.length = n) {E : Nat → Rz X} {m : Nat} (hp : ∀ i, m ≤ i → i ≤ n → TotAt n i (E i)) : ∀ (f : Nat) (l : List X) (i : Nat), m ≤ i → i ≤ n → n < f + i → TotAt n i (whensP T E f l i)
  | 0, l, i, h1, h2, h3 => absurd h3 (by omega)
  | f + 1, l, i, h1, h2, h3 => by
    unfold whensP
    split
    · exact ((when_tot hn hp i (by omega)).bnd fun y k hk1 hk2 => whens_tot hn hp f _ k (by omega) hk2 (by omega)).low (by omega)
    · exact TotAt.ok _ (Nat.le_refl _) h2
variable {E : Nat → Nat → Rz X} {m : Nat}
theorem choice_tot (hn : T.length = n) (hE : ∀ i op, m ≤ i → i ≤ n → TotAt n i (E i op)) (f i op : Nat) (_hi : i < n) (h1 : m ≤ i + 1) (h3 : n < f + i) : TotAt n i (choiceP T (fun j => E j op) f i) := by
  have hp : ∀ i, m ≤ i → i ≤ n → TotAt n i ((fun j => E j op) i) := fun i => hE i op
  unfold choiceP
  refine ((when_tot hn hp (i + 1) (by omega)).bnd fun l k hk1 hk2 => (whens_tot hn hp f l k (by omega) hk2 (by omega)).bnd fun l k hk1 hk2 => ?_).low (by omega)
  split
  · rename_i h
    have hl := isT_lt (by decide) h
    exact ((hp (k + 1) (by omega) (by omega)).bnd fun x k hk1 hk2 => ((need_tot hn 2 (by decide) _ k).bnd fun _ k hk1 hk2 => TotAt.ok _ (Nat.le_refl _) hk2).low (by omega)).low (by omega)
  · exact ((need_tot hn 2 (by decide) _ k).bnd fun _ k hk1 hk2 => TotAt.ok _ (Nat.le_refl _) hk2).low (by omega)
theorem aggE_tot (hn : T.length = n) (hE : ∀ i op, m ≤ i → i ≤ n → TotAt n i (E i op)) (i j op : Nat) (mm : Int) (h1 : m ≤ j) (h2 : j ≤ n) : TotAt n j (aggE T (fun j => E j op) i mm j) :=
  (hE j op h1 h2).bnd fun x k hk1 hk2 => ((need_tot hn 6 (by decide) _ k).bnd fun _ k hk1 hk2 => TotAt.ok _ (Nat.le_refl _) hk2).low (by omega)
theorem agg_tot (hn : T.length = n) (hE : ∀ i op, m ≤ i → i ≤ n → TotAt n i (E i op)) (i op : Nat) (h1 : m ≤ i + 1) : TotAt n i (aggP T (fun j => E j op) i) := by
  unfold aggP
  refine ((need_tot hn 6 (by decide) _ (i + 1)).bnd fun _ k hk1 hk2 => ?_).low (by omega)
  split
  · rename_i h
    exact ((need_tot hn 6 (by decide) _ (k + 1)).bnd fun _ k hk1 hk2 => TotAt.ok _ (Nat.le_refl _) hk2).low (by omega)
  · split
    · rename_i h
      have hl := isT_lt (by decide) h
      exact (aggE_tot hn hE i (k + 1) op 1 (by omega) (by omega)).low (by omega)
    · exact aggE_tot hn hE i k op 0 (by omega) hk2
theorem word_tot (hn : T.length = n) (hE : ∀ i op, m ≤ i → i ≤ n → TotAt n i (E i op)) (f i op : Nat) (hi : i < n) (h1 : m ≤ i + 1) (h3 : n < f + i) : TotAt n i (wordP T (fun j => E j op) f i) := by
  unfold wordP
  repeat' split
  · exact TotAt.ok _ (by omega) (by omega)
  · exact TotAt.ok _ (by omega) (by omega)
  · exact TotAt.ok _ (by omega) (by omega)
  · exact agg_tot hn hE i op h1
  · exact choice_tot hn hE f i op hi h1 h3
  · exact TotAt.no _ _
theorem named_tot (hn : T.length = n) (hE : ∀ i op, m ≤ i → i ≤ n → TotAt n i (E i op)) (f i op : Nat) (hi : i < n) (h1 : m ≤ i + 1) (h3 : n < f + i) : TotAt n i (namedP T (fun j => E j op) f i) := by
  have hp : ∀ i, m ≤ i → i ≤ n → TotAt n i ((fun j => E j op) i) := fun i => hE i op
  unfold namedP callP
  split
  · rename_i h
    have hl := isT_lt (by decide) h
    split
    · exact ((need_tot hn 6 (by decide) _ (i + 2)).bnd fun _ k hk1 hk2 => TotAt.ok _ (Nat.le_refl _) hk2).low (by omega)
    · exact ((listE_tot hn hp f (i + 2) (by omega) (by omega) (by omega)).bnd fun l k hk1 hk2 => ((need_tot hn 6 (by decide) _ k).bnd fun _ k hk1 hk2 => TotAt.ok _ (Nat.le_refl _) hk2).low (by omega)).low (by omega)
  · split
    · rename_i h
      have hl : i + 2 < T.length := tk_lt (fun e => by have h2 := h.2; rw [e] at h2; exact absurd h2 (by decide))
      exact TotAt.ok _ (by omega) (by omega)
    · exact TotAt.ok _ (by omega) (by omega)
theorem brack_tot (hn : T.length = n) (hE : ∀ i op, m ≤ i → i ≤ n → TotAt n i (E i op)) (i op : Nat) (h1 : m ≤ i + 1) : TotAt n i (brackP T (fun j => E j op) i) :=
  ((need_tot hn 6 (by decide) _ i).bnd fun _ k hk1 hk2 => (hE k op (by omega) hk2).bnd fun x k hk1 hk2 => ((need_tot hn 6 (by decide) _ k).bnd fun _ k hk1 hk2 => TotAt.ok _ (Nat.le_refl _) hk2).low (by omega)).low (by omega)
theorem prim_tot (hn : T.length = n) (hE : ∀ i op, m ≤ i → i ≤ n → TotAt n i (E i op)) (f i op : Nat) (h1 : m ≤ i + 1) (h3 : n < f + i) : TotAt n i (primP T E f i op) := by
  have hk : ∀ k : Int, k ≠ 0 → (tkI T i).1.1 = k → i < n := fun k h0 h => by
    have : i < T.length := tk_lt (fun e => by rw [e] at h; exact h0 h.symm)
    omega
  unfold primP
  split
  · have := hk 3 (by decide) (by assumption); exact TotAt.ok _ (by omega) (by omega)
  split
  · have := hk 4 (by decide) (by assumption); exact TotAt.ok _ (by omega) (by omega)
  split
  · have := hk 5 (by decide) (by assumption); exact TotAt.ok _ (by omega) (by omega)
  split
  · exact named_tot hn hE f i op (hk 1 (by decide) (by assumption)) h1 h3
  split
  · exact word_tot hn hE f i op (hk 2 (by decide) (by assumption)) h1 h3
  split
  · exact brack_tot hn hE i op h1
  · exact TotAt.no _ _
theorem minus_tot (hn : T.length = n) (hE : ∀ i op, m + 1 ≤ i → i ≤ n → TotAt n i (E i op)) (f : Nat) (h3 : n < f + m) (i op : Nat) (h1 : m ≤ i) (h2 : i ≤ n) : TotAt n i (minusP T E f i op) :=
  pref_tot hn (by decide) (m := m) (fun i op h1 h2 => prim_tot hn hE f i op (by omega) (by omega)) f i op h1 h2 (by omega)
theorem prod_tot (hn : T.length = n) (hE : ∀ i op, m + 1 ≤ i → i ≤ n → TotAt n i (E i op)) (f : Nat) (h3 : n < f + m) (i op : Nat) (h1 : m ≤ i) (h2 : i ≤ n) : TotAt n i (prodP T E f i op) :=
  (minus_tot hn hE f h3 i op h1 h2).bnd fun x k hk1 hk2 => line_tot hn (by decide) (m := m) (fun i h1 h2 => minus_tot hn hE f h3 i op h1 h2) f x k (by omega) hk2 (by omega)
theorem sum_tot (hn : T.length = n) (hE : ∀ i op, m + 1 ≤ i → i ≤ n → TotAt n i (E i op)) (f : Nat) (h3 : n < f + m) (i op : Nat) (h1 : m ≤ i) (h2 : i ≤ n) : TotAt n i (sumP T E f i op) :=
  (prod_tot hn hE f h3 i op h1 h2).bnd fun x k hk1 hk2 => line_tot hn (by decide) (m := m) (fun i h1 h2 => prod_tot hn hE f h3 i op h1 h2) f x k (by omega) hk2 (by omega)
theorem isN_tot (hn : T.length = n) (x : X) (i : Nat) : TotAt n i (isNP T x i) := by
  unfold isNP
  split
  · exact ((need_tot hn 2 (by decide) _ (i + 2)).bnd fun _ k hk1 hk2 => TotAt.ok _ (Nat.le_refl _) hk2).low (by omega)
  · exact ((need_tot hn 2 (by decide) _ (i + 1)).bnd fun _ k hk1 hk2 => TotAt.ok _ (Nat.le_refl _) hk2).low (by omega)
theorem bet_tot (hn : T.length = n) {S : Nat → Rz X} (hS : ∀ i, m ≤ i → i ≤ n → TotAt n i (S i)) (x : X) (i : Nat) (h1 : m ≤ i + 1) (h2 : i < n) : TotAt n i (betP T S x i) :=
  ((hS (i + 1) h1 (by omega)).bnd fun _ k hk1 hk2 => ((need_tot hn 2 (by decide) _ k).bnd fun _ k hk1 hk2 => (hS k (by omega) hk2).bnd fun _ k hk1 hk2 => TotAt.ok _ (Nat.le_refl _) hk2).low (by omega)).low (by omega)
theorem in_tot (hn : T.length = n) {S : Nat → Rz X} (hS : ∀ i, m ≤ i → i ≤ n → TotAt n i (S i)) (f : Nat) (x : X) (i : Nat) (h1 : m ≤ i + 1) (h3 : n < f + i) : TotAt n i (inP T S f x i) :=
  ((need_tot hn 6 (by decide) _ (i + 1)).bnd fun _ k hk1 hk2 => (listE_tot hn hS f k (by omega) hk2 (by omega)).bnd fun _ k hk1 hk2 => ((need_tot hn 6 (by decide) _ k).bnd fun _ k hk1 hk2 => TotAt.ok _ (Nat.le_refl _) hk2).low (by omega)).low (by omega)
theorem test_tot (hn : T.length = n) (hE : ∀ i op, m + 1 ≤ i → i ≤ n → TotAt n i (E i op)) (f : Nat) (h3 : n < f + m) (i op : Nat) (h1 : m ≤ i) (h2 : i ≤ n) : TotAt n i (testP T E f i op) := by
  have hS : ∀ i, m ≤ i → i ≤ n → TotAt n i ((fun k => sumP T E f k op) i) := fun i h1 h2 => sum_tot hn hE f h3 i op h1 h2
  have hp : ∀ i, m + 1 ≤ i → i ≤ n → TotAt n i ((fun j => E j op) i) := fun i => hE i op
  unfold testP
  refine (sum_tot hn hE f h3 i op h1 h2).bnd fun x k hk1 hk2 => ?_
  split
  · rename_i h
    have hl := isT_lt (by decide) h
    exact ((sum_tot hn hE f h3 (k + 1) op (by omega) (by omega)).bnd fun _ k hk1 hk2 => TotAt.ok _ (Nat.le_refl _) hk2).low (by omega)
  split
  · exact isN_tot hn x k
  split
  · rename_i h
    have hl := isT_lt (by decide) h
    exact bet_tot hn hS x k (by omega) (by omega)
  split
  · exact in_tot hn hp f x k (by omega) (by omega)
  split
  · split
    · rename_i h
      have hl := isT_lt (by decide) h
      exact ((bet_tot hn hS x (k + 1) (by omega) (by omega)).bnd fun _ k hk1 hk2 => TotAt.ok _ (Nat.le_refl _) hk2).low (by omega)
    · split
      · rename_i h
        have hl := isT_lt (by decide) h
        exact ((in_tot hn hp f x (k + 1) (by omega) (by omega)).bnd fun _ k hk1 hk2 => TotAt.ok _ (Nat.le_refl _) hk2).low (by omega)
      · exact TotAt.ok _ (Nat.le_refl _) hk2
  · exact TotAt.ok _ (Nat.le_refl _) hk2
theorem not_tot (hn : T.length = n) (hE : ∀ i op, m + 1 ≤ i → i ≤ n → TotAt n i (E i op)) (f : Nat) (h3 : n < f + m) (i op : Nat) (h1 : m ≤ i) (h2 : i ≤ n) : TotAt n i (notP T E f i op) :=
  pref_tot hn (by decide) (m := m) (fun i op h1 h2 => test_tot hn hE f h3 i op h1 h2) f i op h1 h2 (by omega)
theorem and_tot (hn : T.length = n) (hE : ∀ i op, m + 1 ≤ i → i ≤ n → TotAt n i (E i op)) (f : Nat) (h3 : n < f + m) (i op : Nat) (h1 : m ≤ i) (h2 : i ≤ n) : TotAt n i (andP T E f i op) :=
  (not_tot hn hE f h3 i op h1 h2).bnd fun x k hk1 hk2 => line_tot hn (by decide) (m := m) (fun i h1 h2 => not_tot hn hE f h3 i op h1 h2) f x k (by omega) hk2 (by omega)
theorem or_tot (hn : T.length = n) (hE : ∀ i op, m + 1 ≤ i → i ≤ n → TotAt n i (E i op)) (f : Nat) (h3 : n < f + m) (i op : Nat) (h1 : m ≤ i) (h2 : i ≤ n) : TotAt n i (orP T E f i op) :=
  (and_tot hn hE f h3 i op h1 h2).bnd fun x k hk1 hk2 => line_tot hn (by decide) (m := m) (fun i h1 h2 => and_tot hn hE f h3 i op h1 h2) f x k (by omega) hk2 (by omega)
end
/-- With fuel enough there is an answer. -/
theorem exP_tot (T : List Tt) : ∀ (f i op : Nat), i ≤ T.length → 2 * (T.length + 1) ≤ f + i → TotAt T.length i (exP T f i op)
  | 0, i, op, h1, h2 => absurd h2 (by omega)
  | f + 1, i, op, h1, h2 => by
    unfold exP
    split
    · exact TotAt.no _ _
    · exact or_tot (m := i) rfl (fun j op' h3 h4 => exP_tot T f j op' h4 (by omega)) f (by omega) i (op + 1) (Nat.le_refl _) h1
end
section
open Go.ChangeShapes Go.WideShapes Go.ChangeAt Go.RowKit
set_option linter.unusedSimpArgs false
set_option maxRecDepth 20000
set_option maxHeartbeats 4000000

/-- Reading is strict: a tree takes a token at least. -/
def Stx {α : Type} (g : Nat → Nat → Rz α) : Prop := ∀ i op x j, g i op = some (.inr (x, j)) → i < j
section
variable {T : List Tt}
theorem line_st {k : Int} {L : List (List UInt8)} {p : Nat → Nat → Rz X} (hp : Stx p) (f : Nat) : Stx (fun i op => bnd (p i op) (lineP T k L (fun j => p j op) f)) := fun i op x j h => by
  obtain ⟨y, k, h1, h2⟩ := bnd_ok h
  have u1 := hp _ _ _ _ h1
  have u2 := lineP_up (fun i x j h => Nat.le_of_lt (hp i op x j h)) f _ _ _ _ h2
  omega
theorem pref_st {k : Int} {t : List UInt8} {p : Nat → Nat → Rz X} (hp : Stx p) : ∀ (f : Nat) (i op j : Nat) (x : X), prefP T k t p f i op = some (.inr (x, j)) → i < j
  | 0, i, op, j, x, h => by cases h
  | f + 1, i, op, j, x, h => by
    unfold prefP at h
    split at h
    · split at h
      · cases h
      · obtain ⟨y, k, h1, h2⟩ := bnd_ok h
        have u1 := pref_st hp f _ _ _ _ h1
        have u2 := okR_ok h2
        omega
    · exact hp _ _ _ _ h
variable {E : Nat → Nat → Rz X}
theorem prim_st (hU : Ups E) (f : Nat) : Stx (primP T E f) := fun i op x j h => by
  have hU' : ∀ i x j, (fun j => E j op) i = some (.inr (x, j)) → i ≤ j := fun i x j => hU i op x j
  unfold primP at h
  split at h
  · have := okR_ok h; omega
  split at h
  · have := okR_ok h; omega
  split at h
  · have := okR_ok h; omega
  split at h
  · unfold namedP callP at h
    repeat' split at h
    · obtain ⟨y, c, h5, h6⟩ := bnd_ok h
      have u4 := needP_ok h5
      have u5 := okR_ok h6
      omega
    · obtain ⟨y, c, h5, h6⟩ := bnd_ok h
      obtain ⟨z, d, h7, h8⟩ := bnd_ok h6
      have u3 := (listE_ok hU' h5).1
      have u4 := needP_ok h7
      have u5 := okR_ok h8
      omega
    · have := okR_ok h; omega
    · have := okR_ok h; omega
  split at h
  · unfold wordP at h
    split at h
    · have := okR_ok h; omega
    split at h
    · have := okR_ok h; omega
    split at h
    · have := okR_ok h; omega
    split at h
    · unfold aggP at h
      obtain ⟨y, k, h1, h2⟩ := bnd_ok h
      have u1 := needP_ok h1
      split at h2
      · obtain ⟨z, b, h3, h4⟩ := bnd_ok h2
        have u2 := needP_ok h3
        have u3 := okR_ok h4
        omega
      · split at h2
        · have := aggE_up hU h2; omega
        · have := aggE_up hU h2; omega
    split at h
    · unfold choiceP at h
      obtain ⟨y, k, h1, h2⟩ := bnd_ok h
      obtain ⟨z, b, h3, h4⟩ := bnd_ok h2
      have u1 := (whenP_ok hU' h1).2
      have u2 := whensP_up hU' f _ _ _ _ h3
      split at h4
      · obtain ⟨y, c, h5, h6⟩ := bnd_ok h4
        obtain ⟨z, d, h7, h8⟩ := bnd_ok h6
        have u3 := hU _ _ _ _ h5
        have u4 := needP_ok h7
        have u5 := okR_ok h8
        omega
      · obtain ⟨y, c, h5, h6⟩ := bnd_ok h4
        have u4 := needP_ok h5
        have u5 := okR_ok h6
        omega
    · cases h
  split at h
  · unfold brackP at h
    obtain ⟨y, c, h5, h6⟩ := bnd_ok h
    obtain ⟨z, d, h7, h8⟩ := bnd_ok h6
    obtain ⟨a, b, h9, h10⟩ := bnd_ok h8
    have u1 := needP_ok h5
    have u2 := hU _ _ _ _ h7
    have u3 := needP_ok h9
    have u4 := okR_ok h10
    omega
  · cases h
theorem sum_st (hU : Ups E) (f : Nat) : Stx (sumP T E f) := line_st (line_st (fun i op x j h => pref_st (prim_st hU f) f i op j x h) f) f
theorem test_st (hU : Ups E) (f : Nat) : Stx (testP T E f) := fun i op x j h => by
  have h' := h
  unfold testP at h
  obtain ⟨y, k, h1, h2⟩ := bnd_ok h
  have u1 := sum_st hU f _ _ _ _ h1
  have hS : ∀ i x j, (fun k => sumP T E f k op) i = some (.inr (x, j)) → i ≤ j := fun i x j => sumP_up hU f i op x j
  have hE : ∀ i x j, (fun k => E k op) i = some (.inr (x, j)) → i ≤ j := fun i x j => hU i op x j
  repeat' split at h2
  · obtain ⟨z, b, h3, h4⟩ := bnd_ok h2
    have u2 := sumP_up hU f _ _ _ _ h3
    have u3 := okR_ok h4
    omega
  · have := isNP_up h2; omega
  · have := betP_up hS h2; omega
  · have := inP_up hE h2; omega
  · obtain ⟨z, b, h3, h4⟩ := bnd_ok h2
    have u2 := betP_up hS h3
    have u3 := okR_ok h4
    omega
  · obtain ⟨z, b, h3, h4⟩ := bnd_ok h2
    have u2 := inP_up hE h3
    have u3 := okR_ok h4
    omega
  · have := okR_ok h2; omega
  · have := okR_ok h2; omega
theorem or_st (hU : Ups E) (f : Nat) : Stx (orP T E f) := line_st (line_st (fun i op x j h => pref_st (test_st hU f) f i op j x h) f) f
end
theorem exP_st (T : List Tt) : ∀ f, Stx (exP T f)
  | 0 => fun i op x j h => by cases h
  | f + 1 => fun i op x j h => by
    unfold exP at h
    split at h
    · cases h
    · exact or_st (exP_up T f) f i (op + 1) x j h
end
section
open Go.ChangeShapes Go.WideShapes Go.ChangeAt Go.RowKit
set_option linter.unusedSimpArgs false
set_option maxRecDepth 20000
set_option maxHeartbeats 4000000

/-- Trees side by side, each like its fellow. -/
def RL (R : X → X → Prop) : List X → List X → Prop
  | [], [] => True
  | x :: l, y :: m => R x y ∧ RL R l m
  | _, _ => False
theorem RL.app {R : X → X → Prop} : ∀ {l l' m m' : List X}, RL R l l' → RL R m m' → RL R (l ++ m) (l' ++ m')
  | [], [], _, _, _, h => h
  | _ :: _, _ :: _, _, _, h, h' => ⟨h.1, RL.app h.2 h'⟩
  | [], _ :: _, _, _, h, _ => h.elim
  | _ :: _, [], _, _, h, _ => h.elim
theorem RL.one {R : X → X → Prop} {x y : X} (h : R x y) : RL R [x] [y] := ⟨h, trivial⟩
theorem RL.two {R : X → X → Prop} {x y x' y' : X} (h : R x x') (k : R y y') : RL R [x, y] [x', y'] := ⟨h, k, trivial⟩
theorem RL.three {R : X → X → Prop} {x y z x' y' z' : X} (h : R x x') (k : R y y') (m : R z z') : RL R [x, y, z] [x', y', z'] := ⟨h, k, m, trivial⟩
def stopL : List (Int × List (List UInt8)) := [(2, [[111, 114]]), (2, [[97, 110, 100]]), (6, [[43], [45]]), (6, [[42], [47], [37]]), (6, [[61], [33, 61], [60], [60, 61], [62], [62, 61]]), (2, [[105, 115]]), (2, [[98, 101, 116, 119, 101, 101, 110]]), (2, [[105, 110]]), (2, [[110, 111, 116]]), (6, [[40]]), (6, [[46]])]
/-- The tokens of T stand in T' from d on, and what stands behind them goes on with nothing. -/
structure Sim (T T' : List Tt) (n d δ : Nat) (Dp : Prop) (Ra : Int → Int → Prop) (Rx : X → X → Prop) : Prop where
  len : T.length = n
  tok : ∀ i, i < n → (tkI T' (i + d)).1 = (tkI T i).1
  pls : ∀ i, i < n → Ra (tkI T i).2 (tkI T' (i + d)).2
  stop : ∀ p ∈ stopL, isT (tkI T' (n + d)) p.1 p.2 = false
  nm : (tkI T' (n + d)).1.1 ≠ 1
  made : ∀ k t m a a' l l', Ra a a' → RL Rx l l' → Rx (mkX k t m a l) (mkX k t m a' l')
  dl : δ = 0 ∨ Dp
def Out {α : Type} (R : α → α → Prop) (d : Nat) (Dp : Prop) (x : α) (j : Nat) (a : Rz α) : Prop := (∃ x', a = some (.inr (x', j + d)) ∧ R x x') ∨ (Dp ∧ ∃ p, a = some (.inl (p, 71)))
theorem Out.bnd {α β : Type} {R : α → α → Prop} {R2 : β → β → Prop} {d : Nat} {Dp : Prop} {y : α} {k : Nat} {a : Rz α} {f : α → Nat → Rz β} {x : β} {j : Nat} (h : Out R d Dp y k a) (hf : ∀ y', R y y' → Out R2 d Dp x j (f y' (k + d))) : Out R2 d Dp x j (Go.Proofs.Ytcicdapccondkaa.bnd a f) := by
  rcases h with ⟨y', e, hR⟩ | ⟨hD, p, e⟩
  · subst e; exact hf y' hR
  · subst e; exact Or.inr ⟨hD, p, rfl⟩
theorem Out.ok {α : Type} {R : α → α → Prop} {d : Nat} {Dp : Prop} {x x' : α} {j k : Nat} (h : R x x') (hk : k = j + d) : Out R d Dp x j (okR x' k) := Or.inl ⟨x', by rw [hk]; rfl, h⟩
theorem okR_eq {α : Type} {a x : α} {i j : Nat} (h : okR a i = some (.inr (x, j))) : a = x ∧ i = j := by cases h; exact ⟨rfl, rfl⟩
theorem isT_same {t u : Tt} (h : t.1 = u.1) (k : Int) (L : List (List UInt8)) : isT t k L = isT u k L := by unfold isT; rw [h]
theorem isT_end {T : List Tt} {i : Nat} {k : Int} (hk : k ≠ 0) (L : List (List UInt8)) (h : T.length ≤ i) : isT (tkI T i) k L = false := by
  cases hb : isT (tkI T i) k L with
  | false => rfl
  | true => exact absurd (isT_lt hk hb) (by omega)
section
variable {T T' : List Tt} {n d δ : Nat} {Dp : Prop} {Ra : Int → Int → Prop} {Rx : X → X → Prop}
theorem Sim.isl (S : Sim T T' n d δ Dp Ra Rx) {i : Nat} (hi : i < n) (k : Int) (L : List (List UInt8)) : isT (tkI T' (i + d)) k L = isT (tkI T i) k L := isT_same (S.tok i hi) k L
theorem Sim.is (S : Sim T T' n d δ Dp Ra Rx) {i : Nat} (hi : i ≤ n) {k : Int} {L : List (List UInt8)} (hk : k ≠ 0) (hm : (k, L) ∈ stopL) : isT (tkI T' (i + d)) k L = isT (tkI T i) k L := by
  rcases Nat.lt_or_ge i n with h | h
  · exact S.isl h k L
  · have e : i = n := by omega
    subst e
    exact (S.stop (k, L) hm).trans (isT_end hk L (by have := S.len; omega)).symm
theorem Sim.tnd (S : Sim T T' n d δ Dp Ra Rx) {i : Nat} (hi : i < n) (k : Int) {l l' : List X} (h : RL Rx l l') : Rx (Go.Proofs.Ytcicdapccondkaa.tnd k (tkI T i) l) (Go.Proofs.Ytcicdapccondkaa.tnd k (tkI T' (i + d)) l') := by
  unfold Go.Proofs.Ytcicdapccondkaa.tnd
  rw [S.tok i hi]
  exact S.made _ _ _ _ _ _ _ (S.pls i hi) h
theorem Sim.nd (S : Sim T T' n d δ Dp Ra Rx) {i : Nat} (hi : i < n) (k : Int) {l l' : List X} (h : RL Rx l l') : Rx (Go.Proofs.Ytcicdapccondkaa.nd k (tkI T i) l) (Go.Proofs.Ytcicdapccondkaa.nd k (tkI T' (i + d)) l') := S.made _ _ _ _ _ _ _ (S.pls i hi) h
theorem Sim.nnd (S : Sim T T' n d δ Dp Ra Rx) {i : Nat} (hi : i < n) (k : Int) : Rx (Go.Proofs.Ytcicdapccondkaa.nnd k (tkI T i)) (Go.Proofs.Ytcicdapccondkaa.nnd k (tkI T' (i + d))) := by
  unfold Go.Proofs.Ytcicdapccondkaa.nnd
  rw [S.tok i hi]
  exact S.made _ _ _ _ _ _ _ (S.pls i hi) trivial
/-- A token that must stand there, stands there. -/
theorem Sim.need (S : Sim T T' n d δ Dp Ra Rx) {k : Int} (hk : k ≠ 0) {t : List UInt8} {i j : Nat} {x : Tt} (h : needP T k t i = some (.inr (x, j))) : i < n ∧ j = i + 1 ∧ x = tkI T i ∧ Out (fun _ u => u = tkI T' (i + d)) d Dp x j (needP T' k t (i + d)) := by
  unfold needP at h
  split at h
  · rename_i hb
    have hi := isT_lt hk hb
    rw [S.len] at hi
    obtain ⟨rfl, rfl⟩ := okR_eq h
    refine ⟨hi, rfl, rfl, ?_⟩
    unfold needP
    rw [S.isl hi, hb, if_pos rfl]
    exact Out.ok rfl (by omega)
  · cases h
theorem line_sim (S : Sim T T' n d δ Dp Ra Rx) {k : Int} {L : List (List UInt8)} (hk : k ≠ 0) (hm : (k, L) ∈ stopL) {p p' : Nat → Rz X} (hu : ∀ i x j, p i = some (.inr (x, j)) → i ≤ j) (hp : ∀ i x j, p i = some (.inr (x, j)) → j ≤ n → Out Rx d Dp x j (p' (i + d))) : ∀ (f : Nat) (x x' y : X) (i j : Nat), Rx x x' → lineP T k L p f x i = some (.inr (y, j)) → j ≤ n → Out Rx d Dp y j (lineP T' k L p' f x' (i + d))
  | 0, _, _, _, _, _, _, h, _ => by cases h
  | f + 1, x, x', y, i, j, hR, h, hj => by
    have hij := lineP_up hu (f + 1) x i j y h
    unfold lineP at h ⊢
    rw [S.is (by omega) hk hm]
    split at h
    · rename_i hb
      rw [if_pos hb]
      have hi := isT_lt hk hb
      rw [S.len] at hi
      obtain ⟨z, k1, h1, h2⟩ := bnd_ok h
      have u2 := lineP_up hu f _ _ _ _ h2
      rw [show i + d + 1 = i + 1 + d by omega]
      exact (hp _ _ _ h1 (by omega)).bnd fun z' hz => line_sim S hk hm hu hp f _ _ _ _ _ (S.tnd hi 8 (RL.two hR hz)) h2 hj
    · rename_i hb
      rw [if_neg hb]
      obtain ⟨rfl, rfl⟩ := okR_eq h
      exact Out.ok hR rfl
theorem pref_sim (S : Sim T T' n d δ Dp Ra Rx) {k : Int} {t : List UInt8} (hk : k ≠ 0) {p p' : Nat → Nat → Rz X} (hs : Stx p) (hp : ∀ i op x j, p i op = some (.inr (x, j)) → j ≤ n → Out Rx d Dp x j (p' (i + d) (op + δ))) : ∀ (f i op j : Nat) (x : X), prefP T k t p f i op = some (.inr (x, j)) → j ≤ n → Out Rx d Dp x j (prefP T' k t p' f (i + d) (op + δ))
  | 0, _, _, _, _, h, _ => by cases h
  | f + 1, i, op, j, x, h, hj => by
    have hij := pref_st hs (f + 1) i op j x h
    unfold prefP at h ⊢
    rw [S.isl (by omega)]
    split at h
    · rename_i hb
      rw [if_pos hb]
      split at h
      · cases h
      · rename_i ho
        obtain ⟨z, k1, h1, h2⟩ := bnd_ok h
        obtain ⟨rfl, rfl⟩ := okR_eq h2
        by_cases ho2 : op + δ = 100
        · rw [if_pos ho2]
          rcases S.dl with h0 | h0
          · omega
          · exact Or.inr ⟨h0, _, rfl⟩
        · rw [if_neg ho2, show i + d + 1 = i + 1 + d by omega, show op + δ + 1 = op + 1 + δ by omega]
          exact (pref_sim S hk hs hp f _ _ _ _ h1 hj).bnd fun z' hz => Out.ok (S.tnd (by omega) 7 (RL.one hz)) rfl
    · rename_i hb
      rw [if_neg hb]
      exact hp _ _ _ _ h hj
theorem listP_sim (S : Sim T T' n d δ Dp Ra Rx) {E E' : Nat → Rz X} (hu : ∀ i x j, E i = some (.inr (x, j)) → i ≤ j) (hp : ∀ i x j, E i = some (.inr (x, j)) → j ≤ n → Out Rx d Dp x j (E' (i + d))) : ∀ (f : Nat) (l l' m : List X) (i j : Nat), RL Rx l l' → listP T E f l i = some (.inr (m, j)) → j < n → Out (RL Rx) d Dp m j (listP T' E' f l' (i + d))
  | 0, _, _, _, _, _, _, h, _ => by cases h
  | f + 1, l, l', m, i, j, hR, h, hj => by
    have hij := (listP_ok hu (f + 1) l i j m h).1
    unfold listP at h ⊢
    rw [S.isl (by omega)]
    split at h
    · rename_i hb
      rw [if_pos hb]
      obtain ⟨z, k1, h1, h2⟩ := bnd_ok h
      have u2 := (listP_ok hu f _ _ _ _ h2).1
      rw [show i + d + 1 = i + 1 + d by omega]
      exact (hp _ _ _ h1 (by omega)).bnd fun z' hz => listP_sim S hu hp f _ _ _ _ _ (hR.app (RL.one hz)) h2 hj
    · rename_i hb
      rw [if_neg hb]
      obtain ⟨rfl, rfl⟩ := okR_eq h
      exact Out.ok hR rfl
theorem listE_sim (S : Sim T T' n d δ Dp Ra Rx) {E E' : Nat → Rz X} (hu : ∀ i x j, E i = some (.inr (x, j)) → i ≤ j) (hp : ∀ i x j, E i = some (.inr (x, j)) → j ≤ n → Out Rx d Dp x j (E' (i + d))) {f i j : Nat} {m : List X} (h : listE T E f i = some (.inr (m, j))) (hj : j < n) : Out (RL Rx) d Dp m j (listE T' E' f (i + d)) := by
  unfold listE at h ⊢
  obtain ⟨z, k1, h1, h2⟩ := bnd_ok h
  have u2 := (listP_ok hu f _ _ _ _ h2).1
  exact (hp _ _ _ h1 (by omega)).bnd fun z' hz => listP_sim S hu hp f _ _ _ _ _ (RL.one hz) h2 hj
theorem when_sim (S : Sim T T' n d δ Dp Ra Rx) {E E' : Nat → Rz X} (hu : ∀ i x j, E i = some (.inr (x, j)) → i ≤ j) (hp : ∀ i x j, E i = some (.inr (x, j)) → j ≤ n → Out Rx d Dp x j (E' (i + d))) {i j : Nat} {m : List X} (h : whenP T E i = some (.inr (m, j))) (hj : j ≤ n) : Out (RL Rx) d Dp m j (whenP T' E' (i + d)) := by
  unfold whenP at h ⊢
  obtain ⟨a1, k1, h1, h⟩ := bnd_ok h
  obtain ⟨a2, k2, h2, h⟩ := bnd_ok h
  obtain ⟨a3, k3, h3, h⟩ := bnd_ok h
  obtain ⟨a4, k4, h4, h⟩ := bnd_ok h
  obtain ⟨rfl, rfl⟩ := okR_eq h
  obtain ⟨b1, b2, b3, b4⟩ := S.need (by decide) h1
  obtain ⟨c1, c2, c3, c4⟩ := S.need (by decide) h3
  have u2 := hu _ _ _ h2
  have u4 := hu _ _ _ h4
  exact b4.bnd fun _ _ => (hp _ _ _ h2 (by omega)).bnd fun z hz => c4.bnd fun _ _ => (hp _ _ _ h4 hj).bnd fun y hy => Out.ok (RL.two hz hy) rfl
theorem whens_sim (S : Sim T T' n d δ Dp Ra Rx) {E E' : Nat → Rz X} (hu : ∀ i x j, E i = some (.inr (x, j)) → i ≤ j) (hp : ∀ i x j, E i = some (.inr (x, j)) → j ≤ n → Out Rx d Dp x j (E' (i + d))) : ∀ (f : Nat) (l l' m : List X) (i j : Nat), RL Rx l l' → whensP T E f l i = some (.inr (m, j)) → j < n → Out (RL Rx) d Dp m j (whensP T' E' f l' (i + d))
  | 0, _, _, _, _, _, _, h, _ => by cases h
  | f + 1, l, l', m, i, j, hR, h, hj => by
    have hij := whensP_up hu (f + 1) l i j m h
    unfold whensP at h ⊢
    rw [S.isl (by omega)]
    split at h
    · rename_i hb
      rw [if_pos hb]
      obtain ⟨z, k1, h1, h2⟩ := bnd_ok h
      have u2 := whensP_up hu f _ _ _ _ h2
      exact (when_sim S hu hp h1 (by omega)).bnd fun z' hz => whens_sim S hu hp f _ _ _ _ _ (hR.app hz) h2 hj
    · rename_i hb
      rw [if_neg hb]
      obtain ⟨rfl, rfl⟩ := okR_eq h
      exact Out.ok hR rfl
end
end
section
open Go.ChangeShapes Go.WideShapes Go.ChangeAt Go.RowKit
set_option linter.unusedSimpArgs false
set_option maxRecDepth 20000
set_option maxHeartbeats 4000000

section
variable {T T' : List Tt} {n d δ : Nat} {Dp : Prop} {Ra : Int → Int → Prop} {Rx : X → X → Prop} {E E' : Nat → Nat → Rz X}
theorem aggE_sim (S : Sim T T' n d δ Dp Ra Rx) (hp : ∀ i op x j, E i op = some (.inr (x, j)) → j ≤ n → Out Rx d Dp x j (E' (i + d) (op + δ))) {i j k op : Nat} {m : Int} {x : X} (hi : i < n) (h : aggE T (fun j => E j op) i m j = some (.inr (x, k))) (hk : k ≤ n) : Out Rx d Dp x k (aggE T' (fun j => E' j (op + δ)) (i + d) m (j + d)) := by
  unfold aggE at h ⊢
  obtain ⟨a1, k1, h1, h⟩ := bnd_ok h
  obtain ⟨a2, k2, h2, h⟩ := bnd_ok h
  obtain ⟨rfl, rfl⟩ := okR_eq h
  obtain ⟨b1, b2, b3, b4⟩ := S.need (by decide) h2
  refine (hp _ _ _ _ h1 (by omega)).bnd fun z hz => b4.bnd fun _ _ => Out.ok ?_ rfl
  rw [S.tok i hi]
  exact S.made _ _ _ _ _ _ _ (S.pls i hi) (RL.one hz)
theorem agg_sim (S : Sim T T' n d δ Dp Ra Rx) (hs : Stx E) (hp : ∀ i op x j, E i op = some (.inr (x, j)) → j ≤ n → Out Rx d Dp x j (E' (i + d) (op + δ))) {i j op : Nat} {x : X} (hi : i < n) (h : aggP T (fun j => E j op) i = some (.inr (x, j))) (hj : j ≤ n) : Out Rx d Dp x j (aggP T' (fun j => E' j (op + δ)) (i + d)) := by
  unfold aggP at h ⊢
  obtain ⟨a1, k1, h1, h⟩ := bnd_ok h
  obtain ⟨b1, b2, b3, b4⟩ := S.need (by decide) h1
  rw [show i + d + 1 = i + 1 + d by omega]
  refine b4.bnd fun _ _ => ?_
  rw [S.tok i hi]
  have hk1 : k1 < n := by
    split at h
    · rename_i hc
      have := isT_lt (by decide) hc.2
      have := S.len
      omega
    · split at h
      · rename_i hc
        have := isT_lt (by decide) hc
        have := S.len
        omega
      · unfold aggE at h
        obtain ⟨a2, k2, h2, h⟩ := bnd_ok h
        obtain ⟨a3, k3, h3, h⟩ := bnd_ok h
        have u1 := hs _ _ _ _ h2
        have u2 := (S.need (by decide) h3).1
        omega
  rw [S.isl hk1, S.isl hk1]
  split at h
  · rename_i hc
    rw [if_pos hc]
    obtain ⟨a2, k2, h2, h⟩ := bnd_ok h
    obtain ⟨rfl, rfl⟩ := okR_eq h
    obtain ⟨c1, c2, c3, c4⟩ := S.need (by decide) h2
    rw [show k1 + d + 1 = k1 + 1 + d by omega]
    exact c4.bnd fun _ _ => Out.ok (S.tnd hi 14 trivial) rfl
  · rename_i hc
    rw [if_neg hc]
    split at h
    · rename_i hc
      rw [if_pos hc, show k1 + d + 1 = k1 + 1 + d by omega]
      exact aggE_sim S hp hi h hj
    · rename_i hc
      rw [if_neg hc]
      exact aggE_sim S hp hi h hj
theorem choice_sim (S : Sim T T' n d δ Dp Ra Rx) (hU : Ups E) (hp : ∀ i op x j, E i op = some (.inr (x, j)) → j ≤ n → Out Rx d Dp x j (E' (i + d) (op + δ))) (f : Nat) {i j op : Nat} {x : X} (hi : i < n) (h : choiceP T (fun j => E j op) f i = some (.inr (x, j))) (hj : j ≤ n) : Out Rx d Dp x j (choiceP T' (fun j => E' j (op + δ)) f (i + d)) := by
  have hu : ∀ i x j, (fun j => E j op) i = some (.inr (x, j)) → i ≤ j := fun i x j => hU i op x j
  have hp' : ∀ i x j, (fun j => E j op) i = some (.inr (x, j)) → j ≤ n → Out Rx d Dp x j ((fun j => E' j (op + δ)) (i + d)) := fun i x j => hp i op x j
  unfold choiceP at h ⊢
  obtain ⟨l1, k1, h1, h⟩ := bnd_ok h
  obtain ⟨l2, k2, h2, h⟩ := bnd_ok h
  have hk2 : k2 < n := by
    split at h
    · rename_i hc
      have := isT_lt (by decide) hc
      have := S.len
      omega
    · obtain ⟨a3, k3, h3, h⟩ := bnd_ok h
      exact (S.need (by decide) h3).1
  have u2 := whensP_up hu f _ _ _ _ h2
  rw [show i + d + 1 = i + 1 + d by omega]
  refine (when_sim S hu hp' h1 (by omega)).bnd fun l1' hl1 => (whens_sim S hu hp' f _ _ _ _ _ hl1 h2 hk2).bnd fun l2' hl2 => ?_
  rw [S.isl hk2]
  split at h
  · rename_i hc
    rw [if_pos hc, show k2 + d + 1 = k2 + 1 + d by omega]
    obtain ⟨a3, k3, h3, h⟩ := bnd_ok h
    obtain ⟨a4, k4, h4, h⟩ := bnd_ok h
    obtain ⟨rfl, rfl⟩ := okR_eq h
    obtain ⟨c1, c2, c3, c4⟩ := S.need (by decide) h4
    exact (hp' _ _ _ h3 (by omega)).bnd fun z hz => c4.bnd fun _ _ => Out.ok (S.nd hi 12 (hl2.app (RL.one hz))) rfl
  · rename_i hc
    rw [if_neg hc]
    obtain ⟨a3, k3, h3, h⟩ := bnd_ok h
    obtain ⟨rfl, rfl⟩ := okR_eq h
    obtain ⟨c1, c2, c3, c4⟩ := S.need (by decide) h3
    exact c4.bnd fun t ht => Out.ok (by rw [ht, c3]; exact S.nd hi 12 (hl2.app (RL.one (S.nd hk2 1 trivial)))) rfl
theorem word_sim (S : Sim T T' n d δ Dp Ra Rx) (hU : Ups E) (hs : Stx E) (hp : ∀ i op x j, E i op = some (.inr (x, j)) → j ≤ n → Out Rx d Dp x j (E' (i + d) (op + δ))) (f : Nat) {i j op : Nat} {x : X} (hi : i < n) (h : wordP T (fun j => E j op) f i = some (.inr (x, j))) (hj : j ≤ n) : Out Rx d Dp x j (wordP T' (fun j => E' j (op + δ)) f (i + d)) := by
  unfold wordP at h ⊢
  rw [S.tok i hi]
  split at h
  · rename_i hc
    rw [if_pos hc]
    obtain ⟨rfl, rfl⟩ := okR_eq h
    exact Out.ok (S.nd hi 1 trivial) (by omega)
  rename_i hc; rw [if_neg hc]; clear hc
  split at h
  · rename_i hc
    rw [if_pos hc]
    obtain ⟨rfl, rfl⟩ := okR_eq h
    exact Out.ok (S.nd hi 2 trivial) (by omega)
  rename_i hc; rw [if_neg hc]; clear hc
  split at h
  · rename_i hc
    rw [if_pos hc]
    obtain ⟨rfl, rfl⟩ := okR_eq h
    exact Out.ok (S.made _ _ _ _ _ _ _ (S.pls i hi) trivial) (by omega)
  rename_i hc; rw [if_neg hc]; clear hc
  split at h
  · rename_i hc
    rw [if_pos hc]
    exact agg_sim S hs hp hi h hj
  rename_i hc; rw [if_neg hc]; clear hc
  split at h
  · rename_i hc
    rw [if_pos hc]
    exact choice_sim S hU hp f hi h hj
  · cases h
theorem named_sim (S : Sim T T' n d δ Dp Ra Rx) (hU : Ups E) (hp : ∀ i op x j, E i op = some (.inr (x, j)) → j ≤ n → Out Rx d Dp x j (E' (i + d) (op + δ))) (f : Nat) {i j op : Nat} {x : X} (hi : i < n) (h : namedP T (fun j => E j op) f i = some (.inr (x, j))) (hj : j ≤ n) : Out Rx d Dp x j (namedP T' (fun j => E' j (op + δ)) f (i + d)) := by
  have hu : ∀ i x j, (fun j => E j op) i = some (.inr (x, j)) → i ≤ j := fun i x j => hU i op x j
  have hp' : ∀ i x j, (fun j => E j op) i = some (.inr (x, j)) → j ≤ n → Out Rx d Dp x j ((fun j => E' j (op + δ)) (i + d)) := fun i x j => hp i op x j
  unfold namedP callP at h ⊢
  rw [show i + d + 1 = i + 1 + d by omega, show i + d + 2 = i + 2 + d by omega, S.is (i := i + 1) (by omega) (by decide) (by unfold stopL; decide), S.is (i := i + 1) (by omega) (by decide) (by unfold stopL; decide)]
  split at h
  · rename_i hc
    rw [if_pos hc]
    have hl := isT_lt (by decide) hc
    rw [S.len] at hl
    have hi2 : i + 2 < n := by
      split at h
      · rename_i hc2
        have := isT_lt (by decide) hc2
        have := S.len
        omega
      · obtain ⟨a3, k3, h3, h⟩ := bnd_ok h
        obtain ⟨a4, k4, h4, h⟩ := bnd_ok h
        have u1 := (listE_ok hu h3).1
        have u2 := (S.need (by decide) h4).1
        omega
    rw [S.isl hi2]
    split at h
    · rename_i hc2
      rw [if_pos hc2]
      obtain ⟨a3, k3, h3, h⟩ := bnd_ok h
      obtain ⟨rfl, rfl⟩ := okR_eq h
      obtain ⟨c1, c2, c3, c4⟩ := S.need (by decide) h3
      exact c4.bnd fun _ _ => Out.ok (S.tnd hi 13 trivial) rfl
    · rename_i hc2
      rw [if_neg hc2]
      obtain ⟨a3, k3, h3, h⟩ := bnd_ok h
      obtain ⟨a4, k4, h4, h⟩ := bnd_ok h
      obtain ⟨rfl, rfl⟩ := okR_eq h
      obtain ⟨c1, c2, c3, c4⟩ := S.need (by decide) h4
      exact (listE_sim S hu hp' h3 c1).bnd fun l hl => c4.bnd fun _ _ => Out.ok (S.tnd hi 13 hl) rfl
  · rename_i hc
    rw [if_neg hc]
    have hki : isT (tkI T (i + 1)) 6 [[46]] = true → ((tkI T' (i + 2 + d)).1.1 = 1 ↔ (tkI T (i + 2)).1.1 = 1) := fun hd => by
      have hl := isT_lt (by decide) hd
      rw [S.len] at hl
      rcases Nat.lt_or_ge (i + 2) n with hlt | hge
      · rw [S.tok _ hlt]
      · have e : i + 2 = n := by omega
        rw [e]
        constructor
        · intro h1; exact absurd h1 S.nm
        · intro h1
          rw [tkI_end (by have := S.len; omega)] at h1
          exact absurd h1 (by decide)
    split at h
    · rename_i hc2
      rw [if_pos ⟨hc2.1, (hki hc2.1).2 hc2.2⟩]
      obtain ⟨rfl, rfl⟩ := okR_eq h
      have hl : i + 2 < T.length := tk_lt (fun e => by have h2 := hc2.2; rw [e] at h2; exact absurd h2 (by decide))
      rw [S.len] at hl
      refine Out.ok ?_ (by omega)
      rw [S.tok _ hl]
      exact S.made _ _ _ _ _ _ _ (S.pls i hi) (RL.one (S.tnd hi 15 trivial))
    · rename_i hc2
      rw [if_neg (fun hx => hc2 ⟨hx.1, (hki hx.1).1 hx.2⟩)]
      obtain ⟨rfl, rfl⟩ := okR_eq h
      exact Out.ok (S.tnd hi 6 trivial) (by omega)
theorem prim_sim (S : Sim T T' n d δ Dp Ra Rx) (hU : Ups E) (hs : Stx E) (hp : ∀ i op x j, E i op = some (.inr (x, j)) → j ≤ n → Out Rx d Dp x j (E' (i + d) (op + δ))) (f : Nat) (i op : Nat) (x : X) (j : Nat) (h : primP T E f i op = some (.inr (x, j))) (hj : j ≤ n) : Out Rx d Dp x j (primP T' E' f (i + d) (op + δ)) := by
  have hi : i < n := by have := prim_st hU f i op x j h; omega
  unfold primP at h ⊢
  rw [S.tok i hi]
  split at h
  · rename_i hc
    rw [if_pos hc]
    obtain ⟨rfl, rfl⟩ := okR_eq h
    exact Out.ok (S.nnd hi 3) (by omega)
  rename_i hc; rw [if_neg hc]; clear hc
  split at h
  · rename_i hc
    rw [if_pos hc]
    obtain ⟨rfl, rfl⟩ := okR_eq h
    exact Out.ok (S.nnd hi 4) (by omega)
  rename_i hc; rw [if_neg hc]; clear hc
  split at h
  · rename_i hc
    rw [if_pos hc]
    obtain ⟨rfl, rfl⟩ := okR_eq h
    exact Out.ok (S.tnd hi 5 trivial) (by omega)
  rename_i hc; rw [if_neg hc]; clear hc
  split at h
  · rename_i hc
    rw [if_pos hc]
    exact named_sim S hU hp f hi h hj
  rename_i hc; rw [if_neg hc]; clear hc
  split at h
  · rename_i hc
    rw [if_pos hc]
    exact word_sim S hU hs hp f hi h hj
  rename_i hc; rw [if_neg hc]; clear hc
  split at h
  · rename_i hc
    rw [if_pos hc]
    unfold brackP at h ⊢
    obtain ⟨a1, k1, h1, h⟩ := bnd_ok h
    obtain ⟨a2, k2, h2, h⟩ := bnd_ok h
    obtain ⟨a3, k3, h3, h⟩ := bnd_ok h
    obtain ⟨rfl, rfl⟩ := okR_eq h
    obtain ⟨b1, b2, b3, b4⟩ := S.need (by decide) h1
    obtain ⟨c1, c2, c3, c4⟩ := S.need (by decide) h3
    exact b4.bnd fun _ _ => (hp _ _ _ _ h2 (by omega)).bnd fun z hz => c4.bnd fun _ _ => Out.ok hz rfl
  · cases h
theorem minus_sim (S : Sim T T' n d δ Dp Ra Rx) (hU : Ups E) (hs : Stx E) (hp : ∀ i op x j, E i op = some (.inr (x, j)) → j ≤ n → Out Rx d Dp x j (E' (i + d) (op + δ))) (f i op : Nat) (x : X) (j : Nat) (h : minusP T E f i op = some (.inr (x, j))) (hj : j ≤ n) : Out Rx d Dp x j (minusP T' E' f (i + d) (op + δ)) :=
  pref_sim S (by decide) (prim_st hU f) (fun i op x j h hj => prim_sim S hU hs hp f i op x j h hj) f i op j x h hj
theorem lines_sim (S : Sim T T' n d δ Dp Ra Rx) {k : Int} {L : List (List UInt8)} (hk : k ≠ 0) (hm : (k, L) ∈ stopL) {p p' : Nat → Nat → Rz X} (hu : Ups p) (hq : ∀ i op x j, p i op = some (.inr (x, j)) → j ≤ n → Out Rx d Dp x j (p' (i + d) (op + δ))) (f i op : Nat) (x : X) (j : Nat) (h : bnd (p i op) (lineP T k L (fun j => p j op) f) = some (.inr (x, j))) (hj : j ≤ n) : Out Rx d Dp x j (bnd (p' (i + d) (op + δ)) (lineP T' k L (fun j => p' j (op + δ)) f)) := by
  obtain ⟨y, k1, h1, h2⟩ := bnd_ok h
  have u := lineP_up (fun i x j => hu i op x j) f _ _ _ _ h2
  exact (hq _ _ _ _ h1 (by omega)).bnd fun y' hy => line_sim S hk hm (fun i x j => hu i op x j) (fun i x j => hq i op x j) f _ _ _ _ _ hy h2 hj
theorem prod_sim (S : Sim T T' n d δ Dp Ra Rx) (hU : Ups E) (hs : Stx E) (hp : ∀ i op x j, E i op = some (.inr (x, j)) → j ≤ n → Out Rx d Dp x j (E' (i + d) (op + δ))) (f i op : Nat) (x : X) (j : Nat) (h : prodP T E f i op = some (.inr (x, j))) (hj : j ≤ n) : Out Rx d Dp x j (prodP T' E' f (i + d) (op + δ)) :=
  lines_sim S (by decide) (by unfold stopL; decide) (minusP_up hU f) (minus_sim S hU hs hp f) f i op x j h hj
theorem sum_sim (S : Sim T T' n d δ Dp Ra Rx) (hU : Ups E) (hs : Stx E) (hp : ∀ i op x j, E i op = some (.inr (x, j)) → j ≤ n → Out Rx d Dp x j (E' (i + d) (op + δ))) (f i op : Nat) (x : X) (j : Nat) (h : sumP T E f i op = some (.inr (x, j))) (hj : j ≤ n) : Out Rx d Dp x j (sumP T' E' f (i + d) (op + δ)) :=
  lines_sim S (by decide) (by unfold stopL; decide) (prodP_up hU f) (prod_sim S hU hs hp f) f i op x j h hj
theorem isN_sim (S : Sim T T' n d δ Dp Ra Rx) {x x' y : X} {i j : Nat} (hR : Rx x x') (hi : i < n) (h : isNP T x i = some (.inr (y, j))) : Out Rx d Dp y j (isNP T' x' (i + d)) := by
  have hi1 : i + 1 < n := by
    unfold isNP at h
    split at h
    · rename_i hc
      have := isT_lt (by decide) hc
      have := S.len
      omega
    · obtain ⟨a1, k1, h1, h⟩ := bnd_ok h
      exact (S.need (by decide) h1).1
  unfold isNP at h ⊢
  rw [show i + d + 1 = i + 1 + d by omega, show i + d + 2 = i + 2 + d by omega, S.isl hi1]
  split at h
  · rename_i hc
    rw [if_pos hc]
    obtain ⟨a1, k1, h1, h⟩ := bnd_ok h
    obtain ⟨rfl, rfl⟩ := okR_eq h
    obtain ⟨b1, b2, b3, b4⟩ := S.need (by decide) h1
    exact b4.bnd fun _ _ => Out.ok (S.made _ _ _ _ _ _ _ (S.pls i hi) (RL.one hR)) rfl
  · rename_i hc
    rw [if_neg hc]
    obtain ⟨a1, k1, h1, h⟩ := bnd_ok h
    obtain ⟨rfl, rfl⟩ := okR_eq h
    obtain ⟨b1, b2, b3, b4⟩ := S.need (by decide) h1
    exact b4.bnd fun _ _ => Out.ok (S.nd hi 9 (RL.one hR)) rfl
theorem bet_sim (S : Sim T T' n d δ Dp Ra Rx) {G G' : Nat → Rz X} (hG : ∀ i x j, G i = some (.inr (x, j)) → j ≤ n → Out Rx d Dp x j (G' (i + d))) {x x' y : X} {i j : Nat} (hR : Rx x x') (hi : i < n) (h : betP T G x i = some (.inr (y, j))) (hj : j ≤ n) : Out Rx d Dp y j (betP T' G' x' (i + d)) := by
  unfold betP at h ⊢
  obtain ⟨a1, k1, h1, h⟩ := bnd_ok h
  obtain ⟨a2, k2, h2, h⟩ := bnd_ok h
  obtain ⟨a3, k3, h3, h⟩ := bnd_ok h
  obtain ⟨rfl, rfl⟩ := okR_eq h
  obtain ⟨b1, b2, b3, b4⟩ := S.need (by decide) h2
  rw [show i + d + 1 = i + 1 + d by omega]
  exact (hG _ _ _ h1 (by omega)).bnd fun z hz => b4.bnd fun _ _ => (hG _ _ _ h3 hj).bnd fun y hy => Out.ok (S.nd hi 10 (RL.three hR hz hy)) rfl
theorem in_sim (S : Sim T T' n d δ Dp Ra Rx) {G G' : Nat → Rz X} (hu : ∀ i x j, G i = some (.inr (x, j)) → i ≤ j) (hG : ∀ i x j, G i = some (.inr (x, j)) → j ≤ n → Out Rx d Dp x j (G' (i + d))) {f : Nat} {x x' y : X} {i j : Nat} (hR : Rx x x') (hi : i < n) (h : inP T G f x i = some (.inr (y, j))) : Out Rx d Dp y j (inP T' G' f x' (i + d)) := by
  unfold inP at h ⊢
  obtain ⟨a1, k1, h1, h⟩ := bnd_ok h
  obtain ⟨a2, k2, h2, h⟩ := bnd_ok h
  obtain ⟨a3, k3, h3, h⟩ := bnd_ok h
  obtain ⟨rfl, rfl⟩ := okR_eq h
  obtain ⟨b1, b2, b3, b4⟩ := S.need (by decide) h1
  obtain ⟨c1, c2, c3, c4⟩ := S.need (by decide) h3
  rw [show i + d + 1 = i + 1 + d by omega]
  exact b4.bnd fun _ _ => (listE_sim S hu hG h2 c1).bnd fun l hl => c4.bnd fun _ _ => Out.ok (S.nd hi 11 ⟨hR, hl⟩) rfl
theorem test_sim (S : Sim T T' n d δ Dp Ra Rx) (hU : Ups E) (hs : Stx E) (hp : ∀ i op x j, E i op = some (.inr (x, j)) → j ≤ n → Out Rx d Dp x j (E' (i + d) (op + δ))) (f i op : Nat) (x : X) (j : Nat) (h : testP T E f i op = some (.inr (x, j))) (hj : j ≤ n) : Out Rx d Dp x j (testP T' E' f (i + d) (op + δ)) := by
  have hu : ∀ i x j, (fun j => E j op) i = some (.inr (x, j)) → i ≤ j := fun i x j => hU i op x j
  have hp' : ∀ i x j, (fun j => E j op) i = some (.inr (x, j)) → j ≤ n → Out Rx d Dp x j ((fun j => E' j (op + δ)) (i + d)) := fun i x j => hp i op x j
  have hS : ∀ i x j, (fun k => sumP T E f k op) i = some (.inr (x, j)) → j ≤ n → Out Rx d Dp x j ((fun k => sumP T' E' f k (op + δ)) (i + d)) := fun i x j => sum_sim S hU hs hp f i op x j
  have hSu : ∀ i x j, (fun k => sumP T E f k op) i = some (.inr (x, j)) → i ≤ j := fun i x j => sumP_up hU f i op x j
  unfold testP at h ⊢
  obtain ⟨a, k, h1, h⟩ := bnd_ok h
  have hlt : ∀ {i : Nat} {L : List (List UInt8)} {q : Int}, q ≠ 0 → isT (tkI T i) q L = true → i < n := fun hq hb => by have := isT_lt hq hb; have := S.len; omega
  have hk : k ≤ n := by
    split at h
    · have := hlt (q := 6) (by decide) (by assumption); omega
    split at h
    · have := hlt (q := 2) (by decide) (by assumption); omega
    split at h
    · have := hlt (q := 2) (by decide) (by assumption); omega
    split at h
    · have := hlt (q := 2) (by decide) (by assumption); omega
    split at h
    · have := hlt (q := 2) (by decide) (by assumption); omega
    · have := okR_ok h; omega
  refine (sum_sim S hU hs hp f _ _ _ _ h1 hk).bnd fun a' ha => ?_
  rw [S.is hk (by decide) (show (6, cmpL) ∈ stopL by unfold stopL cmpL; decide), S.is hk (by decide) (by unfold stopL; decide), S.is hk (by decide) (by unfold stopL; decide), S.is hk (by decide) (by unfold stopL; decide), S.is hk (by decide) (by unfold stopL; decide)]
  split at h
  · rename_i hc
    rw [if_pos hc]
    have hkn := hlt (by decide) hc
    obtain ⟨a1, k1, h2, h⟩ := bnd_ok h
    obtain ⟨rfl, rfl⟩ := okR_eq h
    rw [show k + d + 1 = k + 1 + d by omega]
    exact (sum_sim S hU hs hp f _ _ _ _ h2 hj).bnd fun z hz => Out.ok (S.tnd hkn 8 (RL.two ha hz)) rfl
  rename_i hc; rw [if_neg hc]; clear hc
  split at h
  · rename_i hc
    rw [if_pos hc]
    exact isN_sim S ha (hlt (by decide) hc) h
  rename_i hc; rw [if_neg hc]; clear hc
  split at h
  · rename_i hc
    rw [if_pos hc]
    exact bet_sim S hS ha (hlt (by decide) hc) h hj
  rename_i hc; rw [if_neg hc]; clear hc
  split at h
  · rename_i hc
    rw [if_pos hc]
    exact in_sim S hu hp' ha (hlt (by decide) hc) h
  rename_i hc; rw [if_neg hc]; clear hc
  split at h
  · rename_i hc
    rw [if_pos hc]
    have hkn := hlt (by decide) hc
    rw [show k + d + 1 = k + 1 + d by omega, S.is (i := k + 1) (by omega) (by decide) (by unfold stopL; decide), S.is (i := k + 1) (by omega) (by decide) (by unfold stopL; decide)]
    split at h
    · rename_i hc2
      rw [if_pos hc2]
      obtain ⟨a1, k1, h2, h⟩ := bnd_ok h
      obtain ⟨rfl, rfl⟩ := okR_eq h
      exact (bet_sim S hS ha (hlt (by decide) hc2) h2 hj).bnd fun z hz => Out.ok (S.tnd hkn 7 (RL.one hz)) rfl
    rename_i hc2; rw [if_neg hc2]; clear hc2
    split at h
    · rename_i hc2
      rw [if_pos hc2]
      obtain ⟨a1, k1, h2, h⟩ := bnd_ok h
      obtain ⟨rfl, rfl⟩ := okR_eq h
      exact (in_sim S hu hp' ha (hlt (by decide) hc2) h2).bnd fun z hz => Out.ok (S.tnd hkn 7 (RL.one hz)) rfl
    · rename_i hc2
      rw [if_neg hc2]
      obtain ⟨rfl, rfl⟩ := okR_eq h
      exact Out.ok ha rfl
  · rename_i hc
    rw [if_neg hc]
    obtain ⟨rfl, rfl⟩ := okR_eq h
    exact Out.ok ha rfl
theorem not_sim (S : Sim T T' n d δ Dp Ra Rx) (hU : Ups E) (hs : Stx E) (hp : ∀ i op x j, E i op = some (.inr (x, j)) → j ≤ n → Out Rx d Dp x j (E' (i + d) (op + δ))) (f i op : Nat) (x : X) (j : Nat) (h : notP T E f i op = some (.inr (x, j))) (hj : j ≤ n) : Out Rx d Dp x j (notP T' E' f (i + d) (op + δ)) :=
  pref_sim S (by decide) (test_st hU f) (fun i op x j h hj => test_sim S hU hs hp f i op x j h hj) f i op j x h hj
theorem and_sim (S : Sim T T' n d δ Dp Ra Rx) (hU : Ups E) (hs : Stx E) (hp : ∀ i op x j, E i op = some (.inr (x, j)) → j ≤ n → Out Rx d Dp x j (E' (i + d) (op + δ))) (f i op : Nat) (x : X) (j : Nat) (h : andP T E f i op = some (.inr (x, j))) (hj : j ≤ n) : Out Rx d Dp x j (andP T' E' f (i + d) (op + δ)) :=
  lines_sim S (by decide) (by unfold stopL; decide) (notP_up hU f) (not_sim S hU hs hp f) f i op x j h hj
theorem or_sim (S : Sim T T' n d δ Dp Ra Rx) (hU : Ups E) (hs : Stx E) (hp : ∀ i op x j, E i op = some (.inr (x, j)) → j ≤ n → Out Rx d Dp x j (E' (i + d) (op + δ))) (f i op : Nat) (x : X) (j : Nat) (h : orP T E f i op = some (.inr (x, j))) (hj : j ≤ n) : Out Rx d Dp x j (orP T' E' f (i + d) (op + δ)) :=
  lines_sim S (by decide) (by unfold stopL; decide) (andP_up hU f) (and_sim S hU hs hp f) f i op x j h hj
end
/-- What is read of T is read of T', moved, unless that is too deep there. -/
theorem exP_sim {T T' : List Tt} {n d δ : Nat} {Dp : Prop} {Ra : Int → Int → Prop} {Rx : X → X → Prop} (S : Sim T T' n d δ Dp Ra Rx) : ∀ (f i op : Nat) (x : X) (j : Nat), exP T f i op = some (.inr (x, j)) → j ≤ n → Out Rx d Dp x j (exP T' f (i + d) (op + δ))
  | 0, _, _, _, _, h, _ => by cases h
  | f + 1, i, op, x, j, h, hj => by
    unfold exP at h ⊢
    split at h
    · cases h
    · rename_i ho
      by_cases ho2 : op + δ = 100
      · rw [if_pos ho2]
        rcases S.dl with h0 | h0
        · omega
        · exact Or.inr ⟨h0, _, rfl⟩
      · rw [if_neg ho2, show op + δ + 1 = op + 1 + δ by omega]
        exact or_sim S (exP_up T f) (exP_st T f) (exP_sim S f) f i (op + 1) x j h hj
end
section
open Go.ChangeShapes Go.WideShapes Go.ChangeAt Go.RowKit
set_option linter.unusedSimpArgs false
set_option maxRecDepth 20000
set_option maxHeartbeats 4000000

theorem RL_eq : ∀ {l l' : List X}, RL (fun x y => x = y) l l' → l = l'
  | [], [], _ => rfl
  | _ :: _, _ :: _, h => by rw [h.1, RL_eq h.2]
  | [], _ :: _, h => h.elim
  | _ :: _, [], h => h.elim
theorem tkI_app {T M : List Tt} {i : Nat} (h : i < T.length) : tkI (T ++ M) i = tkI T i := by
  unfold tkI
  rw [List.getElem?_append_left h]
theorem tkI_mid {T M : List Tt} {t : Tt} : tkI (T ++ t :: M) T.length = t := by
  unfold tkI
  rw [List.getElem?_append_right (Nat.le_refl _)]
  simp
/-- A token that goes on with nothing. -/
def Stp (t : Tt) : Prop := (∀ p ∈ stopL, isT t p.1 p.2 = false) ∧ t.1.1 ≠ 1
/-- What stands behind an expression plays no part for it. -/
theorem tail_pure (T M : List Tt) (t : Tt) (hs : Stp t) (f : Nat) (x : X) (h : exP T f 0 0 = some (.inr (x, T.length))) : exP (T ++ t :: M) f 0 0 = some (.inr (x, T.length)) := by
  have S : Sim T (T ++ t :: M) T.length 0 0 False (fun a b => a = b) (fun x y => x = y) :=
    { len := rfl, tok := fun i hi => by rw [Nat.add_zero, tkI_app hi], pls := fun i hi => by rw [Nat.add_zero, tkI_app hi], stop := fun p hp => by rw [Nat.add_zero, tkI_mid]; exact hs.1 p hp, nm := by rw [Nat.add_zero, tkI_mid]; exact hs.2, made := fun k t m a a' l l' ha hl => by rw [ha, RL_eq hl], dl := Or.inl rfl }
  rcases exP_sim S f 0 0 x T.length h (Nat.le_refl _) with ⟨x', e, hx⟩ | ⟨hD, _⟩
  · have hx : x = x' := hx
    rw [hx]
    exact e
  · exact hD.elim
/-- A tree that ends where the tokens do, read where no sign stands ahead. -/
theorem or_of_prim {T : List Tt} {E : Nat → Nat → Rz X} {f i op : Nat} {r : Sum Er (X × Nat)} (h1 : isT (tkI T i) 6 [[45]] = false) (h2 : isT (tkI T i) 2 [[110, 111, 116]] = false) (h : primP T E (f + 1) i op = some r) (hr : ∀ x j, r = .inr (x, j) → T.length ≤ j) : orP T E (f + 1) i op = some r := by
  have hm : minusP T E (f + 1) i op = some r := by
    unfold minusP prefP
    rw [h1]
    exact h
  have hl : ∀ (k : Int) (L : List (List UInt8)) (p : Nat → Rz X), k ≠ 0 → bnd (some r) (lineP T k L p (f + 1)) = some r := fun k L p hk => by
    cases r with
    | inl q => rfl
    | inr q =>
      obtain ⟨x, j⟩ := q
      show lineP T k L p (f + 1) x j = _
      unfold lineP
      rw [isT_end hk L (hr x j rfl)]
      rfl
  have hp : prodP T E (f + 1) i op = some r := by
    unfold prodP
    rw [hm]
    exact hl _ _ _ (by decide)
  have hsu : sumP T E (f + 1) i op = some r := by
    unfold sumP
    rw [hp]
    exact hl _ _ _ (by decide)
  have ht : testP T E (f + 1) i op = some r := by
    unfold testP
    rw [hsu]
    cases r with
    | inl q => rfl
    | inr q =>
      obtain ⟨x, j⟩ := q
      have he := hr x j rfl
      show (if isT (tkI T j) 6 cmpL = true then _ else _) = _
      rw [isT_end (by decide) _ he, isT_end (by decide) _ he, isT_end (by decide) _ he, isT_end (by decide) _ he, isT_end (by decide) _ he]
      rfl
  have hno : notP T E (f + 1) i op = some r := by
    unfold notP prefP
    rw [h2]
    exact ht
  have ha : andP T E (f + 1) i op = some r := by
    unfold andP
    rw [hno]
    exact hl _ _ _ (by decide)
  unfold orP
  rw [ha]
  exact hl _ _ _ (by decide)
/-- Brackets around an expression change nothing but the places, if it is not too deep. -/
theorem brackets_pure (T T2 : List Tt) (t1 t3 : Tt) (hl : T2.length = T.length) (hT : ∀ i, i < T.length → (tkI T2 i).1 = (tkI T i).1) (h1 : t1.1.1 = 6 ∧ t1.1.2.1 = [40]) (h3 : t3.1.1 = 6 ∧ t3.1.2.1 = [41]) (Rx : X → X → Prop) (hm : ∀ k t m a a' l l', RL Rx l l' → Rx (mkX k t m a l) (mkX k t m a' l')) (f : Nat) (x : X) (h : exP T (f + 1) 0 0 = some (.inr (x, T.length))) :
    (∃ x', exP (t1 :: (T2 ++ [t3])) (f + 2) 0 0 = some (.inr (x', T.length + 2)) ∧ Rx x x') ∨ ∃ p, exP (t1 :: (T2 ++ [t3])) (f + 2) 0 0 = some (.inl (p, 71)) := by
  have e0 : tkI (t1 :: (T2 ++ [t3])) 0 = t1 := rfl
  have es : ∀ i, tkI (t1 :: (T2 ++ [t3])) (i + 1) = tkI (T2 ++ [t3]) i := fun i => rfl
  have e3 : tkI (t1 :: (T2 ++ [t3])) (T.length + 1) = t3 := by rw [es, ← hl, tkI_mid]
  have hlen : (t1 :: (T2 ++ [t3])).length = T.length + 2 := by simp [hl]
  have i1 : ∀ k L, isT t1 k L = (decide (6 = k) && inF L [40]) := fun k L => by unfold isT; rw [h1.1, h1.2]
  have i3 : ∀ k L, isT t3 k L = (decide (6 = k) && inF L [41]) := fun k L => by unfold isT; rw [h3.1, h3.2]
  have S : Sim T (t1 :: (T2 ++ [t3])) T.length 1 1 True (fun _ _ => True) Rx :=
    { len := rfl, tok := fun i hi => by rw [es, tkI_app (by omega)]; exact hT i hi, pls := fun _ _ => trivial, stop := fun p hp => by rw [e3, i3]; revert p; unfold stopL; decide, nm := by rw [e3, h3.1]; decide, made := fun k t m a a' l l' _ hl => hm k t m a a' l l' hl, dl := Or.inr trivial }
  have key : ∀ r, brackP (t1 :: (T2 ++ [t3])) (fun j => exP (t1 :: (T2 ++ [t3])) (f + 1) j 1) 0 = some r → (∀ y j, r = .inr (y, j) → T.length + 2 ≤ j) → exP (t1 :: (T2 ++ [t3])) (f + 2) 0 0 = some r := fun r hb hr => by
    show (if (0 : Nat) = 100 then _ else orP _ _ (f + 1) 0 1) = _
    rw [if_neg (by decide)]
    refine or_of_prim (by rw [e0, i1]; decide) (by rw [e0, i1]; decide) ?_ (fun y j hy => by rw [hlen]; exact hr y j hy)
    unfold primP
    rw [e0, h1.1]
    exact hb
  have hb0 : needP (t1 :: (T2 ++ [t3])) 6 [40] 0 = okR t1 1 := by
    unfold needP
    rw [e0, i1]
    rfl
  rcases exP_sim S (f + 1) 0 0 x T.length h (Nat.le_refl _) with ⟨x', e, hx⟩ | ⟨_, p, e⟩
  · refine Or.inl ⟨x', key _ ?_ (fun y j hy => by cases hy; exact Nat.le_refl _), hx⟩
    unfold brackP
    rw [hb0]
    show bnd (exP _ (f + 1) (0 + 1) (0 + 1)) _ = _
    rw [e]
    show bnd (needP _ 6 [41] (T.length + 1)) _ = _
    unfold needP
    rw [e3, i3]
    rfl
  · refine Or.inr ⟨p, key _ ?_ (fun y j hy => by cases hy)⟩
    unfold brackP
    rw [hb0]
    show bnd (exP _ (f + 1) (0 + 1) (0 + 1)) _ = _
    rw [e]
    rfl
end
end Go.Proofs.Ytcicdapccondkaa
