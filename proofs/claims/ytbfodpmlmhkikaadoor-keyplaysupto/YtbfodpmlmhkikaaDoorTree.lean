/- What a map of package key keeps: the places of beginnings, and how many rows go through each. -/
import Derived.Test.YtbfodpmlmhkikaaDoorRem
import Derived.Test.YtbfodpmlmhkikaaDoorRws
namespace Go.Proofs.YtbfodpmlmhkikaaDoor

section
variable {α β : Type}
/-- No key stands twice. -/
def KN (L : List (α × β)) : Prop := (L.map (·.1)).Nodup
variable [DecidableEq α] {L : List (α × β)} {k k' : α} {v : β}
theorem lk_nil (k : α) : lk ([] : List (α × β)) k = none := rfl
theorem lk_none_iff : lk L k = none ↔ k ∉ L.map (·.1) := by
  induction L with
  | nil => simp [lk_nil]
  | cons x L ih =>
    rw [lk_cons]
    by_cases h : x.1 = k
    · subst h; simp
    · rw [if_neg h, ih]
      have h' : ¬ k = x.1 := fun e => h e.symm
      simp [h']
theorem lk_up : lk (up L k v) k' = if k = k' then some v else lk L k' := by
  induction L with
  | nil => simp only [up, lk_cons, lk_nil]
  | cons x L ih =>
    by_cases h : x.1 = k
    · simp only [up, if_pos h, lk_cons]
      by_cases e : k = k'
      · rw [if_pos e, if_pos e]
      · rw [if_neg e, if_neg e, if_neg (by rw [h]; exact e)]
    · simp only [up, if_neg h, lk_cons, ih]
      by_cases e : x.1 = k'
      · rw [if_pos e, if_neg (fun e2 => h (e.trans e2.symm))]; rw [if_pos e]
      · rw [if_neg e, if_neg e]
theorem keys_up : (up L k v).map (·.1) = if k ∈ L.map (·.1) then L.map (·.1) else L.map (·.1) ++ [k] := by
  induction L with
  | nil => simp [up]
  | cons x L ih =>
    by_cases h : x.1 = k
    · subst h; simp [up]
    · have h' : ¬ k = x.1 := fun e => h e.symm
      simp only [up, if_neg h, List.map_cons, ih, List.mem_cons, h', false_or]
      split <;> simp
theorem kn_up (h : KN L) : KN (up L k v) := by
  unfold KN at h ⊢
  rw [keys_up]
  split
  · exact h
  · rename_i hk
    rw [List.nodup_append]
    refine ⟨h, by simp, fun a ha b hb => ?_⟩
    simp only [List.mem_singleton] at hb
    subst hb
    intro e; exact hk (e ▸ ha)
theorem keys_rm_sub : (rm L k).map (·.1) |>.Sublist (L.map (·.1)) := by
  induction L with
  | nil => simp [rm]
  | cons x L ih =>
    by_cases h : x.1 = k
    · simp only [rm, if_pos h, List.map_cons]; exact List.sublist_cons_self _ _
    · simp only [rm, if_neg h, List.map_cons]; exact ih.cons_cons _
theorem rm_sub : (rm L k).Sublist L := by
  induction L with
  | nil => simp [rm]
  | cons x L ih =>
    by_cases h : x.1 = k
    · simp only [rm, if_pos h]; exact List.sublist_cons_self _ _
    · simp only [rm, if_neg h]; exact ih.cons_cons _
theorem kn_rm (h : KN L) : KN (rm L k) := List.Nodup.sublist keys_rm_sub h
theorem lk_rm (h : KN L) : lk (rm L k) k' = if k = k' then none else lk L k' := by
  induction L with
  | nil => simp [rm, lk_nil]
  | cons x L ih =>
    have hc : x.1 ∉ L.map (·.1) ∧ (L.map (·.1)).Nodup := by unfold KN at h; simpa using h
    by_cases e : x.1 = k
    · simp only [rm, if_pos e, lk_cons]
      by_cases e2 : k = k'
      · rw [if_pos e2, lk_none_iff, ← e2, ← e]; exact hc.1
      · rw [if_neg e2, if_neg (by rw [e]; exact e2)]
    · simp only [rm, if_neg e, lk_cons, ih hc.2]
      by_cases e2 : x.1 = k'
      · rw [if_pos e2, if_neg (fun e3 => e (e2.trans e3.symm))]; rw [if_pos e2]
      · rw [if_neg e2, if_neg e2]
theorem up_app (h : lk L k = none) : up L k v = L ++ [(k, v)] := by
  induction L with
  | nil => rfl
  | cons x L ih =>
    rw [lk_cons] at h
    by_cases e : x.1 = k
    · rw [if_pos e] at h; cases h
    · rw [if_neg e] at h
      simp only [up, if_neg e, ih h, List.cons_append]
theorem lk_of_mem (h : KN L) (hm : (k, v) ∈ L) : lk L k = some v := by
  induction L with
  | nil => cases hm
  | cons x L ih =>
    have hc : x.1 ∉ L.map (·.1) ∧ (L.map (·.1)).Nodup := by unfold KN at h; simpa using h
    rw [lk_cons]
    rcases List.mem_cons.1 hm with e | e
    · subst e; simp
    · rw [if_neg (fun e2 => hc.1 (by rw [e2]; exact List.mem_map_of_mem (f := (·.1)) e))]
      exact ih hc.2 e
end

/-- How often a row, from q on, comes by q'. -/
def inc : List Val → List Val → List Val → Nat
  | _, [], _ => 0
  | q, v :: r, q' => (if q' = q ++ [v] then 1 else 0) + inc (q ++ [v]) r q'
theorem inc_pos {r q q' : List Val} (h : 0 < inc q r q') : ∃ s, s ≠ [] ∧ s <+: r ∧ q' = q ++ s := by
  induction r generalizing q with
  | nil => simp [inc] at h
  | cons v r ih =>
    by_cases e : q' = q ++ [v]
    · exact ⟨[v], by simp, by simp, e⟩
    · rw [inc, if_neg e, Nat.zero_add] at h
      obtain ⟨s, h1, h2, h3⟩ := ih h
      exact ⟨v :: s, by simp, by simpa using h2, by rw [h3]; simp⟩
theorem inc_zero {r q q' : List Val} (h : q'.length ≤ q.length) : inc q r q' = 0 := by
  rcases Nat.eq_zero_or_pos (inc q r q') with e | e
  · exact e
  · obtain ⟨s, h1, _, h3⟩ := inc_pos e
    have : 0 < s.length := List.length_pos_iff.2 h1
    rw [h3, List.length_append] at h; omega
theorem inc_one {r q q' : List Val} : inc q r q' ≤ 1 := by
  induction r generalizing q with
  | nil => simp [inc]
  | cons v r ih =>
    rw [inc]
    by_cases e : q' = q ++ [v]
    · rw [if_pos e, e, inc_zero (Nat.le_refl _)]; exact Nat.le_refl _
    · rw [if_neg e, Nat.zero_add]; exact ih
theorem inc_of {r q s : List Val} (h1 : s ≠ []) (h2 : s <+: r) : 0 < inc q r (q ++ s) := by
  induction r generalizing q s with
  | nil => exact absurd (List.prefix_nil.1 h2) h1
  | cons v r ih =>
    cases s with
    | nil => exact absurd rfl h1
    | cons u s =>
      obtain ⟨rfl, h3⟩ := List.cons_prefix_cons.1 h2
      rw [inc]
      by_cases e : s = []
      · subst e; simp; omega
      · have := ih (q := q ++ [u]) e h3
        rw [List.append_assoc] at this
        exact Nat.lt_of_lt_of_le this (Nat.le_add_left _ _)
/-- How many of the rows begin so. -/
def cnt (R : List (List Val)) (q : List Val) : Nat := (R.map fun r => inc [] r q).sum
theorem cnt_nil (q : List Val) : cnt [] q = 0 := rfl
theorem cnt_cons (r : List Val) (R : List (List Val)) (q : List Val) : cnt (r :: R) q = inc [] r q + cnt R q := by simp [cnt]
theorem cnt_app (R : List (List Val)) (r q : List Val) : cnt (R ++ [r]) q = cnt R q + inc [] r q := by simp [cnt]
theorem cnt_len (R : List (List Val)) (q : List Val) : cnt R q ≤ R.length := by
  induction R with
  | nil => simp [cnt]
  | cons r R ih => rw [cnt_cons, List.length_cons]; have := inc_one (r := r) (q := []) (q' := q); omega
theorem cnt_pos {R : List (List Val)} {q : List Val} (h : 0 < cnt R q) : ∃ r ∈ R, 0 < inc [] r q := by
  induction R with
  | nil => simp [cnt] at h
  | cons r R ih =>
    rw [cnt_cons] at h
    rcases Nat.eq_zero_or_pos (inc [] r q) with e | e
    · obtain ⟨r', h1, h2⟩ := ih (by omega)
      exact ⟨r', List.mem_cons_of_mem _ h1, h2⟩
    · exact ⟨r, by simp, e⟩
theorem cnt_of {R : List (List Val)} {r q : List Val} (h : r ∈ R) (hi : 0 < inc [] r q) : 0 < cnt R q := by
  induction R with
  | nil => cases h
  | cons x R ih =>
    rw [cnt_cons]
    rcases List.mem_cons.1 h with e | e
    · subst e; omega
    · have := ih e; omega
/-- A beginning that stands. -/
def live (c : List Val → Nat) (q : List Val) : Prop := q = [] ∨ 0 < c q
theorem cnt_pre {R : List (List Val)} {q : List Val} {v : Val} (h : 0 < cnt R (q ++ [v])) : live (cnt R) q := by
  obtain ⟨r, h1, h2⟩ := cnt_pos h
  obtain ⟨s, _, h4, h5⟩ := inc_pos h2
  by_cases e : q = []
  · exact Or.inl e
  · refine Or.inr (cnt_of h1 ?_)
    have := inc_of (q := []) (r := r) e (List.IsPrefix.trans (List.prefix_append q [v]) (by rw [List.nil_append] at h5; rw [h5]; exact h4))
    simpa using this
theorem cnt_live {R : List (List Val)} {r : List Val} (h : r ∈ R) : live (cnt R) r := by
  by_cases e : r = []
  · exact Or.inl e
  · refine Or.inr (cnt_of h ?_)
    have := inc_of (q := []) (r := r) e (List.prefix_refl r)
    simpa using this

/-- The ways stand for the beginnings: nm their places, c the beginnings that have one, cc how many rows go there. -/
structure Tree (WL : List (Pce × Way)) (pl : Int) (nm : List Val → Int) (c cc : List Val → Nat) : Prop where
  kn : KN WL
  root : nm [] = 0
  lo : ∀ q, live c q → 0 ≤ nm q
  hi : ∀ q, live c q → nm q ≤ pl
  inj : ∀ q q', live c q → live c q' → nm q = nm q' → q = q'
  pre : ∀ q v, 0 < c (q ++ [v]) → live c q
  le : ∀ q, cc q ≤ c q
  to : ∀ q v, 0 < cc (q ++ [v]) → lk WL (nm q, v) = some (nm (q ++ [v]), (cc (q ++ [v]) : Int))
  fro : ∀ p v x, lk WL (p, v) = some x → ∃ q, 0 < cc (q ++ [v]) ∧ nm q = p
variable {WL : List (Pce × Way)} {pl : Int} {nm : List Val → Int} {c cc : List Val → Nat}
theorem Tree.lpre (h : Tree WL pl nm c cc) {q : List Val} {v : Val} (hv : 0 < cc (q ++ [v])) : live c q := h.pre q v (Nat.lt_of_lt_of_le hv (h.le _))
theorem Tree.get (h : Tree WL pl nm c cc) {q : List Val} {v : Val} {x : Way} (hq : live c q) (hx : lk WL (nm q, v) = some x) : 0 < cc (q ++ [v]) ∧ x = (nm (q ++ [v]), (cc (q ++ [v]) : Int)) := by
  obtain ⟨q', h1, h2⟩ := h.fro _ _ _ hx
  obtain rfl := h.inj q' q (h.lpre h1) hq h2
  have := h.to _ _ h1
  rw [hx] at this; injection this with this
  exact ⟨h1, this⟩
theorem live_app (hp : ∀ q v, 0 < c (q ++ [v]) → live c q) {s q : List Val} (h : live c (q ++ s)) : live c q := by
  induction s generalizing q with
  | nil => simpa using h
  | cons v s ih =>
    have h1 : live c (q ++ [v]) := ih (by simpa using h)
    rcases h1 with e | e
    · simp at e
    · exact hp _ _ e
theorem Tree.walk (h : Tree WL pl nm c c) {r q : List Val} {p : Int} (hq : live c q) (hw : walkP WL (nm q) r = some p) : live c (q ++ r) ∧ p = nm (q ++ r) := by
  induction r generalizing q with
  | nil => rw [List.append_nil]; rw [walkP] at hw; injection hw with hw; exact ⟨hq, hw.symm⟩
  | cons v r ih =>
    rw [walkP] at hw
    cases hl : lk WL (nm q, v) with
    | none => rw [hl] at hw; cases hw
    | some x =>
      rw [hl] at hw
      obtain ⟨h1, rfl⟩ := h.get hq hl
      have := ih (q := q ++ [v]) (Or.inr h1) hw
      simpa using this
theorem Tree.walked (h : Tree WL pl nm c c) {r q : List Val} (hl : live c (q ++ r)) : walkP WL (nm q) r = some (nm (q ++ r)) := by
  induction r generalizing q with
  | nil => simp [walkP]
  | cons v r ih =>
    have h1 : live c (q ++ [v]) := live_app h.pre (s := r) (by simpa using hl)
    have h2 : 0 < c (q ++ [v]) := by
      rcases h1 with e | e
      · simp at e
      · exact e
    have h3 := ih (q := q ++ [v]) (by simpa using hl)
    rw [walkP, h.to _ _ h2]
    simpa using h3
/-- One more goes by s. -/
def bump (c : List Val → Nat) (s : List Val) : List Val → Nat := fun q => if q = s then c q + 1 else c q
theorem snoc_inj {q q' : List Val} {v v' : Val} (h : q ++ [v] = q' ++ [v']) : q = q' ∧ v = v' := by
  have := List.append_inj' h rfl
  exact ⟨this.1, by simpa using this.2⟩
theorem ne_snoc (q : List Val) (v : Val) : q ≠ q ++ [v] := fun e => by have := congrArg List.length e; simp at this
theorem Tree.put (h : Tree WL pl nm c c) {q : List Val} (v : Val) (hq : live c q) :
    ∃ nm', Tree (ptS (WL, pl, nm q) v).1 (ptS (WL, pl, nm q) v).2.1 nm' (bump c (q ++ [v])) (bump c (q ++ [v])) ∧ (ptS (WL, pl, nm q) v).2.2 = nm' (q ++ [v]) ∧ ∀ q', live c q' → nm' q' = nm q' := by
  cases hl : lk WL (nm q, v) with
  | some x =>
    obtain ⟨h1, rfl⟩ := h.get hq hl
    have hlv : ∀ q', live (bump c (q ++ [v])) q' → live c q' := by
      rintro q' (e | e)
      · exact Or.inl e
      · by_cases e2 : q' = q ++ [v]
        · subst e2; exact Or.inr h1
        · rw [bump, if_neg e2] at e; exact Or.inr e
    have hge : ∀ q', c q' ≤ bump c (q ++ [v]) q' := fun q' => by unfold bump; split <;> omega
    have hup : ∀ q', live c q' → live (bump c (q ++ [v])) q' := fun q' hq' => hq'.imp id (fun e => Nat.lt_of_lt_of_le e (hge q'))
    simp only [ptS, hl]
    refine ⟨nm, ⟨kn_up h.kn, h.root, fun q' hq' => h.lo _ (hlv _ hq'), fun q' hq' => h.hi _ (hlv _ hq'), fun q1 q2 a b e => h.inj _ _ (hlv _ a) (hlv _ b) e, fun q' v' e => ?_, fun _ => Nat.le_refl _, fun q' v' e => ?_, fun p v' x e => ?_⟩, rfl, fun _ _ => rfl⟩
    · by_cases e2 : q' ++ [v'] = q ++ [v]
      · obtain ⟨rfl, rfl⟩ := snoc_inj e2; exact hup _ hq
      · rw [bump, if_neg e2] at e; exact hup _ (h.pre _ _ e)
    · rw [lk_up]
      by_cases e2 : q' ++ [v'] = q ++ [v]
      · obtain ⟨rfl, rfl⟩ := snoc_inj e2; simp [bump]
      · have e' := e
        rw [bump, if_neg e2] at e'
        rw [if_neg (fun e3 => by
          simp only [Prod.mk.injEq] at e3
          obtain ⟨a1, a2⟩ := e3
          exact e2 (by rw [h.inj q' q (h.pre _ _ e') hq a1.symm, a2])), bump, if_neg e2]
        exact h.to _ _ e'
    · rw [lk_up] at e
      by_cases e2 : (nm q, v) = (p, v')
      · simp only [Prod.mk.injEq] at e2
        obtain ⟨a1, a2⟩ := e2
        have a2' : v = v' := a2
        subst a2'
        exact ⟨q, by simp [bump], a1⟩
      · rw [if_neg e2] at e
        obtain ⟨q2, b1, b2⟩ := h.fro _ _ _ e
        exact ⟨q2, Nat.lt_of_lt_of_le b1 (hge _), b2⟩
  | none =>
    have h0 : c (q ++ [v]) = 0 := by
      rcases Nat.eq_zero_or_pos (c (q ++ [v])) with e | e
      · exact e
      · have := h.to _ _ e; rw [hl] at this; cases this
    have hpl : 0 ≤ pl := by have h1 := h.hi [] (Or.inl rfl); rw [h.root] at h1; exact h1
    have hne : ∀ q', live c q' → q' ≠ q ++ [v] := by
      rintro q' (e | e) e2
      · subst e2; simp at e
      · subst e2; omega
    have hge : ∀ q', c q' ≤ bump c (q ++ [v]) q' := fun q' => by unfold bump; split <;> omega
    have hup : ∀ q', live c q' → live (bump c (q ++ [v])) q' := fun q' hq' => hq'.imp id (fun e => Nat.lt_of_lt_of_le e (hge q'))
    have hlv : ∀ q', live (bump c (q ++ [v])) q' → live c q' ∨ q' = q ++ [v] := by
      rintro q' (e | e)
      · exact Or.inl (Or.inl e)
      · by_cases e2 : q' = q ++ [v]
        · exact Or.inr e2
        · rw [bump, if_neg e2] at e; exact Or.inl (Or.inr e)
    have hnm : ∀ q', live c q' → (if q' = q ++ [v] then pl + 1 else nm q') = nm q' := fun q' hq' => if_neg (hne _ hq')
    simp only [ptS, hl]
    refine ⟨fun q' => if q' = q ++ [v] then pl + 1 else nm q', ⟨kn_up h.kn, ?_, fun q' hq' => ?_, fun q' hq' => ?_, fun q1 q2 a b e => ?_, fun q' v' e => ?_, fun _ => Nat.le_refl _, fun q' v' e => ?_, fun p v' x e => ?_⟩, by simp, hnm⟩
    · rw [hnm _ (Or.inl rfl)]; exact h.root
    · rcases hlv _ hq' with e | e
      · rw [hnm _ e]; exact h.lo _ e
      · rw [if_pos e]; omega
    · rcases hlv _ hq' with e | e
      · rw [hnm _ e]; have := h.hi _ e; omega
      · rw [if_pos e]; omega
    · rcases hlv _ a with e1 | e1 <;> rcases hlv _ b with e2 | e2
      · rw [hnm _ e1, hnm _ e2] at e; exact h.inj _ _ e1 e2 e
      · rw [hnm _ e1, if_pos e2] at e; have := h.hi _ e1; omega
      · rw [hnm _ e2, if_pos e1] at e; have := h.hi _ e2; omega
      · rw [e1, e2]
    · by_cases e2 : q' ++ [v'] = q ++ [v]
      · obtain ⟨rfl, rfl⟩ := snoc_inj e2; exact hup _ hq
      · rw [bump, if_neg e2] at e; exact hup _ (h.pre _ _ e)
    · rw [lk_up]
      by_cases e2 : q' ++ [v'] = q ++ [v]
      · obtain ⟨rfl, rfl⟩ := snoc_inj e2
        rw [if_neg (ne_snoc _ _), if_pos rfl]; simp [bump, h0]
      · have e' := e
        rw [bump, if_neg e2] at e'
        have hq' := h.pre _ _ e'
        rw [hnm _ hq', if_neg e2, bump, if_neg e2, if_neg (fun e3 => by
          simp only [Prod.mk.injEq] at e3
          obtain ⟨a1, a2⟩ := e3
          exact e2 (by rw [h.inj q' q hq' hq a1.symm, a2]))]
        exact h.to _ _ e'
    · rw [lk_up] at e
      by_cases e2 : (nm q, v) = (p, v')
      · simp only [Prod.mk.injEq] at e2
        obtain ⟨a1, a2⟩ := e2
        have a2' : v = v' := a2
        subst a2'
        exact ⟨q, by simp [bump], by rw [if_neg (ne_snoc _ _)]; exact a1⟩
      · rw [if_neg e2] at e
        obtain ⟨q2, b1, b2⟩ := h.fro _ _ _ e
        exact ⟨q2, Nat.lt_of_lt_of_le b1 (hge _), by rw [hnm _ (h.pre _ _ b1)]; exact b2⟩
end Go.Proofs.YtbfodpmlmhkikaaDoor
