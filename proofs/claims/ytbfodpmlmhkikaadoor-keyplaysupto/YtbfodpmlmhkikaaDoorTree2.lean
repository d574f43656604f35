/- Rows put into a map of package key and taken out of it: the ways. -/
import Derived.Test.YtbfodpmlmhkikaaDoorTree
namespace Go.Proofs.YtbfodpmlmhkikaaDoor
variable {WL : List (Pce × Way)} {pl : Int} {nm : List Val → Int} {c cc : List Val → Nat}

theorem ptL_cons (s : List (Pce × Way) × Int × Int) (v : Val) (r : List Val) : ptL s (v :: r) = ptL (ptS s v) r := rfl
theorem Tree.puts (r : List Val) {q : List Val} (h : Tree WL pl nm c c) (hq : live c q) :
    ∃ nm', Tree (ptL (WL, pl, nm q) r).1 (ptL (WL, pl, nm q) r).2.1 nm' (fun q' => c q' + inc q r q') (fun q' => c q' + inc q r q') ∧ (ptL (WL, pl, nm q) r).2.2 = nm' (q ++ r) ∧ ∀ q', live c q' → nm' q' = nm q' := by
  induction r generalizing WL pl nm c q with
  | nil => exact ⟨nm, by simpa [ptL, inc] using h, by simp [ptL], fun _ _ => rfl⟩
  | cons v r ih =>
    obtain ⟨nm1, h1, h2, h3⟩ := h.put v hq
    have hl : live (bump c (q ++ [v])) (q ++ [v]) := Or.inr (by simp [bump])
    obtain ⟨nm2, k1, k2, k3⟩ := ih h1 hl
    have hup : ∀ q', live c q' → live (bump c (q ++ [v])) q' := fun q' hq' => hq'.imp id (fun e => by unfold bump; split <;> omega)
    rw [← h2] at k1 k2
    have ec : (fun q' => c q' + inc q (v :: r) q') = fun q' => bump c (q ++ [v]) q' + inc (q ++ [v]) r q' := by
      funext q'
      simp only [inc, bump]
      split <;> omega
    rw [ptL_cons, ec]
    refine ⟨nm2, k1, by simpa using k2, fun q' hq' => (k3 q' (hup q' hq')).trans (h3 q' hq')⟩
theorem pt_pl (r : List Val) (s : List (Pce × Way) × Int × Int) : s.2.1 ≤ (ptL s r).2.1 ∧ (ptL s r).2.1 ≤ s.2.1 + r.length := by
  induction r generalizing s with
  | nil => simp [ptL]
  | cons v r ih =>
    rw [ptL_cons, List.length_cons]
    have h := ih (ptS s v)
    have h1 : s.2.1 ≤ (ptS s v).2.1 ∧ (ptS s v).2.1 ≤ s.2.1 + 1 := by
      unfold ptS; split <;> simp only [] <;> omega
    omega
/-- One goes by s no longer. -/
def fall (c : List Val → Nat) (s : List Val) : List Val → Nat := fun q => if q = s then c q - 1 else c q
theorem Tree.leave (h : Tree WL pl nm c cc) {q : List Val} {v : Val} (hv : 0 < cc (q ++ [v])) :
    Tree (lvP WL (nm q, v)) pl nm c (fall cc (q ++ [v])) ∧ (wyD (lk WL (nm q, v))).1 = nm (q ++ [v]) := by
  have hq := h.lpre hv
  have hl := h.to _ _ hv
  have hle : ∀ q', fall cc (q ++ [v]) q' ≤ cc q' := fun q' => by unfold fall; split <;> omega
  have hne : ∀ q' v', 0 < cc (q' ++ [v']) → q' ++ [v'] ≠ q ++ [v] → ¬ (nm q, v) = (nm q', v') := fun q' v' e e2 e3 => by
    simp only [Prod.mk.injEq] at e3
    obtain ⟨a1, a2⟩ := e3
    exact e2 (by rw [h.inj q' q (h.lpre e) hq a1.symm, a2])
  have hd : wyD (lk WL (nm q, v)) = (nm (q ++ [v]), (cc (q ++ [v]) : Int)) := by rw [hl]; rfl
  refine ⟨?_, by rw [hd]⟩
  unfold lvP
  rw [hd]
  dsimp only
  split
  · rename_i hgt
    refine ⟨kn_up h.kn, h.root, h.lo, h.hi, h.inj, h.pre, fun q' => Nat.le_trans (hle q') (h.le q'), fun q' v' e => ?_, fun p v' x e => ?_⟩
    · rw [lk_up]
      have e' := Nat.lt_of_lt_of_le e (hle _)
      by_cases e2 : q' ++ [v'] = q ++ [v]
      · obtain ⟨rfl, rfl⟩ := snoc_inj e2
        rw [if_pos rfl, fall, if_pos rfl]; congr 2; omega
      · rw [if_neg (hne _ _ e' e2), fall, if_neg e2]; exact h.to _ _ e'
    · rw [lk_up] at e
      by_cases e2 : (nm q, v) = (p, v')
      · simp only [Prod.mk.injEq] at e2
        obtain ⟨a1, a2⟩ := e2
        subst a2
        exact ⟨q, by rw [fall, if_pos rfl]; omega, a1⟩
      · rw [if_neg e2] at e
        obtain ⟨q2, b1, b2⟩ := h.fro _ _ _ e
        refine ⟨q2, ?_, b2⟩
        rw [fall, if_neg (fun e3 => ?_)]
        · exact b1
        · obtain ⟨rfl, rfl⟩ := snoc_inj e3; exact e2 (by rw [b2])
  · rename_i hgt
    refine ⟨kn_rm h.kn, h.root, h.lo, h.hi, h.inj, h.pre, fun q' => Nat.le_trans (hle q') (h.le q'), fun q' v' e => ?_, fun p v' x e => ?_⟩
    · rw [lk_rm h.kn]
      have e' := Nat.lt_of_lt_of_le e (hle _)
      by_cases e2 : q' ++ [v'] = q ++ [v]
      · obtain ⟨rfl, rfl⟩ := snoc_inj e2
        rw [fall, if_pos rfl] at e; omega
      · rw [if_neg (hne _ _ e' e2), fall, if_neg e2]; exact h.to _ _ e'
    · rw [lk_rm h.kn] at e
      by_cases e2 : (nm q, v) = (p, v')
      · rw [if_pos e2] at e; cases e
      · rw [if_neg e2] at e
        obtain ⟨q2, b1, b2⟩ := h.fro _ _ _ e
        refine ⟨q2, ?_, b2⟩
        rw [fall, if_neg (fun e3 => ?_)]
        · exact b1
        · obtain ⟨rfl, rfl⟩ := snoc_inj e3; exact e2 (by rw [b2])
theorem lvL_cons (s : List (Pce × Way) × Int) (v : Val) (r : List Val) : lvL s (v :: r) = lvL (lvS s v) r := rfl
theorem Tree.leaves (r : List Val) {q : List Val} (h : Tree WL pl nm c cc) (hc : ∀ q', inc q r q' ≤ cc q') :
    Tree (lvL (WL, nm q) r).1 pl nm c (fun q' => cc q' - inc q r q') := by
  induction r generalizing WL cc q with
  | nil => simpa [lvL, inc] using h
  | cons v r ih =>
    have hv : 0 < cc (q ++ [v]) := Nat.lt_of_lt_of_le (by simp [inc]; omega) (hc (q ++ [v]))
    obtain ⟨h1, h2⟩ := h.leave hv
    rw [lvL_cons]
    have e : lvS (WL, nm q) v = (lvP WL (nm q, v), nm (q ++ [v])) := by simp only [lvS]; rw [h2]
    rw [e]
    have h3 := ih h1 (q := q ++ [v]) (fun q' => by
      have := hc q'
      simp only [inc] at this
      unfold fall
      split <;> rename_i e2
      · rw [if_pos e2] at this; omega
      · rw [if_neg e2] at this; omega)
    have ec : (fun q' => cc q' - inc q (v :: r) q') = fun q' => fall cc (q ++ [v]) q' - inc (q ++ [v]) r q' := by
      funext q'
      simp only [inc, fall]
      split <;> omega
    rw [ec]; exact h3
/-- What was left behind is what stands. -/
theorem Tree.settle (h : Tree WL pl nm c cc) (hp : ∀ q v, 0 < cc (q ++ [v]) → live cc q) : Tree WL pl nm cc cc := by
  have hl : ∀ q, live cc q → live c q := fun q hq => hq.imp id (fun e => Nat.lt_of_lt_of_le e (h.le q))
  exact ⟨h.kn, h.root, fun q hq => h.lo q (hl q hq), fun q hq => h.hi q (hl q hq), fun q q' a b e => h.inj q q' (hl q a) (hl q' b) e, hp, fun _ => Nat.le_refl _, h.to, h.fro⟩

/-- A map that keeps what was done to it: its rows in their order, each at its place. -/
structure Hold (WL : List (Pce × Way)) (HL : List (Int × Ent)) (pl bi : Int) : Prop where
  tree : ∃ nm, Tree WL pl nm (cnt (rwH HL)) (cnt (rwH HL)) ∧ ∀ x ∈ HL, x.1 = nm x.2.row
  nodup : (rwH HL).Nodup
  rise : Rising HL
  born : ∀ x ∈ HL, x.2.born ≤ bi
  num : ∀ x ∈ HL, -9223372036854775808 ≤ x.2.n ∧ x.2.n ≤ 9223372036854775807
theorem Hold.nil : Hold [] [] 0 0 := by
  refine ⟨⟨fun _ => 0, ⟨List.nodup_nil, rfl, fun _ _ => Int.le_refl _, fun _ _ => Int.le_refl _, ?_, ?_, fun _ => Nat.le_refl _, ?_, ?_⟩, ?_⟩, by simp [rwH], List.Pairwise.nil, ?_, ?_⟩
  · rintro q q' (e | e) (e' | e') _
    · rw [e, e']
    · simp [rwH, cnt] at e'
    · simp [rwH, cnt] at e
    · simp [rwH, cnt] at e
  · intro q v e; simp [rwH, cnt] at e
  · intro q v e; simp [rwH, cnt] at e
  · intro p v x e; cases e
  all_goals (intro x hx; cases hx)
variable {HL : List (Int × Ent)} {bi : Int}
theorem rwH_mem {r : List Val} (h : r ∈ rwH HL) : ∃ x ∈ HL, x.2.row = r := List.mem_map.1 h
theorem mem_rwH {x : Int × Ent} (h : x ∈ HL) : x.2.row ∈ rwH HL := List.mem_map_of_mem (f := fun x : Int × Ent => x.2.row) h
/-- Keys stand once. -/
theorem hold_keys (nm : List Val → Int) (hk : ∀ x ∈ HL, x.1 = nm x.2.row) (hn : (rwH HL).Nodup) (hj : ∀ x ∈ HL, ∀ y ∈ HL, nm x.2.row = nm y.2.row → x.2.row = y.2.row) : KN HL := by
  induction HL with
  | nil => exact List.nodup_nil
  | cons x L ih =>
    have hn' : x.2.row ∉ rwH L ∧ (rwH L).Nodup := by simpa [rwH] using hn
    show ((x :: L).map (·.1)).Nodup
    rw [List.map_cons, List.nodup_cons]
    refine ⟨fun hm => ?_, ih (fun y hy => hk y (by simp [hy])) hn'.2 (fun a ha b hb => hj a (by simp [ha]) b (by simp [hb]))⟩
    obtain ⟨y, hy, e⟩ := List.mem_map.1 hm
    have h1 := hk x (by simp)
    have h2 := hk y (by simp [hy])
    have := hj x (by simp) y (by simp [hy]) (by rw [← h1, ← h2, e])
    exact hn'.1 (by rw [this]; exact mem_rwH hy)
theorem Hold.kn (h : Hold WL HL pl bi) : KN HL := by
  obtain ⟨nm, hT, hk⟩ := h.tree
  exact hold_keys nm hk h.nodup (fun x hx y hy e => hT.inj _ _ (cnt_live (mem_rwH hx)) (cnt_live (mem_rwH hy)) e)
/-- A row that stands is found, at its entry. -/
theorem Hold.yes (h : Hold WL HL pl bi) {x : Int × Ent} (hx : x ∈ HL) : fdP WL HL x.2.row = (x.1, true) ∧ lk HL x.1 = some x.2 ∧ gtP WL HL x.2.row = (x.2.n, true) := by
  obtain ⟨nm, hT, hk⟩ := h.tree
  have hl := lk_of_mem h.kn (k := x.1) (v := x.2) hx
  have hw := hT.walked (q := []) (r := x.2.row) (by simpa using cnt_live (mem_rwH hx))
  rw [hT.root, List.nil_append, ← hk x hx] at hw
  refine ⟨?_, hl, ?_⟩
  · simp only [fdP, hw, hl, Option.isSome_some]
  · simp only [gtP, hw, hl]
/-- A row that does not stand is not found. -/
theorem Hold.no (h : Hold WL HL pl bi) {r : List Val} (hr : r ∉ rwH HL) : (fdP WL HL r).2 = false ∧ gtP WL HL r = (0, false) := by
  obtain ⟨nm, hT, hk⟩ := h.tree
  cases hw : walkP WL 0 r with
  | none => simp [fdP, gtP, hw]
  | some p =>
    rw [← hT.root] at hw
    obtain ⟨h1, h2⟩ := hT.walk (Or.inl rfl) hw
    rw [hT.root] at hw
    rw [List.nil_append] at h1 h2
    cases hl : lk HL p with
    | none => simp [fdP, gtP, hw, hl]
    | some e =>
      have hm := lk_mem hl
      have e1 := hk _ hm
      have e2 := hT.inj _ _ h1 (cnt_live (mem_rwH hm)) (by rw [← h2, ← e1])
      exact absurd (by rw [e2]; exact mem_rwH hm) hr
/-- No way is gone by more rows than there are. -/
theorem Hold.few (h : Hold WL HL pl bi) : Few WL HL.length := by
  obtain ⟨nm, hT, _⟩ := h.tree
  intro y hy
  obtain ⟨⟨p, v⟩, x⟩ := y
  have hl := lk_of_mem hT.kn hy
  obtain ⟨q, h1, h2⟩ := hT.fro _ _ _ hl
  subst h2
  obtain ⟨_, rfl⟩ := hT.get (hT.lpre h1) hl
  have := cnt_len (rwH HL) (q ++ [v])
  rw [rwH_len] at this
  dsimp only
  omega
end Go.Proofs.YtbfodpmlmhkikaaDoor
