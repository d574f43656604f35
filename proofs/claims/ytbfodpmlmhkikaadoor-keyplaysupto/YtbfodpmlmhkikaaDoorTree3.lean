/- What a map of package key keeps when a row is put into it, when a number grows, when a row is taken out. -/
import Derived.Test.YtbfodpmlmhkikaaDoorTree2
namespace Go.Proofs.YtbfodpmlmhkikaaDoor
variable {WL : List (Pce × Way)} {pl bi : Int} {HL : List (Int × Ent)}

theorem rise_iff : Rising HL ↔ (HL.map fun x => x.2.born).Pairwise (· < ·) := by
  unfold Rising; rw [List.pairwise_map]
theorem Hold.put (h : Hold WL HL pl bi) (e : Ent) (hr : e.row ∉ rwH HL) (hb : e.born = bi + 1) (hn : -9223372036854775808 ≤ e.n ∧ e.n ≤ 9223372036854775807) :
    Hold (ptL (WL, pl, 0) e.row).1 (up HL (ptL (WL, pl, 0) e.row).2.2 e) (ptL (WL, pl, 0) e.row).2.1 (bi + 1) ∧ up HL (ptL (WL, pl, 0) e.row).2.2 e = HL ++ [((ptL (WL, pl, 0) e.row).2.2, e)] := by
  obtain ⟨nm, hT, hk⟩ := h.tree
  obtain ⟨nm', h1, h2, h3⟩ := hT.puts e.row (q := []) (Or.inl rfl)
  rw [hT.root] at h1 h2
  rw [List.nil_append] at h2
  have ec : (fun q' => cnt (rwH HL) q' + inc [] e.row q') = cnt (rwH HL ++ [e.row]) := by funext q'; rw [cnt_app]
  rw [ec] at h1
  have hnm : ∀ x ∈ HL, x.1 = nm' x.2.row := fun x hx => by rw [h3 _ (cnt_live (mem_rwH hx))]; exact hk x hx
  have hlv : ∀ r, r ∈ rwH HL ++ [e.row] → live (cnt (rwH HL ++ [e.row])) r := fun r hr => cnt_live hr
  generalize hs : ptL (WL, pl, 0) e.row = s at h1 h2 ⊢
  have hnone : lk HL s.2.2 = none := by
    cases hl : lk HL s.2.2 with
    | none => rfl
    | some y =>
      have hm := lk_mem hl
      have e1 := hnm _ hm
      dsimp only at e1
      rw [h2] at e1
      have e2 := h1.inj _ _ (hlv _ (by simp)) (hlv _ (List.mem_append_left _ (mem_rwH hm))) e1
      exact absurd (by rw [e2]; exact mem_rwH hm) hr
  rw [up_app hnone]
  have er : rwH (HL ++ [(s.2.2, e)]) = rwH HL ++ [e.row] := by simp [rwH]
  refine ⟨⟨⟨nm', by rw [er]; exact h1, fun x hx => ?_⟩, ?_, ?_, fun x hx => ?_, fun x hx => ?_⟩, rfl⟩
  · rcases List.mem_append.1 hx with hx | hx
    · exact hnm x hx
    · simp only [List.mem_singleton] at hx; subst hx; exact h2
  · rw [er, List.nodup_append]
    refine ⟨h.nodup, by simp, fun a ha b hb => ?_⟩
    simp only [List.mem_singleton] at hb
    subst hb
    intro e2; exact hr (e2 ▸ ha)
  · unfold Rising
    rw [List.pairwise_append]
    refine ⟨h.rise, List.pairwise_singleton _ _, fun a ha b hb' => ?_⟩
    simp only [List.mem_singleton] at hb'
    subst hb'
    have := h.born a ha
    dsimp only
    omega
  · rcases List.mem_append.1 hx with hx | hx
    · have := h.born x hx; omega
    · simp only [List.mem_singleton] at hx; subst hx; dsimp only; omega
  · rcases List.mem_append.1 hx with hx | hx
    · exact h.num x hx
    · simp only [List.mem_singleton] at hx; subst hx; exact hn
theorem kn_idx {α β : Type} [DecidableEq α] {L : List (α × β)} {i : Nat} {x : α × β} (h : KN L) (hi : L[i]? = some x) : (L.map (·.1)).findIdx? (fun y => decide (y = x.1)) = some i := by
  induction L generalizing i with
  | nil => simp at hi
  | cons y L ih =>
    have hc : y.1 ∉ L.map (·.1) ∧ (L.map (·.1)).Nodup := by unfold KN at h; simpa using h
    cases i with
    | zero =>
      simp only [List.getElem?_cons_zero, Option.some.injEq] at hi
      subst hi
      simp [List.findIdx?_cons]
    | succ i =>
      simp only [List.getElem?_cons_succ] at hi
      have hm : x ∈ L := List.mem_of_getElem? hi
      have hne : ¬ y.1 = x.1 := fun e => hc.1 (by rw [e]; exact List.mem_map_of_mem (f := (·.1)) hm)
      rw [List.map_cons, List.findIdx?_cons]
      simp only [hne, decide_false, Bool.false_eq_true, if_false]
      rw [ih hc.2 hi]; rfl
theorem Hold.sum (h : Hold WL HL pl bi) {i : Nat} {x : Int × Ent} (hi : HL[i]? = some x) (m : Int) (hm : -9223372036854775808 ≤ m ∧ m ≤ 9223372036854775807) :
    Hold WL (up HL x.1 ⟨x.2.a, x.2.cap, x.2.row, m, x.2.born⟩) pl bi ∧ up HL x.1 ⟨x.2.a, x.2.cap, x.2.row, m, x.2.born⟩ = HL.set i (x.1, ⟨x.2.a, x.2.cap, x.2.row, m, x.2.born⟩) := by
  have e := up_at (v := (⟨x.2.a, x.2.cap, x.2.row, m, x.2.born⟩ : Ent)) (kn_idx h.kn hi)
  rw [e]
  refine ⟨?_, rfl⟩
  obtain ⟨nm, hT, hk⟩ := h.tree
  have hlt : i < HL.length := (List.getElem?_eq_some_iff.1 hi).1
  have hx : HL[i] = x := (List.getElem?_eq_some_iff.1 hi).2
  have hmem : x ∈ HL := List.mem_of_getElem? hi
  have er : rwH (HL.set i (x.1, ⟨x.2.a, x.2.cap, x.2.row, m, x.2.born⟩)) = rwH HL := by
    unfold rwH
    rw [List.map_set]
    apply List.ext_getElem (by simp)
    intro j h1 h2
    rw [List.getElem_set]
    split
    · rename_i e2; subst e2; simp [hx]
    · rfl
  have eb : (HL.set i (x.1, ⟨x.2.a, x.2.cap, x.2.row, m, x.2.born⟩)).map (fun x => x.2.born) = HL.map (fun x => x.2.born) := by
    rw [List.map_set]
    apply List.ext_getElem (by simp)
    intro j h1 h2
    rw [List.getElem_set]
    split
    · rename_i e2; subst e2; simp [hx]
    · rfl
  refine ⟨⟨nm, by rw [er]; exact hT, fun y hy => ?_⟩, by rw [er]; exact h.nodup, by rw [rise_iff, eb, ← rise_iff]; exact h.rise, fun y hy => ?_, fun y hy => ?_⟩
  · rcases List.mem_or_eq_of_mem_set hy with hy | hy
    · exact hk y hy
    · subst hy; exact hk x hmem
  · rcases List.mem_or_eq_of_mem_set hy with hy | hy
    · exact h.born y hy
    · subst hy; exact h.born x hmem
  · rcases List.mem_or_eq_of_mem_set hy with hy | hy
    · exact h.num y hy
    · subst hy; exact hm
theorem cnt_erase {R : List (List Val)} {i : Nat} {r : List Val} (h : R[i]? = some r) (q : List Val) : cnt (R.eraseIdx i) q + inc [] r q = cnt R q := by
  induction R generalizing i with
  | nil => simp at h
  | cons x R ih =>
    cases i with
    | zero =>
      simp only [List.getElem?_cons_zero, Option.some.injEq] at h
      subst h
      rw [List.eraseIdx_cons_zero, cnt_cons, Nat.add_comm]
    | succ i =>
      simp only [List.getElem?_cons_succ] at h
      rw [List.eraseIdx_cons_succ, cnt_cons, cnt_cons, ← ih h, Nat.add_assoc]
theorem erase_map {α β : Type} (f : α → β) (L : List α) (i : Nat) : (L.eraseIdx i).map f = (L.map f).eraseIdx i := by
  induction L generalizing i with
  | nil => simp
  | cons x L ih => cases i <;> simp [ih]
theorem Hold.take (h : Hold WL HL pl bi) {i : Nat} {x : Int × Ent} (hi : HL[i]? = some x) :
    Hold (lvL (WL, 0) x.2.row).1 (rm HL x.1) pl bi ∧ rm HL x.1 = HL.eraseIdx i := by
  have e := rm_at (kn_idx h.kn hi)
  rw [e]
  refine ⟨?_, rfl⟩
  obtain ⟨nm, hT, hk⟩ := h.tree
  have er : rwH (HL.eraseIdx i) = (rwH HL).eraseIdx i := by unfold rwH; rw [erase_map]
  have hri : (rwH HL)[i]? = some x.2.row := by unfold rwH; rw [List.getElem?_map, hi]; rfl
  have hc := cnt_erase hri
  have h1 := hT.leaves x.2.row (q := []) (fun q' => by have := hc q'; omega)
  rw [hT.root] at h1
  have ec : (fun q' => cnt (rwH HL) q' - inc [] x.2.row q') = cnt ((rwH HL).eraseIdx i) := by funext q'; have := hc q'; omega
  rw [ec] at h1
  have h2 := h1.settle (fun q v hq => cnt_pre hq)
  have hs : (HL.eraseIdx i).Sublist HL := List.eraseIdx_sublist _ _
  exact ⟨⟨nm, by rw [er]; exact h2, fun y hy => hk y (hs.subset hy)⟩, by rw [er]; exact h.nodup.sublist (List.eraseIdx_sublist _ _), h.rise.sublist hs, fun y hy => h.born y (hs.subset hy), fun y hy => h.num y (hs.subset hy)⟩
/-- The document's pairs. -/
def prs (HL : List (Int × Ent)) : List (List Val × Int) := HL.map fun x => (x.2.row, x.2.n)
/-- Where a row stands among the pairs. -/
def fnR (L : List (List Val × Int)) (r : List Val) : Option Nat := L.findIdx? fun x => decide (x.1 = r)
theorem fnR_some {r : List Val} {i : Nat} (h : fnR (prs HL) r = some i) : ∃ x, HL[i]? = some x ∧ x.2.row = r := by
  unfold fnR at h
  obtain ⟨h1, h2, _⟩ := List.findIdx?_eq_some_iff_getElem.1 h
  have hl : i < HL.length := by simpa [prs] using h1
  refine ⟨HL[i], List.getElem?_eq_getElem hl, ?_⟩
  simpa [prs] using h2
theorem fnR_none {r : List Val} (h : fnR (prs HL) r = none) : r ∉ rwH HL := by
  unfold fnR at h
  rw [List.findIdx?_eq_none_iff] at h
  intro hr
  obtain ⟨x, hx, e⟩ := rwH_mem hr
  have := h (x.2.row, x.2.n) (List.mem_map_of_mem (f := fun x : Int × Ent => (x.2.row, x.2.n)) hx)
  simp [e] at this
end Go.Proofs.YtbfodpmlmhkikaaDoor
