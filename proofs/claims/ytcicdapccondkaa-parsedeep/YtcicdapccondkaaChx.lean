/- A tree whose kids are being read. -/
import Derived.Test.YtcicdapccondkaaAgx
namespace Go.Proofs.Ytcicdapccondkaa
open Go.ChangeShapes Go.WideShapes Go.ChangeAt Go.RowKit
set_option linter.unusedSimpArgs false
set_option maxRecDepth 20000
set_option maxHeartbeats 4000000

/-- A block below all of a tree's is of no weight for it. -/
theorem XSt.low {rb nb lo b : Nat} {w w1 : World} {x : X} {s : Option Addr} (h : XSt rb nb lo w x s) (hb : b < lo) (hs : w.heap.size ≤ w1.heap.size) (hk : ∀ c, c < w.heap.size → c ≠ rb → c ≠ nb → c ≠ b → w1.heap[c]? = w.heap[c]?) : XSt rb nb lo w1 x s := by
  intro w2 hk2
  by_cases e1 : b = rb
  · subst e1
    exact h w2 fun c hc h1 h2 => (hk2 c (by omega) h1 h2).trans (hk c hc h1 h2 h1)
  by_cases e2 : b = nb
  · subst e2
    exact h w2 fun c hc h1 h2 => (hk2 c (by omega) h1 h2).trans (hk c hc h1 h2 h2)
  rcases Nat.lt_or_ge b w.heap.size with hbs | hbs
  · have hb2 : b < w2.heap.size := by
      have e := hk2 b (by omega) e1 e2
      rw [Array.getElem?_eq_getElem (show b < w1.heap.size by omega)] at e
      exact (Array.getElem?_eq_some_iff.1 e).1
    have h3 := h { w2 with heap := w2.heap.set b w.heap[b] hb2 } fun c hc h1 h2 => by
      show (w2.heap.set b w.heap[b] hb2)[c]? = _
      by_cases ec : b = c
      · subst ec
        rw [Array.getElem?_set_self, Array.getElem?_eq_getElem hc]
      · rw [Array.getElem?_set_ne hb2 ec]
        exact (hk2 c (by omega) h1 h2).trans (hk c hc h1 h2 (by omega))
    refine NdF.keep (Nat.le_refl _) (fun c hc _ => ?_) h3
    show _ = (w2.heap.set b w.heap[b] hb2)[c]?
    rw [Array.getElem?_set_ne hb2 (show b ≠ c by omega)]
  · exact h w2 fun c hc h1 h2 => (hk2 c (by omega) h1 h2).trans (hk c hc h1 h2 (by omega))
theorem OwX.set {rb lo : Nat} {w : World} {g cap b : Nat} {A : List Xp} (h : OwX rb lo w g cap A) (o : Nat) (v : Value) (hb : b < lo) : OwX rb lo (w.setCell ⟨b, o, none⟩ v) g cap A := by
  have hl := h.lt
  refine ⟨⟨h.own.1, ?_⟩, fun p hp => (h.kids p hp).low hb (by simp) (fun c _ _ _ hc => Below.heap_setCell _ _ _ _ hc)⟩
  rcases h.own.2 with ⟨e, _⟩ | ⟨g', c', cur, e, hb', hh, rest⟩
  · cases e
  · have e1 : g = g' := by
      have := congrArg Value.ownBlock e
      simpa [Value.ownBlock] using this
    subst e1
    exact Or.inr ⟨g, c', cur, e, hb', (Below.heap_setCell _ _ _ _ (show g ≠ b by omega)).trans hh, rest⟩
/-- A tree whose kids are being read. -/
structure ChI (rb : Nat) (ta : Option Addr) (cap : Nat) (T : List Tt) (w : World) (zb nb lo : Nat) (k q4 : Int) (op g c : Nat) (A : List Xp) (i : Nat) (wr : World) : Prop where
  cx : Cx rb ta cap T w zb i op wr
  box : Box5 wr nb (.int .i64 k) (.string (bsA [])) (.int .i64 0) (.int .i64 q4) (.slice (some ⟨g, 0, none⟩) A.length c)
  own : OwX rb lo wr g c A
section
variable {rb : Nat} {ta : Option Addr} {cap : Nat} {T : List Tt} {w : World} {zb nb lo : Nat} {k q4 : Int} {op g c : Nat} {A : List Xp} {i : Nat} {wr : World}
theorem ChI.step {w' : World} {j : Nat} (h : ChI rb ta cap T w zb nb lo k q4 op g c A i wr) (hf : Fx rb wr w') (hr : Rdr w' rb ta cap T j op) (hz : rb < zb) (hn : rb < nb) (hl : rb < lo) : ChI rb ta cap T w zb nb lo k q4 op g c A j w' := ⟨h.cx.step hf hr hz, h.box.fx hf (by omega), h.own.fx hf hl⟩
theorem ChI.below {w' : World} (h : ChI rb ta cap T w zb nb lo k q4 op g c A i wr) (hb : Below wr.heap.size wr w') (hz : rb < zb) (hn : rb < nb) (hl : rb < lo) : ChI rb ta cap T w zb nb lo k q4 op g c A i w' := h.step (Fx.below hb) (h.cx.rdr.below hb) hz hn hl
/-- More kids. -/
theorem ChI.more {w' : World} {g' c' : Nat} {B : List Xp} {n : Nat} (h : ChI rb ta cap T w zb nb lo k q4 op g c A i wr) (hB : ∀ p ∈ B, XSt rb g lo wr p.1 p.2.1) (hn : n = A.length + B.length)
    (ho : w'.ownsRow lo 26 5 (.slice (some ⟨g', 0, none⟩) n c') n (xC A ++ xC B)) (hg : wr.grownBy w' (some g)) (hl : g = g' ∨ g' = wr.heap.size) (h1 : rb < lo) (h2 : zb < lo) (h3 : nb < lo) (_h4 : w.heap.size ≤ lo) (h5 : w.heap.size ≤ nb) (h6 : rb < nb) (h7 : nb ≠ zb) :
    Box5 w' nb (.int .i64 k) (.string (bsA [])) (.int .i64 0) (.int .i64 q4) (.slice (some ⟨g, 0, none⟩) A.length c) ∧ ChI rb ta cap T w zb nb lo k q4 op g' c' (A ++ B) i (w'.setCell ⟨nb, 4, none⟩ (.slice (some ⟨g', 0, none⟩) n c')) := by
  subst hn
  have hgl := h.own.lt
  have e := hg.block nb (cell_lt h.box.c0) (by simp; omega)
  have hb := h.box
  have hbx : Box5 w' nb (.int .i64 k) (.string (bsA [])) (.int .i64 0) (.int .i64 q4) (.slice (some ⟨g, 0, none⟩) A.length c) := ⟨cell_same hb.c0 e, cell_same hb.c1 e, cell_same hb.c2 e, cell_same hb.c3 e, cell_same hb.c4 e, (World.frozen?_of_block (a := ⟨nb, 0, none⟩) e).trans hb.f0, (World.frozen?_of_block (a := ⟨nb, 1, none⟩) e).trans hb.f1, (World.frozen?_of_block (a := ⟨nb, 2, none⟩) e).trans hb.f2, (World.frozen?_of_block (a := ⟨nb, 3, none⟩) e).trans hb.f3, (World.frozen?_of_block (a := ⟨nb, 4, none⟩) e).trans hb.f4⟩
  refine ⟨hbx, ⟨(h.cx.grown hg (by omega) (by omega) (by omega)).set nb 4 _ h5 h6 h7, ?_, (h.own.grown hB ho hg hl).set 4 _ h3⟩⟩
  rw [List.length_append]
  exact hbx.put4 _
/-- The tree itself. -/
theorem ChI.tree (h : ChI rb ta cap T w zb nb lo k q4 op g c A i wr) (h1 : rb < lo) (h2 : zb < lo) (h4 : w.heap.size ≤ lo) : XSt rb zb w.heap.size wr (mkX k [] 0 q4 (A.map (·.1))) (some ⟨g, 0, none⟩) :=
  XSt.new (h.own.tree (zb := zb) k [] 0 q4 h1 (h.own.apart h1 (Nat.le_refl _) h2) (by have := h.own.lt; omega) wr (fun _ _ _ _ => rfl)) h1 h4 h2
end
theorem whenP_ok {T : List Tt} {E : Nat → Rz X} (hU : ∀ i x j, E i = some (.inr (x, j)) → i ≤ j) {i j : Nat} {l : List X} (h : whenP T E i = some (.inr (l, j))) : l.length = 2 ∧ i + 2 ≤ j := by
  unfold whenP needP at h
  split at h
  · obtain ⟨r1, e1, h⟩ := bnd_some (show bnd (E (i + 1)) _ = _ from h)
    cases r1 with
    | inl q => cases h
    | inr q =>
      obtain ⟨c, j1⟩ := q
      have u1 := hU _ _ _ e1
      change bnd (if isT (tkI T j1) 2 [[116, 104, 101, 110]] = true then okR (tkI T j1) (j1 + 1) else noR j1 70) _ = _ at h
      split at h
      · obtain ⟨r2, e2, h⟩ := bnd_some (show bnd (E (j1 + 1)) _ = _ from h)
        cases r2 with
        | inl q => cases h
        | inr q =>
          obtain ⟨x, j2⟩ := q
          have u2 := hU _ _ _ e2
          cases h
          exact ⟨rfl, by omega⟩
      · cases h
  · cases h
theorem listP_ok {T : List Tt} {E : Nat → Rz X} (hU : ∀ i x j, E i = some (.inr (x, j)) → i ≤ j) : ∀ (f : Nat) (l : List X) (i j : Nat) (l' : List X), listP T E f l i = some (.inr (l', j)) → i ≤ j ∧ l.length ≤ l'.length ∧ l'.length + i ≤ l.length + j
  | 0, l, i, j, l', h => by cases h
  | f + 1, l, i, j, l', h => by
    unfold listP at h
    split at h
    · obtain ⟨r1, e1, h⟩ := bnd_some h
      cases r1 with
      | inl q => cases h
      | inr q =>
        obtain ⟨x, j1⟩ := q
        have u1 := hU _ _ _ e1
        have ih := listP_ok hU f _ _ _ _ (show listP T E f (l ++ [x]) j1 = _ from h)
        rw [List.length_append, List.length_singleton] at ih
        omega
    · cases h
      exact ⟨Nat.le_refl _, Nat.le_refl _, Nat.le_refl _⟩
theorem listE_ok {T : List Tt} {E : Nat → Rz X} (hU : ∀ i x j, E i = some (.inr (x, j)) → i ≤ j) {f i j : Nat} {l : List X} (h : listE T E f i = some (.inr (l, j))) : i ≤ j ∧ 0 < l.length ∧ l.length + i ≤ j + 1 := by
  unfold listE at h
  obtain ⟨r1, e1, h⟩ := bnd_some h
  cases r1 with
  | inl q => cases h
  | inr q =>
    obtain ⟨x, j1⟩ := q
    have u1 := hU _ _ _ e1
    have ih := listP_ok hU f _ _ _ _ (show listP T E f [x] j1 = _ from h)
    rw [List.length_singleton] at ih
    omega
end Go.Proofs.Ytcicdapccondkaa
