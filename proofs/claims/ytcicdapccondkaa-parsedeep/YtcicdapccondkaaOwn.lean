/- Trees side by side that a call has laid: a row that may grow. -/
import Derived.Test.YtcicdapccondkaaWrd
import Derived.Deep.AppendLies
namespace Go.Proofs.Ytcicdapccondkaa
open Go.ChangeShapes Go.WideShapes Go.ChangeAt Go.RowKit
set_option linter.unusedSimpArgs false
set_option maxRecDepth 20000
set_option maxHeartbeats 4000000

/-- A tree, and where its kids lie. -/
abbrev Xp := X × Option Addr × Nat
def xpC (p : Xp) : List Value := [.int .i64 (xk p.1), .string (bsA (xt p.1)), .int .i64 (xn p.1), .int .i64 (xa p.1), .slice p.2.1 (xl p.1) p.2.2]
def xC (A : List Xp) : List Value := A.flatMap xpC
theorem xC_app (A B : List Xp) : xC (A ++ B) = xC A ++ xC B := by simp [xC]
theorem xC_len : ∀ A : List Xp, (xC A).length = A.length * 5
  | [] => rfl
  | p :: A => by
    show (xpC p ++ xC A).length = _
    rw [List.length_append, xC_len A, List.length_cons]
    show 5 + _ = _
    omega
theorem xC_one : ∀ (A : List Xp), ∀ u ∈ xC A, u.oneCell' = true
  | [], u, hu => by cases hu
  | p :: A, u, hu => by
    rcases List.mem_append.1 (show u ∈ xpC p ++ xC A from hu) with h | h
    · simp only [xpC, List.mem_cons, List.not_mem_nil, or_false] at h
      rcases h with rfl | rfl | rfl | rfl | rfl <;> rfl
    · exact xC_one A u h
theorem xC_at : ∀ (A : List Xp) (i : Nat) (p : Xp), A[i]? = some p → (xC A)[i * 5]? = some (.int .i64 (xk p.1)) ∧ (xC A)[i * 5 + 1]? = some (.string (bsA (xt p.1))) ∧ (xC A)[i * 5 + 2]? = some (.int .i64 (xn p.1)) ∧ (xC A)[i * 5 + 3]? = some (.int .i64 (xa p.1)) ∧ (xC A)[i * 5 + 4]? = some (.slice p.2.1 (xl p.1) p.2.2)
  | [], i, p, h => by simp at h
  | q :: A, 0, p, h => by
    simp only [List.getElem?_cons_zero, Option.some.injEq] at h
    subst h
    exact ⟨rfl, rfl, rfl, rfl, rfl⟩
  | q :: A, i + 1, p, h => by
    simp only [List.getElem?_cons_succ] at h
    obtain ⟨h0, h1, h2, h3, h4⟩ := xC_at A i p h
    have e : ∀ k, (xC (q :: A))[(i + 1) * 5 + k]? = (xC A)[i * 5 + k]? := fun k => by
      show (xpC q ++ xC A)[(i + 1) * 5 + k]? = _
      rw [List.getElem?_append_right (by show 5 ≤ _; omega)]
      show (xC A)[(i + 1) * 5 + k - 5]? = _
      rw [show (i + 1) * 5 + k - 5 = i * 5 + k by omega]
    exact ⟨(e 0).trans h0, (e 1).trans h1, (e 2).trans h2, (e 3).trans h3, (e 4).trans h4⟩
/-- Trees side by side in g, that the call has laid. -/
structure OwX (rb lo : Nat) (w : World) (g cap : Nat) (A : List Xp) : Prop where
  own : w.ownsRow lo 26 5 (.slice (some ⟨g, 0, none⟩) A.length cap) A.length (xC A)
  kids : ∀ p ∈ A, XSt rb g lo w p.1 p.2.1
theorem OwX.lt {rb lo : Nat} {w : World} {g cap : Nat} {A : List Xp} (h : OwX rb lo w g cap A) : lo ≤ g ∧ g < w.heap.size := h.own.lt g rfl
theorem OwX.fx {rb lo : Nat} {w w' : World} {g cap : Nat} {A : List Xp} (h : OwX rb lo w g cap A) (hf : Fx rb w w') (hg : rb < lo) : OwX rb lo w' g cap A := by
  refine ⟨⟨h.own.1, ?_⟩, fun p hp => (h.kids p hp).fx hf⟩
  have hl := h.lt
  rcases h.own.2 with ⟨e, _⟩ | ⟨g', c', cur, e, hb, hh, rest⟩
  · cases e
  · have e1 : g = g' := by
      have := congrArg Value.ownBlock e
      simpa [Value.ownBlock] using this
    subst e1
    exact Or.inr ⟨g, c', cur, e, hb, (hf.blk g hl.2 (by omega)).trans hh, rest⟩
theorem OwX.below {rb lo : Nat} {w w' : World} {g cap : Nat} {A : List Xp} (h : OwX rb lo w g cap A) (hf : Below w.heap.size w w') (hg : rb < lo) : OwX rb lo w' g cap A := h.fx (Fx.below hf) hg
theorem OwX.low {rb lo lo' : Nat} {w : World} {g cap : Nat} {A : List Xp} (h : OwX rb lo w g cap A) (hl : lo' ≤ lo) : OwX rb lo' w g cap A := by
  refine ⟨⟨h.own.1, ?_⟩, fun p hp w' hk => NdF.keep hl (fun _ _ _ => rfl) (h.kids p hp w' hk)⟩
  rcases h.own.2 with ⟨e, _⟩ | ⟨g', c', cur, e, hb, rest⟩
  · cases e
  · exact Or.inr ⟨g', c', cur, e, Nat.le_trans hl hb, rest⟩
theorem OwX.new {rb lo : Nat} (w : World) (A : List Xp) (hlo : lo ≤ w.heap.size) (hn : A.length ≤ 1000) (hk : ∀ p ∈ A, XAt lo w p.1 p.2.1) (hr : rb < lo) (cs : Array Value) (hcs : cs.toList = xC A) : OwX rb lo (w.alloc (.cells cs 26)) w.heap.size A.length A := by
  refine ⟨⟨xC_len A, Or.inr ⟨w.heap.size, A.length, cs, rfl, hlo, heap_alloc_new w _, Nat.le_refl _, by unfold maxLen; omega, ?_, ?_⟩⟩, fun p hp => (XSt.old (hk p hp) hr (Nat.le_refl _)).below ((Below.refl _ _).alloc (Nat.le_refl _) _)⟩
  · rw [← Array.length_toList, hcs, xC_len]
  · rw [hcs, ← xC_len, List.take_length]
theorem XSt.grown {rb g g' lo : Nat} {w w' : World} {x : X} {s : Option Addr} (h : XSt rb g lo w x s) (hg : w.grownBy w' (some g)) (hl : g = g' ∨ g' = w.heap.size) : XSt rb g' lo w' x s := fun w2 hk => by
  refine h w2 fun b hb h1 h2 => ?_
  refine (hk b (Nat.lt_of_lt_of_le hb hg.size) h1 ?_).trans (hg.block b hb (by simpa using h2))
  rcases hl with rfl | rfl
  · exact h2
  · omega
theorem OwX.grown {rb lo : Nat} {w w' : World} {g g' cap cap' : Nat} {A B : List Xp} (h : OwX rb lo w g cap A) (hB : ∀ p ∈ B, XSt rb g lo w p.1 p.2.1)
    (ho : w'.ownsRow lo 26 5 (.slice (some ⟨g', 0, none⟩) (A.length + B.length) cap') (A.length + B.length) (xC A ++ xC B)) (hg : w.grownBy w' (some g)) (hl : g = g' ∨ g' = w.heap.size) : OwX rb lo w' g' cap' (A ++ B) := by
  refine ⟨by rw [List.length_append, xC_app]; exact ho, fun p hp => ?_⟩
  rcases List.mem_append.1 hp with hp | hp
  · exact (h.kids p hp).grown hg hl
  · exact (hB p hp).grown hg hl
theorem Fx.grown {rb : Nat} {w0 w w' : World} {g : Nat} (h : Fx rb w0 w) (hg : w.grownBy w' (some g)) (hl : w0.heap.size ≤ g) : Fx rb w0 w' :=
  ⟨h.b0.grown hg (Nat.zero_le _) (fun _ _ => Nat.zero_le _), fun b hb hn => (hg.block b (Nat.lt_of_lt_of_le hb h.size) (by simp; omega)).trans (h.blk b hb hn)⟩
theorem Rdr.grown {rb : Nat} {ta : Option Addr} {cap : Nat} {T : List Tt} {i op : Nat} {w w' : World} {g : Nat} (h : Rdr w rb ta cap T i op) (hg : w.grownBy w' (some g)) (hl : rb < g) : Rdr w' rb ta cap T i op := by
  have hb : ∀ b, b ≤ rb → w'.heap[b]? = w.heap[b]? := fun b hb => hg.block b (by have := cell_lt h.c0; omega) (by simp; omega)
  refine ⟨cell_same h.c0 (hb _ (Nat.le_refl _)), cell_same h.c1 (hb _ (Nat.le_refl _)), cell_same h.c2 (hb _ (Nat.le_refl _)), (World.frozen?_of_block (a := ⟨rb, 1, none⟩) (hb _ (Nat.le_refl _))).trans h.f1, (World.frozen?_of_block (a := ⟨rb, 2, none⟩) (hb _ (Nat.le_refl _))).trans h.f2, ?_, h.apart, h.len, h.le⟩
  rcases h.toks with h0 | ⟨b, off, rfl, hc⟩
  · exact Or.inl h0
  · have hbr := h.apart b off rfl
    exact Or.inr ⟨b, off, rfl, fun i t hi => ⟨cell_same (hc i t hi).1 (hb _ (by omega)), cell_same (hc i t hi).2.1 (hb _ (by omega)), cell_same (hc i t hi).2.2.1 (hb _ (by omega)), cell_same (hc i t hi).2.2.2 (hb _ (by omega))⟩⟩
theorem OwX.xs {rb lo : Nat} {w : World} {g cap : Nat} {A : List Xp} (h : OwX rb lo w g cap A) : XsAt lo w g (A.map (·.1)) := by
  have hl := h.lt
  refine ⟨⟨hl.1, ?_⟩, fun i x hx => ?_⟩
  · rcases h.own.2 with ⟨e, _⟩ | ⟨g', c', cur, e, hb, hh, _⟩
    · cases e
    · have e1 : g = g' := by
        have := congrArg Value.ownBlock e
        simpa [Value.ownBlock] using this
      subst e1
      intro j
      simp [World.frozen?, hh]
  · rw [List.getElem?_map] at hx
    obtain ⟨p, hp, rfl⟩ := Option.map_eq_some_iff.1 hx
    obtain ⟨h0, h1, h2, h3, h4⟩ := xC_at A i p hp
    have hc := h.own.cells (g := g) rfl
    have hadd : ∀ j, (⟨g, 0, none⟩ : Addr).add j = ⟨g, j, none⟩ := fun j => by unfold Addr.add; split <;> simp_all
    refine ⟨p.2.1, p.2.2, ⟨?_, ?_, ?_, ?_, ?_⟩, h.kids p (List.mem_of_getElem? hp) w (fun _ _ _ _ => rfl)⟩
    · rw [← hadd]; exact hc _ _ h0
    · rw [← hadd]; exact hc _ _ h1
    · rw [← hadd]; exact hc _ _ h2
    · rw [← hadd]; exact hc _ _ h3
    · rw [← hadd]; exact hc _ _ h4
/-- What a function that reads a list ends with. -/
def LPost (rb : Nat) (ta : Option Addr) (cap : Nat) (T : List Tt) (op : Nat) (w : World) (r : Sum Er (List X × Nat)) (e : Ending) (w' : World) : Prop :=
  (match r with
    | .inl q => GUp q.1 q.2 e
    | .inr q => (∃ g c A, e = .returned (.slice (some ⟨g, 0, none⟩) A.length c) ∧ A.map (·.1) = q.1 ∧ OwX rb w.heap.size w' g c A) ∧ Rdr w' rb ta cap T q.2 op) ∧ Fx rb w w'
theorem LPost.no {rb : Nat} {ta : Option Addr} {cap : Nat} {T : List Tt} {op : Nat} {w w' : World} {q : Er} {e : Ending} (h : LPost rb ta cap T op w (.inl q) e w') : GUp q.1 q.2 e ∧ Fx rb w w' := h
theorem LPost.ok {rb : Nat} {ta : Option Addr} {cap : Nat} {T : List Tt} {op : Nat} {w w' : World} {q : List X × Nat} {e : Ending} (h : LPost rb ta cap T op w (.inr q) e w') : ((∃ g c A, e = .returned (.slice (some ⟨g, 0, none⟩) A.length c) ∧ A.map (·.1) = q.1 ∧ OwX rb w.heap.size w' g c A) ∧ Rdr w' rb ta cap T q.2 op) ∧ Fx rb w w' := h
def LReads (rb : Nat) (ta : Option Addr) (cap : Nat) (T : List Tt) (k : FuncId) (g : Nat → Nat → Rz (List X)) : Prop := ∀ (i op : Nat) (w : World) (r : Sum Er (List X × Nat)), op ≤ 100 → Rdr w rb ta cap T i op → g i op = some r → Calls Try.prog k #[ptr rb] w (LPost rb ta cap T op w r)
/-- Reading goes on, never back. -/
def Ups {α : Type} (g : Nat → Nat → Rz α) : Prop := ∀ i op x j, g i op = some (.inr (x, j)) → i ≤ j
theorem info26 : (Try.prog.info? 26).map (fun i => (i.zero, i.size, i.bytes)) = some (some (.agg #[.int .i64 0, .string ⟨#[]⟩, .int .i64 0, .int .i64 0, .slice none 0 0]), 5, 64) := by kernel_rfl
theorem xp_cells (w : World) (x : X) (s : Option Addr) (c : Nat) : ∀ j u, (xC [(x, s, c)])[j]? = some u → (w.alloc (.cells #[.int .i64 (xk x), .string (bsA (xt x)), .int .i64 (xn x), .int .i64 (xa x), .slice s (xl x) c] 26)).cell? ((⟨w.heap.size, 0, none⟩ : Addr).add j) = some u := World.news_of_block (heap_alloc_new w _)
end Go.Proofs.Ytcicdapccondkaa
