/- Two maps beside one another in one memory: the one of package key and the document's. -/
import Derived.Test.YtbfodpmlmhkikaaDoorRRem
import Derived.Test.YtbfodpmlmhkikaaDoorRNew2
import Derived.Test.YtbfodpmlmhkikaaDoorRAdd
import Derived.Test.YtbfodpmlmhkikaaDoorTree3
import Derived.Test.YtbfodpmlmhkikaaDoorRem
import Derived.Test.YtbfodpmlmhkikaaDoorAdd2
namespace Go.Proofs.YtbfodpmlmhkikaaDoor
open Go.ChangeShapes Go.WideShapes Go.ChangeAt Go.RowKit

variable {S : Nat → Prop} {w w' : World} {M : Mb} {X : Nat} {WL WL' : List (Pce × Way)} {HL HL' : List (Int × Ent)} {pl bi pl' bi' : Int} {v v' : Value} {P P' : List Ent}
theorem MapIs.fr {α β : Type} {eK : α → Value} {eV : β → Value} {b : Nat} {L : List (α × β)} {es : Array MapEntry} {clk : Nat} (h : MapIs eK eV w b L es clk) (hf : Fr S w w') (hS : ¬ S b) : MapIs eK eV w' b L es clk :=
  ⟨(hf.block b (heap_lt h.at_) hS).trans h.at_, h.same, h.old, h.once⟩
theorem Fr.vals' {a : Option Addr} {r : List Val} (h : Fr S w w') (hr : RowAt w a r) (hS : r ≠ [] → ∀ g o, a = some ⟨g, o, none⟩ → ¬ S g) : RowAt w' a r := by
  by_cases e : r = []
  · subst e; exact Or.inl rfl
  · exact h.vals hr (hS e)
theorem MpAt.fr (h : MpAt w M WL HL pl bi) (hf : Fr S w w') (hM : ∀ k, M.own k → ¬ S k) (hr : ∀ x ∈ HL, x.2.row ≠ [] → ∀ g o, x.2.a = some ⟨g, o, none⟩ → ¬ S g) : MpAt w' M WL HL pl bi where
  c0 := hf.cell (hM _ (Or.inl rfl)) h.c0
  c1 := hf.cell (hM _ (Or.inl rfl)) h.c1
  c2 := hf.cell (hM _ (Or.inl rfl)) h.c2
  c3 := hf.cell (hM _ (Or.inl rfl)) h.c3
  f2 := (hf.frozen (cell_lt h.c2) (hM _ (Or.inl rfl))).trans h.f2
  f3 := (hf.frozen (cell_lt h.c3) (hM _ (Or.inl rfl))).trans h.f3
  ways := by obtain ⟨es, clk, hw⟩ := h.ways; exact ⟨es, clk, hw.fr hf (hM _ (Or.inr (Or.inl rfl)))⟩
  held := by obtain ⟨es, clk, hw⟩ := h.held; exact ⟨es, clk, hw.fr hf (hM _ (Or.inr (Or.inr rfl)))⟩
  rows := fun x hx => ⟨hf.vals' (h.rows x hx).1 (hr x hx), (h.rows x hx).2⟩
  ne := h.ne
theorem MpAt.own_lt (h : MpAt w M WL HL pl bi) {k : Nat} (hk : M.own k) : k < w.heap.size := by
  rcases hk with rfl | rfl | rfl
  · exact cell_lt h.c0
  · obtain ⟨_, _, hw⟩ := h.ways; exact heap_lt hw.at_
  · obtain ⟨_, _, hw⟩ := h.held; exact heap_lt hw.at_
theorem row_lt {a : Option Addr} {r : List Val} (h : RowAt w a r) (hr : r ≠ []) {g o : Nat} (ha : a = some ⟨g, o, none⟩) : g < w.heap.size := by
  rcases h with h | ⟨b, off, e, hc⟩
  · exact absurd (List.length_eq_zero_iff.1 h) hr
  · rw [e] at ha; injection ha with ha; injection ha with e1 _ _; subst e1
    exact cell_lt (hc 0 (List.length_pos_iff.2 hr)).1
theorem RfAt.fr {B : Nat} (h : RfAt w X B v P) (hf : Fr S w w') (hX : ¬ S X) (hv : ∀ k, v.ownBlock = some k → ¬ S k) (hr : ∀ x ∈ P, x.row ≠ [] → ∀ g o, x.a = some ⟨g, o, none⟩ → ¬ S g) : RfAt w' X B v P where
  c := hf.cell hX h.c
  f := (hf.frozen (cell_lt h.c) hX).trans h.f
  own := by
    obtain ⟨hlen, h0 | ⟨g, cap, cur, rfl, hbg, hg, hrest⟩⟩ := h.own
    · exact ⟨hlen, Or.inl h0⟩
    · exact ⟨hlen, Or.inr ⟨g, cap, cur, rfl, hbg, (hf.block g (heap_lt hg) (hv g rfl)).trans hg, hrest⟩⟩
  rows := fun x hx => ⟨hf.vals' (h.rows x hx).1 (hr x hx), fun g o e => ⟨((h.rows x hx).2 g o e).1, Nat.lt_of_lt_of_le ((h.rows x hx).2 g o e).2.1 hf.size, ((h.rows x hx).2 g o e).2.2⟩⟩
  nX := h.nX

/-- The two maps, with no block in common, both made since W0. -/
structure Two (W0 w : World) (M : Mb) (X : Nat) (WL : List (Pce × Way)) (HL : List (Int × Ent)) (pl bi : Int) (v : Value) (P : List Ent) : Prop where
  bw : Below W0.heap.size W0 w
  mp : MpAt w M WL HL pl bi
  rf : RfAt w X W0.heap.size v P
  mB : ∀ k, M.own k → W0.heap.size ≤ k
  xB : W0.heap.size ≤ X
  nX : ¬ M.own X
  nv : ∀ k, v.ownBlock = some k → ¬ M.own k
  nP : ∀ x ∈ P, x.row ≠ [] → ∀ g o, x.a = some ⟨g, o, none⟩ → ¬ M.own g
  nH : ∀ x ∈ HL, x.2.row ≠ [] → ∀ g o, x.2.a = some ⟨g, o, none⟩ → g ≠ X ∧ v.ownBlock ≠ some g
/-- A block that is of none of the two. -/
structure Off (M : Mb) (X : Nat) (HL : List (Int × Ent)) (v : Value) (P : List Ent) (b : Nat) : Prop where
  m : ¬ M.own b
  x : b ≠ X
  v : v.ownBlock ≠ some b
  h : ∀ y ∈ HL, y.2.row ≠ [] → ∀ g o, y.2.a = some ⟨g, o, none⟩ → g ≠ b
  p : ∀ y ∈ P, y.row ≠ [] → ∀ g o, y.a = some ⟨g, o, none⟩ → g ≠ b
variable {W0 : World}
theorem Two.below (h : Two W0 w M X WL HL pl bi v P) (hb : Below w.heap.size w w') : Two W0 w' M X WL HL pl bi v P :=
  ⟨h.bw.trans (hb.mono h.bw.size), h.mp.below hb, h.rf.below hb, h.mB, h.xB, h.nX, h.nv, h.nP, h.nH⟩
theorem Two.off (h : Two W0 w M X WL HL pl bi v P) {b : Nat} (hb : w.heap.size ≤ b) : Off M X HL v P b where
  m := fun hk => by have := h.mp.own_lt hk; omega
  x := fun e => by have := cell_lt h.rf.c; omega
  v := fun e => by have := h.rf.own.lt b e; omega
  h := fun y hy hr g o e => by have := row_lt (h.mp.rows y hy).1 hr e; omega
  p := fun y hy _ g o e => by have := ((h.rf.rows y hy).2 g o e).2.1; omega
theorem Two.set (h : Two W0 w M X WL HL pl bi v P) {b : Nat} (ho : Off M X HL v P b) (hB : W0.heap.size ≤ b) (hf : Fr (fun k => k = b) w w') : Two W0 w' M X WL HL pl bi v P :=
  ⟨hf.below h.bw.size (fun k hk => by subst hk; exact hB) h.bw, h.mp.fr hf (fun k hk e => ho.m (e ▸ hk)) (fun x hx hr g o e => ho.h x hx hr g o e), h.rf.fr hf (fun e => ho.x e.symm) (fun k hk e => ho.v (e ▸ hk)) (fun x hx hr g o e => ho.p x hx hr g o e), h.mB, h.xB, h.nX, h.nv, h.nP, h.nH⟩
/-- The map of package key has changed. -/
theorem Two.kstep (h : Two W0 w M X WL HL pl bi v P) (hm : MpAt w' M WL' HL' pl' bi') (hf : Fr M.own w w') (hH : ∀ x ∈ HL', (∃ y ∈ HL, y.2.row = x.2.row ∧ y.2.a = x.2.a) ∨ ∀ g o, x.2.a = some ⟨g, o, none⟩ → w.heap.size ≤ g) :
    Two W0 w' M X WL' HL' pl' bi' v P ∧ ∀ b, b < w.heap.size → Off M X HL v P b → Off M X HL' v P b := by
  refine ⟨⟨hf.below h.bw.size h.mB h.bw, hm, h.rf.fr hf h.nX h.nv h.nP, h.mB, h.xB, h.nX, h.nv, h.nP, fun x hx hr g o e => ?_⟩, fun b hb ho => ⟨ho.m, ho.x, ho.v, fun y hy hr g o e => ?_, ho.p⟩⟩
  · rcases hH x hx with ⟨y, hy, e1, e2⟩ | hn
    · exact h.nH y hy (e1 ▸ hr) g o (e2 ▸ e)
    · have h1 := hn g o e
      have h2 := cell_lt h.rf.c
      exact ⟨by omega, fun e3 => by have := h.rf.own.lt g e3; omega⟩
  · rcases hH y hy with ⟨z, hz, e1, e2⟩ | hn
    · exact ho.h z hz (e1 ▸ hr) g o (e2 ▸ e)
    · have h1 := hn g o e
      omega
/-- The document's map has changed. -/
theorem Two.rstep (h : Two W0 w M X WL HL pl bi v P) (hm : RfAt w' X W0.heap.size v' P') (hf : Fr (fun k => k = X ∨ v.ownBlock = some k) w w') (hv : ∀ k, v'.ownBlock = some k → v.ownBlock = some k ∨ w.heap.size ≤ k) (hP : ∀ x ∈ P', (∃ y ∈ P, y.row = x.row ∧ y.a = x.a) ∨ ∀ g o, x.a = some ⟨g, o, none⟩ → w.heap.size ≤ g) :
    Two W0 w' M X WL HL pl bi v' P' ∧ ∀ b, b < w.heap.size → Off M X HL v P b → Off M X HL v' P' b := by
  refine ⟨⟨hf.below h.bw.size (fun k hk => ?_) h.bw, h.mp.fr hf (fun k hk e => ?_) (fun x hx hr g o e e2 => ?_), hm, h.mB, h.xB, h.nX, fun k hk ho => ?_, fun x hx hr g o e ho => ?_, fun x hx hr g o e => ⟨(h.nH x hx hr g o e).1, fun e2 => ?_⟩⟩, fun b hb ho => ⟨ho.m, ho.x, fun e => ?_, ho.h, fun y hy hr g o e => ?_⟩⟩
  · rcases hk with rfl | hk
    · exact h.xB
    · exact (h.rf.own.lt k hk).1
  · rcases e with rfl | e
    · exact h.nX hk
    · exact h.nv k e hk
  · rcases e2 with e2 | e2
    · exact (h.nH x hx hr g o e).1 e2
    · exact (h.nH x hx hr g o e).2 e2
  · rcases hv k hk with e | e
    · exact h.nv k e ho
    · have := h.mp.own_lt ho; omega
  · rcases hP x hx with ⟨y, hy, e1, e2⟩ | hn
    · exact h.nP y hy (e1 ▸ hr) g o (e2 ▸ e) ho
    · have := hn g o e; have := h.mp.own_lt ho; omega
  · rcases hv g e2 with e3 | e3
    · exact (h.nH x hx hr g o e).2 e3
    · have := row_lt (h.mp.rows x hx).1 hr e; omega
  · rcases hv b e with e3 | e3
    · exact ho.v e3
    · omega
  · rcases hP y hy with ⟨z, hz, e1, e2⟩ | hn
    · exact ho.p z hz (e1 ▸ hr) g o (e2 ▸ e)
    · have := hn g o e; omega
end Go.Proofs.YtbfodpmlmhkikaaDoor
