/- The steps that come in, the two maps between two steps, rows that are written over. -/
import Derived.Test.YtbfodpmlmhkikaaDoorPlay
import Derived.Test.YtbfodpmlmhkikaaDoorTwin
namespace Go.Proofs.YtbfodpmlmhkikaaDoor
open Go.ChangeShapes Go.WideShapes Go.ChangeAt Go.RowKit

/-- A step: what, how many, which row. -/
structure OpV where
  kind : Int
  n : Int
  a : Option Addr
  cap : Nat
  row : List Val
/-- The steps that came in. -/
structure OpsAt (W : World) (b off len : Nat) (o : Nat → OpV) : Prop where
  c0 : ∀ i, i < len → W.cell? ⟨b, off + i * 3, none⟩ = some (.int .i64 (o i).kind)
  c1 : ∀ i, i < len → W.cell? ⟨b, off + i * 3 + 1, none⟩ = some (.int .i64 (o i).n)
  c2 : ∀ i, i < len → W.cell? ⟨b, off + i * 3 + 2, none⟩ = some (.slice (o i).a (o i).row.length (o i).cap)
  row : ∀ i, i < len → RowAt W (o i).a (o i).row
  int : ∀ i, i < len → IntR (o i).row
  short : ∀ i, i < len → (o i).row.length ≤ 1048576
  num : ∀ i, i < len → -9223372036854775808 ≤ (o i).n ∧ (o i).n ≤ 9223372036854775807
/-- Behind m steps: the two maps, of the same pairs. -/
structure Alike (W0 w : World) (M : Mb) (X m : Nat) (WL : List (Pce × Way)) (HL : List (Int × Ent)) (pl bi : Int) (v : Value) (P : List Ent) : Prop where
  two : Two W0 w M X WL HL pl bi v P
  hold : Hold WL HL pl bi
  same : ppr P = prs HL
  len : HL.length ≤ m
  pl0 : 0 ≤ pl ∧ pl ≤ m * 1048576
  bi0 : 0 ≤ bi ∧ bi ≤ m
  short : ∀ x ∈ prs HL, x.1.length ≤ 1048576
variable {W0 w w' w'' : World} {M : Mb} {X m : Nat} {WL WL' : List (Pce × Way)} {HL HL' : List (Int × Ent)} {pl bi pl' bi' : Int} {v v' : Value} {P P' : List Ent}
theorem Alike.below (h : Alike W0 w M X m WL HL pl bi v P) (hb : Below w.heap.size w w') : Alike W0 w' M X m WL HL pl bi v P := { h with two := h.two.below hb }
theorem Alike.more (h : Alike W0 w M X m WL HL pl bi v P) : Alike W0 w M X (m + 1) WL HL pl bi v P :=
  { h with len := by have := h.len; omega, pl0 := by have := h.pl0; omega, bi0 := by have := h.bi0; omega }
theorem Alike.plen (h : Alike W0 w M X m WL HL pl bi v P) : P.length = HL.length := by
  have := congrArg List.length h.same
  simpa [ppr, prs] using this
theorem Alike.num (h : Alike W0 w M X m WL HL pl bi v P) : ∀ x ∈ prs HL, -9223372036854775808 ≤ x.2 ∧ x.2 ≤ 9223372036854775807 := by
  intro x hx
  obtain ⟨y, hy, rfl⟩ := List.mem_map.1 hx
  exact h.hold.num y hy
theorem Alike.pshort (h : Alike W0 w M X m WL HL pl bi v P) : ∀ x ∈ ppr P, x.1.length ≤ 1048576 := by rw [h.same]; exact h.short
theorem Alike.rows (h : Alike W0 w M X m WL HL pl bi v P) : P.map (·.row) = rwH HL := by
  have e := congrArg (List.map (·.1)) h.same
  simpa [ppr, prs, rwH, List.map_map, Function.comp_def] using e
theorem Alike.hshort (h : Alike W0 w M X m WL HL pl bi v P) : ∀ x ∈ HL, x.2.row.length * 32 ≤ 140737488355328 := by
  intro x hx
  have := h.short _ (List.mem_map_of_mem (f := fun x : Int × Ent => (x.2.row, x.2.n)) hx)
  dsimp only at this; omega
theorem Alike.start (hM : MpAt w M [] [] 0 0) (hb : Below W0.heap.size W0 w) (h1 : W0.heap.size ≤ M.m) (h2 : W0.heap.size ≤ M.w) (h3 : W0.heap.size ≤ M.h) (t : TypeId) :
    Alike W0 (w.alloc (.cells #[.slice none 0 0] t)) M w.heap.size 0 [] [] 0 0 (.slice none 0 0) [] where
  two := {
    bw := hb.trans ((Below.refl _ _).alloc hb.size _)
    mp := hM.alloc _
    rf := {
      c := by have e := new_at w (.cells #[.slice none 0 0] t); unfold World.cell?; dsimp only; rw [e]; rfl
      f := by have e := new_at w (.cells #[.slice none 0 0] t); unfold World.frozen?; dsimp only; rw [e]; rfl
      own := World.ownsRow_nil _ _ _ _
      rows := fun x hx => by cases hx
      nX := by intro e; cases e }
    mB := fun k hk => by rcases hk with rfl | rfl | rfl <;> assumption
    xB := hb.size
    nX := fun hk => by have := hM.own_lt hk; omega
    nv := fun k hk => by cases hk
    nP := fun x hx => by cases hx
    nH := fun x hx => by cases hx }
  hold := Hold.nil
  same := rfl
  len := Nat.le_refl _
  pl0 := by simp
  bi0 := by simp
  short := fun x hx => by cases hx
/-- Cells that are there and may be written. -/
def Warm (w : World) (b n : Nat) : Prop := ∀ j, j < n → (∃ u, w.cell? ⟨b, j, none⟩ = some u) ∧ w.frozen? ⟨b, j, none⟩ = false
theorem Warm.set {b n c j : Nat} {u : Value} (h : Warm w b n) : Warm (w.setCell ⟨c, j, none⟩ u) b n := by
  intro i hi
  obtain ⟨⟨x, hx⟩, hf⟩ := h i hi
  refine ⟨?_, by rw [World.frozen?_setCell]; exact hf⟩
  by_cases e : (⟨c, j, none⟩ : Addr) = ⟨b, i, none⟩
  · injection e with e1 e2 _; subst e1; subst e2
    exact ⟨u, World.cell?_setCell_same _ _ _ hx⟩
  · exact ⟨x, by rw [World.cell?_setCell_other _ _ _ _ e]; exact hx⟩
theorem Warm.below {b n : Nat} (h : Warm w b n) (hb : Below w.heap.size w w') : Warm w' b n := by
  intro i hi
  obtain ⟨⟨x, hx⟩, hf⟩ := h i hi
  exact ⟨⟨x, cell_below hb hx⟩, (hb.frozen (p := ⟨b, i, none⟩) (cell_lt hx)).trans hf⟩
theorem Warm.of {a : Option Addr} {r : List Val} {g : Nat} (hr : RowAt w a r) (ha : a = some ⟨g, 0, none⟩) (hf : ∀ j, w.frozen? ⟨g, j, none⟩ = false) : Warm w g (r.length * 3) := by
  intro j hj
  refine ⟨?_, hf j⟩
  rcases hr with h | ⟨b, off, e, hc⟩
  · omega
  · rw [ha] at e; injection e with e; injection e with e1 e2 _; subst e1; subst e2
    have h3 := hc (j / 3) (by omega)
    rw [Nat.zero_add] at h3
    have hm : j % 3 = 0 ∨ j % 3 = 1 ∨ j % 3 = 2 := by omega
    rcases hm with hm | hm | hm
    · exact ⟨_, by rw [show j = j / 3 * 3 by omega]; exact h3.1⟩
    · exact ⟨_, by rw [show j = j / 3 * 3 + 1 by omega]; exact h3.2.1⟩
    · exact ⟨_, by rw [show j = j / 3 * 3 + 2 by omega]; exact h3.2.2⟩
/-- Rows that may be written over. -/
def WarmRs (w : World) (B g : Nat) (rs : List (List Val)) : Prop := ∀ i, i < rs.length → ∃ ai cap, w.cell? ⟨g, i, none⟩ = some (.slice ai (rs.getD i []).length cap) ∧ ((rs.getD i []).length = 0 ∨ ∃ h, ai = some ⟨h, 0, none⟩ ∧ B ≤ h ∧ h ≠ g ∧ Warm w h ((rs.getD i []).length * 3))
theorem WarmRs.set {B g c j : Nat} {rs : List (List Val)} {u : Value} (h : WarmRs w B g rs) (hc : c ≠ g) : WarmRs (w.setCell ⟨c, j, none⟩ u) B g rs := by
  intro i hi
  obtain ⟨ai, cap, h1, h2⟩ := h i hi
  refine ⟨ai, cap, by rw [World.cell?_setCell_other _ _ _ _ (by intro e; injection e with e1 _ _; exact hc e1)]; exact h1, ?_⟩
  rcases h2 with h2 | ⟨b, e1, e2, e3, e4⟩
  · exact Or.inl h2
  · exact Or.inr ⟨b, e1, e2, e3, e4.set⟩
theorem WarmRs.below {B g : Nat} {rs : List (List Val)} (h : WarmRs w B g rs) (hb : Below w.heap.size w w') : WarmRs w' B g rs := by
  intro i hi
  obtain ⟨ai, cap, h1, h2⟩ := h i hi
  refine ⟨ai, cap, cell_below hb h1, ?_⟩
  rcases h2 with h2 | ⟨b, e1, e2, e3, e4⟩
  · exact Or.inl h2
  · exact Or.inr ⟨b, e1, e2, e3, e4.below hb⟩
theorem WarmRs.of {B g n : Nat} {rs : List (List Val)} (h : RowsUpto w B g n rs n) (hn : rs.length = n) : WarmRs w B g rs := by
  intro i hi
  obtain ⟨ai, cap, h1, h2, h3⟩ := h.has i (by omega)
  refine ⟨ai, cap, h1, ?_⟩
  rcases Nat.eq_zero_or_pos (rs.getD i []).length with h0 | h0
  · exact Or.inl h0
  · right
    have h2' := h2
    rcases h2 with h | ⟨b, off, e, _⟩
    · omega
    · obtain ⟨a1, a2, a3, a4, a5⟩ := h3 b off e
      subst a4
      exact ⟨b, e, a1, a3, Warm.of h2' e a5⟩
theorem rs_upto2 {B g n : Nat} {rs : List (List Val)} (h : RowsUpto w B g n rs n) (hn : rs.length = n) : RsAt w (some ⟨g, 0, none⟩) rs := by
  refine Or.inr ⟨g, 0, rfl, fun i hi => ?_⟩
  obtain ⟨ai, cap, h1, h2, _⟩ := h.has i (by omega)
  exact ⟨ai, cap, by rw [Nat.zero_add]; exact h1, h2⟩
/-- A row that the two maps have no part in, which may be written over. -/
structure Mine (W0 w : World) (M : Mb) (X : Nat) (HL : List (Int × Ent)) (v : Value) (P : List Ent) (a : Option Addr) (r : List Val) : Prop where
  row : RowAt w a r
  off : ∀ g o, a = some ⟨g, o, none⟩ → Off M X HL v P g ∧ g < w.heap.size ∧ W0.heap.size ≤ g ∧ o = 0 ∧ ∀ j, w.frozen? ⟨g, j, none⟩ = false
theorem Mine.below {a : Option Addr} {r : List Val} (h : Mine W0 w M X HL v P a r) (hb : Below w.heap.size w w') : Mine W0 w' M X HL v P a r :=
  ⟨h.row.below hb, fun g o e => by
    obtain ⟨h1, h2, h3, h4, h5⟩ := h.off g o e
    exact ⟨h1, Nat.lt_of_lt_of_le h2 hb.size, h3, h4, fun j => (hb.frozen (p := ⟨g, j, none⟩) h2).trans (h5 j)⟩⟩
theorem Mine.fr {S : Nat → Prop} {a : Option Addr} {r : List Val} (h : Mine W0 w M X HL v P a r) (hf : Fr S w w') (hS : ∀ g, Off M X HL v P g → ¬ S g) (ho : ∀ b, b < w.heap.size → Off M X HL v P b → Off M X HL' v' P' b) : Mine W0 w' M X HL' v' P' a r :=
  ⟨hf.vals h.row (fun g o e => hS g (h.off g o e).1), fun g o e => by
    obtain ⟨h1, h2, h3, h4, h5⟩ := h.off g o e
    exact ⟨ho g h2 h1, Nat.lt_of_lt_of_le h2 hf.size, h3, h4, fun j => (hf.frozen h2 (hS g h1)).trans (h5 j)⟩⟩
theorem Mine.k {a : Option Addr} {r : List Val} {L : List (List Val × Int)} {p b : Int} (h : Mine W0 w M X HL v P a r) (hk : KLeft W0 w w' M X HL v P L p b WL' HL' pl' bi') : Mine W0 w' M X HL' v P a r :=
  h.fr hk.fr (fun _ ho => ho.m) hk.off
theorem Mine.x {a : Option Addr} {r : List Val} {L : List (List Val × Int)} (h : Mine W0 w M X HL v P a r) (hk : XLeft W0 w w' M X WL HL pl bi v P L v' P') : Mine W0 w' M X HL v' P' a r :=
  h.fr hk.fr (fun g ho e => by rcases e with e | e; exact ho.x e; exact ho.v e) hk.off
theorem Mine.new {a : Option Addr} {r : List Val} (hT : Two W0 w M X WL HL pl bi v P) (hr : RowAt w' a r) (ha : ∀ g o, a = some ⟨g, o, none⟩ → w.heap.size ≤ g ∧ g < w'.heap.size ∧ o = 0 ∧ ∀ j, w'.frozen? ⟨g, j, none⟩ = false) : Mine W0 w' M X HL v P a r :=
  ⟨hr, fun g o e => by
    obtain ⟨h1, h2, h3, h4⟩ := ha g o e
    exact ⟨hT.off h1, h2, Nat.le_trans hT.bw.size h1, h3, h4⟩⟩
theorem Mine.ne {a : Option Addr} {r : List Val} (h : Mine W0 w M X HL v P a r) : ∀ g o, a = some ⟨g, o, none⟩ → g ≠ M.m := fun g o e => by
  intro e2; exact (h.off g o e).1.m (Or.inl e2)
/-- Add, done to both. -/
theorem Alike.add {r : List Val} {n : Int} (h : Alike W0 w M X m WL HL pl bi v P) (hlen : r.length ≤ 1048576) (hk : KLeft W0 w w' M X HL v P (adL (prs HL) r n).2.2 (pl + r.length) (bi + 1) WL' HL' pl' bi') (hx : XLeft W0 w' w'' M X WL' HL' pl' bi' v P (adL (prs HL) r n).2.2 v' P') :
    Alike W0 w'' M X (m + 1) WL' HL' pl' bi' v' P' where
  two := hx.two
  hold := hk.hold
  same := hx.ppr.trans hk.prs.symm
  len := by
    have h1 := adL_len (prs HL) r n
    rw [← hk.prs] at h1
    simp only [prs, List.length_map] at h1
    have := h.len; omega
  pl0 := by have := hk.pl; have := h.pl0; omega
  bi0 := by have := hk.bi; have := h.bi0; omega
  short := fun x hx => by
    rw [hk.prs] at hx
    rcases adL_mem hx with hx | hx
    · exact h.short x hx
    · rw [hx]; exact hlen
theorem Alike.rem {r : List Val} (h : Alike W0 w M X m WL HL pl bi v P) (hlen : r.length ≤ 1048576) (hk : KLeft W0 w w' M X HL v P (rmL (prs HL) r).2 (pl + r.length) (bi + 1) WL' HL' pl' bi') (hx : XLeft W0 w' w'' M X WL' HL' pl' bi' v P (rmL (prs HL) r).2 v' P') :
    Alike W0 w'' M X (m + 1) WL' HL' pl' bi' v' P' where
  two := hx.two
  hold := hk.hold
  same := hx.ppr.trans hk.prs.symm
  len := by
    have h1 := rmL_len (prs HL) r
    rw [← hk.prs] at h1
    simp only [prs, List.length_map] at h1
    have := h.len; omega
  pl0 := by have := hk.pl; have := h.pl0; omega
  bi0 := by have := hk.bi; have := h.bi0; omega
  short := fun x hx => by
    rw [hk.prs] at hx
    exact h.short x (rmL_mem hx)
/-- Both maps and the row, when a step is done. -/
def Mid (W0 w : World) (M : Mb) (X m : Nat) (a : Option Addr) (r : List Val) : Prop := ∃ WL HL pl bi v P, Alike W0 w M X m WL HL pl bi v P ∧ Mine W0 w M X HL v P a r
/-- Both maps, between two steps. -/
def Play (W0 w : World) (M : Mb) (X m : Nat) : Prop := ∃ WL HL pl bi v P, Alike W0 w M X m WL HL pl bi v P
end Go.Proofs.YtbfodpmlmhkikaaDoor
