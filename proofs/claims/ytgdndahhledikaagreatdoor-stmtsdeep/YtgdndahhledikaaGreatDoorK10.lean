/- Xdd. -/
import Derived.Test.YtgdndahhledikaaGreatDoorK09
namespace Go.Proofs.YtgdndahhledikaaGreatDoor
open Go.ChangeShapes Go.WideShapes Go.ChangeAt Go.RowKit
set_option linter.unusedSimpArgs false
set_option maxRecDepth 20000
set_option maxHeartbeats 4000000
def XD (P : Nat → Prop) (lo : Nat) (W : World) (x : X) (s : Option Addr) : Prop := ∀ w' : World, (∀ b, b < W.heap.size → P b → w'.heap[b]? = W.heap[b]?) → XAt lo w' x s
theorem XD.at {P : Nat → Prop} {lo : Nat} {W : World} {x : X} {s : Option Addr} (h : XD P lo W x s) : XAt lo W x s := h W (fun _ _ _ => rfl)
theorem XD.was {rb hi lo : Nat} {w W : World} {x : X} {s : Option Addr} {P : Nat → Prop} (h : XD (fun b => b ≠ rb ∧ b < hi) lo w x s) (hf : Fx rb w W) (hP : ∀ b, b ≠ rb → b < hi → P b) : XD P lo W x s := fun w' hk => h w' fun b hb hp => (hk b (Nat.lt_of_lt_of_le hb hf.size) (hP b hp.1 hp.2)).trans (hf.blk b hb hp.1)
theorem XD.old {rb hi lo : Nat} {W : World} {x : X} {s : Option Addr} (h : XAt lo W x s) (hr : rb < lo) (hh : W.heap.size ≤ hi) : XD (fun b => b ≠ rb ∧ b < hi) lo W x s := fun _ hk => NdF.keep (Nat.le_refl _) (fun b hb hl => hk b hl ⟨by omega, by omega⟩) h
theorem XD.new {lo lo' : Nat} {W : World} {x : X} {s : Option Addr} {P : Nat → Prop} (h : XAt lo' W x s) (hl : lo ≤ lo') (hP : ∀ b, lo' ≤ b → P b) : XD P lo W x s := fun _ hk => NdF.keep hl (fun b hb hlt => hk b hlt (hP b hb)) h
theorem own_of {lo : Nat} {W : World} {g : Nat} {A : List Xp} {cs : Array Value} (hh : W.heap[g]? = some (.cells cs 34)) (hlo : lo ≤ g) (hn : A.length ≤ 1000) (hcs : cs.toList = xC A) : W.ownsRow lo 34 5 (.slice (some ⟨g, 0, none⟩) A.length A.length) A.length (xC A) := by
 refine ⟨xC_len A, Or.inr ⟨g, A.length, cs, rfl, hlo, hh, Nat.le_refl _, by unfold maxLen; omega, ?_, ?_⟩⟩
 · rw [← Array.length_toList, hcs, xC_len]
 · rw [hcs, ← xC_len, List.take_length]
theorem own_tree {lo : Nat} {P : Nat → Prop} {w : World} {g c : Nat} {A : List Xp} (k : Int) (t : List UInt8) (m a : Int) (h : w.ownsRow lo 34 5 (.slice (some ⟨g, 0, none⟩) A.length c) A.length (xC A)) (hg : P g) (hk : ∀ p ∈ A, XD P lo w p.1 p.2.1) : XD P lo w (mkX k t m a (A.map (·.1))) (some ⟨g, 0, none⟩) := fun w' hs => by
 have hl := h.lt g rfl
 have e := hs g hl.2 hg
 refine mkX_at k t m a ⟨⟨hl.1, fun j => ?_⟩, fun i x hi => ?_⟩ ?_
 ·
  refine (World.frozen?_of_block (a := ⟨g, j, none⟩) e).trans ?_
  rcases h.2 with ⟨e, _⟩ | ⟨g', c', cur, e, hb, hh, _⟩
  · cases e
  ·
   have e1 : g = g' := by
    have := congrArg Value.ownBlock e
    simpa [Value.ownBlock] using this
   subst e1
   simp [World.frozen?, hh]
 ·
  rw [List.getElem?_map] at hi
  obtain ⟨p, hp, rfl⟩ := Option.map_eq_some_iff.1 hi
  obtain ⟨h0, h1, h2, h3, h4⟩ := xC_at A i p hp
  have hc := h.cells (g := g) rfl
  have hadd : ∀ j, (⟨g, 0, none⟩ : Addr).add j = ⟨g, j, none⟩ := fun j => by unfold Addr.add; split <;> simp_all
  refine ⟨p.2.1, p.2.2, ⟨?_, ?_, ?_, ?_, ?_⟩, hk p (List.mem_of_getElem? hp) w' hs⟩
  · exact cell_same (by rw [← hadd]; exact hc _ _ h0) e
  · exact cell_same (by rw [← hadd]; exact hc _ _ h1) e
  · exact cell_same (by rw [← hadd]; exact hc _ _ h2) e
  · exact cell_same (by rw [← hadd]; exact hc _ _ h3) e
  · exact cell_same (by rw [← hadd]; exact hc _ _ h4) e
 ·
  rcases h.2 with ⟨e, _⟩ | ⟨g', c', cur, e, hb, hh, h1, h2, _⟩
  · cases e
  ·
   rw [List.length_map]
   unfold maxLen at h2
   omega
def TPost (lo hi rb : Nat) (ta : Option Addr) (cap : Nat) (T : List Tt) (op : Nat) (w : World) (r : Sum Er (X × Nat)) (e : Ending) (w' : World) : Prop :=
 (match r with
  | .inl q => GUp q.1 q.2 e
  | .inr q => (∃ s c, e = .returned (xV q.1 s c) ∧ XD (fun b => b ≠ rb ∧ (b < hi ∨ w.heap.size ≤ b)) lo w' q.1 s) ∧ Rdr w' rb ta cap T q.2 op) ∧ Fx rb w w'
section
variable {lo hi rb : Nat} {ta : Option Addr} {cap : Nat} {T : List Tt} {op : Nat} {w w' : World}
theorem TPost.no {q : Er} {e : Ending} (h : TPost lo hi rb ta cap T op w (.inl q) e w') : GUp q.1 q.2 e ∧ Fx rb w w' := h
theorem TPost.ok {q : X × Nat} {e : Ending} (h : TPost lo hi rb ta cap T op w (.inr q) e w') : ((∃ s c, e = .returned (xV q.1 s c) ∧ XD (fun b => b ≠ rb ∧ (b < hi ∨ w.heap.size ≤ b)) lo w' q.1 s) ∧ Rdr w' rb ta cap T q.2 op) ∧ Fx rb w w' := h
theorem XD.set5 {zb : Nat} {w1 : World} {x : X} {s : Option Addr} {P : Nat → Prop} (hx : XD (fun b => b ≠ zb ∧ P b) lo w1 x s) (v0 v1 v2 v3 v4 : Value) : XD P lo (Go.Proofs.YtgdndahhledikaaGreatDoor.set5 w1 zb 0 v0 v1 v2 v3 v4) x s := fun w' hk => hx w' fun b hb hp => (hk b (by rw [set5_size]; exact hb) hp.2).trans (set5_heap _ _ _ _ _ _ _ _ _ hp.1)
end
def TReads (rb : Nat) (ta : Option Addr) (cap : Nat) (T : List Tt) (k : FuncId) (G : X → Nat → Nat → Rz X) : Prop := ∀ (lo hi : Nat) (x : X) (s : Option Addr) (c i op : Nat) (w : World) (r : Sum Er (X × Nat)), op ≤ 100 → Rdr w rb ta cap T i op → i < T.length → XD (fun b => b ≠ rb ∧ b < hi) lo w x s → rb < lo → lo ≤ w.heap.size → hi ≤ w.heap.size → G x i op = some r → Calls Tryz.prog k #[ptr rb, xV x s c] w (TPost lo hi rb ta cap T op w r)
end Go.Proofs.YtgdndahhledikaaGreatDoor
