/- What holds within a region that draws its order. -/
import Derived.Test.YtcicdapccondkaaCal
namespace Go.Proofs.Ytcicdapccondkaa
open Go.ChangeShapes Go.WideShapes Go.ChangeAt Go.RowKit
set_option linter.unusedSimpArgs false
set_option maxRecDepth 20000
set_option maxHeartbeats 4000000

/-- What holds within a region that makes a cell for a tree (nb) and a row for its kids (gb), in whatever order. -/
structure RgI (rb : Nat) (ta : Option Addr) (cap : Nat) (T : List Tt) (w : World) (zb l2 i op : Nat) (o : Obj) (nb gb : Option Nat) (W : World) : Prop where
  cx : Cx rb ta cap T w zb i op W
  sz : l2 ≤ W.heap.size
  nbx : ∀ b, nb = some b → Box5 W b (.int .i64 0) (.string ⟨#[]⟩) (.int .i64 0) (.int .i64 0) (.slice none 0 0) ∧ l2 ≤ b
  gbx : ∀ b, gb = some b → W.heap[b]? = some o ∧ l2 ≤ b ∧ ∀ n, nb = some n → n ≠ b
theorem RgI.start {rb : Nat} {ta : Option Addr} {cap : Nat} {T : List Tt} {w : World} {zb l2 i op : Nat} {o : Obj} {W : World} (h : Cx rb ta cap T w zb i op W) (hl : l2 ≤ W.heap.size) : RgI rb ta cap T w zb l2 i op o none none W := ⟨h, hl, (fun _ h => by cases h), (fun _ h => by cases h)⟩
theorem RgI.fx {rb : Nat} {ta : Option Addr} {cap : Nat} {T : List Tt} {w : World} {zb l2 i op : Nat} {o : Obj} {nb gb : Option Nat} {W W' : World} {j op' : Nat} (h : RgI rb ta cap T w zb l2 i op o nb gb W) (hf : Fx rb W W') (hr : Rdr W' rb ta cap T j op') (hz : rb < zb) (hl : rb < l2) : RgI rb ta cap T w zb l2 j op' o nb gb W' := by
  refine ⟨h.cx.step hf hr hz, Nat.le_trans h.sz hf.size, fun b hb => ?_, fun b hb => ?_⟩
  · obtain ⟨h1, h2⟩ := h.nbx b hb
    exact ⟨h1.fx hf (by omega), h2⟩
  · obtain ⟨h1, h2, h3⟩ := h.gbx b hb
    exact ⟨(hf.blk b (heap_lt h1) (by omega)).trans h1, h2, h3⟩
theorem RgI.below {rb : Nat} {ta : Option Addr} {cap : Nat} {T : List Tt} {w : World} {zb l2 i op : Nat} {o : Obj} {nb gb : Option Nat} {W W' : World} (h : RgI rb ta cap T w zb l2 i op o nb gb W) (hb : Below W.heap.size W W') (hz : rb < zb) (hl : rb < l2) : RgI rb ta cap T w zb l2 i op o nb gb W' := h.fx (Fx.below hb) (h.cx.rdr.below hb) hz hl
theorem RgI.new {rb : Nat} {ta : Option Addr} {cap : Nat} {T : List Tt} {w : World} {zb l2 i op : Nat} {o : Obj} {gb : Option Nat} {W : World} {m : Nat} (h : RgI rb ta cap T w zb l2 i op o none gb W) (hm : W.heap.size = m) (hz : rb < zb) (hl : rb < l2) : RgI rb ta cap T w zb l2 i op o (some m) gb (W.alloc (Obj.cells #[Value.int IntKind.i64 0, Value.string { data := #[] }, Value.int IntKind.i64 0, Value.int IntKind.i64 0, Value.slice none 0 0] 26)) := by
  subst hm
  have hb : Below W.heap.size W (W.alloc (Obj.cells #[Value.int IntKind.i64 0, Value.string { data := #[] }, Value.int IntKind.i64 0, Value.int IntKind.i64 0, Value.slice none 0 0] 26)) := (Below.refl _ _).alloc (Nat.le_refl _) _
  have h' := h.below hb hz hl
  refine ⟨h'.cx, h'.sz, fun b e => ?_, fun b e => ?_⟩
  · cases e
    exact ⟨Box5.new W _ _ _ _ _ 26, h.sz⟩
  · obtain ⟨h1, h2, _⟩ := h'.gbx b e
    refine ⟨h1, h2, fun n hn => ?_⟩
    cases hn
    have := heap_lt (h.gbx b e).1
    omega
theorem RgI.row {rb : Nat} {ta : Option Addr} {cap : Nat} {T : List Tt} {w : World} {zb l2 i op : Nat} {o : Obj} {nb : Option Nat} {W : World} {m : Nat} (h : RgI rb ta cap T w zb l2 i op o nb none W) (hm : W.heap.size = m) (hz : rb < zb) (hl : rb < l2) : RgI rb ta cap T w zb l2 i op o nb (some m) (W.alloc o) := by
  subst hm
  have hb : Below W.heap.size W (W.alloc o) := (Below.refl _ _).alloc (Nat.le_refl _) _
  have h' := h.below hb hz hl
  refine ⟨h'.cx, h'.sz, h'.nbx, fun b e => ?_⟩
  cases e
  refine ⟨heap_alloc_new W _, h.sz, fun n hn => ?_⟩
  have := cell_lt (h.nbx n hn).1.c0
  omega
theorem Cx.set5 {rb : Nat} {ta : Option Addr} {cap : Nat} {T : List Tt} {w : World} {zb i op : Nat} {wr : World} (h : Cx rb ta cap T w zb i op wr) (b o : Nat) (u0 u1 u2 u3 u4 : Value) (hb : w.heap.size ≤ b) (hr : rb < b) (hz : b ≠ zb) : Cx rb ta cap T w zb i op (set5 wr b o u0 u1 u2 u3 u4) :=
  ((((h.set b o u0 hb hr hz).set b (o + 1) u1 hb hr hz).set b (o + 2) u2 hb hr hz).set b (o + 3) u3 hb hr hz).set b (o + 4) u4 hb hr hz
/-- .. and behind it: the tree is laid. -/
structure RgO (rb : Nat) (ta : Option Addr) (cap : Nat) (T : List Tt) (w : World) (zb l2 i op : Nat) (o : Obj) (nb gb : Nat) (u0 u1 u2 u3 u4 : Value) (W : World) : Prop where
  cx : Cx rb ta cap T w zb i op W
  box : Box5 W nb u0 u1 u2 u3 u4
  row : W.heap[gb]? = some o
  nl : l2 ≤ nb
  gl : l2 ≤ gb
  ne : nb ≠ gb
theorem RgI.put {rb : Nat} {ta : Option Addr} {cap : Nat} {T : List Tt} {w : World} {zb l2 i op : Nat} {o : Obj} {nb gb : Nat} {W : World} (h : RgI rb ta cap T w zb l2 i op o (some nb) (some gb) W) (u0 u1 u2 u3 u4 : Value) (hz : zb < l2) (hr : rb < l2) (hw : w.heap.size ≤ l2) : RgO rb ta cap T w zb l2 i op o nb gb u0 u1 u2 u3 u4 (Go.Proofs.Ytcicdapccondkaa.set5 W nb 0 u0 u1 u2 u3 u4) := by
  obtain ⟨h1, h2⟩ := h.nbx nb rfl
  obtain ⟨h3, h4, h5⟩ := h.gbx gb rfl
  have h6 := h5 nb rfl
  exact ⟨h.cx.set5 _ _ _ _ _ _ _ (by omega) (by omega) (by omega), own5 h1 _ _ _ _ _, (set5_heap _ _ _ _ _ _ _ _ _ (by omega)).trans h3, h2, h4, h6⟩
/-- A row that is known whole. -/
theorem OwX.of {rb lo : Nat} {W : World} {g : Nat} {A : List Xp} {cs : Array Value} (hh : W.heap[g]? = some (.cells cs 26)) (hlo : lo ≤ g) (hn : A.length ≤ 1000) (hk : ∀ p ∈ A, XSt rb g lo W p.1 p.2.1) (hcs : cs.toList = xC A) : OwX rb lo W g A.length A := by
  refine ⟨⟨xC_len A, Or.inr ⟨g, A.length, cs, rfl, hlo, hh, Nat.le_refl _, by unfold maxLen; omega, ?_, ?_⟩⟩, hk⟩
  · rw [← Array.length_toList, hcs, xC_len]
  · rw [hcs, ← xC_len, List.take_length]
/-- A tree that was there ahead of the call. -/
theorem XAt.was {rb lo zb : Nat} {w W : World} {x : X} {s : Option Addr} (h : XAt lo w x s) (hf : Fx rb w W) (hr : rb < lo) (hz : w.heap.size ≤ zb) : XSt rb zb lo W x s := fun w' hk => NdF.keep (Nat.le_refl _) (fun b hb hl => (hk b (Nat.lt_of_lt_of_le hl hf.size) (by omega) (by omega)).trans (hf.blk b hl (by omega))) h
/-- What a function ends with that was handed a tree. -/
def QPost (lo rb : Nat) (ta : Option Addr) (cap : Nat) (T : List Tt) (op : Nat) (w : World) (r : Sum Er (X × Nat)) (e : Ending) (w' : World) : Prop :=
  (match r with
    | .inl q => GUp q.1 q.2 e
    | .inr q => (∃ s c, e = .returned (xV q.1 s c) ∧ XAt lo w' q.1 s) ∧ Rdr w' rb ta cap T q.2 op) ∧ Fx rb w w'
theorem QPost.no {lo rb : Nat} {ta : Option Addr} {cap : Nat} {T : List Tt} {op : Nat} {w w' : World} {q : Er} {e : Ending} (h : QPost lo rb ta cap T op w (.inl q) e w') : GUp q.1 q.2 e ∧ Fx rb w w' := h
theorem QPost.ok {lo rb : Nat} {ta : Option Addr} {cap : Nat} {T : List Tt} {op : Nat} {w w' : World} {q : X × Nat} {e : Ending} (h : QPost lo rb ta cap T op w (.inr q) e w') : ((∃ s c, e = .returned (xV q.1 s c) ∧ XAt lo w' q.1 s) ∧ Rdr w' rb ta cap T q.2 op) ∧ Fx rb w w' := h
theorem Cx.retq {lo rb : Nat} {ta : Option Addr} {cap : Nat} {T : List Tt} {w : World} {zb j op : Nat} {w1 : World} {s : Option Addr} {k : Int} {t : List UInt8} {m a : Int} {L : List X} {n : Nat} (c : Nat) (hn : L.length = n) (h : Cx rb ta cap T w zb j op w1) (hx : XSt rb zb lo w1 (mkX k t m a L) s) (hz : w.heap.size ≤ zb) (hlt : rb < w.heap.size) :
    QPost lo rb ta cap T op w (.inr (mkX k t m a L, j)) (.returned (nV k t m a (.slice s n c))) (Go.Proofs.Ytcicdapccondkaa.set5 w1 zb 0 (.int .i64 k) (.string (bsA t)) (.int .i64 m) (.int .i64 a) (.slice s n c)) := by
  refine ⟨⟨⟨s, c, by rw [mkX_V, hn], (hx.set5 _ _ _ _ _) _ (fun _ _ _ _ => rfl)⟩, Rdr.set5 h.rdr _ _ _ _ _ _ _ (by omega)⟩, h.fx.set5 _ _ _ _ _ _ _ hz⟩
theorem Cx.retx {lo rb : Nat} {ta : Option Addr} {cap : Nat} {T : List Tt} {w : World} {zb j op : Nat} {w1 : World} {x : X} {s : Option Addr} (c : Nat) (h : Cx rb ta cap T w zb j op w1) (hx : XSt rb zb lo w1 x s) (hz : w.heap.size ≤ zb) (hlt : rb < w.heap.size) :
    QPost lo rb ta cap T op w (.inr (x, j)) (.returned (xV x s c)) (Go.Proofs.Ytcicdapccondkaa.set5 w1 zb 0 (.int .i64 (xk x)) (.string (bsA (xt x))) (.int .i64 (xn x)) (.int .i64 (xa x)) (.slice s (xl x) c)) :=
  ⟨⟨⟨s, c, rfl, (hx.set5 _ _ _ _ _) _ (fun _ _ _ _ => rfl)⟩, Rdr.set5 h.rdr _ _ _ _ _ _ _ (by omega)⟩, h.fx.set5 _ _ _ _ _ _ _ hz⟩
end Go.Proofs.Ytcicdapccondkaa
