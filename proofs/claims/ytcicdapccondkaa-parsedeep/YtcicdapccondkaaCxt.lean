/- Where a function of the reader stands. -/
import Derived.Test.YtcicdapccondkaaWhn
namespace Go.Proofs.Ytcicdapccondkaa
open Go.ChangeShapes Go.WideShapes Go.ChangeAt Go.RowKit
set_option linter.unusedSimpArgs false
set_option maxRecDepth 20000
set_option maxHeartbeats 4000000

/-- Where a function of the reader's stands: its result's cells are as they were made. -/
structure Cx (rb : Nat) (ta : Option Addr) (cap : Nat) (T : List Tt) (w : World) (zb i op : Nat) (wr : World) : Prop where
  fx : Fx rb w wr
  rdr : Rdr wr rb ta cap T i op
  res : Box5 wr zb (.int .i64 0) (.string ⟨#[]⟩) (.int .i64 0) (.int .i64 0) (.slice none 0 0)
theorem Cx.below {rb : Nat} {ta : Option Addr} {cap : Nat} {T : List Tt} {w : World} {zb i op : Nat} {wr w' : World} (h : Cx rb ta cap T w zb i op wr) (hb : Below wr.heap.size wr w') : Cx rb ta cap T w zb i op w' := ⟨h.fx.trans (Fx.below hb), h.rdr.below hb, h.res.below hb⟩
theorem Cx.alloc {rb : Nat} {ta : Option Addr} {cap : Nat} {T : List Tt} {w : World} {zb i op : Nat} {wr : World} (h : Cx rb ta cap T w zb i op wr) (o : Obj) : Cx rb ta cap T w zb i op (wr.alloc o) := h.below ((Below.refl _ _).alloc (Nat.le_refl _) _)
theorem Cx.drew {rb : Nat} {ta : Option Addr} {cap : Nat} {T : List Tt} {w : World} {zb i op : Nat} {wr : World} (h : Cx rb ta cap T w zb i op wr) : Cx rb ta cap T w zb i op wr.drew := h.below (Below.refl _ _).drew
theorem Cx.lt {rb : Nat} {ta : Option Addr} {cap : Nat} {T : List Tt} {w : World} {zb i op : Nat} {wr : World} (h : Cx rb ta cap T w zb i op wr) : zb < wr.heap.size := cell_lt h.res.c0
theorem Cx.step {rb : Nat} {ta : Option Addr} {cap : Nat} {T : List Tt} {w : World} {zb i op j op' : Nat} {wr w' : World} (h : Cx rb ta cap T w zb i op wr) (hf : Fx rb wr w') (hr : Rdr w' rb ta cap T j op') (hz : rb < zb) : Cx rb ta cap T w zb j op' w' := ⟨h.fx.trans hf, hr, h.res.fx hf (by omega)⟩
/-- Other cells that the function has made are written to. -/
theorem Cx.set {rb : Nat} {ta : Option Addr} {cap : Nat} {T : List Tt} {w : World} {zb i op : Nat} {wr : World} (h : Cx rb ta cap T w zb i op wr) (b o : Nat) (v : Value) (hb : w.heap.size ≤ b) (hr : rb < b) (hz : b ≠ zb) : Cx rb ta cap T w zb i op (wr.setCell ⟨b, o, none⟩ v) := ⟨h.fx.new b o v hb, h.rdr.far b o v hr, h.res.far b o v hz⟩
theorem Cx.grown {rb : Nat} {ta : Option Addr} {cap : Nat} {T : List Tt} {w : World} {zb i op : Nat} {wr w' : World} {g : Nat} (h : Cx rb ta cap T w zb i op wr) (hg : wr.grownBy w' (some g)) (hr : rb < g) (hl : w.heap.size ≤ g) (hz : zb ≠ g) : Cx rb ta cap T w zb i op w' :=
  ⟨h.fx.grown hg hl, h.rdr.grown hg hr, by
    have e := hg.block zb h.lt (by simpa using hz)
    have hb := h.res
    exact ⟨cell_same hb.c0 e, cell_same hb.c1 e, cell_same hb.c2 e, cell_same hb.c3 e, cell_same hb.c4 e, (World.frozen?_of_block (a := ⟨zb, 0, none⟩) e).trans hb.f0, (World.frozen?_of_block (a := ⟨zb, 1, none⟩) e).trans hb.f1, (World.frozen?_of_block (a := ⟨zb, 2, none⟩) e).trans hb.f2, (World.frozen?_of_block (a := ⟨zb, 3, none⟩) e).trans hb.f3, (World.frozen?_of_block (a := ⟨zb, 4, none⟩) e).trans hb.f4⟩⟩
/-- The result is laid. -/
theorem Cx.ret {rb : Nat} {ta : Option Addr} {cap : Nat} {T : List Tt} {w : World} {zb j op : Nat} {w1 : World} {x : X} {s : Option Addr} (c : Nat) (h : Cx rb ta cap T w zb j op w1) (hx : XSt rb zb w.heap.size w1 x s) (hz : w.heap.size ≤ zb) (hlt : rb < w.heap.size) :
    PPost rb ta cap T op w (.inr (x, j)) (.returned (xV x s c)) (set5 w1 zb 0 (.int .i64 (xk x)) (.string (bsA (xt x))) (.int .i64 (xn x)) (.int .i64 (xa x)) (.slice s (xl x) c)) :=
  ⟨⟨⟨s, c, rfl, (hx.set5 _ _ _ _ _) _ (fun _ _ _ _ => rfl)⟩, Rdr.set5 h.rdr _ _ _ _ _ _ _ (by omega)⟩, h.fx.set5 _ _ _ _ _ _ _ hz⟩
theorem Cx.retn {rb : Nat} {ta : Option Addr} {cap : Nat} {T : List Tt} {w : World} {zb j op : Nat} {w1 : World} {s : Option Addr} {k : Int} {t : List UInt8} {m a : Int} {L : List X} {n : Nat} (c : Nat) (hn : L.length = n) (h : Cx rb ta cap T w zb j op w1) (hx : XSt rb zb w.heap.size w1 (mkX k t m a L) s) (hz : w.heap.size ≤ zb) (hlt : rb < w.heap.size) :
    PPost rb ta cap T op w (.inr (mkX k t m a L, j)) (.returned (nV k t m a (.slice s n c))) (set5 w1 zb 0 (.int .i64 k) (.string (bsA t)) (.int .i64 m) (.int .i64 a) (.slice s n c)) := by
  have h := Cx.ret c h hx hz hlt
  rw [mkX_V] at h
  rw [mkX_len] at h
  rw [hn] at h
  exact h
theorem XSt.leaf {rb nb lo : Nat} {w : World} (k : Int) (t : List UInt8) (m a : Int) (s : Option Addr) : XSt rb nb lo w (mkX k t m a []) s := fun _ _ => mkX_at0 _ _ _ _ _
/-- A tree made of a row of trees. -/
theorem OwX.tree {rb lo zb : Nat} {w : World} {g c : Nat} {A : List Xp} (k : Int) (t : List UInt8) (m a : Int) (h : OwX rb lo w g c A) (hr : rb < lo) (hk : ∀ p ∈ A, XSt rb zb lo w p.1 p.2.1) (hz : g ≠ zb) : XSt rb zb lo w (mkX k t m a (A.map (·.1))) (some ⟨g, 0, none⟩) := fun w' hs => by
  have hl := h.lt
  have hx := h.xs
  refine mkX_at k t m a ⟨⟨hx.1.1, fun j => ?_⟩, fun i x hi => ?_⟩ ?_
  · exact (World.frozen?_of_block (a := ⟨g, j, none⟩) (hs g hl.2 (by omega) hz)).trans (hx.1.2 j)
  · rw [List.getElem?_map] at hi
    obtain ⟨p, hp, rfl⟩ := Option.map_eq_some_iff.1 hi
    have e := hs g hl.2 (by omega) hz
    obtain ⟨h0, h1, h2, h3, h4⟩ := xC_at A i p hp
    have hc := h.own.cells (g := g) rfl
    have hadd : ∀ j, (⟨g, 0, none⟩ : Addr).add j = ⟨g, j, none⟩ := fun j => by unfold Addr.add; split <;> simp_all
    refine ⟨p.2.1, p.2.2, ⟨?_, ?_, ?_, ?_, ?_⟩, hk p (List.mem_of_getElem? hp) w' hs⟩
    · exact cell_same (by rw [← hadd]; exact hc _ _ h0) e
    · exact cell_same (by rw [← hadd]; exact hc _ _ h1) e
    · exact cell_same (by rw [← hadd]; exact hc _ _ h2) e
    · exact cell_same (by rw [← hadd]; exact hc _ _ h3) e
    · exact cell_same (by rw [← hadd]; exact hc _ _ h4) e
  · rcases h.own.2 with ⟨e, _⟩ | ⟨g', c', cur, e, hb, hh, h1, h2, _⟩
    · cases e
    · rw [List.length_map]
      unfold maxLen at h2
      omega
/-- A row that is newer than the block zb. -/
theorem OwX.apart {rb lo lo' zb : Nat} {w : World} {g c : Nat} {A : List Xp} (h : OwX rb lo w g c A) (hr : rb < lo) (hl : lo' ≤ lo) (hz : zb < lo) : ∀ p ∈ A, XSt rb zb lo' w p.1 p.2.1 := fun p hp => XSt.new (h.kids p hp w (fun _ _ _ _ => rfl)) hr hl hz
theorem sees_new (rb : Nat) (ta : Option Addr) (cap : Nat) (T : List Tt) (i op : Nat) (k : Int) (cs : Array Value) (L : List (List UInt8)) (hcs : cs.toList = L.map fun x => .string (bsA x)) (hL : L.length ≤ 1000) (n c : Nat) (hn : L.length = n) (w : World) (hr : Rdr w rb ta cap T i op) : Calls Try.prog 64 #[ptr rb, .int .i64 k, .slice (some ⟨w.heap.size, 0, none⟩) n c] (w.alloc (.cells cs 9)) fun e w' => e = .returned (.bool (isT (tkI T i) k L)) ∧ Below w.heap.size w w' := by
  have hB : Below w.heap.size w (w.alloc (.cells cs 9)) := (Below.refl _ _).alloc (Nat.le_refl _) _
  rw [← hn]
  refine (sees_any rb ta cap T i op k L w.heap.size c _ (hr.below hB) hL (StsL.new w cs 9 L hcs)).mono ?_
  rintro e w' ⟨h1, h2⟩
  exact ⟨h1, hB.trans (h2.mono hB.size)⟩
theorem behind_new (rb : Nat) (ta : Option Addr) (cap : Nat) (T : List Tt) (i op : Nat) (k : Int) (cs : Array Value) (L : List (List UInt8)) (hcs : cs.toList = L.map fun x => .string (bsA x)) (hL : L.length ≤ 1000) (n c : Nat) (hn : L.length = n) (w : World) (hr : Rdr w rb ta cap T i op) : Calls Try.prog 87 #[ptr rb, .int .i64 k, .slice (some ⟨w.heap.size, 0, none⟩) n c] (w.alloc (.cells cs 9)) fun e w' => e = .returned (.bool (isT (tkI T (i + 1)) k L)) ∧ Below w.heap.size w w' := by
  have hB : Below w.heap.size w (w.alloc (.cells cs 9)) := (Below.refl _ _).alloc (Nat.le_refl _) _
  rw [← hn]
  refine (seesBehind_any rb ta cap T i op k L w.heap.size c _ (hr.below hB) hL (StsL.new w cs 9 L hcs)).mono ?_
  rintro e w' ⟨h1, h2⟩
  exact ⟨h1, hB.trans (h2.mono hB.size)⟩
end Go.Proofs.Ytcicdapccondkaa
