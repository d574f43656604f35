/- Sys. -/
import Derived.Test.YtgdndahhledikaaGreatDoorK26
import Derived.Test.YtgdndahhledikaaGreatDoorK29
namespace Go.Proofs.YtgdndahhledikaaGreatDoor
open Go.ChangeShapes Go.WideShapes Go.ChangeAt Go.RowKit
set_option linter.unusedSimpArgs false
set_option maxRecDepth 20000
set_option maxHeartbeats 4000000
abbrev OwR (lo : Nat) (w : World) (g n c : Nat) (A : List Xp) : Prop := w.ownsRow lo 34 5 (.slice (some ⟨g, 0, none⟩) n c) n (xC A)
theorem OwR.same {lo : Nat} {w w' : World} {g n c : Nat} {A : List Xp} (h : OwR lo w g n c A) (e : w'.heap[g]? = w.heap[g]?) : OwR lo w' g n c A := by
 refine ⟨h.1, ?_⟩
 rcases h.2 with ⟨e, _⟩ | ⟨g', c', cur, e2, hb, hh, rest⟩
 · cases e
 ·
  have e1 : g = g' := by
   have := congrArg Value.ownBlock e2
   simpa [Value.ownBlock] using this
  subst e1
  exact Or.inr ⟨g, c', cur, e2, hb, e.trans hh, rest⟩
theorem OwR.fz {lo : Nat} {w : World} {g n c : Nat} {A : List Xp} (h : OwR lo w g n c A) : lo ≤ g ∧ g < w.heap.size ∧ ∀ j, w.frozen? ⟨g, j, none⟩ = false := by
 have hl := h.lt g rfl
 refine ⟨hl.1, hl.2, ?_⟩
 rcases h.2 with ⟨e, _⟩ | ⟨g', c', cur, e, hb, hh, _⟩
 · cases e
 ·
  have e1 : g = g' := by
   have := congrArg Value.ownBlock e
   simpa [Value.ownBlock] using this
  subst e1
  intro j
  simp [World.frozen?, hh]
theorem OwR.le {lo : Nat} {w : World} {g n c : Nat} {A : List Xp} (h : OwR lo w g n c A) : n ≤ c := by
 rcases h.2 with ⟨e, _⟩ | ⟨g', c', cur, e, hb, hh, hnc, _⟩
 · cases e
 ·
  cases e
  exact hnc
theorem St.veil {rb : Nat} {ta : Option Addr} {cap : Nat} {T : List Tt} {w0 : World} {B : Bxs} {K : List (X × Option Addr)} {i op : Nat} {w : World} {g : Nat} {vs : List Value} (h : St rb ta cap T w0 ((g, vs) :: B) K i op w) : St rb ta cap T w0 ((g, []) :: B) K i op w := by
 refine ⟨h.fx, h.rdr, fun p hp => ?_, h.nd, fun p hp => (h.kid p hp).move (Nat.le_refl _) (fun q hq => ?_) (fun _ _ _ _ => rfl), h.lt⟩
 ·
  rcases List.mem_cons.1 hp with rfl | hp
  ·
   have h1 := h.box _ List.mem_cons_self
   exact ⟨⟨h1.1.lt, fun j v hv => by simp at hv, h1.1.f⟩, h1.2⟩
  · exact h.box p (List.mem_cons_of_mem _ hp)
 ·
  rcases List.mem_cons.1 hq with rfl | hq
  · exact Or.inr (Or.inr ⟨_, List.mem_cons_self, rfl⟩)
  · exact Or.inl (List.mem_cons_of_mem _ hq)
theorem St.grow {rb : Nat} {ta : Option Addr} {cap : Nat} {T : List Tt} {w0 : World} {B : Bxs} {K : List (X × Option Addr)} {i op : Nat} {w : World} {g g2 n c : Nat} {A : List Xp} {w' : World} (h : St rb ta cap T w0 ((g, []) :: B) K i op w) (hg : w.grownBy w' (some g)) (hO : OwR w0.heap.size w' g2 n c A) (hl : g = g2 ∨ g2 = w.heap.size) : St rb ta cap T w0 ((g2, []) :: B) K i op w' := by
 have hb := h.box _ List.mem_cons_self
 dsimp only at hb
 have hlt := h.lt
 obtain ⟨h1, h2, h3⟩ := hO.fz
 have hn := h.nd
 rw [List.map_cons, List.nodup_cons] at hn
 have hne : ∀ p ∈ B, p.1 ≠ g := fun p hp e => hn.1 (by rw [← e]; exact List.mem_map_of_mem (f := (·.1)) hp)
 have hsz : w.heap.size ≤ w'.heap.size := ((Fx.refl (rb := rb) w).b0.grown hg (Nat.zero_le _) (fun _ _ => Nat.zero_le _)).size
 refine ⟨h.fx.grown hg hb.2, h.rdr.grown hg (by omega), fun p hp => ?_, ?_, fun p hp => (h.kid p hp).move hsz (fun q hq => ?_) (fun b hbl _ hnb => hg.block b hbl (by have := hnb _ List.mem_cons_self; simp; exact fun e => this e)), hlt⟩
 ·
  rcases List.mem_cons.1 hp with rfl | hp
  · exact ⟨⟨h2, fun j v hv => by simp at hv, h3⟩, h1⟩
  ·
   have h4 := h.box p (List.mem_cons_of_mem _ hp)
   exact ⟨h4.1.same hsz (hg.block p.1 h4.1.lt (by have := hne p hp; simp; exact fun e => this e)), h4.2⟩
 ·
  rw [List.map_cons, List.nodup_cons]
  refine ⟨fun hm => ?_, hn.2⟩
  rcases hl with rfl | rfl
  · exact hn.1 hm
  ·
   obtain ⟨q, hq, e⟩ := List.mem_map.1 hm
   have := (h.box q (List.mem_cons_of_mem _ hq)).1.lt
   dsimp only at e
   omega
 ·
  rcases List.mem_cons.1 hq with rfl | hq
  ·
   rcases hl with rfl | rfl
   · exact Or.inr (Or.inr ⟨_, List.mem_cons_self, rfl⟩)
   · exact Or.inr (Or.inl (Nat.le_refl _))
  · exact Or.inl (List.mem_cons_of_mem _ hq)
theorem St.ownr {rb : Nat} {ta : Option Addr} {cap : Nat} {T : List Tt} {w0 : World} {B : Bxs} {K : List (X × Option Addr)} {i op : Nat} {w : World} {g n c : Nat} {A : List Xp} (h : St rb ta cap T w0 ((g, []) :: B) K i op w) (hO : OwR w0.heap.size w g n c A) (hk : ∀ p ∈ A, Hld rb w0.heap.size ((g, []) :: B) w p.1 p.2.1) (k : Int) (t : List UInt8) (m a : Int) (hn : A.length = n) : St rb ta cap T w0 B ((mkX k t m a (A.map (·.1)), some ⟨g, 0, none⟩) :: K) i op w := by
 subst hn
 obtain ⟨h1, h2, h3⟩ := hO.fz
 have hlt := h.lt
 have hd := St.drop [] h
 refine ⟨hd.fx, hd.rdr, hd.box, hd.nd, fun p hp => ?_, hlt⟩
 rcases List.mem_cons.1 hp with rfl | hp
 ·
  intro w' hs
  have hnd := h.nd
  rw [List.map_cons, List.nodup_cons] at hnd
  have e := hs g h2 (by omega) (fun q hq e => hnd.1 (by rw [e]; exact List.mem_map_of_mem (f := (·.1)) hq))
  refine mkX_at k t m a ⟨⟨h1, fun j => (World.frozen?_of_block (a := ⟨g, j, none⟩) e).trans (h3 j)⟩, fun i x hi => ?_⟩ ?_
  ·
   rw [List.getElem?_map] at hi
   obtain ⟨p, hp, rfl⟩ := Option.map_eq_some_iff.1 hi
   obtain ⟨e0, e1, e2, e3, e4⟩ := xC_at A i p hp
   have hc := hO.cells (g := g) rfl
   have hadd : ∀ j, (⟨g, 0, none⟩ : Addr).add j = ⟨g, j, none⟩ := fun j => by unfold Addr.add; split <;> simp_all
   refine ⟨p.2.1, p.2.2, ⟨?_, ?_, ?_, ?_, ?_⟩, hk p (List.mem_of_getElem? hp) w' (fun b hb hn hB => hs b hb hn (fun q hq => hB q (List.mem_cons_of_mem _ hq)))⟩
   · exact cell_same (by rw [← hadd]; exact hc _ _ e0) e
   · exact cell_same (by rw [← hadd]; exact hc _ _ e1) e
   · exact cell_same (by rw [← hadd]; exact hc _ _ e2) e
   · exact cell_same (by rw [← hadd]; exact hc _ _ e3) e
   · exact cell_same (by rw [← hadd]; exact hc _ _ e4) e
  ·
   rcases hO.2 with ⟨e, _⟩ | ⟨g', c', cur, e, hb, hh, h1, h2, _⟩
   · cases e
   ·
    rw [List.length_map]
    unfold maxLen at h2
    omega
 · exact hd.kid p hp
theorem St.addk {rb : Nat} {ta : Option Addr} {cap : Nat} {T : List Tt} {w0 : World} {B : Bxs} {K : List (X × Option Addr)} {i op : Nat} {w : World} {j op' : Nat} {w' : World} {g c : Nat} {A : List Xp} (h : St rb ta cap T w0 B K i op w) (hf : Fx rb w w') (hr : Rdr w' rb ta cap T j op') (hO : OwX rb w.heap.size w' g c A) : St rb ta cap T w0 B (A.map (fun p => (p.1, p.2.1)) ++ K) j op' w' := by
 have h1 := h.call hf hr
 have hlt := h.lt
 have hs := h.fx.size
 refine ⟨h1.fx, hr, h1.box, h1.nd, fun p hp => ?_, hlt⟩
 rcases List.mem_append.1 hp with hp | hp
 ·
  obtain ⟨q, hq, rfl⟩ := List.mem_map.1 hp
  refine fun w2 hk => NdF.keep hs (fun b hb hl => hk b hl (by omega) (fun p hp => ?_)) (hO.kids q hq w' (fun _ _ _ _ => rfl))
  have := (h.box p hp).1.lt
  omega
 · exact h1.kid p hp
theorem St.swap2 {rb : Nat} {ta : Option Addr} {cap : Nat} {T : List Tt} {w0 : World} {p q : Nat × List Value} {B : Bxs} {K : List (X × Option Addr)} {i op : Nat} {w : World} (h : St rb ta cap T w0 (p :: q :: B) K i op w) : St rb ta cap T w0 (q :: p :: B) K i op w := by
 have hs : ∀ z ∈ q :: p :: B, z ∈ p :: q :: B := fun z hz => by
  rcases List.mem_cons.1 hz with rfl | hz
  · simp
  ·
   rcases List.mem_cons.1 hz with rfl | hz
   · simp
   · simp [hz]
 refine ⟨h.fx, h.rdr, fun z hz => h.box z (hs z hz), ?_, fun z hz => (h.kid z hz).move (Nat.le_refl _) (fun q hq => Or.inl (hs q hq)) (fun _ _ _ _ => rfl), h.lt⟩
 have hn := h.nd
 simp only [List.map_cons, List.nodup_cons, List.mem_cons, not_or] at hn ⊢
 exact ⟨⟨fun e => hn.1.1 e.symm, hn.2.1⟩, hn.1.2, hn.2.2⟩
def strP (T : List Tt) (E : Nat → Rz X) (gv : Nat → Nat → Rz X) (f i op : Nat) : Rz X := bnd (idP T i) fun t j => bnd (filtP T E j) fun x j => bnd (vwsP T (fun j => gv j op) f [] j) fun l j => bnd (asP T j) fun y j => okR (mkX 24 t.1.2.1 0 t.2 (x :: y :: l)) j
theorem stream_s (rb : Nat) (ta : Option Addr) (cap : Nat) (T : List Tt) (E : Nat → Rz X) (hE : RdX rb ta cap T 80 (fun i _ => E i)) (gv : Nat → Nat → Rz X) (hgv : RdX rb ta cap T 148 gv) (f : Nat) : RdX rb ta cap T 117 (fun i op => strP T E gv f i op) := by
 intro i op w r hop hr h
 dsimp only at h
 have HS : Hid (St rb ta cap T w [] [] i op w) := St.start hr
 unfold strP at h
 have HL : Hid _ := h
 have hlt := cell_lt hr.c0
 clear hr h 
 unfold ptr
 go_enter Tryz.func117, Tryz.ntmps117
 have HS : Hid (St rb ta cap T w [(w.heap.size, z5)] [] i op (w.alloc o5)) := HS.out.newO z5
 obtain ⟨r1, e1, hl⟩ := bnd_some HL.out
 have HL : Hid _ := hl
 have hc := id_s rb ta cap T i op _ r1 hop HS.out.rdr e1
 (try unfold ptr at hc)
 clear e1 hl
 go_wp2_with fail
 refine hc.mono ?_
 intro e w1 hpost
 clear hc
 cases r1 with
 | inl q =>
  obtain ⟨hG, HP⟩ := HS.out.bad2 (V := VX) (op' := op) HL.out hpost
  unfold GUs at hG
  subst hG
  clear hpost
  go_wp2
  exact ⟨rfl, HP.out⟩
 | inr q =>
  obtain ⟨x1, j1⟩ := q
  obtain ⟨rfl, HS⟩ := HS.out.okT hpost
  obtain ⟨⟨x1a, x1b, x1c⟩, x1d⟩ := x1
  unfold ttV
  dsimp only
  have hl := HL.out
  rw [bnd_ok] at hl
  (try dsimp only at hl)
  have HL : Hid _ := hl
  clear hl hpost
  obtain ⟨r1, e1, hl⟩ := bnd_some HL.out
  have HL : Hid _ := hl
  have hc := filter_s rb ta cap T E hE j1 op _ r1 hop HS.out.rdr e1
  (try unfold ptr at hc)
  clear e1 hl
  go_wp2_with fail
  refine hc.mono ?_
  intro e w2 hpost
  clear hc
  cases r1 with
  | inl q =>
   obtain ⟨hG, HP⟩ := HS.out.bad2 (V := VX) (op' := op) HL.out hpost
   unfold GUs at hG
   subst hG
   clear hpost
   go_wp2
   exact ⟨rfl, HP.out⟩
  | inr q =>
   obtain ⟨x2, j2⟩ := q
   obtain ⟨s2, c2, rfl, HS⟩ := HS.out.okX hpost
   unfold xV nV
   have hl := HL.out
   rw [bnd_ok] at hl
   (try dsimp only at hl)
   have HL : Hid _ := hl
   clear hl hpost
   have HO : Hid (OwR w.heap.size (w2.alloc (xO x2 s2 c2)) w2.heap.size 1 1 [(x2, s2, c2)]) := (OwX.new (rb := rb) w2 [(x2, s2, c2)] HS.out.fx.size (by simp) (fun p hp => by rw [List.mem_singleton.1 hp]; exact HS.out.kid _ List.mem_cons_self _ (fun _ _ _ _ => rfl)) hlt _ rfl).own
   have HS : Hid (St rb ta cap T w [(w2.heap.size, (xL x2 s2 c2)), (w.heap.size, z5)] [(x2, s2)] j2 op (w2.alloc (xO x2 s2 c2))) := HS.out.newO (xL x2 s2 c2)
   have HS : Hid (St rb ta cap T w [(w2.heap.size, []), (w.heap.size, z5)] [(x2, s2)] j2 op (w2.alloc (xO x2 s2 c2))) := HS.out.veil
   have hc := textNode_s 24 ((x1a, x1b, x1c), x1d) (some ⟨w2.heap.size, 0, none⟩) 1 1 (w2.alloc (xO x2 s2 c2))
   unfold ttV nV at hc
   dsimp only at hc
   go_wp2_with fail
   refine hc.mono ?_
   rintro e w3 ⟨rfl, hb⟩
   have HS : Hid (St rb ta cap T w [(w2.heap.size, []), (w.heap.size, z5)] [(x2, s2)] j2 op w3) := HS.out.below hb
   have HO : Hid (OwR w.heap.size w3 w2.heap.size 1 1 [(x2, s2, c2)]) := HO.out.same (hb.block _ HO.out.fz.2.1)
   clear hc hb
   have HS : Hid (St rb ta cap T w [(w3.heap.size, (nL 24 x1b 0 x1d (.slice (some ⟨w2.heap.size, 0, none⟩) 1 1))), (w2.heap.size, []), (w.heap.size, z5)] [(x2, s2)] j2 op (w3.alloc (nO 24 x1b 0 x1d (.slice (some ⟨w2.heap.size, 0, none⟩) 1 1)))) := HS.out.newO (nL 24 x1b 0 x1d (.slice (some ⟨w2.heap.size, 0, none⟩) 1 1))
   have HO : Hid (OwR w.heap.size (w3.alloc (nO 24 x1b 0 x1d (.slice (some ⟨w2.heap.size, 0, none⟩) 1 1))) w2.heap.size 1 1 [(x2, s2, c2)]) := HO.out.same (((Below.refl _ _).alloc (Nat.le_refl _) _).block _ HO.out.fz.2.1)
   obtain ⟨r1, e1, hl⟩ := bnd_some HL.out
   have HL : Hid _ := hl
   have hc := views_s rb ta cap T gv hgv f j2 op _ r1 hop HS.out.rdr e1
   unfold ptr at hc
   clear e1 hl
   go_wp2_with fail
   refine hc.mono ?_
   intro e w4 hpost
   clear hc
   cases r1 with
   | inl q =>
    obtain ⟨hG, HP⟩ := HS.out.bad2 (V := VX) (op' := op) HL.out hpost
    unfold GUs at hG
    subst hG
    clear hpost
    go_wp2
    exact ⟨rfl, HP.out⟩
   | inr q =>
    obtain ⟨l, jv⟩ := q
    obtain ⟨⟨⟨v, rfl, hv⟩, hr⟩, hf⟩ := hpost.ok
    dsimp only at hv hr
    have HBS : Hid (∀ p ∈ [(w3.heap.size, (nL 24 x1b 0 x1d (.slice (some ⟨w2.heap.size, 0, none⟩) 1 1))), (w2.heap.size, []), (w.heap.size, z5)], p.1 < (w3.alloc (nO 24 x1b 0 x1d (.slice (some ⟨w2.heap.size, 0, none⟩) 1 1))).heap.size) := fun p hp => (HS.out.box p hp).1.lt
    have HGW : Hid (w.heap.size < (w3.alloc (nO 24 x1b 0 x1d (.slice (some ⟨w2.heap.size, 0, none⟩) 1 1))).heap.size ∧ w3.heap.size < (w3.alloc (nO 24 x1b 0 x1d (.slice (some ⟨w2.heap.size, 0, none⟩) 1 1))).heap.size ∧ w2.heap.size < (w3.alloc (nO 24 x1b 0 x1d (.slice (some ⟨w2.heap.size, 0, none⟩) 1 1))).heap.size) := ⟨HBS.out _ (List.mem_cons_of_mem _ (List.mem_cons_of_mem _ List.mem_cons_self)), HBS.out _ List.mem_cons_self, HBS.out _ (List.mem_cons_of_mem _ List.mem_cons_self)⟩
    rcases hv with ⟨rfl, rfl⟩ | ⟨hne, hl4, gv2, cv, Av, rfl, rfl, hOv⟩
    ·
     have HS : Hid (St rb ta cap T w [(w3.heap.size, (nL 24 x1b 0 x1d (.slice (some ⟨w2.heap.size, 0, none⟩) 1 1))), (w2.heap.size, []), (w.heap.size, z5)] [(x2, s2)] jv op w4) := HS.out.call hf hr
     have HO : Hid (OwR w.heap.size w4 w2.heap.size 1 1 [(x2, s2, c2)]) := HO.out.same (hf.blk _ HO.out.fz.2.1 (by have := HO.out.fz.1; omega))
     have hl := HL.out
     rw [bnd_ok] at hl
     (try dsimp only at hl)
     have HL : Hid _ := hl
     clear hl hpost hr hf
     go_wp2_with fail
     refine wp_region_held_drew (S := (fun _ => True)) (by kernel_rfl) trivial (fun hHeld => ?_)
     have HS : Hid (St rb ta cap T w [(w3.heap.size, (nL 24 x1b 0 x1d (.slice (some ⟨w2.heap.size, 0, none⟩) 1 1))), (w2.heap.size, []), (w.heap.size, z5)] [(x2, s2)] jv op w4.drew) := HS.out.drew
     have HO : Hid (OwR w.heap.size w4.drew w2.heap.size 1 1 [(x2, s2, c2)]) := HO.out.same rfl
     generalize w4.drew = v0 at HS HO ⊢
     refine tk 0 (some 13) (v := ?_) rfl ?_ ?_ (hS := trivial)
     rotate_left
     · intro wS hSw; go_simp; (try with_reducible rfl)
     try simp only [Act.put, List.setIfInBounds_toArray, List.set_cons_zero, List.set_cons_succ]
     refine tk 2 (some 15) (v := ?_) rfl ?_ ?_ (hS := trivial)
     rotate_left
     · intro wS hSw; go_simp; (try with_reducible rfl)
     try simp only [Act.put, List.setIfInBounds_toArray, List.set_cons_zero, List.set_cons_succ]
     refine wpAnyH_ready (rs := [1, 3]) (by kernel_rfl) (by simp) ?_
     refine AllReadyH.cons rfl (fun K hK => ?_) (AllReadyH.cons rfl (fun K hK => ?_) AllReadyH.nil)
     ·
      obtain ⟨y1, y2, y3, y4, y5⟩ := HS.out.c5 List.mem_cons_self
      go_simp
      clear y1 y2 y3 y4 y5
      refine hK.out _ _ trivial (fun hHz => ?_)
      clear hK K hHz
      try simp only [Act.put, List.setIfInBounds_toArray, List.set_cons_zero, List.set_cons_succ]
      refine wpAnyH_ready (rs := [3]) (by kernel_rfl) (by simp) ?_
      refine AllReadyH.cons rfl (fun K hK => ?_) AllReadyH.nil
      obtain ⟨r1, e1, hl⟩ := bnd_some HL.out
      have HL : Hid _ := hl
      have hc := as_s rb ta cap T jv op _ r1 hop HS.out.rdr e1
      unfold ptr at hc
      clear e1 hl
      go_simp
      refine hc.mono ?_
      intro e v1 hpost
      clear hc
      cases r1 with
      | inl q =>
       obtain ⟨hG, HP⟩ := HS.out.bad2 (V := VX) (op' := op) HL.out hpost
       unfold GUs at hG
       subst hG
       clear hpost
       exact ⟨rfl, HP.out⟩
      | inr q =>
       obtain ⟨y, jy⟩ := q
       have hfy := hpost.ok.2
       have HO : Hid (OwR w.heap.size v1 w2.heap.size 1 1 [(x2, s2, c2)]) := HO.out.same (hfy.blk _ HO.out.fz.2.1 (by have := HO.out.fz.1; omega))
       obtain ⟨sy, cy, rfl, HS⟩ := HS.out.okX hpost
       unfold xV nV
       have hl := HL.out
       rw [bnd_ok] at hl
       have HL : Hid _ := hl
       clear hl hpost hfy
       refine hK.out _ _ trivial (fun hHz => ?_)
       clear hK K hHz
       try simp only [Act.put, List.setIfInBounds_toArray, List.set_cons_zero, List.set_cons_succ]
       refine wpAnyH_ready (rs := [4]) (by kernel_rfl) (by simp) ?_
       refine AllReadyH.cons rfl (fun K hK => ?_) AllReadyH.nil
       go_simp
       refine hK.out _ _ trivial (fun hHz => ?_)
       clear hK K hHz
       try simp only [Act.put, List.setIfInBounds_toArray, List.set_cons_zero, List.set_cons_succ]
       refine wpAnyH_ready (rs := [5]) (by kernel_rfl) (by simp) ?_
       refine AllReadyH.cons rfl (fun K hK => ?_) AllReadyH.nil
       have hbY : Below v1.heap.size v1 (v1.alloc (xO y sy cy)) := (Below.refl _ _).alloc (Nat.le_refl _) _
       have HS : Hid (St rb ta cap T w [(w2.heap.size, []), (w3.heap.size, (nL 24 x1b 0 x1d (.slice (some ⟨w2.heap.size, 0, none⟩) 1 1))), (w.heap.size, z5)] ((y, sy) :: [(x2, s2)]) jy op (v1.alloc (xO y sy cy))) := St.swap2 (HS.out.below hbY)
       have HO : Hid (OwR w.heap.size (v1.alloc (xO y sy cy)) w2.heap.size 1 1 [(x2, s2, c2)]) := HO.out.same (hbY.block _ HO.out.fz.2.1)
       clear hbY
       obtain ⟨i0, hi0, hz0⟩ := Option.map_eq_some_iff.1 info26
       simp only [Prod.mk.injEq] at hz0
       obtain ⟨hz1, hzs, hz3⟩ := hz0
       refine step_append_lies (v1.alloc (xO y sy cy)) rfl _ _ 27 rfl w.heap.size 34 i0 (.agg #[.int .i64 0, .string ⟨#[]⟩, .int .i64 0, .int .i64 0, .slice none 0 0]) 5 64 Tryz.underlying27 hi0 hz1 hzs hz3 rfl (by decide) (.slice (some ⟨w2.heap.size, 0, none⟩) 1 1) 1 (xC [(x2, s2, c2)]) rfl HO.out ⟨v1.heap.size, 0, none⟩ 1 1 (xC [(y, sy, cy)]) rfl rfl (xp_cells v1 y sy cy) (xC_one _) (by decide) (by unfold maxLen; omega) (by omega) HS.out.fx.size _ rfl ?_
       intro g2 cap2 w4 hown hgrow hlies hg2
       have HO2 : Hid (OwR w.heap.size w4 g2 2 cap2 [(x2, s2, c2), (y, sy, cy)]) := hown
       have HS : Hid (St rb ta cap T w [(g2, []), (w3.heap.size, (nL 24 x1b 0 x1d (.slice (some ⟨w2.heap.size, 0, none⟩) 1 1))), (w.heap.size, z5)] ((y, sy) :: [(x2, s2)]) jy op w4) := HS.out.grow hgrow HO2.out (by simpa [Value.ownBlock] using hlies)
       clear hown hgrow hlies hg2 HO hi0 hz1 hzs hz3
       refine hK.out _ _ trivial (fun hHz => ?_)
       clear hK K hHz
       try simp only [Act.put, List.setIfInBounds_toArray, List.set_cons_zero, List.set_cons_succ]
       refine tk 6 (some 19) (v := ?_) rfl ?_ ?_ (hS := trivial)
       rotate_left
       · intro wS hSw; go_simp; (try with_reducible rfl)
       try simp only [Act.put, List.setIfInBounds_toArray, List.set_cons_zero, List.set_cons_succ]
       refine wpAnyH_ready (rs := [7]) (by kernel_rfl) (by simp) ?_
       refine AllReadyH.cons rfl (fun K hK => ?_) AllReadyH.nil
       obtain ⟨y1, y2, y3, y4, y5⟩ := HS.out.c5 (List.mem_cons_of_mem _ List.mem_cons_self)
       obtain ⟨f1, f2, f3, f4, f5⟩ := HS.out.f5 (List.mem_cons_of_mem _ List.mem_cons_self)
       go_simp
       clear y1 y2 y3 y4 y5 f1 f2 f3 f4 f5
       have HN2 : Hid (g2 ≠ w3.heap.size) := by have h := HS.out.nd; simp only [List.map_cons, List.nodup_cons, List.mem_cons, not_or] at h; exact h.1.1
       have HS : Hid (St rb ta cap T w [(g2, []), (w3.heap.size, (nL 24 x1b 0 x1d (.slice (some ⟨g2, 0, none⟩) 2 cap2))), (w.heap.size, z5)] ((y, sy) :: [(x2, s2)]) jy op (w4.setCell ⟨w3.heap.size, 4, none⟩ (.slice (some ⟨g2, 0, none⟩) 2 cap2))) := St.put [(g2, [])] HS.out 4 (.slice (some ⟨g2, 0, none⟩) 2 cap2)
       have HO2 : Hid (OwR w.heap.size (w4.setCell ⟨w3.heap.size, 4, none⟩ (.slice (some ⟨g2, 0, none⟩) 2 cap2)) g2 2 cap2 [(x2, s2, c2), (y, sy, cy)]) := HO2.out.same (Below.heap_setCell _ _ _ _ HN2.out)
       refine hK.out _ _ trivial (fun hHz => ?_)
       clear hK K hHz
       try simp only [Act.put, List.setIfInBounds_toArray, List.set_cons_zero, List.set_cons_succ]
       generalize (w4.setCell ⟨w3.heap.size, 4, none⟩ (.slice (some ⟨g2, 0, none⟩) 2 cap2)) = w5 at HS HO2 ⊢
       refine wpAnyH_done (by kernel_rfl) ?_ _
       obtain ⟨y1, y2, y3, y4, y5⟩ := HS.out.c5 (List.mem_cons_of_mem _ List.mem_cons_self)
       obtain ⟨f1, f2, f3, f4, f5⟩ := HS.out.f5 (List.mem_cons_of_mem _ List.mem_cons_self)
       have hcap := HO2.out.le
       have HO3 : Hid (OwR w.heap.size (w5.setCell ⟨w3.heap.size, 4, none⟩ (.slice (some ⟨g2, 0, none⟩) 2 cap2)) g2 2 cap2 [(x2, s2, c2), (y, sy, cy)]) := HO2.out.same (Below.heap_setCell _ _ _ _ HN2.out)
       have HS : Hid (St rb ta cap T w [(g2, []), (w3.heap.size, (nL 24 x1b 0 x1d (.slice (some ⟨g2, 0, none⟩) 2 cap2))), (w.heap.size, z5)] ((y, sy) :: [(x2, s2)]) jy op (w5.setCell ⟨w3.heap.size, 4, none⟩ (.slice (some ⟨g2, 0, none⟩) 2 cap2))) := St.put [(g2, [])] HS.out 4 (.slice (some ⟨g2, 0, none⟩) 2 cap2)
       go_upto_region 5 with (fail)
       clear y1 y2 y3 y4 y5 f1 f2 f3 f4 f5 hcap
       generalize (w5.setCell ⟨w3.heap.size, 4, none⟩ (.slice (some ⟨g2, 0, none⟩) 2 cap2)) = w6 at HS HO3 ⊢
       have HKK : Hid (∀ p ∈ [(x2, s2, c2), (y, sy, cy)], Hld rb w.heap.size [(g2, []), (w3.heap.size, (nL 24 x1b 0 x1d (.slice (some ⟨g2, 0, none⟩) 2 cap2))), (w.heap.size, z5)] w6 p.1 p.2.1) := by
        intro p hp
        simp only [List.mem_cons, List.not_mem_nil, or_false] at hp
        rcases hp with rfl | rfl
        · exact HS.out.kid (x2, s2) (by simp)
        · exact HS.out.kid (y, sy) (by simp)
       obtain ⟨u1, u2, u3, u4, u5⟩ := HS.out.c5 (List.mem_cons_of_mem _ List.mem_cons_self)
       have HS : Hid (St rb ta cap T w [(w3.heap.size, (nL 24 x1b 0 x1d (.slice (some ⟨g2, 0, none⟩) 2 cap2))), (w.heap.size, z5)] ((mkX 24 x1b 0 x1d [x2, y], some ⟨g2, 0, none⟩) :: ((y, sy) :: [(x2, s2)])) jy op w6) := HS.out.ownr HO3.out HKK.out 24 x1b 0 x1d rfl
       obtain ⟨⟨d0, d1, d2, d3, d4⟩, ⟨g0, g1, g2', g3, g4⟩, hz⟩ := St.fin5 [(w3.heap.size, (nL 24 x1b 0 x1d (.slice (some ⟨g2, 0, none⟩) 2 cap2)))] HS.out (v0 := .int .i64 24) (v1 := .string (bsA x1b)) (v2 := .int .i64 0) (v3 := .int .i64 x1d) (v4 := .slice (some ⟨g2, 0, none⟩) 2 cap2) (c := cap2) HL.out List.mem_cons_self (mkX_V' _ _ _ _ _ _ _ _ rfl)
       obtain ⟨⟨z0, z1, z2, z3, z4⟩, HP⟩ := hz _ rfl
       clear hz HS HL
       go_wp2
       refine bodyPost_ret (v := .agg #[.int .i64 24, .string (bsA x1b), .int .i64 0, .int .i64 x1d, .slice (some ⟨g2, 0, none⟩) 2 cap2]) (by simp [results, Tryz.results117, go_sem, z0, z1, z2, z3, z4]) rfl HP.out
     ·
      obtain ⟨r1, e1, hl⟩ := bnd_some HL.out
      have HL : Hid _ := hl
      have hc := as_s rb ta cap T jv op _ r1 hop HS.out.rdr e1
      unfold ptr at hc
      clear e1 hl
      go_simp
      refine hc.mono ?_
      intro e v1 hpost
      clear hc
      cases r1 with
      | inl q =>
       obtain ⟨hG, HP⟩ := HS.out.bad2 (V := VX) (op' := op) HL.out hpost
       unfold GUs at hG
       subst hG
       clear hpost
       exact ⟨rfl, HP.out⟩
      | inr q =>
       obtain ⟨y, jy⟩ := q
       have hfy := hpost.ok.2
       have HO : Hid (OwR w.heap.size v1 w2.heap.size 1 1 [(x2, s2, c2)]) := HO.out.same (hfy.blk _ HO.out.fz.2.1 (by have := HO.out.fz.1; omega))
       obtain ⟨sy, cy, rfl, HS⟩ := HS.out.okX hpost
       unfold xV nV
       have hl := HL.out
       rw [bnd_ok] at hl
       have HL : Hid _ := hl
       clear hl hpost hfy
       refine hK.out _ _ trivial (fun hHz => ?_)
       clear hK K hHz
       try simp only [Act.put, List.setIfInBounds_toArray, List.set_cons_zero, List.set_cons_succ]
       refine wpAnyH_ready (rs := [1, 4]) (by kernel_rfl) (by simp) ?_
       refine AllReadyH.cons rfl (fun K hK => ?_) (AllReadyH.cons rfl (fun K hK => ?_) AllReadyH.nil)
       ·
        obtain ⟨y1, y2, y3, y4, y5⟩ := HS.out.c5 List.mem_cons_self
        go_simp
        clear y1 y2 y3 y4 y5
        refine hK.out _ _ trivial (fun hHz => ?_)
        clear hK K hHz
        try simp only [Act.put, List.setIfInBounds_toArray, List.set_cons_zero, List.set_cons_succ]
        refine wpAnyH_ready (rs := [4]) (by kernel_rfl) (by simp) ?_
        refine AllReadyH.cons rfl (fun K hK => ?_) AllReadyH.nil
        go_simp
        refine hK.out _ _ trivial (fun hHz => ?_)
        clear hK K hHz
        try simp only [Act.put, List.setIfInBounds_toArray, List.set_cons_zero, List.set_cons_succ]
        refine wpAnyH_ready (rs := [5]) (by kernel_rfl) (by simp) ?_
        refine AllReadyH.cons rfl (fun K hK => ?_) AllReadyH.nil
        have hbY : Below v1.heap.size v1 (v1.alloc (xO y sy cy)) := (Below.refl _ _).alloc (Nat.le_refl _) _
        have HS : Hid (St rb ta cap T w [(w2.heap.size, []), (w3.heap.size, (nL 24 x1b 0 x1d (.slice (some ⟨w2.heap.size, 0, none⟩) 1 1))), (w.heap.size, z5)] ((y, sy) :: [(x2, s2)]) jy op (v1.alloc (xO y sy cy))) := St.swap2 (HS.out.below hbY)
        have HO : Hid (OwR w.heap.size (v1.alloc (xO y sy cy)) w2.heap.size 1 1 [(x2, s2, c2)]) := HO.out.same (hbY.block _ HO.out.fz.2.1)
        clear hbY
        obtain ⟨i0, hi0, hz0⟩ := Option.map_eq_some_iff.1 info26
        simp only [Prod.mk.injEq] at hz0
        obtain ⟨hz1, hzs, hz3⟩ := hz0
        refine step_append_lies (v1.alloc (xO y sy cy)) rfl _ _ 27 rfl w.heap.size 34 i0 (.agg #[.int .i64 0, .string ⟨#[]⟩, .int .i64 0, .int .i64 0, .slice none 0 0]) 5 64 Tryz.underlying27 hi0 hz1 hzs hz3 rfl (by decide) (.slice (some ⟨w2.heap.size, 0, none⟩) 1 1) 1 (xC [(x2, s2, c2)]) rfl HO.out ⟨v1.heap.size, 0, none⟩ 1 1 (xC [(y, sy, cy)]) rfl rfl (xp_cells v1 y sy cy) (xC_one _) (by decide) (by unfold maxLen; omega) (by omega) HS.out.fx.size _ rfl ?_
        intro g2 cap2 w4 hown hgrow hlies hg2
        have HO2 : Hid (OwR w.heap.size w4 g2 2 cap2 [(x2, s2, c2), (y, sy, cy)]) := hown
        have HS : Hid (St rb ta cap T w [(g2, []), (w3.heap.size, (nL 24 x1b 0 x1d (.slice (some ⟨w2.heap.size, 0, none⟩) 1 1))), (w.heap.size, z5)] ((y, sy) :: [(x2, s2)]) jy op w4) := HS.out.grow hgrow HO2.out (by simpa [Value.ownBlock] using hlies)
        clear hown hgrow hlies hg2 HO hi0 hz1 hzs hz3
        refine hK.out _ _ trivial (fun hHz => ?_)
        clear hK K hHz
        try simp only [Act.put, List.setIfInBounds_toArray, List.set_cons_zero, List.set_cons_succ]
        refine tk 6 (some 19) (v := ?_) rfl ?_ ?_ (hS := trivial)
        rotate_left
        · intro wS hSw; go_simp; (try with_reducible rfl)
        try simp only [Act.put, List.setIfInBounds_toArray, List.set_cons_zero, List.set_cons_succ]
        refine wpAnyH_ready (rs := [7]) (by kernel_rfl) (by simp) ?_
        refine AllReadyH.cons rfl (fun K hK => ?_) AllReadyH.nil
        obtain ⟨y1, y2, y3, y4, y5⟩ := HS.out.c5 (List.mem_cons_of_mem _ List.mem_cons_self)
        obtain ⟨f1, f2, f3, f4, f5⟩ := HS.out.f5 (List.mem_cons_of_mem _ List.mem_cons_self)
        go_simp
        clear y1 y2 y3 y4 y5 f1 f2 f3 f4 f5
        have HN2 : Hid (g2 ≠ w3.heap.size) := by have h := HS.out.nd; simp only [List.map_cons, List.nodup_cons, List.mem_cons, not_or] at h; exact h.1.1
        have HS : Hid (St rb ta cap T w [(g2, []), (w3.heap.size, (nL 24 x1b 0 x1d (.slice (some ⟨g2, 0, none⟩) 2 cap2))), (w.heap.size, z5)] ((y, sy) :: [(x2, s2)]) jy op (w4.setCell ⟨w3.heap.size, 4, none⟩ (.slice (some ⟨g2, 0, none⟩) 2 cap2))) := St.put [(g2, [])] HS.out 4 (.slice (some ⟨g2, 0, none⟩) 2 cap2)
        have HO2 : Hid (OwR w.heap.size (w4.setCell ⟨w3.heap.size, 4, none⟩ (.slice (some ⟨g2, 0, none⟩) 2 cap2)) g2 2 cap2 [(x2, s2, c2), (y, sy, cy)]) := HO2.out.same (Below.heap_setCell _ _ _ _ HN2.out)
        refine hK.out _ _ trivial (fun hHz => ?_)
        clear hK K hHz
        try simp only [Act.put, List.setIfInBounds_toArray, List.set_cons_zero, List.set_cons_succ]
        generalize (w4.setCell ⟨w3.heap.size, 4, none⟩ (.slice (some ⟨g2, 0, none⟩) 2 cap2)) = w5 at HS HO2 ⊢
        refine wpAnyH_done (by kernel_rfl) ?_ _
        obtain ⟨y1, y2, y3, y4, y5⟩ := HS.out.c5 (List.mem_cons_of_mem _ List.mem_cons_self)
        obtain ⟨f1, f2, f3, f4, f5⟩ := HS.out.f5 (List.mem_cons_of_mem _ List.mem_cons_self)
        have hcap := HO2.out.le
        have HO3 : Hid (OwR w.heap.size (w5.setCell ⟨w3.heap.size, 4, none⟩ (.slice (some ⟨g2, 0, none⟩) 2 cap2)) g2 2 cap2 [(x2, s2, c2), (y, sy, cy)]) := HO2.out.same (Below.heap_setCell _ _ _ _ HN2.out)
        have HS : Hid (St rb ta cap T w [(g2, []), (w3.heap.size, (nL 24 x1b 0 x1d (.slice (some ⟨g2, 0, none⟩) 2 cap2))), (w.heap.size, z5)] ((y, sy) :: [(x2, s2)]) jy op (w5.setCell ⟨w3.heap.size, 4, none⟩ (.slice (some ⟨g2, 0, none⟩) 2 cap2))) := St.put [(g2, [])] HS.out 4 (.slice (some ⟨g2, 0, none⟩) 2 cap2)
        go_upto_region 5 with (fail)
        clear y1 y2 y3 y4 y5 f1 f2 f3 f4 f5 hcap
        generalize (w5.setCell ⟨w3.heap.size, 4, none⟩ (.slice (some ⟨g2, 0, none⟩) 2 cap2)) = w6 at HS HO3 ⊢
        have HKK : Hid (∀ p ∈ [(x2, s2, c2), (y, sy, cy)], Hld rb w.heap.size [(g2, []), (w3.heap.size, (nL 24 x1b 0 x1d (.slice (some ⟨g2, 0, none⟩) 2 cap2))), (w.heap.size, z5)] w6 p.1 p.2.1) := by
         intro p hp
         simp only [List.mem_cons, List.not_mem_nil, or_false] at hp
         rcases hp with rfl | rfl
         · exact HS.out.kid (x2, s2) (by simp)
         · exact HS.out.kid (y, sy) (by simp)
        obtain ⟨u1, u2, u3, u4, u5⟩ := HS.out.c5 (List.mem_cons_of_mem _ List.mem_cons_self)
        have HS : Hid (St rb ta cap T w [(w3.heap.size, (nL 24 x1b 0 x1d (.slice (some ⟨g2, 0, none⟩) 2 cap2))), (w.heap.size, z5)] ((mkX 24 x1b 0 x1d [x2, y], some ⟨g2, 0, none⟩) :: ((y, sy) :: [(x2, s2)])) jy op w6) := HS.out.ownr HO3.out HKK.out 24 x1b 0 x1d rfl
        obtain ⟨⟨d0, d1, d2, d3, d4⟩, ⟨g0, g1, g2', g3, g4⟩, hz⟩ := St.fin5 [(w3.heap.size, (nL 24 x1b 0 x1d (.slice (some ⟨g2, 0, none⟩) 2 cap2)))] HS.out (v0 := .int .i64 24) (v1 := .string (bsA x1b)) (v2 := .int .i64 0) (v3 := .int .i64 x1d) (v4 := .slice (some ⟨g2, 0, none⟩) 2 cap2) (c := cap2) HL.out List.mem_cons_self (mkX_V' _ _ _ _ _ _ _ _ rfl)
        obtain ⟨⟨z0, z1, z2, z3, z4⟩, HP⟩ := hz _ rfl
        clear hz HS HL
        go_wp2
        refine bodyPost_ret (v := .agg #[.int .i64 24, .string (bsA x1b), .int .i64 0, .int .i64 x1d, .slice (some ⟨g2, 0, none⟩) 2 cap2]) (by simp [results, Tryz.results117, go_sem, z0, z1, z2, z3, z4]) rfl HP.out
       ·
        go_simp
        refine hK.out _ _ trivial (fun hHz => ?_)
        clear hK K hHz
        try simp only [Act.put, List.setIfInBounds_toArray, List.set_cons_zero, List.set_cons_succ]
        refine wpAnyH_ready (rs := [1]) (by kernel_rfl) (by simp) ?_
        refine AllReadyH.cons rfl (fun K hK => ?_) AllReadyH.nil
        obtain ⟨y1, y2, y3, y4, y5⟩ := (HS.out.below ((Below.refl v1.heap.size v1).alloc (Nat.le_refl _) (xO y sy cy))).c5 (List.mem_cons_self)
        go_simp
        clear y1 y2 y3 y4 y5
        refine hK.out _ _ trivial (fun hHz => ?_)
        clear hK K hHz
        try simp only [Act.put, List.setIfInBounds_toArray, List.set_cons_zero, List.set_cons_succ]
        refine wpAnyH_ready (rs := [5]) (by kernel_rfl) (by simp) ?_
        refine AllReadyH.cons rfl (fun K hK => ?_) AllReadyH.nil
        have hbY : Below v1.heap.size v1 (v1.alloc (xO y sy cy)) := (Below.refl _ _).alloc (Nat.le_refl _) _
        have HS : Hid (St rb ta cap T w [(w2.heap.size, []), (w3.heap.size, (nL 24 x1b 0 x1d (.slice (some ⟨w2.heap.size, 0, none⟩) 1 1))), (w.heap.size, z5)] ((y, sy) :: [(x2, s2)]) jy op (v1.alloc (xO y sy cy))) := St.swap2 (HS.out.below hbY)
        have HO : Hid (OwR w.heap.size (v1.alloc (xO y sy cy)) w2.heap.size 1 1 [(x2, s2, c2)]) := HO.out.same (hbY.block _ HO.out.fz.2.1)
        clear hbY
        obtain ⟨i0, hi0, hz0⟩ := Option.map_eq_some_iff.1 info26
        simp only [Prod.mk.injEq] at hz0
        obtain ⟨hz1, hzs, hz3⟩ := hz0
        refine step_append_lies (v1.alloc (xO y sy cy)) rfl _ _ 27 rfl w.heap.size 34 i0 (.agg #[.int .i64 0, .string ⟨#[]⟩, .int .i64 0, .int .i64 0, .slice none 0 0]) 5 64 Tryz.underlying27 hi0 hz1 hzs hz3 rfl (by decide) (.slice (some ⟨w2.heap.size, 0, none⟩) 1 1) 1 (xC [(x2, s2, c2)]) rfl HO.out ⟨v1.heap.size, 0, none⟩ 1 1 (xC [(y, sy, cy)]) rfl rfl (xp_cells v1 y sy cy) (xC_one _) (by decide) (by unfold maxLen; omega) (by omega) HS.out.fx.size _ rfl ?_
        intro g2 cap2 w4 hown hgrow hlies hg2
        have HO2 : Hid (OwR w.heap.size w4 g2 2 cap2 [(x2, s2, c2), (y, sy, cy)]) := hown
        have HS : Hid (St rb ta cap T w [(g2, []), (w3.heap.size, (nL 24 x1b 0 x1d (.slice (some ⟨w2.heap.size, 0, none⟩) 1 1))), (w.heap.size, z5)] ((y, sy) :: [(x2, s2)]) jy op w4) := HS.out.grow hgrow HO2.out (by simpa [Value.ownBlock] using hlies)
        clear hown hgrow hlies hg2 HO hi0 hz1 hzs hz3
        refine hK.out _ _ trivial (fun hHz => ?_)
        clear hK K hHz
        try simp only [Act.put, List.setIfInBounds_toArray, List.set_cons_zero, List.set_cons_succ]
        refine tk 6 (some 19) (v := ?_) rfl ?_ ?_ (hS := trivial)
        rotate_left
        · intro wS hSw; go_simp; (try with_reducible rfl)
        try simp only [Act.put, List.setIfInBounds_toArray, List.set_cons_zero, List.set_cons_succ]
        refine wpAnyH_ready (rs := [7]) (by kernel_rfl) (by simp) ?_
        refine AllReadyH.cons rfl (fun K hK => ?_) AllReadyH.nil
        obtain ⟨y1, y2, y3, y4, y5⟩ := HS.out.c5 (List.mem_cons_of_mem _ List.mem_cons_self)
        obtain ⟨f1, f2, f3, f4, f5⟩ := HS.out.f5 (List.mem_cons_of_mem _ List.mem_cons_self)
        go_simp
        clear y1 y2 y3 y4 y5 f1 f2 f3 f4 f5
        have HN2 : Hid (g2 ≠ w3.heap.size) := by have h := HS.out.nd; simp only [List.map_cons, List.nodup_cons, List.mem_cons, not_or] at h; exact h.1.1
        have HS : Hid (St rb ta cap T w [(g2, []), (w3.heap.size, (nL 24 x1b 0 x1d (.slice (some ⟨g2, 0, none⟩) 2 cap2))), (w.heap.size, z5)] ((y, sy) :: [(x2, s2)]) jy op (w4.setCell ⟨w3.heap.size, 4, none⟩ (.slice (some ⟨g2, 0, none⟩) 2 cap2))) := St.put [(g2, [])] HS.out 4 (.slice (some ⟨g2, 0, none⟩) 2 cap2)
        have HO2 : Hid (OwR w.heap.size (w4.setCell ⟨w3.heap.size, 4, none⟩ (.slice (some ⟨g2, 0, none⟩) 2 cap2)) g2 2 cap2 [(x2, s2, c2), (y, sy, cy)]) := HO2.out.same (Below.heap_setCell _ _ _ _ HN2.out)
        refine hK.out _ _ trivial (fun hHz => ?_)
        clear hK K hHz
        try simp only [Act.put, List.setIfInBounds_toArray, List.set_cons_zero, List.set_cons_succ]
        generalize (w4.setCell ⟨w3.heap.size, 4, none⟩ (.slice (some ⟨g2, 0, none⟩) 2 cap2)) = w5 at HS HO2 ⊢
        refine wpAnyH_done (by kernel_rfl) ?_ _
        obtain ⟨y1, y2, y3, y4, y5⟩ := HS.out.c5 (List.mem_cons_of_mem _ List.mem_cons_self)
        obtain ⟨f1, f2, f3, f4, f5⟩ := HS.out.f5 (List.mem_cons_of_mem _ List.mem_cons_self)
        have hcap := HO2.out.le
        have HO3 : Hid (OwR w.heap.size (w5.setCell ⟨w3.heap.size, 4, none⟩ (.slice (some ⟨g2, 0, none⟩) 2 cap2)) g2 2 cap2 [(x2, s2, c2), (y, sy, cy)]) := HO2.out.same (Below.heap_setCell _ _ _ _ HN2.out)
        have HS : Hid (St rb ta cap T w [(g2, []), (w3.heap.size, (nL 24 x1b 0 x1d (.slice (some ⟨g2, 0, none⟩) 2 cap2))), (w.heap.size, z5)] ((y, sy) :: [(x2, s2)]) jy op (w5.setCell ⟨w3.heap.size, 4, none⟩ (.slice (some ⟨g2, 0, none⟩) 2 cap2))) := St.put [(g2, [])] HS.out 4 (.slice (some ⟨g2, 0, none⟩) 2 cap2)
        go_upto_region 5 with (fail)
        clear y1 y2 y3 y4 y5 f1 f2 f3 f4 f5 hcap
        generalize (w5.setCell ⟨w3.heap.size, 4, none⟩ (.slice (some ⟨g2, 0, none⟩) 2 cap2)) = w6 at HS HO3 ⊢
        have HKK : Hid (∀ p ∈ [(x2, s2, c2), (y, sy, cy)], Hld rb w.heap.size [(g2, []), (w3.heap.size, (nL 24 x1b 0 x1d (.slice (some ⟨g2, 0, none⟩) 2 cap2))), (w.heap.size, z5)] w6 p.1 p.2.1) := by
         intro p hp
         simp only [List.mem_cons, List.not_mem_nil, or_false] at hp
         rcases hp with rfl | rfl
         · exact HS.out.kid (x2, s2) (by simp)
         · exact HS.out.kid (y, sy) (by simp)
        obtain ⟨u1, u2, u3, u4, u5⟩ := HS.out.c5 (List.mem_cons_of_mem _ List.mem_cons_self)
        have HS : Hid (St rb ta cap T w [(w3.heap.size, (nL 24 x1b 0 x1d (.slice (some ⟨g2, 0, none⟩) 2 cap2))), (w.heap.size, z5)] ((mkX 24 x1b 0 x1d [x2, y], some ⟨g2, 0, none⟩) :: ((y, sy) :: [(x2, s2)])) jy op w6) := HS.out.ownr HO3.out HKK.out 24 x1b 0 x1d rfl
        obtain ⟨⟨d0, d1, d2, d3, d4⟩, ⟨g0, g1, g2', g3, g4⟩, hz⟩ := St.fin5 [(w3.heap.size, (nL 24 x1b 0 x1d (.slice (some ⟨g2, 0, none⟩) 2 cap2)))] HS.out (v0 := .int .i64 24) (v1 := .string (bsA x1b)) (v2 := .int .i64 0) (v3 := .int .i64 x1d) (v4 := .slice (some ⟨g2, 0, none⟩) 2 cap2) (c := cap2) HL.out List.mem_cons_self (mkX_V' _ _ _ _ _ _ _ _ rfl)
        obtain ⟨⟨z0, z1, z2, z3, z4⟩, HP⟩ := hz _ rfl
        clear hz HS HL
        go_wp2
        refine bodyPost_ret (v := .agg #[.int .i64 24, .string (bsA x1b), .int .i64 0, .int .i64 x1d, .slice (some ⟨g2, 0, none⟩) 2 cap2]) (by simp [results, Tryz.results117, go_sem, z0, z1, z2, z3, z4]) rfl HP.out
    ·
     have HS : Hid (St rb ta cap T w [(w3.heap.size, (nL 24 x1b 0 x1d (.slice (some ⟨w2.heap.size, 0, none⟩) 1 1))), (w2.heap.size, []), (w.heap.size, z5)] (Av.map (fun p => (p.1, p.2.1)) ++ [(x2, s2)]) jv op w4) := HS.out.addk hf hr hOv
     have HOV : Hid (OwR (w3.alloc (nO 24 x1b 0 x1d (.slice (some ⟨w2.heap.size, 0, none⟩) 1 1))).heap.size w4 gv2 Av.length cv Av) := hOv.own
     have HGV : Hid ((w3.alloc (nO 24 x1b 0 x1d (.slice (some ⟨w2.heap.size, 0, none⟩) 1 1))).heap.size ≤ gv2) := hOv.lt.1
     have HNE : Hid (Av.map (·.1) ≠ []) := hne
     have HL4 : Hid ((Av.map (·.1)).length ≤ 4) := hl4
     clear hne hl4
     have HO : Hid (OwR w.heap.size w4 w2.heap.size 1 1 [(x2, s2, c2)]) := HO.out.same (hf.blk _ HO.out.fz.2.1 (by have := HO.out.fz.1; omega))
     have hl := HL.out
     rw [bnd_ok] at hl
     (try dsimp only at hl)
     have HL : Hid _ := hl
     clear hl hpost hr hf hOv
     go_wp2_with fail
     refine wp_region_held_drew (S := (fun _ => True)) (by kernel_rfl) trivial (fun hHeld => ?_)
     have HS : Hid (St rb ta cap T w [(w3.heap.size, (nL 24 x1b 0 x1d (.slice (some ⟨w2.heap.size, 0, none⟩) 1 1))), (w2.heap.size, []), (w.heap.size, z5)] (Av.map (fun p => (p.1, p.2.1)) ++ [(x2, s2)]) jv op w4.drew) := HS.out.drew
     have HO : Hid (OwR w.heap.size w4.drew w2.heap.size 1 1 [(x2, s2, c2)]) := HO.out.same rfl
     have HOV : Hid (OwR (w3.alloc (nO 24 x1b 0 x1d (.slice (some ⟨w2.heap.size, 0, none⟩) 1 1))).heap.size w4.drew gv2 Av.length cv Av) := HOV.out.same rfl
     generalize w4.drew = v0 at HS HO HOV ⊢
     refine tk 0 (some 13) (v := ?_) rfl ?_ ?_ (hS := trivial)
     rotate_left
     · intro wS hSw; go_simp; (try with_reducible rfl)
     try simp only [Act.put, List.setIfInBounds_toArray, List.set_cons_zero, List.set_cons_succ]
     refine tk 2 (some 15) (v := ?_) rfl ?_ ?_ (hS := trivial)
     rotate_left
     · intro wS hSw; go_simp; (try with_reducible rfl)
     try simp only [Act.put, List.setIfInBounds_toArray, List.set_cons_zero, List.set_cons_succ]
     refine wpAnyH_ready (rs := [1, 3]) (by kernel_rfl) (by simp) ?_
     refine AllReadyH.cons rfl (fun K hK => ?_) (AllReadyH.cons rfl (fun K hK => ?_) AllReadyH.nil)
     ·
      obtain ⟨y1, y2, y3, y4, y5⟩ := HS.out.c5 List.mem_cons_self
      go_simp
      clear y1 y2 y3 y4 y5
      refine hK.out _ _ trivial (fun hHz => ?_)
      clear hK K hHz
      try simp only [Act.put, List.setIfInBounds_toArray, List.set_cons_zero, List.set_cons_succ]
      refine wpAnyH_ready (rs := [3]) (by kernel_rfl) (by simp) ?_
      refine AllReadyH.cons rfl (fun K hK => ?_) AllReadyH.nil
      obtain ⟨r1, e1, hl⟩ := bnd_some HL.out
      have HL : Hid _ := hl
      have hc := as_s rb ta cap T jv op _ r1 hop HS.out.rdr e1
      unfold ptr at hc
      clear e1 hl
      go_simp
      refine hc.mono ?_
      intro e v1 hpost
      clear hc
      cases r1 with
      | inl q =>
       obtain ⟨hG, HP⟩ := HS.out.bad2 (V := VX) (op' := op) HL.out hpost
       unfold GUs at hG
       subst hG
       clear hpost
       exact ⟨rfl, HP.out⟩
      | inr q =>
       obtain ⟨y, jy⟩ := q
       have hfy := hpost.ok.2
       have HO : Hid (OwR w.heap.size v1 w2.heap.size 1 1 [(x2, s2, c2)]) := HO.out.same (hfy.blk _ HO.out.fz.2.1 (by have := HO.out.fz.1; omega))
       have HOV : Hid (OwR (w3.alloc (nO 24 x1b 0 x1d (.slice (some ⟨w2.heap.size, 0, none⟩) 1 1))).heap.size v1 gv2 Av.length cv Av) := HOV.out.same (hfy.blk _ HOV.out.fz.2.1 (by have := HGV.out; have := hlt; have := HGW.out.1; omega))
       obtain ⟨sy, cy, rfl, HS⟩ := HS.out.okX hpost
       unfold xV nV
       have hl := HL.out
       rw [bnd_ok] at hl
       have HL : Hid _ := hl
       clear hl hpost hfy
       refine hK.out _ _ trivial (fun hHz => ?_)
       clear hK K hHz
       try simp only [Act.put, List.setIfInBounds_toArray, List.set_cons_zero, List.set_cons_succ]
       refine wpAnyH_ready (rs := [4]) (by kernel_rfl) (by simp) ?_
       refine AllReadyH.cons rfl (fun K hK => ?_) AllReadyH.nil
       go_simp
       refine hK.out _ _ trivial (fun hHz => ?_)
       clear hK K hHz
       try simp only [Act.put, List.setIfInBounds_toArray, List.set_cons_zero, List.set_cons_succ]
       refine wpAnyH_ready (rs := [5]) (by kernel_rfl) (by simp) ?_
       refine AllReadyH.cons rfl (fun K hK => ?_) AllReadyH.nil
       have hbY : Below v1.heap.size v1 (v1.alloc (xO y sy cy)) := (Below.refl _ _).alloc (Nat.le_refl _) _
       have HS : Hid (St rb ta cap T w [(w2.heap.size, []), (w3.heap.size, (nL 24 x1b 0 x1d (.slice (some ⟨w2.heap.size, 0, none⟩) 1 1))), (w.heap.size, z5)] ((y, sy) :: (Av.map (fun p => (p.1, p.2.1)) ++ [(x2, s2)])) jy op (v1.alloc (xO y sy cy))) := St.swap2 (HS.out.below hbY)
       have HO : Hid (OwR w.heap.size (v1.alloc (xO y sy cy)) w2.heap.size 1 1 [(x2, s2, c2)]) := HO.out.same (hbY.block _ HO.out.fz.2.1)
       have HOV : Hid (OwR (w3.alloc (nO 24 x1b 0 x1d (.slice (some ⟨w2.heap.size, 0, none⟩) 1 1))).heap.size (v1.alloc (xO y sy cy)) gv2 Av.length cv Av) := HOV.out.same (hbY.block _ HOV.out.fz.2.1)
       clear hbY
       obtain ⟨i0, hi0, hz0⟩ := Option.map_eq_some_iff.1 info26
       simp only [Prod.mk.injEq] at hz0
       obtain ⟨hz1, hzs, hz3⟩ := hz0
       refine step_append_lies (v1.alloc (xO y sy cy)) rfl _ _ 27 rfl w.heap.size 34 i0 (.agg #[.int .i64 0, .string ⟨#[]⟩, .int .i64 0, .int .i64 0, .slice none 0 0]) 5 64 Tryz.underlying27 hi0 hz1 hzs hz3 rfl (by decide) (.slice (some ⟨w2.heap.size, 0, none⟩) 1 1) 1 (xC [(x2, s2, c2)]) rfl HO.out ⟨v1.heap.size, 0, none⟩ 1 1 (xC [(y, sy, cy)]) rfl rfl (xp_cells v1 y sy cy) (xC_one _) (by decide) (by unfold maxLen; omega) (by omega) HS.out.fx.size _ rfl ?_
       intro g2 cap2 w4 hown hgrow hlies hg2
       have HO2 : Hid (OwR w.heap.size w4 g2 2 cap2 [(x2, s2, c2), (y, sy, cy)]) := hown
       have HS : Hid (St rb ta cap T w [(g2, []), (w3.heap.size, (nL 24 x1b 0 x1d (.slice (some ⟨w2.heap.size, 0, none⟩) 1 1))), (w.heap.size, z5)] ((y, sy) :: (Av.map (fun p => (p.1, p.2.1)) ++ [(x2, s2)])) jy op w4) := HS.out.grow hgrow HO2.out (by simpa [Value.ownBlock] using hlies)
       have HOV : Hid (OwR (w3.alloc (nO 24 x1b 0 x1d (.slice (some ⟨w2.heap.size, 0, none⟩) 1 1))).heap.size w4 gv2 Av.length cv Av) := HOV.out.same (hgrow.block _ HOV.out.fz.2.1 (by have := HGV.out; have := HGW.out.2.2; simp [Value.ownBlock]; omega))
       clear hown hgrow hlies hg2 HO hi0 hz1 hzs hz3
       refine hK.out _ _ trivial (fun hHz => ?_)
       clear hK K hHz
       try simp only [Act.put, List.setIfInBounds_toArray, List.set_cons_zero, List.set_cons_succ]
       refine tk 6 (some 19) (v := ?_) rfl ?_ ?_ (hS := trivial)
       rotate_left
       · intro wS hSw; go_simp; (try with_reducible rfl)
       try simp only [Act.put, List.setIfInBounds_toArray, List.set_cons_zero, List.set_cons_succ]
       refine wpAnyH_ready (rs := [7]) (by kernel_rfl) (by simp) ?_
       refine AllReadyH.cons rfl (fun K hK => ?_) AllReadyH.nil
       obtain ⟨y1, y2, y3, y4, y5⟩ := HS.out.c5 (List.mem_cons_of_mem _ List.mem_cons_self)
       obtain ⟨f1, f2, f3, f4, f5⟩ := HS.out.f5 (List.mem_cons_of_mem _ List.mem_cons_self)
       go_simp
       clear y1 y2 y3 y4 y5 f1 f2 f3 f4 f5
       have HN2 : Hid (g2 ≠ w3.heap.size) := by have h := HS.out.nd; simp only [List.map_cons, List.nodup_cons, List.mem_cons, not_or] at h; exact h.1.1
       have HS : Hid (St rb ta cap T w [(g2, []), (w3.heap.size, (nL 24 x1b 0 x1d (.slice (some ⟨g2, 0, none⟩) 2 cap2))), (w.heap.size, z5)] ((y, sy) :: (Av.map (fun p => (p.1, p.2.1)) ++ [(x2, s2)])) jy op (w4.setCell ⟨w3.heap.size, 4, none⟩ (.slice (some ⟨g2, 0, none⟩) 2 cap2))) := St.put [(g2, [])] HS.out 4 (.slice (some ⟨g2, 0, none⟩) 2 cap2)
       have HO2 : Hid (OwR w.heap.size (w4.setCell ⟨w3.heap.size, 4, none⟩ (.slice (some ⟨g2, 0, none⟩) 2 cap2)) g2 2 cap2 [(x2, s2, c2), (y, sy, cy)]) := HO2.out.same (Below.heap_setCell _ _ _ _ HN2.out)
       have HOV : Hid (OwR (w3.alloc (nO 24 x1b 0 x1d (.slice (some ⟨w2.heap.size, 0, none⟩) 1 1))).heap.size (w4.setCell ⟨w3.heap.size, 4, none⟩ (.slice (some ⟨g2, 0, none⟩) 2 cap2)) gv2 Av.length cv Av) := HOV.out.same (Below.heap_setCell _ _ _ _ (by have := HGV.out; have := HGW.out.2.1; show gv2 ≠ w3.heap.size; omega))
       refine hK.out _ _ trivial (fun hHz => ?_)
       clear hK K hHz
       try simp only [Act.put, List.setIfInBounds_toArray, List.set_cons_zero, List.set_cons_succ]
       generalize (w4.setCell ⟨w3.heap.size, 4, none⟩ (.slice (some ⟨g2, 0, none⟩) 2 cap2)) = w5 at HS HO2 HOV ⊢
       refine wpAnyH_done (by kernel_rfl) ?_ _
       obtain ⟨y1, y2, y3, y4, y5⟩ := HS.out.c5 (List.mem_cons_of_mem _ List.mem_cons_self)
       obtain ⟨f1, f2, f3, f4, f5⟩ := HS.out.f5 (List.mem_cons_of_mem _ List.mem_cons_self)
       obtain ⟨nv, hnv⟩ : ∃ nv, nv = Av.length := ⟨_, rfl⟩
       have HNV : Hid (Av.length = nv) := hnv.symm
       have HOW : Hid (OwR (w3.alloc (nO 24 x1b 0 x1d (.slice (some ⟨w2.heap.size, 0, none⟩) 1 1))).heap.size w5 gv2 nv cv Av) := by rw [hnv]; exact HOV.out
       rw [← hnv]
       have h1v : 0 < nv := by have := HNE.out; have h2 := HNV.out; rw [← h2]; exact List.length_pos_iff.2 (fun e => this (by rw [e]; rfl))
       have h4v : nv ≤ 4 := by have := HL4.out; rw [List.length_map] at this; have := HNV.out; omega
       have hxl : (xC Av).length = nv * 5 := by rw [xC_len, HNV.out]
       have HCL : Hid (∀ j u, (xC Av)[j]? = some u → w5.cell? ((⟨gv2, 0, none⟩ : Addr).add j) = some u) := HOW.out.cells (g := gv2) rfl
       clear hnv HOV
       obtain ⟨i0, hi0, hz0⟩ := Option.map_eq_some_iff.1 info26
       simp only [Prod.mk.injEq] at hz0
       obtain ⟨hz1, hzs, hz3⟩ := hz0
       have hfs := HS.out.fx.size
       go_wp2_with (at_builtin; refine wpList_append_lies _ rfl _ _ 27 rfl w.heap.size 34 i0 (.agg #[.int .i64 0, .string ⟨#[]⟩, .int .i64 0, .int .i64 0, .slice none 0 0]) 5 64 Tryz.underlying27 hi0 hz1 hzs hz3 rfl (by decide) _ 2 (xC [(x2, s2, c2), (y, sy, cy)]) rfl HO2.out ⟨gv2, 0, none⟩ nv cv (xC Av) rfl hxl HCL.out (xC_one _) h1v (by unfold maxLen; omega) (by omega) hfs _ rfl ?_)
       intro g5 cap5 w7 hown hgrow hlies hg5
       clear y1 y2 y3 y4 y5 f1 f2 f3 f4 f5
       have HO3 : Hid (OwR w.heap.size w7 g5 (2 + nv) cap5 ([(x2, s2, c2), (y, sy, cy)] ++ Av)) := by have h := hown; rw [← xC_app] at h; exact h
       have HS : Hid (St rb ta cap T w [(g5, []), (w3.heap.size, (nL 24 x1b 0 x1d (.slice (some ⟨g2, 0, none⟩) 2 cap2))), (w.heap.size, z5)] ((y, sy) :: (Av.map (fun p => (p.1, p.2.1)) ++ [(x2, s2)])) jy op w7) := HS.out.grow hgrow HO3.out (by simpa [Value.ownBlock] using hlies)
       have HN5 : Hid (g5 ≠ w3.heap.size) := by have h := HS.out.nd; simp only [List.map_cons, List.nodup_cons, List.mem_cons, not_or] at h; exact h.1.1
       clear hown hgrow hlies hg5 HO2 HOW HCL hi0 hz1 hzs hz3 hxl hfs
       obtain ⟨y1, y2, y3, y4, y5⟩ := HS.out.c5 (List.mem_cons_of_mem _ List.mem_cons_self)
       obtain ⟨f1, f2, f3, f4, f5⟩ := HS.out.f5 (List.mem_cons_of_mem _ List.mem_cons_self)
       have HO4 : Hid (OwR w.heap.size (w7.setCell ⟨w3.heap.size, 4, none⟩ (.slice (some ⟨g5, 0, none⟩) (2 + nv) cap5)) g5 (2 + nv) cap5 ([(x2, s2, c2), (y, sy, cy)] ++ Av)) := HO3.out.same (Below.heap_setCell _ _ _ _ HN5.out)
       have HS : Hid (St rb ta cap T w [(g5, []), (w3.heap.size, (nL 24 x1b 0 x1d (.slice (some ⟨g5, 0, none⟩) (2 + nv) cap5))), (w.heap.size, z5)] ((y, sy) :: (Av.map (fun p => (p.1, p.2.1)) ++ [(x2, s2)])) jy op (w7.setCell ⟨w3.heap.size, 4, none⟩ (.slice (some ⟨g5, 0, none⟩) (2 + nv) cap5))) := St.put [(g5, [])] HS.out 4 (.slice (some ⟨g5, 0, none⟩) (2 + nv) cap5)
       go_upto_region 5 with (fail)
       clear y1 y2 y3 y4 y5 f1 f2 f3 f4 f5
       generalize (w7.setCell ⟨w3.heap.size, 4, none⟩ (.slice (some ⟨g5, 0, none⟩) (2 + nv) cap5)) = w8 at HS HO4 ⊢
       have HKK : Hid (∀ p ∈ [(x2, s2, c2), (y, sy, cy)] ++ Av, Hld rb w.heap.size [(g5, []), (w3.heap.size, (nL 24 x1b 0 x1d (.slice (some ⟨g5, 0, none⟩) (2 + nv) cap5))), (w.heap.size, z5)] w8 p.1 p.2.1) := by
        intro p hp
        rcases List.mem_append.1 hp with hp | hp
        ·
         simp only [List.mem_cons, List.not_mem_nil, or_false] at hp
         rcases hp with rfl | rfl
         · exact HS.out.kid (x2, s2) (by simp)
         · exact HS.out.kid (y, sy) (by simp)
        · exact HS.out.kid _ (List.mem_cons_of_mem _ (List.mem_append_left _ (List.mem_map_of_mem (f := fun p : Xp => (p.1, p.2.1)) hp)))
       obtain ⟨u1, u2, u3, u4, u5⟩ := HS.out.c5 (List.mem_cons_of_mem _ List.mem_cons_self)
       have HS : Hid (St rb ta cap T w [(w3.heap.size, (nL 24 x1b 0 x1d (.slice (some ⟨g5, 0, none⟩) (2 + nv) cap5))), (w.heap.size, z5)] ((mkX 24 x1b 0 x1d (x2 :: y :: Av.map (·.1)), some ⟨g5, 0, none⟩) :: ((y, sy) :: (Av.map (fun p => (p.1, p.2.1)) ++ [(x2, s2)]))) jy op w8) := HS.out.ownr HO4.out HKK.out 24 x1b 0 x1d (by have := HNV.out; simp; omega)
       obtain ⟨⟨d0, d1, d2, d3, d4⟩, ⟨g0, g1, g2', g3, g4⟩, hz⟩ := St.fin5 [(w3.heap.size, (nL 24 x1b 0 x1d (.slice (some ⟨g5, 0, none⟩) (2 + nv) cap5)))] HS.out (v0 := .int .i64 24) (v1 := .string (bsA x1b)) (v2 := .int .i64 0) (v3 := .int .i64 x1d) (v4 := .slice (some ⟨g5, 0, none⟩) (2 + nv) cap5) (c := cap5) HL.out List.mem_cons_self (mkX_V' _ _ _ _ _ _ _ _ (by have := HNV.out; simp; omega))
       obtain ⟨⟨z0, z1, z2, z3, z4⟩, HP⟩ := hz _ rfl
       clear hz HS HL
       go_wp2
       refine bodyPost_ret (v := .agg #[.int .i64 24, .string (bsA x1b), .int .i64 0, .int .i64 x1d, .slice (some ⟨g5, 0, none⟩) (2 + nv) cap5]) (by simp [results, Tryz.results117, go_sem, z0, z1, z2, z3, z4]) rfl HP.out
     ·
      obtain ⟨r1, e1, hl⟩ := bnd_some HL.out
      have HL : Hid _ := hl
      have hc := as_s rb ta cap T jv op _ r1 hop HS.out.rdr e1
      unfold ptr at hc
      clear e1 hl
      go_simp
      refine hc.mono ?_
      intro e v1 hpost
      clear hc
      cases r1 with
      | inl q =>
       obtain ⟨hG, HP⟩ := HS.out.bad2 (V := VX) (op' := op) HL.out hpost
       unfold GUs at hG
       subst hG
       clear hpost
       exact ⟨rfl, HP.out⟩
      | inr q =>
       obtain ⟨y, jy⟩ := q
       have hfy := hpost.ok.2
       have HO : Hid (OwR w.heap.size v1 w2.heap.size 1 1 [(x2, s2, c2)]) := HO.out.same (hfy.blk _ HO.out.fz.2.1 (by have := HO.out.fz.1; omega))
       have HOV : Hid (OwR (w3.alloc (nO 24 x1b 0 x1d (.slice (some ⟨w2.heap.size, 0, none⟩) 1 1))).heap.size v1 gv2 Av.length cv Av) := HOV.out.same (hfy.blk _ HOV.out.fz.2.1 (by have := HGV.out; have := hlt; have := HGW.out.1; omega))
       obtain ⟨sy, cy, rfl, HS⟩ := HS.out.okX hpost
       unfold xV nV
       have hl := HL.out
       rw [bnd_ok] at hl
       have HL : Hid _ := hl
       clear hl hpost hfy
       refine hK.out _ _ trivial (fun hHz => ?_)
       clear hK K hHz
       try simp only [Act.put, List.setIfInBounds_toArray, List.set_cons_zero, List.set_cons_succ]
       refine wpAnyH_ready (rs := [1, 4]) (by kernel_rfl) (by simp) ?_
       refine AllReadyH.cons rfl (fun K hK => ?_) (AllReadyH.cons rfl (fun K hK => ?_) AllReadyH.nil)
       ·
        obtain ⟨y1, y2, y3, y4, y5⟩ := HS.out.c5 List.mem_cons_self
        go_simp
        clear y1 y2 y3 y4 y5
        refine hK.out _ _ trivial (fun hHz => ?_)
        clear hK K hHz
        try simp only [Act.put, List.setIfInBounds_toArray, List.set_cons_zero, List.set_cons_succ]
        refine wpAnyH_ready (rs := [4]) (by kernel_rfl) (by simp) ?_
        refine AllReadyH.cons rfl (fun K hK => ?_) AllReadyH.nil
        go_simp
        refine hK.out _ _ trivial (fun hHz => ?_)
        clear hK K hHz
        try simp only [Act.put, List.setIfInBounds_toArray, List.set_cons_zero, List.set_cons_succ]
        refine wpAnyH_ready (rs := [5]) (by kernel_rfl) (by simp) ?_
        refine AllReadyH.cons rfl (fun K hK => ?_) AllReadyH.nil
        have hbY : Below v1.heap.size v1 (v1.alloc (xO y sy cy)) := (Below.refl _ _).alloc (Nat.le_refl _) _
        have HS : Hid (St rb ta cap T w [(w2.heap.size, []), (w3.heap.size, (nL 24 x1b 0 x1d (.slice (some ⟨w2.heap.size, 0, none⟩) 1 1))), (w.heap.size, z5)] ((y, sy) :: (Av.map (fun p => (p.1, p.2.1)) ++ [(x2, s2)])) jy op (v1.alloc (xO y sy cy))) := St.swap2 (HS.out.below hbY)
        have HO : Hid (OwR w.heap.size (v1.alloc (xO y sy cy)) w2.heap.size 1 1 [(x2, s2, c2)]) := HO.out.same (hbY.block _ HO.out.fz.2.1)
        have HOV : Hid (OwR (w3.alloc (nO 24 x1b 0 x1d (.slice (some ⟨w2.heap.size, 0, none⟩) 1 1))).heap.size (v1.alloc (xO y sy cy)) gv2 Av.length cv Av) := HOV.out.same (hbY.block _ HOV.out.fz.2.1)
        clear hbY
        obtain ⟨i0, hi0, hz0⟩ := Option.map_eq_some_iff.1 info26
        simp only [Prod.mk.injEq] at hz0
        obtain ⟨hz1, hzs, hz3⟩ := hz0
        refine step_append_lies (v1.alloc (xO y sy cy)) rfl _ _ 27 rfl w.heap.size 34 i0 (.agg #[.int .i64 0, .string ⟨#[]⟩, .int .i64 0, .int .i64 0, .slice none 0 0]) 5 64 Tryz.underlying27 hi0 hz1 hzs hz3 rfl (by decide) (.slice (some ⟨w2.heap.size, 0, none⟩) 1 1) 1 (xC [(x2, s2, c2)]) rfl HO.out ⟨v1.heap.size, 0, none⟩ 1 1 (xC [(y, sy, cy)]) rfl rfl (xp_cells v1 y sy cy) (xC_one _) (by decide) (by unfold maxLen; omega) (by omega) HS.out.fx.size _ rfl ?_
        intro g2 cap2 w4 hown hgrow hlies hg2
        have HO2 : Hid (OwR w.heap.size w4 g2 2 cap2 [(x2, s2, c2), (y, sy, cy)]) := hown
        have HS : Hid (St rb ta cap T w [(g2, []), (w3.heap.size, (nL 24 x1b 0 x1d (.slice (some ⟨w2.heap.size, 0, none⟩) 1 1))), (w.heap.size, z5)] ((y, sy) :: (Av.map (fun p => (p.1, p.2.1)) ++ [(x2, s2)])) jy op w4) := HS.out.grow hgrow HO2.out (by simpa [Value.ownBlock] using hlies)
        have HOV : Hid (OwR (w3.alloc (nO 24 x1b 0 x1d (.slice (some ⟨w2.heap.size, 0, none⟩) 1 1))).heap.size w4 gv2 Av.length cv Av) := HOV.out.same (hgrow.block _ HOV.out.fz.2.1 (by have := HGV.out; have := HGW.out.2.2; simp [Value.ownBlock]; omega))
        clear hown hgrow hlies hg2 HO hi0 hz1 hzs hz3
        refine hK.out _ _ trivial (fun hHz => ?_)
        clear hK K hHz
        try simp only [Act.put, List.setIfInBounds_toArray, List.set_cons_zero, List.set_cons_succ]
        refine tk 6 (some 19) (v := ?_) rfl ?_ ?_ (hS := trivial)
        rotate_left
        · intro wS hSw; go_simp; (try with_reducible rfl)
        try simp only [Act.put, List.setIfInBounds_toArray, List.set_cons_zero, List.set_cons_succ]
        refine wpAnyH_ready (rs := [7]) (by kernel_rfl) (by simp) ?_
        refine AllReadyH.cons rfl (fun K hK => ?_) AllReadyH.nil
        obtain ⟨y1, y2, y3, y4, y5⟩ := HS.out.c5 (List.mem_cons_of_mem _ List.mem_cons_self)
        obtain ⟨f1, f2, f3, f4, f5⟩ := HS.out.f5 (List.mem_cons_of_mem _ List.mem_cons_self)
        go_simp
        clear y1 y2 y3 y4 y5 f1 f2 f3 f4 f5
        have HN2 : Hid (g2 ≠ w3.heap.size) := by have h := HS.out.nd; simp only [List.map_cons, List.nodup_cons, List.mem_cons, not_or] at h; exact h.1.1
        have HS : Hid (St rb ta cap T w [(g2, []), (w3.heap.size, (nL 24 x1b 0 x1d (.slice (some ⟨g2, 0, none⟩) 2 cap2))), (w.heap.size, z5)] ((y, sy) :: (Av.map (fun p => (p.1, p.2.1)) ++ [(x2, s2)])) jy op (w4.setCell ⟨w3.heap.size, 4, none⟩ (.slice (some ⟨g2, 0, none⟩) 2 cap2))) := St.put [(g2, [])] HS.out 4 (.slice (some ⟨g2, 0, none⟩) 2 cap2)
        have HO2 : Hid (OwR w.heap.size (w4.setCell ⟨w3.heap.size, 4, none⟩ (.slice (some ⟨g2, 0, none⟩) 2 cap2)) g2 2 cap2 [(x2, s2, c2), (y, sy, cy)]) := HO2.out.same (Below.heap_setCell _ _ _ _ HN2.out)
        have HOV : Hid (OwR (w3.alloc (nO 24 x1b 0 x1d (.slice (some ⟨w2.heap.size, 0, none⟩) 1 1))).heap.size (w4.setCell ⟨w3.heap.size, 4, none⟩ (.slice (some ⟨g2, 0, none⟩) 2 cap2)) gv2 Av.length cv Av) := HOV.out.same (Below.heap_setCell _ _ _ _ (by have := HGV.out; have := HGW.out.2.1; show gv2 ≠ w3.heap.size; omega))
        refine hK.out _ _ trivial (fun hHz => ?_)
        clear hK K hHz
        try simp only [Act.put, List.setIfInBounds_toArray, List.set_cons_zero, List.set_cons_succ]
        generalize (w4.setCell ⟨w3.heap.size, 4, none⟩ (.slice (some ⟨g2, 0, none⟩) 2 cap2)) = w5 at HS HO2 HOV ⊢
        refine wpAnyH_done (by kernel_rfl) ?_ _
        obtain ⟨y1, y2, y3, y4, y5⟩ := HS.out.c5 (List.mem_cons_of_mem _ List.mem_cons_self)
        obtain ⟨f1, f2, f3, f4, f5⟩ := HS.out.f5 (List.mem_cons_of_mem _ List.mem_cons_self)
        obtain ⟨nv, hnv⟩ : ∃ nv, nv = Av.length := ⟨_, rfl⟩
        have HNV : Hid (Av.length = nv) := hnv.symm
        have HOW : Hid (OwR (w3.alloc (nO 24 x1b 0 x1d (.slice (some ⟨w2.heap.size, 0, none⟩) 1 1))).heap.size w5 gv2 nv cv Av) := by rw [hnv]; exact HOV.out
        rw [← hnv]
        have h1v : 0 < nv := by have := HNE.out; have h2 := HNV.out; rw [← h2]; exact List.length_pos_iff.2 (fun e => this (by rw [e]; rfl))
        have h4v : nv ≤ 4 := by have := HL4.out; rw [List.length_map] at this; have := HNV.out; omega
        have hxl : (xC Av).length = nv * 5 := by rw [xC_len, HNV.out]
        have HCL : Hid (∀ j u, (xC Av)[j]? = some u → w5.cell? ((⟨gv2, 0, none⟩ : Addr).add j) = some u) := HOW.out.cells (g := gv2) rfl
        clear hnv HOV
        obtain ⟨i0, hi0, hz0⟩ := Option.map_eq_some_iff.1 info26
        simp only [Prod.mk.injEq] at hz0
        obtain ⟨hz1, hzs, hz3⟩ := hz0
        have hfs := HS.out.fx.size
        go_wp2_with (at_builtin; refine wpList_append_lies _ rfl _ _ 27 rfl w.heap.size 34 i0 (.agg #[.int .i64 0, .string ⟨#[]⟩, .int .i64 0, .int .i64 0, .slice none 0 0]) 5 64 Tryz.underlying27 hi0 hz1 hzs hz3 rfl (by decide) _ 2 (xC [(x2, s2, c2), (y, sy, cy)]) rfl HO2.out ⟨gv2, 0, none⟩ nv cv (xC Av) rfl hxl HCL.out (xC_one _) h1v (by unfold maxLen; omega) (by omega) hfs _ rfl ?_)
        intro g5 cap5 w7 hown hgrow hlies hg5
        clear y1 y2 y3 y4 y5 f1 f2 f3 f4 f5
        have HO3 : Hid (OwR w.heap.size w7 g5 (2 + nv) cap5 ([(x2, s2, c2), (y, sy, cy)] ++ Av)) := by have h := hown; rw [← xC_app] at h; exact h
        have HS : Hid (St rb ta cap T w [(g5, []), (w3.heap.size, (nL 24 x1b 0 x1d (.slice (some ⟨g2, 0, none⟩) 2 cap2))), (w.heap.size, z5)] ((y, sy) :: (Av.map (fun p => (p.1, p.2.1)) ++ [(x2, s2)])) jy op w7) := HS.out.grow hgrow HO3.out (by simpa [Value.ownBlock] using hlies)
        have HN5 : Hid (g5 ≠ w3.heap.size) := by have h := HS.out.nd; simp only [List.map_cons, List.nodup_cons, List.mem_cons, not_or] at h; exact h.1.1
        clear hown hgrow hlies hg5 HO2 HOW HCL hi0 hz1 hzs hz3 hxl hfs
        obtain ⟨y1, y2, y3, y4, y5⟩ := HS.out.c5 (List.mem_cons_of_mem _ List.mem_cons_self)
        obtain ⟨f1, f2, f3, f4, f5⟩ := HS.out.f5 (List.mem_cons_of_mem _ List.mem_cons_self)
        have HO4 : Hid (OwR w.heap.size (w7.setCell ⟨w3.heap.size, 4, none⟩ (.slice (some ⟨g5, 0, none⟩) (2 + nv) cap5)) g5 (2 + nv) cap5 ([(x2, s2, c2), (y, sy, cy)] ++ Av)) := HO3.out.same (Below.heap_setCell _ _ _ _ HN5.out)
        have HS : Hid (St rb ta cap T w [(g5, []), (w3.heap.size, (nL 24 x1b 0 x1d (.slice (some ⟨g5, 0, none⟩) (2 + nv) cap5))), (w.heap.size, z5)] ((y, sy) :: (Av.map (fun p => (p.1, p.2.1)) ++ [(x2, s2)])) jy op (w7.setCell ⟨w3.heap.size, 4, none⟩ (.slice (some ⟨g5, 0, none⟩) (2 + nv) cap5))) := St.put [(g5, [])] HS.out 4 (.slice (some ⟨g5, 0, none⟩) (2 + nv) cap5)
        go_upto_region 5 with (fail)
        clear y1 y2 y3 y4 y5 f1 f2 f3 f4 f5
        generalize (w7.setCell ⟨w3.heap.size, 4, none⟩ (.slice (some ⟨g5, 0, none⟩) (2 + nv) cap5)) = w8 at HS HO4 ⊢
        have HKK : Hid (∀ p ∈ [(x2, s2, c2), (y, sy, cy)] ++ Av, Hld rb w.heap.size [(g5, []), (w3.heap.size, (nL 24 x1b 0 x1d (.slice (some ⟨g5, 0, none⟩) (2 + nv) cap5))), (w.heap.size, z5)] w8 p.1 p.2.1) := by
         intro p hp
         rcases List.mem_append.1 hp with hp | hp
         ·
          simp only [List.mem_cons, List.not_mem_nil, or_false] at hp
          rcases hp with rfl | rfl
          · exact HS.out.kid (x2, s2) (by simp)
          · exact HS.out.kid (y, sy) (by simp)
         · exact HS.out.kid _ (List.mem_cons_of_mem _ (List.mem_append_left _ (List.mem_map_of_mem (f := fun p : Xp => (p.1, p.2.1)) hp)))
        obtain ⟨u1, u2, u3, u4, u5⟩ := HS.out.c5 (List.mem_cons_of_mem _ List.mem_cons_self)
        have HS : Hid (St rb ta cap T w [(w3.heap.size, (nL 24 x1b 0 x1d (.slice (some ⟨g5, 0, none⟩) (2 + nv) cap5))), (w.heap.size, z5)] ((mkX 24 x1b 0 x1d (x2 :: y :: Av.map (·.1)), some ⟨g5, 0, none⟩) :: ((y, sy) :: (Av.map (fun p => (p.1, p.2.1)) ++ [(x2, s2)]))) jy op w8) := HS.out.ownr HO4.out HKK.out 24 x1b 0 x1d (by have := HNV.out; simp; omega)
        obtain ⟨⟨d0, d1, d2, d3, d4⟩, ⟨g0, g1, g2', g3, g4⟩, hz⟩ := St.fin5 [(w3.heap.size, (nL 24 x1b 0 x1d (.slice (some ⟨g5, 0, none⟩) (2 + nv) cap5)))] HS.out (v0 := .int .i64 24) (v1 := .string (bsA x1b)) (v2 := .int .i64 0) (v3 := .int .i64 x1d) (v4 := .slice (some ⟨g5, 0, none⟩) (2 + nv) cap5) (c := cap5) HL.out List.mem_cons_self (mkX_V' _ _ _ _ _ _ _ _ (by have := HNV.out; simp; omega))
        obtain ⟨⟨z0, z1, z2, z3, z4⟩, HP⟩ := hz _ rfl
        clear hz HS HL
        go_wp2
        refine bodyPost_ret (v := .agg #[.int .i64 24, .string (bsA x1b), .int .i64 0, .int .i64 x1d, .slice (some ⟨g5, 0, none⟩) (2 + nv) cap5]) (by simp [results, Tryz.results117, go_sem, z0, z1, z2, z3, z4]) rfl HP.out
       ·
        go_simp
        refine hK.out _ _ trivial (fun hHz => ?_)
        clear hK K hHz
        try simp only [Act.put, List.setIfInBounds_toArray, List.set_cons_zero, List.set_cons_succ]
        refine wpAnyH_ready (rs := [1]) (by kernel_rfl) (by simp) ?_
        refine AllReadyH.cons rfl (fun K hK => ?_) AllReadyH.nil
        obtain ⟨y1, y2, y3, y4, y5⟩ := (HS.out.below ((Below.refl v1.heap.size v1).alloc (Nat.le_refl _) (xO y sy cy))).c5 (List.mem_cons_self)
        go_simp
        clear y1 y2 y3 y4 y5
        refine hK.out _ _ trivial (fun hHz => ?_)
        clear hK K hHz
        try simp only [Act.put, List.setIfInBounds_toArray, List.set_cons_zero, List.set_cons_succ]
        refine wpAnyH_ready (rs := [5]) (by kernel_rfl) (by simp) ?_
        refine AllReadyH.cons rfl (fun K hK => ?_) AllReadyH.nil
        have hbY : Below v1.heap.size v1 (v1.alloc (xO y sy cy)) := (Below.refl _ _).alloc (Nat.le_refl _) _
        have HS : Hid (St rb ta cap T w [(w2.heap.size, []), (w3.heap.size, (nL 24 x1b 0 x1d (.slice (some ⟨w2.heap.size, 0, none⟩) 1 1))), (w.heap.size, z5)] ((y, sy) :: (Av.map (fun p => (p.1, p.2.1)) ++ [(x2, s2)])) jy op (v1.alloc (xO y sy cy))) := St.swap2 (HS.out.below hbY)
        have HO : Hid (OwR w.heap.size (v1.alloc (xO y sy cy)) w2.heap.size 1 1 [(x2, s2, c2)]) := HO.out.same (hbY.block _ HO.out.fz.2.1)
        have HOV : Hid (OwR (w3.alloc (nO 24 x1b 0 x1d (.slice (some ⟨w2.heap.size, 0, none⟩) 1 1))).heap.size (v1.alloc (xO y sy cy)) gv2 Av.length cv Av) := HOV.out.same (hbY.block _ HOV.out.fz.2.1)
        clear hbY
        obtain ⟨i0, hi0, hz0⟩ := Option.map_eq_some_iff.1 info26
        simp only [Prod.mk.injEq] at hz0
        obtain ⟨hz1, hzs, hz3⟩ := hz0
        refine step_append_lies (v1.alloc (xO y sy cy)) rfl _ _ 27 rfl w.heap.size 34 i0 (.agg #[.int .i64 0, .string ⟨#[]⟩, .int .i64 0, .int .i64 0, .slice none 0 0]) 5 64 Tryz.underlying27 hi0 hz1 hzs hz3 rfl (by decide) (.slice (some ⟨w2.heap.size, 0, none⟩) 1 1) 1 (xC [(x2, s2, c2)]) rfl HO.out ⟨v1.heap.size, 0, none⟩ 1 1 (xC [(y, sy, cy)]) rfl rfl (xp_cells v1 y sy cy) (xC_one _) (by decide) (by unfold maxLen; omega) (by omega) HS.out.fx.size _ rfl ?_
        intro g2 cap2 w4 hown hgrow hlies hg2
        have HO2 : Hid (OwR w.heap.size w4 g2 2 cap2 [(x2, s2, c2), (y, sy, cy)]) := hown
        have HS : Hid (St rb ta cap T w [(g2, []), (w3.heap.size, (nL 24 x1b 0 x1d (.slice (some ⟨w2.heap.size, 0, none⟩) 1 1))), (w.heap.size, z5)] ((y, sy) :: (Av.map (fun p => (p.1, p.2.1)) ++ [(x2, s2)])) jy op w4) := HS.out.grow hgrow HO2.out (by simpa [Value.ownBlock] using hlies)
        have HOV : Hid (OwR (w3.alloc (nO 24 x1b 0 x1d (.slice (some ⟨w2.heap.size, 0, none⟩) 1 1))).heap.size w4 gv2 Av.length cv Av) := HOV.out.same (hgrow.block _ HOV.out.fz.2.1 (by have := HGV.out; have := HGW.out.2.2; simp [Value.ownBlock]; omega))
        clear hown hgrow hlies hg2 HO hi0 hz1 hzs hz3
        refine hK.out _ _ trivial (fun hHz => ?_)
        clear hK K hHz
        try simp only [Act.put, List.setIfInBounds_toArray, List.set_cons_zero, List.set_cons_succ]
        refine tk 6 (some 19) (v := ?_) rfl ?_ ?_ (hS := trivial)
        rotate_left
        · intro wS hSw; go_simp; (try with_reducible rfl)
        try simp only [Act.put, List.setIfInBounds_toArray, List.set_cons_zero, List.set_cons_succ]
        refine wpAnyH_ready (rs := [7]) (by kernel_rfl) (by simp) ?_
        refine AllReadyH.cons rfl (fun K hK => ?_) AllReadyH.nil
        obtain ⟨y1, y2, y3, y4, y5⟩ := HS.out.c5 (List.mem_cons_of_mem _ List.mem_cons_self)
        obtain ⟨f1, f2, f3, f4, f5⟩ := HS.out.f5 (List.mem_cons_of_mem _ List.mem_cons_self)
        go_simp
        clear y1 y2 y3 y4 y5 f1 f2 f3 f4 f5
        have HN2 : Hid (g2 ≠ w3.heap.size) := by have h := HS.out.nd; simp only [List.map_cons, List.nodup_cons, List.mem_cons, not_or] at h; exact h.1.1
        have HS : Hid (St rb ta cap T w [(g2, []), (w3.heap.size, (nL 24 x1b 0 x1d (.slice (some ⟨g2, 0, none⟩) 2 cap2))), (w.heap.size, z5)] ((y, sy) :: (Av.map (fun p => (p.1, p.2.1)) ++ [(x2, s2)])) jy op (w4.setCell ⟨w3.heap.size, 4, none⟩ (.slice (some ⟨g2, 0, none⟩) 2 cap2))) := St.put [(g2, [])] HS.out 4 (.slice (some ⟨g2, 0, none⟩) 2 cap2)
        have HO2 : Hid (OwR w.heap.size (w4.setCell ⟨w3.heap.size, 4, none⟩ (.slice (some ⟨g2, 0, none⟩) 2 cap2)) g2 2 cap2 [(x2, s2, c2), (y, sy, cy)]) := HO2.out.same (Below.heap_setCell _ _ _ _ HN2.out)
        have HOV : Hid (OwR (w3.alloc (nO 24 x1b 0 x1d (.slice (some ⟨w2.heap.size, 0, none⟩) 1 1))).heap.size (w4.setCell ⟨w3.heap.size, 4, none⟩ (.slice (some ⟨g2, 0, none⟩) 2 cap2)) gv2 Av.length cv Av) := HOV.out.same (Below.heap_setCell _ _ _ _ (by have := HGV.out; have := HGW.out.2.1; show gv2 ≠ w3.heap.size; omega))
        refine hK.out _ _ trivial (fun hHz => ?_)
        clear hK K hHz
        try simp only [Act.put, List.setIfInBounds_toArray, List.set_cons_zero, List.set_cons_succ]
        generalize (w4.setCell ⟨w3.heap.size, 4, none⟩ (.slice (some ⟨g2, 0, none⟩) 2 cap2)) = w5 at HS HO2 HOV ⊢
        refine wpAnyH_done (by kernel_rfl) ?_ _
        obtain ⟨y1, y2, y3, y4, y5⟩ := HS.out.c5 (List.mem_cons_of_mem _ List.mem_cons_self)
        obtain ⟨f1, f2, f3, f4, f5⟩ := HS.out.f5 (List.mem_cons_of_mem _ List.mem_cons_self)
        obtain ⟨nv, hnv⟩ : ∃ nv, nv = Av.length := ⟨_, rfl⟩
        have HNV : Hid (Av.length = nv) := hnv.symm
        have HOW : Hid (OwR (w3.alloc (nO 24 x1b 0 x1d (.slice (some ⟨w2.heap.size, 0, none⟩) 1 1))).heap.size w5 gv2 nv cv Av) := by rw [hnv]; exact HOV.out
        rw [← hnv]
        have h1v : 0 < nv := by have := HNE.out; have h2 := HNV.out; rw [← h2]; exact List.length_pos_iff.2 (fun e => this (by rw [e]; rfl))
        have h4v : nv ≤ 4 := by have := HL4.out; rw [List.length_map] at this; have := HNV.out; omega
        have hxl : (xC Av).length = nv * 5 := by rw [xC_len, HNV.out]
        have HCL : Hid (∀ j u, (xC Av)[j]? = some u → w5.cell? ((⟨gv2, 0, none⟩ : Addr).add j) = some u) := HOW.out.cells (g := gv2) rfl
        clear hnv HOV
        obtain ⟨i0, hi0, hz0⟩ := Option.map_eq_some_iff.1 info26
        simp only [Prod.mk.injEq] at hz0
        obtain ⟨hz1, hzs, hz3⟩ := hz0
        have hfs := HS.out.fx.size
        go_wp2_with (at_builtin; refine wpList_append_lies _ rfl _ _ 27 rfl w.heap.size 34 i0 (.agg #[.int .i64 0, .string ⟨#[]⟩, .int .i64 0, .int .i64 0, .slice none 0 0]) 5 64 Tryz.underlying27 hi0 hz1 hzs hz3 rfl (by decide) _ 2 (xC [(x2, s2, c2), (y, sy, cy)]) rfl HO2.out ⟨gv2, 0, none⟩ nv cv (xC Av) rfl hxl HCL.out (xC_one _) h1v (by unfold maxLen; omega) (by omega) hfs _ rfl ?_)
        intro g5 cap5 w7 hown hgrow hlies hg5
        clear y1 y2 y3 y4 y5 f1 f2 f3 f4 f5
        have HO3 : Hid (OwR w.heap.size w7 g5 (2 + nv) cap5 ([(x2, s2, c2), (y, sy, cy)] ++ Av)) := by have h := hown; rw [← xC_app] at h; exact h
        have HS : Hid (St rb ta cap T w [(g5, []), (w3.heap.size, (nL 24 x1b 0 x1d (.slice (some ⟨g2, 0, none⟩) 2 cap2))), (w.heap.size, z5)] ((y, sy) :: (Av.map (fun p => (p.1, p.2.1)) ++ [(x2, s2)])) jy op w7) := HS.out.grow hgrow HO3.out (by simpa [Value.ownBlock] using hlies)
        have HN5 : Hid (g5 ≠ w3.heap.size) := by have h := HS.out.nd; simp only [List.map_cons, List.nodup_cons, List.mem_cons, not_or] at h; exact h.1.1
        clear hown hgrow hlies hg5 HO2 HOW HCL hi0 hz1 hzs hz3 hxl hfs
        obtain ⟨y1, y2, y3, y4, y5⟩ := HS.out.c5 (List.mem_cons_of_mem _ List.mem_cons_self)
        obtain ⟨f1, f2, f3, f4, f5⟩ := HS.out.f5 (List.mem_cons_of_mem _ List.mem_cons_self)
        have HO4 : Hid (OwR w.heap.size (w7.setCell ⟨w3.heap.size, 4, none⟩ (.slice (some ⟨g5, 0, none⟩) (2 + nv) cap5)) g5 (2 + nv) cap5 ([(x2, s2, c2), (y, sy, cy)] ++ Av)) := HO3.out.same (Below.heap_setCell _ _ _ _ HN5.out)
        have HS : Hid (St rb ta cap T w [(g5, []), (w3.heap.size, (nL 24 x1b 0 x1d (.slice (some ⟨g5, 0, none⟩) (2 + nv) cap5))), (w.heap.size, z5)] ((y, sy) :: (Av.map (fun p => (p.1, p.2.1)) ++ [(x2, s2)])) jy op (w7.setCell ⟨w3.heap.size, 4, none⟩ (.slice (some ⟨g5, 0, none⟩) (2 + nv) cap5))) := St.put [(g5, [])] HS.out 4 (.slice (some ⟨g5, 0, none⟩) (2 + nv) cap5)
        go_upto_region 5 with (fail)
        clear y1 y2 y3 y4 y5 f1 f2 f3 f4 f5
        generalize (w7.setCell ⟨w3.heap.size, 4, none⟩ (.slice (some ⟨g5, 0, none⟩) (2 + nv) cap5)) = w8 at HS HO4 ⊢
        have HKK : Hid (∀ p ∈ [(x2, s2, c2), (y, sy, cy)] ++ Av, Hld rb w.heap.size [(g5, []), (w3.heap.size, (nL 24 x1b 0 x1d (.slice (some ⟨g5, 0, none⟩) (2 + nv) cap5))), (w.heap.size, z5)] w8 p.1 p.2.1) := by
         intro p hp
         rcases List.mem_append.1 hp with hp | hp
         ·
          simp only [List.mem_cons, List.not_mem_nil, or_false] at hp
          rcases hp with rfl | rfl
          · exact HS.out.kid (x2, s2) (by simp)
          · exact HS.out.kid (y, sy) (by simp)
         · exact HS.out.kid _ (List.mem_cons_of_mem _ (List.mem_append_left _ (List.mem_map_of_mem (f := fun p : Xp => (p.1, p.2.1)) hp)))
        obtain ⟨u1, u2, u3, u4, u5⟩ := HS.out.c5 (List.mem_cons_of_mem _ List.mem_cons_self)
        have HS : Hid (St rb ta cap T w [(w3.heap.size, (nL 24 x1b 0 x1d (.slice (some ⟨g5, 0, none⟩) (2 + nv) cap5))), (w.heap.size, z5)] ((mkX 24 x1b 0 x1d (x2 :: y :: Av.map (·.1)), some ⟨g5, 0, none⟩) :: ((y, sy) :: (Av.map (fun p => (p.1, p.2.1)) ++ [(x2, s2)]))) jy op w8) := HS.out.ownr HO4.out HKK.out 24 x1b 0 x1d (by have := HNV.out; simp; omega)
        obtain ⟨⟨d0, d1, d2, d3, d4⟩, ⟨g0, g1, g2', g3, g4⟩, hz⟩ := St.fin5 [(w3.heap.size, (nL 24 x1b 0 x1d (.slice (some ⟨g5, 0, none⟩) (2 + nv) cap5)))] HS.out (v0 := .int .i64 24) (v1 := .string (bsA x1b)) (v2 := .int .i64 0) (v3 := .int .i64 x1d) (v4 := .slice (some ⟨g5, 0, none⟩) (2 + nv) cap5) (c := cap5) HL.out List.mem_cons_self (mkX_V' _ _ _ _ _ _ _ _ (by have := HNV.out; simp; omega))
        obtain ⟨⟨z0, z1, z2, z3, z4⟩, HP⟩ := hz _ rfl
        clear hz HS HL
        go_wp2
        refine bodyPost_ret (v := .agg #[.int .i64 24, .string (bsA x1b), .int .i64 0, .int .i64 x1d, .slice (some ⟨g5, 0, none⟩) (2 + nv) cap5]) (by simp [results, Tryz.results117, go_sem, z0, z1, z2, z3, z4]) rfl HP.out
end Go.Proofs.YtgdndahhledikaaGreatDoor
