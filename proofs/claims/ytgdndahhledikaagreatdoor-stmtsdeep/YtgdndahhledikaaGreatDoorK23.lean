/- Spe. -/
import Derived.Test.YtgdndahhledikaaGreatDoorK20
import Derived.Test.YtgdndahhledikaaGreatDoorK22
import Derived.Deep.CutRange
namespace Go.Proofs.YtgdndahhledikaaGreatDoor
open Go.ChangeShapes Go.WideShapes Go.ChangeAt Go.RowKit
set_option linter.unusedSimpArgs false
set_option maxRecDepth 20000
set_option maxHeartbeats 4000000
theorem St.swap {rb : Nat} {ta : Option Addr} {cap : Nat} {T : List Tt} {w0 : World} {p q : Nat × List Value} {B : Bxs} {K : List (X × Option Addr)} {i op : Nat} {w : World} (h : St rb ta cap T w0 (p :: q :: B) K i op w) : St rb ta cap T w0 (q :: p :: B) K i op w := by
 have hs : ∀ z ∈ q :: p :: B, z ∈ p :: q :: B := fun z hz => by
  rcases List.mem_cons.1 hz with rfl | hz
  · simp
  ·
   rcases List.mem_cons.1 hz with rfl | hz
   · simp
   · simp [hz]
 refine ⟨h.fx, h.rdr, fun z hz => h.box z (hs z hz), ?_, fun z hz => (h.kid z hz).move (Nat.le_refl _) (fun q hq => Or.inl (hs q hq)) (fun _ _ _ _ => rfl), h.lt⟩
 have hn := h.nd
 simp only [List.map_cons, List.nodup_cons, List.mem_cons, not_or] at hn ⊢
 exact ⟨⟨fun e => hn.1.1 e.symm, hn.2.1⟩, hn.1.2, hn.2.2⟩
def evQ (T : List Tt) (E : Nat → Rz X) (t : Tt) (i : Nat) : Rz X := bnd (pasP T 6 [61] i) fun b j => if b then bnd (idP T j) fun u j => bnd (filtP T E j) fun x j => okR (mkX 30 u.1.2.1 0 t.2 [x, mkX 15 t.1.2.1 0 t.2 []]) j else bnd (filtP T E j) fun x j => okR (mkX 30 t.1.2.1 0 t.2 [x, mkX 20 [] 0 0 []]) j
def evP (T : List Tt) (E : Nat → Rz X) (i : Nat) : Rz X := bnd (idP T i) fun t j => evQ T E t j
theorem event_s (rb : Nat) (ta : Option Addr) (cap : Nat) (T : List Tt) (E : Nat → Rz X) (hE : RdX rb ta cap T 80 (fun i _ => E i)) : RdX rb ta cap T 162 (fun i _ => evP T E i) := by
 intro i op w r hop hr h
 dsimp only at h
 have HS : Hid (St rb ta cap T w [] [] i op w) := St.start hr
 unfold evP at h
 have HL : Hid _ := h
 have hlt := cell_lt hr.c0
 clear hr h 
 unfold ptr
 go_enter Tryz.func162, Tryz.ntmps162
 have HS : Hid (St rb ta cap T w [(w.heap.size, z5)] [] i op (w.alloc o5)) := HS.out.newO z5
 obtain ⟨r1, e1, hl⟩ := bnd_some HL.out
 have HL : Hid _ := hl
 have hc := id_s rb ta cap T i op _ r1 hop HS.out.rdr e1
 (try unfold ptr at hc)
 clear e1 hl
 go_wp2_with fail
 refine hc.mono ?_
 intro e w1 hpost
 clear hc
 cases r1 with
 | inl q =>
  obtain ⟨hG, HP⟩ := HS.out.bad2 (V := VX) (op' := op) HL.out hpost
  unfold GUs at hG
  subst hG
  clear hpost
  go_wp2
  exact ⟨rfl, HP.out⟩
 | inr q =>
  obtain ⟨x1, j1⟩ := q
  obtain ⟨rfl, HS⟩ := HS.out.okT hpost
  obtain ⟨⟨x1a, x1b, x1c⟩, x1d⟩ := x1
  unfold ttV
  dsimp only
  have hl := HL.out
  rw [bnd_ok] at hl
  (try dsimp only at hl)
  have HL : Hid _ := hl
  clear hl hpost
  have HS : Hid (St rb ta cap T w [(w1.heap.size, (tL x1a x1b x1c x1d)), (w.heap.size, z5)] [] j1 op (w1.alloc (tO x1a x1b x1c x1d))) := HS.out.newO (tL x1a x1b x1c x1d)
  have hl := HL.out
  unfold evQ at hl
  dsimp only at hl
  have HL : Hid _ := hl
  clear hl
  go_upto_region 2 with (fail)
  obtain ⟨b2, hnb⟩ : ∃ nb, nb = w1.heap.size := ⟨_, rfl⟩
  rw [← hnb] at HS ⊢
  clear hnb
  generalize (w1.alloc (tO x1a x1b x1c x1d)) = w2 at HS ⊢
  go_cut [4, 5] from 9 to 10 (fun s4 s5 wx => ∃ b4 b5, s4 = .pointer (some ⟨b4, 0, none⟩) ∧ s5 = .pointer (some ⟨b5, 0, none⟩) ∧ St rb ta cap T w [(b5, (nL 20 [] 0 0 (.slice none 0 0))), (b4, (tL x1a x1b x1c x1d)), (b2, (tL x1a x1b x1c x1d)), (w.heap.size, z5)] [((mkX 20 [] 0 0 []), none)] j1 op wx)
  case first =>
   have HS : Hid (St rb ta cap T w [(b2, (tL x1a x1b x1c x1d)), (w.heap.size, z5)] [] j1 op w2.drew) := HS.out.drew
   refine wp_region_held_drew (S := (fun wS => wS.cell? ⟨b2, 0, none⟩ = some (.int .i64 x1a) ∧ wS.cell? ⟨b2, 1, none⟩ = some (.string (bsA x1b)) ∧ wS.cell? ⟨b2, 2, none⟩ = some (.int .i64 x1c) ∧ wS.cell? ⟨b2, 3, none⟩ = some (.int .i64 x1d))) (by kernel_rfl) (HS.out.c4 List.mem_cons_self) (fun hHeld => ?_)
   generalize w2.drew = w3 at HS ⊢
   refine tk 0 (some 9) (v := ?_) rfl ?_ ?_ (hS := HS.out.c4 List.mem_cons_self)
   rotate_left
   · intro wS hSw; (try dsimp only at hSw); obtain ⟨y1, y2, y3, y4⟩ := hSw; go_simp; (try with_reducible rfl)
   try simp only [Act.put, List.setIfInBounds_toArray, List.set_cons_zero, List.set_cons_succ]
   refine wpAnyH_ready (rs := [1, 2, 3]) (by kernel_rfl) (by simp) ?_
   refine AllReadyH.cons rfl (fun K hK => ?_) (AllReadyH.cons rfl (fun K hK => ?_) (AllReadyH.cons rfl (fun K hK => ?_) AllReadyH.nil))
   ·
    have hc := none_s w3
    (try unfold ttV at hc)
    (try unfold nV at hc)
    (try dsimp only at hc)
    go_simp
    refine hc.mono ?_
    rintro e w4 ⟨rfl, hb⟩
    have HS : Hid (St rb ta cap T w [(b2, (tL x1a x1b x1c x1d)), (w.heap.size, z5)] [] j1 op w4) := HS.out.below hb
    clear hc hb
    refine hK.out _ _ (HS.out.c4 List.mem_cons_self) (fun hHz => ?_)
    clear hK K hHz
    try simp only [Act.put, List.setIfInBounds_toArray, List.set_cons_zero, List.set_cons_succ]
    refine wpAnyH_ready (rs := [2, 3]) (by kernel_rfl) (by simp) ?_
    refine AllReadyH.cons rfl (fun K hK => ?_) (AllReadyH.cons rfl (fun K hK => ?_) AllReadyH.nil)
    ·
     go_simp
     have HS : Hid (St rb ta cap T w [(w4.heap.size, z4), (b2, (tL x1a x1b x1c x1d)), (w.heap.size, z5)] [] j1 op (w4.alloc o4)) := HS.out.newO z4
     refine hK.out _ _ (HS.out.c4 (List.mem_cons_of_mem _ List.mem_cons_self)) (fun hHz => ?_)
     clear hK K hHz
     try simp only [Act.put, List.setIfInBounds_toArray, List.set_cons_zero, List.set_cons_succ]
     obtain ⟨b5, hnb⟩ : ∃ nb, nb = w4.heap.size := ⟨_, rfl⟩
     rw [← hnb] at HS ⊢
     clear hnb
     generalize (w4.alloc o4) = w5 at HS ⊢
     refine wpAnyH_ready (rs := [3]) (by kernel_rfl) (by simp) ?_
     refine AllReadyH.cons rfl (fun K hK => ?_) AllReadyH.nil
     go_simp
     have HS : Hid (St rb ta cap T w [(w5.heap.size, z5), (b5, z4), (b2, (tL x1a x1b x1c x1d)), (w.heap.size, z5)] [] j1 op (w5.alloc o5)) := HS.out.newO z5
     refine hK.out _ _ (HS.out.c4 (List.mem_cons_of_mem _ (List.mem_cons_of_mem _ List.mem_cons_self))) (fun hHz => ?_)
     clear hK K hHz
     try simp only [Act.put, List.setIfInBounds_toArray, List.set_cons_zero, List.set_cons_succ]
     obtain ⟨b6, hnb⟩ : ∃ nb, nb = w5.heap.size := ⟨_, rfl⟩
     rw [← hnb] at HS ⊢
     clear hnb
     generalize (w5.alloc o5) = w6 at HS ⊢
     refine wpAnyH_ready (rs := [4]) (by kernel_rfl) (by simp) ?_
     refine AllReadyH.cons rfl (fun K hK => ?_) AllReadyH.nil
     obtain ⟨y7a, y7b, y7c, y7d⟩ := HS.out.c4 (List.mem_cons_of_mem _ List.mem_cons_self)
     obtain ⟨f7a, f7b, f7c, f7d, f7e⟩ := HS.out.f5 (List.mem_cons_of_mem _ List.mem_cons_self)
     go_simp
     clear  y7a y7b y7c y7d f7a f7b f7c f7d f7e
     have HS : Hid (St rb ta cap T w [(b6, z5), (b5, (tL x1a x1b x1c x1d)), (b2, (tL x1a x1b x1c x1d)), (w.heap.size, z5)] [] j1 op ((((w6.setCell ⟨b5, 0, none⟩ (.int .i64 x1a)).setCell ⟨b5, 1, none⟩ (.string (bsA x1b))).setCell ⟨b5, 2, none⟩ (.int .i64 x1c)).setCell ⟨b5, 3, none⟩ (.int .i64 x1d))) := St.put [(b6, z5)] (St.put [(b6, z5)] (St.put [(b6, z5)] (St.put [(b6, z5)] HS.out 0 (.int .i64 x1a)) 1 (.string (bsA x1b))) 2 (.int .i64 x1c)) 3 (.int .i64 x1d)
     refine hK.out _ _ (HS.out.c4 (List.mem_cons_of_mem _ (List.mem_cons_of_mem _ List.mem_cons_self))) (fun hHz => ?_)
     clear hK K hHz
     try simp only [Act.put, List.setIfInBounds_toArray, List.set_cons_zero, List.set_cons_succ]
     generalize ((((w6.setCell ⟨b5, 0, none⟩ (.int .i64 x1a)).setCell ⟨b5, 1, none⟩ (.string (bsA x1b))).setCell ⟨b5, 2, none⟩ (.int .i64 x1c)).setCell ⟨b5, 3, none⟩ (.int .i64 x1d)) = w8 at HS ⊢
     refine wpAnyH_ready (rs := [5]) (by kernel_rfl) (by simp) ?_
     refine AllReadyH.cons rfl (fun K hK => ?_) AllReadyH.nil
     obtain ⟨y9a, y9b, y9c, y9d, y9e⟩ := HS.out.c5 List.mem_cons_self
     obtain ⟨f9a, f9b, f9c, f9d, f9e⟩ := HS.out.f5 List.mem_cons_self
     go_simp
     clear  y9a y9b y9c y9d y9e f9a f9b f9c f9d f9e
     have HS : Hid (St rb ta cap T w [(b6, (nL 20 [] 0 0 (.slice none 0 0))), (b5, (tL x1a x1b x1c x1d)), (b2, (tL x1a x1b x1c x1d)), (w.heap.size, z5)] [] j1 op (((((w8.setCell ⟨b6, 0, none⟩ (.int .i64 20)).setCell ⟨b6, 1, none⟩ (.string (bsA []))).setCell ⟨b6, 2, none⟩ (.int .i64 0)).setCell ⟨b6, 3, none⟩ (.int .i64 0)).setCell ⟨b6, 4, none⟩ (.slice none 0 0))) := St.put [] (St.put [] (St.put [] (St.put [] (St.put [] HS.out 0 (.int .i64 20)) 1 (.string (bsA []))) 2 (.int .i64 0)) 3 (.int .i64 0)) 4 (.slice none 0 0)
     refine hK.out _ _ (HS.out.c4 (List.mem_cons_of_mem _ (List.mem_cons_of_mem _ List.mem_cons_self))) (fun hHz => ?_)
     clear hK K hHz
     try simp only [Act.put, List.setIfInBounds_toArray, List.set_cons_zero, List.set_cons_succ]
     generalize (((((w8.setCell ⟨b6, 0, none⟩ (.int .i64 20)).setCell ⟨b6, 1, none⟩ (.string (bsA []))).setCell ⟨b6, 2, none⟩ (.int .i64 0)).setCell ⟨b6, 3, none⟩ (.int .i64 0)).setCell ⟨b6, 4, none⟩ (.slice none 0 0)) = w10 at HS ⊢
     refine wpAnyH_done (by kernel_rfl) ?_ _
     have HS : Hid (St rb ta cap T w [(b6, (nL 20 [] 0 0 (.slice none 0 0))), (b5, (tL x1a x1b x1c x1d)), (b2, (tL x1a x1b x1c x1d)), (w.heap.size, z5)] [((mkX 20 [] 0 0 []), none)] j1 op w10) := HS.out.leaf 20 [] 0 0 none
     go_wp2_with fail
     go_meet
     exact ⟨_, _, rfl, rfl, HS.out⟩
    ·
     go_simp
     have HS : Hid (St rb ta cap T w [(w4.heap.size, z5), (b2, (tL x1a x1b x1c x1d)), (w.heap.size, z5)] [] j1 op (w4.alloc o5)) := HS.out.newO z5
     refine hK.out _ _ (HS.out.c4 (List.mem_cons_of_mem _ List.mem_cons_self)) (fun hHz => ?_)
     clear hK K hHz
     try simp only [Act.put, List.setIfInBounds_toArray, List.set_cons_zero, List.set_cons_succ]
     obtain ⟨b5, hnb⟩ : ∃ nb, nb = w4.heap.size := ⟨_, rfl⟩
     rw [← hnb] at HS ⊢
     clear hnb
     generalize (w4.alloc o5) = w5 at HS ⊢
     refine wpAnyH_ready (rs := [2]) (by kernel_rfl) (by simp) ?_
     refine AllReadyH.cons rfl (fun K hK => ?_) AllReadyH.nil
     go_simp
     have HS : Hid (St rb ta cap T w [(w5.heap.size, z4), (b5, z5), (b2, (tL x1a x1b x1c x1d)), (w.heap.size, z5)] [] j1 op (w5.alloc o4)) := HS.out.newO z4
     refine hK.out _ _ (HS.out.c4 (List.mem_cons_of_mem _ (List.mem_cons_of_mem _ List.mem_cons_self))) (fun hHz => ?_)
     clear hK K hHz
     try simp only [Act.put, List.setIfInBounds_toArray, List.set_cons_zero, List.set_cons_succ]
     obtain ⟨b6, hnb⟩ : ∃ nb, nb = w5.heap.size := ⟨_, rfl⟩
     rw [← hnb] at HS ⊢
     clear hnb
     generalize (w5.alloc o4) = w6 at HS ⊢
     refine wpAnyH_ready (rs := [4]) (by kernel_rfl) (by simp) ?_
     refine AllReadyH.cons rfl (fun K hK => ?_) AllReadyH.nil
     obtain ⟨y7a, y7b, y7c, y7d⟩ := HS.out.c4 List.mem_cons_self
     obtain ⟨f7a, f7b, f7c, f7d, f7e⟩ := HS.out.f5 List.mem_cons_self
     go_simp
     clear  y7a y7b y7c y7d f7a f7b f7c f7d f7e
     have HS : Hid (St rb ta cap T w [(b6, (tL x1a x1b x1c x1d)), (b5, z5), (b2, (tL x1a x1b x1c x1d)), (w.heap.size, z5)] [] j1 op ((((w6.setCell ⟨b6, 0, none⟩ (.int .i64 x1a)).setCell ⟨b6, 1, none⟩ (.string (bsA x1b))).setCell ⟨b6, 2, none⟩ (.int .i64 x1c)).setCell ⟨b6, 3, none⟩ (.int .i64 x1d))) := St.put [] (St.put [] (St.put [] (St.put [] HS.out 0 (.int .i64 x1a)) 1 (.string (bsA x1b))) 2 (.int .i64 x1c)) 3 (.int .i64 x1d)
     refine hK.out _ _ (HS.out.c4 (List.mem_cons_of_mem _ (List.mem_cons_of_mem _ List.mem_cons_self))) (fun hHz => ?_)
     clear hK K hHz
     try simp only [Act.put, List.setIfInBounds_toArray, List.set_cons_zero, List.set_cons_succ]
     generalize ((((w6.setCell ⟨b6, 0, none⟩ (.int .i64 x1a)).setCell ⟨b6, 1, none⟩ (.string (bsA x1b))).setCell ⟨b6, 2, none⟩ (.int .i64 x1c)).setCell ⟨b6, 3, none⟩ (.int .i64 x1d)) = w8 at HS ⊢
     refine wpAnyH_ready (rs := [5]) (by kernel_rfl) (by simp) ?_
     refine AllReadyH.cons rfl (fun K hK => ?_) AllReadyH.nil
     obtain ⟨y9a, y9b, y9c, y9d, y9e⟩ := HS.out.c5 (List.mem_cons_of_mem _ List.mem_cons_self)
     obtain ⟨f9a, f9b, f9c, f9d, f9e⟩ := HS.out.f5 (List.mem_cons_of_mem _ List.mem_cons_self)
     go_simp
     clear  y9a y9b y9c y9d y9e f9a f9b f9c f9d f9e
     have HS : Hid (St rb ta cap T w [(b6, (tL x1a x1b x1c x1d)), (b5, (nL 20 [] 0 0 (.slice none 0 0))), (b2, (tL x1a x1b x1c x1d)), (w.heap.size, z5)] [] j1 op (((((w8.setCell ⟨b5, 0, none⟩ (.int .i64 20)).setCell ⟨b5, 1, none⟩ (.string (bsA []))).setCell ⟨b5, 2, none⟩ (.int .i64 0)).setCell ⟨b5, 3, none⟩ (.int .i64 0)).setCell ⟨b5, 4, none⟩ (.slice none 0 0))) := St.put [(b6, (tL x1a x1b x1c x1d))] (St.put [(b6, (tL x1a x1b x1c x1d))] (St.put [(b6, (tL x1a x1b x1c x1d))] (St.put [(b6, (tL x1a x1b x1c x1d))] (St.put [(b6, (tL x1a x1b x1c x1d))] HS.out 0 (.int .i64 20)) 1 (.string (bsA []))) 2 (.int .i64 0)) 3 (.int .i64 0)) 4 (.slice none 0 0)
     refine hK.out _ _ (HS.out.c4 (List.mem_cons_of_mem _ (List.mem_cons_of_mem _ List.mem_cons_self))) (fun hHz => ?_)
     clear hK K hHz
     try simp only [Act.put, List.setIfInBounds_toArray, List.set_cons_zero, List.set_cons_succ]
     generalize (((((w8.setCell ⟨b5, 0, none⟩ (.int .i64 20)).setCell ⟨b5, 1, none⟩ (.string (bsA []))).setCell ⟨b5, 2, none⟩ (.int .i64 0)).setCell ⟨b5, 3, none⟩ (.int .i64 0)).setCell ⟨b5, 4, none⟩ (.slice none 0 0)) = w10 at HS ⊢
     refine wpAnyH_done (by kernel_rfl) ?_ _
     have HS : Hid (St rb ta cap T w [(b5, (nL 20 [] 0 0 (.slice none 0 0))), (b6, (tL x1a x1b x1c x1d)), (b2, (tL x1a x1b x1c x1d)), (w.heap.size, z5)] [] j1 op w10) := St.swap HS.out
     have HS : Hid (St rb ta cap T w [(b5, (nL 20 [] 0 0 (.slice none 0 0))), (b6, (tL x1a x1b x1c x1d)), (b2, (tL x1a x1b x1c x1d)), (w.heap.size, z5)] [((mkX 20 [] 0 0 []), none)] j1 op w10) := HS.out.leaf 20 [] 0 0 none
     go_wp2_with fail
     go_meet
     exact ⟨_, _, rfl, rfl, HS.out⟩
   ·
    go_simp
    have HS : Hid (St rb ta cap T w [(w3.heap.size, z4), (b2, (tL x1a x1b x1c x1d)), (w.heap.size, z5)] [] j1 op (w3.alloc o4)) := HS.out.newO z4
    refine hK.out _ _ (HS.out.c4 (List.mem_cons_of_mem _ List.mem_cons_self)) (fun hHz => ?_)
    clear hK K hHz
    try simp only [Act.put, List.setIfInBounds_toArray, List.set_cons_zero, List.set_cons_succ]
    obtain ⟨b4, hnb⟩ : ∃ nb, nb = w3.heap.size := ⟨_, rfl⟩
    rw [← hnb] at HS ⊢
    clear hnb
    generalize (w3.alloc o4) = w4 at HS ⊢
    refine wpAnyH_ready (rs := [1, 3]) (by kernel_rfl) (by simp) ?_
    refine AllReadyH.cons rfl (fun K hK => ?_) (AllReadyH.cons rfl (fun K hK => ?_) AllReadyH.nil)
    ·
     have hc := none_s w4
     (try unfold ttV at hc)
     (try unfold nV at hc)
     (try dsimp only at hc)
     go_simp
     refine hc.mono ?_
     rintro e w5 ⟨rfl, hb⟩
     have HS : Hid (St rb ta cap T w [(b4, z4), (b2, (tL x1a x1b x1c x1d)), (w.heap.size, z5)] [] j1 op w5) := HS.out.below hb
     clear hc hb
     refine hK.out _ _ (HS.out.c4 (List.mem_cons_of_mem _ List.mem_cons_self)) (fun hHz => ?_)
     clear hK K hHz
     try simp only [Act.put, List.setIfInBounds_toArray, List.set_cons_zero, List.set_cons_succ]
     refine wpAnyH_ready (rs := [3]) (by kernel_rfl) (by simp) ?_
     refine AllReadyH.cons rfl (fun K hK => ?_) AllReadyH.nil
     go_simp
     have HS : Hid (St rb ta cap T w [(w5.heap.size, z5), (b4, z4), (b2, (tL x1a x1b x1c x1d)), (w.heap.size, z5)] [] j1 op (w5.alloc o5)) := HS.out.newO z5
     refine hK.out _ _ (HS.out.c4 (List.mem_cons_of_mem _ (List.mem_cons_of_mem _ List.mem_cons_self))) (fun hHz => ?_)
     clear hK K hHz
     try simp only [Act.put, List.setIfInBounds_toArray, List.set_cons_zero, List.set_cons_succ]
     obtain ⟨b6, hnb⟩ : ∃ nb, nb = w5.heap.size := ⟨_, rfl⟩
     rw [← hnb] at HS ⊢
     clear hnb
     generalize (w5.alloc o5) = w6 at HS ⊢
     refine wpAnyH_ready (rs := [4]) (by kernel_rfl) (by simp) ?_
     refine AllReadyH.cons rfl (fun K hK => ?_) AllReadyH.nil
     obtain ⟨y7a, y7b, y7c, y7d⟩ := HS.out.c4 (List.mem_cons_of_mem _ List.mem_cons_self)
     obtain ⟨f7a, f7b, f7c, f7d, f7e⟩ := HS.out.f5 (List.mem_cons_of_mem _ List.mem_cons_self)
     go_simp
     clear  y7a y7b y7c y7d f7a f7b f7c f7d f7e
     have HS : Hid (St rb ta cap T w [(b6, z5), (b4, (tL x1a x1b x1c x1d)), (b2, (tL x1a x1b x1c x1d)), (w.heap.size, z5)] [] j1 op ((((w6.setCell ⟨b4, 0, none⟩ (.int .i64 x1a)).setCell ⟨b4, 1, none⟩ (.string (bsA x1b))).setCell ⟨b4, 2, none⟩ (.int .i64 x1c)).setCell ⟨b4, 3, none⟩ (.int .i64 x1d))) := St.put [(b6, z5)] (St.put [(b6, z5)] (St.put [(b6, z5)] (St.put [(b6, z5)] HS.out 0 (.int .i64 x1a)) 1 (.string (bsA x1b))) 2 (.int .i64 x1c)) 3 (.int .i64 x1d)
     refine hK.out _ _ (HS.out.c4 (List.mem_cons_of_mem _ (List.mem_cons_of_mem _ List.mem_cons_self))) (fun hHz => ?_)
     clear hK K hHz
     try simp only [Act.put, List.setIfInBounds_toArray, List.set_cons_zero, List.set_cons_succ]
     generalize ((((w6.setCell ⟨b4, 0, none⟩ (.int .i64 x1a)).setCell ⟨b4, 1, none⟩ (.string (bsA x1b))).setCell ⟨b4, 2, none⟩ (.int .i64 x1c)).setCell ⟨b4, 3, none⟩ (.int .i64 x1d)) = w8 at HS ⊢
     refine wpAnyH_ready (rs := [5]) (by kernel_rfl) (by simp) ?_
     refine AllReadyH.cons rfl (fun K hK => ?_) AllReadyH.nil
     obtain ⟨y9a, y9b, y9c, y9d, y9e⟩ := HS.out.c5 List.mem_cons_self
     obtain ⟨f9a, f9b, f9c, f9d, f9e⟩ := HS.out.f5 List.mem_cons_self
     go_simp
     clear  y9a y9b y9c y9d y9e f9a f9b f9c f9d f9e
     have HS : Hid (St rb ta cap T w [(b6, (nL 20 [] 0 0 (.slice none 0 0))), (b4, (tL x1a x1b x1c x1d)), (b2, (tL x1a x1b x1c x1d)), (w.heap.size, z5)] [] j1 op (((((w8.setCell ⟨b6, 0, none⟩ (.int .i64 20)).setCell ⟨b6, 1, none⟩ (.string (bsA []))).setCell ⟨b6, 2, none⟩ (.int .i64 0)).setCell ⟨b6, 3, none⟩ (.int .i64 0)).setCell ⟨b6, 4, none⟩ (.slice none 0 0))) := St.put [] (St.put [] (St.put [] (St.put [] (St.put [] HS.out 0 (.int .i64 20)) 1 (.string (bsA []))) 2 (.int .i64 0)) 3 (.int .i64 0)) 4 (.slice none 0 0)
     refine hK.out _ _ (HS.out.c4 (List.mem_cons_of_mem _ (List.mem_cons_of_mem _ List.mem_cons_self))) (fun hHz => ?_)
     clear hK K hHz
     try simp only [Act.put, List.setIfInBounds_toArray, List.set_cons_zero, List.set_cons_succ]
     generalize (((((w8.setCell ⟨b6, 0, none⟩ (.int .i64 20)).setCell ⟨b6, 1, none⟩ (.string (bsA []))).setCell ⟨b6, 2, none⟩ (.int .i64 0)).setCell ⟨b6, 3, none⟩ (.int .i64 0)).setCell ⟨b6, 4, none⟩ (.slice none 0 0)) = w10 at HS ⊢
     refine wpAnyH_done (by kernel_rfl) ?_ _
     have HS : Hid (St rb ta cap T w [(b6, (nL 20 [] 0 0 (.slice none 0 0))), (b4, (tL x1a x1b x1c x1d)), (b2, (tL x1a x1b x1c x1d)), (w.heap.size, z5)] [((mkX 20 [] 0 0 []), none)] j1 op w10) := HS.out.leaf 20 [] 0 0 none
     go_wp2_with fail
     go_meet
     exact ⟨_, _, rfl, rfl, HS.out⟩
    ·
     go_simp
     have HS : Hid (St rb ta cap T w [(w4.heap.size, z5), (b4, z4), (b2, (tL x1a x1b x1c x1d)), (w.heap.size, z5)] [] j1 op (w4.alloc o5)) := HS.out.newO z5
     refine hK.out _ _ (HS.out.c4 (List.mem_cons_of_mem _ (List.mem_cons_of_mem _ List.mem_cons_self))) (fun hHz => ?_)
     clear hK K hHz
     try simp only [Act.put, List.setIfInBounds_toArray, List.set_cons_zero, List.set_cons_succ]
     obtain ⟨b5, hnb⟩ : ∃ nb, nb = w4.heap.size := ⟨_, rfl⟩
     rw [← hnb] at HS ⊢
     clear hnb
     generalize (w4.alloc o5) = w5 at HS ⊢
     refine wpAnyH_ready (rs := [1]) (by kernel_rfl) (by simp) ?_
     refine AllReadyH.cons rfl (fun K hK => ?_) AllReadyH.nil
     have hc := none_s w5
     (try unfold ttV at hc)
     (try unfold nV at hc)
     (try dsimp only at hc)
     go_simp
     refine hc.mono ?_
     rintro e w6 ⟨rfl, hb⟩
     have HS : Hid (St rb ta cap T w [(b5, z5), (b4, z4), (b2, (tL x1a x1b x1c x1d)), (w.heap.size, z5)] [] j1 op w6) := HS.out.below hb
     clear hc hb
     refine hK.out _ _ (HS.out.c4 (List.mem_cons_of_mem _ (List.mem_cons_of_mem _ List.mem_cons_self))) (fun hHz => ?_)
     clear hK K hHz
     try simp only [Act.put, List.setIfInBounds_toArray, List.set_cons_zero, List.set_cons_succ]
     refine wpAnyH_ready (rs := [4]) (by kernel_rfl) (by simp) ?_
     refine AllReadyH.cons rfl (fun K hK => ?_) AllReadyH.nil
     obtain ⟨y7a, y7b, y7c, y7d⟩ := HS.out.c4 (List.mem_cons_of_mem _ List.mem_cons_self)
     obtain ⟨f7a, f7b, f7c, f7d, f7e⟩ := HS.out.f5 (List.mem_cons_of_mem _ List.mem_cons_self)
     go_simp
     clear  y7a y7b y7c y7d f7a f7b f7c f7d f7e
     have HS : Hid (St rb ta cap T w [(b5, z5), (b4, (tL x1a x1b x1c x1d)), (b2, (tL x1a x1b x1c x1d)), (w.heap.size, z5)] [] j1 op ((((w6.setCell ⟨b4, 0, none⟩ (.int .i64 x1a)).setCell ⟨b4, 1, none⟩ (.string (bsA x1b))).setCell ⟨b4, 2, none⟩ (.int .i64 x1c)).setCell ⟨b4, 3, none⟩ (.int .i64 x1d))) := St.put [(b5, z5)] (St.put [(b5, z5)] (St.put [(b5, z5)] (St.put [(b5, z5)] HS.out 0 (.int .i64 x1a)) 1 (.string (bsA x1b))) 2 (.int .i64 x1c)) 3 (.int .i64 x1d)
     refine hK.out _ _ (HS.out.c4 (List.mem_cons_of_mem _ (List.mem_cons_of_mem _ List.mem_cons_self))) (fun hHz => ?_)
     clear hK K hHz
     try simp only [Act.put, List.setIfInBounds_toArray, List.set_cons_zero, List.set_cons_succ]
     generalize ((((w6.setCell ⟨b4, 0, none⟩ (.int .i64 x1a)).setCell ⟨b4, 1, none⟩ (.string (bsA x1b))).setCell ⟨b4, 2, none⟩ (.int .i64 x1c)).setCell ⟨b4, 3, none⟩ (.int .i64 x1d)) = w8 at HS ⊢
     refine wpAnyH_ready (rs := [5]) (by kernel_rfl) (by simp) ?_
     refine AllReadyH.cons rfl (fun K hK => ?_) AllReadyH.nil
     obtain ⟨y9a, y9b, y9c, y9d, y9e⟩ := HS.out.c5 List.mem_cons_self
     obtain ⟨f9a, f9b, f9c, f9d, f9e⟩ := HS.out.f5 List.mem_cons_self
     go_simp
     clear  y9a y9b y9c y9d y9e f9a f9b f9c f9d f9e
     have HS : Hid (St rb ta cap T w [(b5, (nL 20 [] 0 0 (.slice none 0 0))), (b4, (tL x1a x1b x1c x1d)), (b2, (tL x1a x1b x1c x1d)), (w.heap.size, z5)] [] j1 op (((((w8.setCell ⟨b5, 0, none⟩ (.int .i64 20)).setCell ⟨b5, 1, none⟩ (.string (bsA []))).setCell ⟨b5, 2, none⟩ (.int .i64 0)).setCell ⟨b5, 3, none⟩ (.int .i64 0)).setCell ⟨b5, 4, none⟩ (.slice none 0 0))) := St.put [] (St.put [] (St.put [] (St.put [] (St.put [] HS.out 0 (.int .i64 20)) 1 (.string (bsA []))) 2 (.int .i64 0)) 3 (.int .i64 0)) 4 (.slice none 0 0)
     refine hK.out _ _ (HS.out.c4 (List.mem_cons_of_mem _ (List.mem_cons_of_mem _ List.mem_cons_self))) (fun hHz => ?_)
     clear hK K hHz
     try simp only [Act.put, List.setIfInBounds_toArray, List.set_cons_zero, List.set_cons_succ]
     generalize (((((w8.setCell ⟨b5, 0, none⟩ (.int .i64 20)).setCell ⟨b5, 1, none⟩ (.string (bsA []))).setCell ⟨b5, 2, none⟩ (.int .i64 0)).setCell ⟨b5, 3, none⟩ (.int .i64 0)).setCell ⟨b5, 4, none⟩ (.slice none 0 0)) = w10 at HS ⊢
     refine wpAnyH_done (by kernel_rfl) ?_ _
     have HS : Hid (St rb ta cap T w [(b5, (nL 20 [] 0 0 (.slice none 0 0))), (b4, (tL x1a x1b x1c x1d)), (b2, (tL x1a x1b x1c x1d)), (w.heap.size, z5)] [((mkX 20 [] 0 0 []), none)] j1 op w10) := HS.out.leaf 20 [] 0 0 none
     go_wp2_with fail
     go_meet
     exact ⟨_, _, rfl, rfl, HS.out⟩
   ·
    go_simp
    have HS : Hid (St rb ta cap T w [(w3.heap.size, z5), (b2, (tL x1a x1b x1c x1d)), (w.heap.size, z5)] [] j1 op (w3.alloc o5)) := HS.out.newO z5
    refine hK.out _ _ (HS.out.c4 (List.mem_cons_of_mem _ List.mem_cons_self)) (fun hHz => ?_)
    clear hK K hHz
    try simp only [Act.put, List.setIfInBounds_toArray, List.set_cons_zero, List.set_cons_succ]
    obtain ⟨b4, hnb⟩ : ∃ nb, nb = w3.heap.size := ⟨_, rfl⟩
    rw [← hnb] at HS ⊢
    clear hnb
    generalize (w3.alloc o5) = w4 at HS ⊢
    refine wpAnyH_ready (rs := [1, 2]) (by kernel_rfl) (by simp) ?_
    refine AllReadyH.cons rfl (fun K hK => ?_) (AllReadyH.cons rfl (fun K hK => ?_) AllReadyH.nil)
    ·
     have hc := none_s w4
     (try unfold ttV at hc)
     (try unfold nV at hc)
     (try dsimp only at hc)
     go_simp
     refine hc.mono ?_
     rintro e w5 ⟨rfl, hb⟩
     have HS : Hid (St rb ta cap T w [(b4, z5), (b2, (tL x1a x1b x1c x1d)), (w.heap.size, z5)] [] j1 op w5) := HS.out.below hb
     clear hc hb
     refine hK.out _ _ (HS.out.c4 (List.mem_cons_of_mem _ List.mem_cons_self)) (fun hHz => ?_)
     clear hK K hHz
     try simp only [Act.put, List.setIfInBounds_toArray, List.set_cons_zero, List.set_cons_succ]
     refine wpAnyH_ready (rs := [2]) (by kernel_rfl) (by simp) ?_
     refine AllReadyH.cons rfl (fun K hK => ?_) AllReadyH.nil
     go_simp
     have HS : Hid (St rb ta cap T w [(w5.heap.size, z4), (b4, z5), (b2, (tL x1a x1b x1c x1d)), (w.heap.size, z5)] [] j1 op (w5.alloc o4)) := HS.out.newO z4
     refine hK.out _ _ (HS.out.c4 (List.mem_cons_of_mem _ (List.mem_cons_of_mem _ List.mem_cons_self))) (fun hHz => ?_)
     clear hK K hHz
     try simp only [Act.put, List.setIfInBounds_toArray, List.set_cons_zero, List.set_cons_succ]
     obtain ⟨b6, hnb⟩ : ∃ nb, nb = w5.heap.size := ⟨_, rfl⟩
     rw [← hnb] at HS ⊢
     clear hnb
     generalize (w5.alloc o4) = w6 at HS ⊢
     refine wpAnyH_ready (rs := [4]) (by kernel_rfl) (by simp) ?_
     refine AllReadyH.cons rfl (fun K hK => ?_) AllReadyH.nil
     obtain ⟨y7a, y7b, y7c, y7d⟩ := HS.out.c4 List.mem_cons_self
     obtain ⟨f7a, f7b, f7c, f7d, f7e⟩ := HS.out.f5 List.mem_cons_self
     go_simp
     clear  y7a y7b y7c y7d f7a f7b f7c f7d f7e
     have HS : Hid (St rb ta cap T w [(b6, (tL x1a x1b x1c x1d)), (b4, z5), (b2, (tL x1a x1b x1c x1d)), (w.heap.size, z5)] [] j1 op ((((w6.setCell ⟨b6, 0, none⟩ (.int .i64 x1a)).setCell ⟨b6, 1, none⟩ (.string (bsA x1b))).setCell ⟨b6, 2, none⟩ (.int .i64 x1c)).setCell ⟨b6, 3, none⟩ (.int .i64 x1d))) := St.put [] (St.put [] (St.put [] (St.put [] HS.out 0 (.int .i64 x1a)) 1 (.string (bsA x1b))) 2 (.int .i64 x1c)) 3 (.int .i64 x1d)
     refine hK.out _ _ (HS.out.c4 (List.mem_cons_of_mem _ (List.mem_cons_of_mem _ List.mem_cons_self))) (fun hHz => ?_)
     clear hK K hHz
     try simp only [Act.put, List.setIfInBounds_toArray, List.set_cons_zero, List.set_cons_succ]
     generalize ((((w6.setCell ⟨b6, 0, none⟩ (.int .i64 x1a)).setCell ⟨b6, 1, none⟩ (.string (bsA x1b))).setCell ⟨b6, 2, none⟩ (.int .i64 x1c)).setCell ⟨b6, 3, none⟩ (.int .i64 x1d)) = w8 at HS ⊢
     refine wpAnyH_ready (rs := [5]) (by kernel_rfl) (by simp) ?_
     refine AllReadyH.cons rfl (fun K hK => ?_) AllReadyH.nil
     obtain ⟨y9a, y9b, y9c, y9d, y9e⟩ := HS.out.c5 (List.mem_cons_of_mem _ List.mem_cons_self)
     obtain ⟨f9a, f9b, f9c, f9d, f9e⟩ := HS.out.f5 (List.mem_cons_of_mem _ List.mem_cons_self)
     go_simp
     clear  y9a y9b y9c y9d y9e f9a f9b f9c f9d f9e
     have HS : Hid (St rb ta cap T w [(b6, (tL x1a x1b x1c x1d)), (b4, (nL 20 [] 0 0 (.slice none 0 0))), (b2, (tL x1a x1b x1c x1d)), (w.heap.size, z5)] [] j1 op (((((w8.setCell ⟨b4, 0, none⟩ (.int .i64 20)).setCell ⟨b4, 1, none⟩ (.string (bsA []))).setCell ⟨b4, 2, none⟩ (.int .i64 0)).setCell ⟨b4, 3, none⟩ (.int .i64 0)).setCell ⟨b4, 4, none⟩ (.slice none 0 0))) := St.put [(b6, (tL x1a x1b x1c x1d))] (St.put [(b6, (tL x1a x1b x1c x1d))] (St.put [(b6, (tL x1a x1b x1c x1d))] (St.put [(b6, (tL x1a x1b x1c x1d))] (St.put [(b6, (tL x1a x1b x1c x1d))] HS.out 0 (.int .i64 20)) 1 (.string (bsA []))) 2 (.int .i64 0)) 3 (.int .i64 0)) 4 (.slice none 0 0)
     refine hK.out _ _ (HS.out.c4 (List.mem_cons_of_mem _ (List.mem_cons_of_mem _ List.mem_cons_self))) (fun hHz => ?_)
     clear hK K hHz
     try simp only [Act.put, List.setIfInBounds_toArray, List.set_cons_zero, List.set_cons_succ]
     generalize (((((w8.setCell ⟨b4, 0, none⟩ (.int .i64 20)).setCell ⟨b4, 1, none⟩ (.string (bsA []))).setCell ⟨b4, 2, none⟩ (.int .i64 0)).setCell ⟨b4, 3, none⟩ (.int .i64 0)).setCell ⟨b4, 4, none⟩ (.slice none 0 0)) = w10 at HS ⊢
     refine wpAnyH_done (by kernel_rfl) ?_ _
     have HS : Hid (St rb ta cap T w [(b4, (nL 20 [] 0 0 (.slice none 0 0))), (b6, (tL x1a x1b x1c x1d)), (b2, (tL x1a x1b x1c x1d)), (w.heap.size, z5)] [] j1 op w10) := St.swap HS.out
     have HS : Hid (St rb ta cap T w [(b4, (nL 20 [] 0 0 (.slice none 0 0))), (b6, (tL x1a x1b x1c x1d)), (b2, (tL x1a x1b x1c x1d)), (w.heap.size, z5)] [((mkX 20 [] 0 0 []), none)] j1 op w10) := HS.out.leaf 20 [] 0 0 none
     go_wp2_with fail
     go_meet
     exact ⟨_, _, rfl, rfl, HS.out⟩
    ·
     go_simp
     have HS : Hid (St rb ta cap T w [(w4.heap.size, z4), (b4, z5), (b2, (tL x1a x1b x1c x1d)), (w.heap.size, z5)] [] j1 op (w4.alloc o4)) := HS.out.newO z4
     refine hK.out _ _ (HS.out.c4 (List.mem_cons_of_mem _ (List.mem_cons_of_mem _ List.mem_cons_self))) (fun hHz => ?_)
     clear hK K hHz
     try simp only [Act.put, List.setIfInBounds_toArray, List.set_cons_zero, List.set_cons_succ]
     obtain ⟨b5, hnb⟩ : ∃ nb, nb = w4.heap.size := ⟨_, rfl⟩
     rw [← hnb] at HS ⊢
     clear hnb
     generalize (w4.alloc o4) = w5 at HS ⊢
     refine wpAnyH_ready (rs := [1]) (by kernel_rfl) (by simp) ?_
     refine AllReadyH.cons rfl (fun K hK => ?_) AllReadyH.nil
     have hc := none_s w5
     (try unfold ttV at hc)
     (try unfold nV at hc)
     (try dsimp only at hc)
     go_simp
     refine hc.mono ?_
     rintro e w6 ⟨rfl, hb⟩
     have HS : Hid (St rb ta cap T w [(b5, z4), (b4, z5), (b2, (tL x1a x1b x1c x1d)), (w.heap.size, z5)] [] j1 op w6) := HS.out.below hb
     clear hc hb
     refine hK.out _ _ (HS.out.c4 (List.mem_cons_of_mem _ (List.mem_cons_of_mem _ List.mem_cons_self))) (fun hHz => ?_)
     clear hK K hHz
     try simp only [Act.put, List.setIfInBounds_toArray, List.set_cons_zero, List.set_cons_succ]
     refine wpAnyH_ready (rs := [4]) (by kernel_rfl) (by simp) ?_
     refine AllReadyH.cons rfl (fun K hK => ?_) AllReadyH.nil
     obtain ⟨y7a, y7b, y7c, y7d⟩ := HS.out.c4 List.mem_cons_self
     obtain ⟨f7a, f7b, f7c, f7d, f7e⟩ := HS.out.f5 List.mem_cons_self
     go_simp
     clear  y7a y7b y7c y7d f7a f7b f7c f7d f7e
     have HS : Hid (St rb ta cap T w [(b5, (tL x1a x1b x1c x1d)), (b4, z5), (b2, (tL x1a x1b x1c x1d)), (w.heap.size, z5)] [] j1 op ((((w6.setCell ⟨b5, 0, none⟩ (.int .i64 x1a)).setCell ⟨b5, 1, none⟩ (.string (bsA x1b))).setCell ⟨b5, 2, none⟩ (.int .i64 x1c)).setCell ⟨b5, 3, none⟩ (.int .i64 x1d))) := St.put [] (St.put [] (St.put [] (St.put [] HS.out 0 (.int .i64 x1a)) 1 (.string (bsA x1b))) 2 (.int .i64 x1c)) 3 (.int .i64 x1d)
     refine hK.out _ _ (HS.out.c4 (List.mem_cons_of_mem _ (List.mem_cons_of_mem _ List.mem_cons_self))) (fun hHz => ?_)
     clear hK K hHz
     try simp only [Act.put, List.setIfInBounds_toArray, List.set_cons_zero, List.set_cons_succ]
     generalize ((((w6.setCell ⟨b5, 0, none⟩ (.int .i64 x1a)).setCell ⟨b5, 1, none⟩ (.string (bsA x1b))).setCell ⟨b5, 2, none⟩ (.int .i64 x1c)).setCell ⟨b5, 3, none⟩ (.int .i64 x1d)) = w8 at HS ⊢
     refine wpAnyH_ready (rs := [5]) (by kernel_rfl) (by simp) ?_
     refine AllReadyH.cons rfl (fun K hK => ?_) AllReadyH.nil
     obtain ⟨y9a, y9b, y9c, y9d, y9e⟩ := HS.out.c5 (List.mem_cons_of_mem _ List.mem_cons_self)
     obtain ⟨f9a, f9b, f9c, f9d, f9e⟩ := HS.out.f5 (List.mem_cons_of_mem _ List.mem_cons_self)
     go_simp
     clear  y9a y9b y9c y9d y9e f9a f9b f9c f9d f9e
     have HS : Hid (St rb ta cap T w [(b5, (tL x1a x1b x1c x1d)), (b4, (nL 20 [] 0 0 (.slice none 0 0))), (b2, (tL x1a x1b x1c x1d)), (w.heap.size, z5)] [] j1 op (((((w8.setCell ⟨b4, 0, none⟩ (.int .i64 20)).setCell ⟨b4, 1, none⟩ (.string (bsA []))).setCell ⟨b4, 2, none⟩ (.int .i64 0)).setCell ⟨b4, 3, none⟩ (.int .i64 0)).setCell ⟨b4, 4, none⟩ (.slice none 0 0))) := St.put [(b5, (tL x1a x1b x1c x1d))] (St.put [(b5, (tL x1a x1b x1c x1d))] (St.put [(b5, (tL x1a x1b x1c x1d))] (St.put [(b5, (tL x1a x1b x1c x1d))] (St.put [(b5, (tL x1a x1b x1c x1d))] HS.out 0 (.int .i64 20)) 1 (.string (bsA []))) 2 (.int .i64 0)) 3 (.int .i64 0)) 4 (.slice none 0 0)
     refine hK.out _ _ (HS.out.c4 (List.mem_cons_of_mem _ (List.mem_cons_of_mem _ List.mem_cons_self))) (fun hHz => ?_)
     clear hK K hHz
     try simp only [Act.put, List.setIfInBounds_toArray, List.set_cons_zero, List.set_cons_succ]
     generalize (((((w8.setCell ⟨b4, 0, none⟩ (.int .i64 20)).setCell ⟨b4, 1, none⟩ (.string (bsA []))).setCell ⟨b4, 2, none⟩ (.int .i64 0)).setCell ⟨b4, 3, none⟩ (.int .i64 0)).setCell ⟨b4, 4, none⟩ (.slice none 0 0)) = w10 at HS ⊢
     refine wpAnyH_done (by kernel_rfl) ?_ _
     have HS : Hid (St rb ta cap T w [(b4, (nL 20 [] 0 0 (.slice none 0 0))), (b5, (tL x1a x1b x1c x1d)), (b2, (tL x1a x1b x1c x1d)), (w.heap.size, z5)] [] j1 op w10) := St.swap HS.out
     have HS : Hid (St rb ta cap T w [(b4, (nL 20 [] 0 0 (.slice none 0 0))), (b5, (tL x1a x1b x1c x1d)), (b2, (tL x1a x1b x1c x1d)), (w.heap.size, z5)] [((mkX 20 [] 0 0 []), none)] j1 op w10) := HS.out.leaf 20 [] 0 0 none
     go_wp2_with fail
     go_meet
     exact ⟨_, _, rfl, rfl, HS.out⟩
  case rest =>
   obtain ⟨b4, b5, rfl, rfl, hS⟩ := hcut
   clear HS
   have HS : Hid (St rb ta cap T w [(b5, (nL 20 [] 0 0 (.slice none 0 0))), (b4, (tL x1a x1b x1c x1d)), (b2, (tL x1a x1b x1c x1d)), (w.heap.size, z5)] [((mkX 20 [] 0 0 []), none)] j1 op wc) := hS
   clear hS
   obtain ⟨r1, e1, hl⟩ := bnd_some HL.out
   have HL : Hid _ := hl
   have hc := passesSign_s rb ta cap T [61] j1 op _ r1 hop HS.out.rdr e1
   (try unfold ptr at hc)
   clear e1 hl
   go_wp2_with fail
   refine hc.mono ?_
   intro e w61 hpost
   clear hc
   cases r1 with
   | inl q =>
    obtain ⟨hG, HP⟩ := HS.out.bad2 (V := VX) (op' := op) HL.out hpost
    unfold GUs at hG
    subst hG
    clear hpost
    go_wp2
    exact ⟨rfl, HP.out⟩
   | inr q =>
    obtain ⟨x61, j61⟩ := q
    obtain ⟨rfl, HS⟩ := HS.out.okB hpost
    have hl := HL.out
    rw [bnd_ok] at hl
    (try dsimp only at hl)
    have HL : Hid _ := hl
    clear hl hpost
    cases x61 with
    | true =>
     have hl := HL.out
     simp only [if_true, if_false, Bool.false_eq_true] at hl
     have HL : Hid _ := hl
     clear hl
     go_wp2_with fail
     have HS : Hid (St rb ta cap T w [(b5, (nL 20 [] 0 0 (.slice none 0 0))), (b4, (tL x1a x1b x1c x1d)), (b2, (tL x1a x1b x1c x1d)), (w.heap.size, z5)] [((mkX 20 [] 0 0 []), none)] j61 op w61.drew) := HS.out.drew
     refine wp_region_held_drew (S := (fun wS => wS.cell? ⟨b2, 0, none⟩ = some (.int .i64 x1a) ∧ wS.cell? ⟨b2, 1, none⟩ = some (.string (bsA x1b)) ∧ wS.cell? ⟨b2, 2, none⟩ = some (.int .i64 x1c) ∧ wS.cell? ⟨b2, 3, none⟩ = some (.int .i64 x1d))) (by kernel_rfl) (HS.out.c4 (List.mem_cons_of_mem _ (List.mem_cons_of_mem _ List.mem_cons_self))) (fun hHeld => ?_)
     generalize w61.drew = w62 at HS ⊢
     refine tk 0 (some 13) (v := ?_) rfl ?_ ?_ (hS := HS.out.c4 (List.mem_cons_of_mem _ (List.mem_cons_of_mem _ List.mem_cons_self)))
     rotate_left
     · intro wS hSw; (try dsimp only at hSw); go_simp; (try with_reducible rfl)
     try simp only [Act.put, List.setIfInBounds_toArray, List.set_cons_zero, List.set_cons_succ]
     refine tk 2 (some 15) (v := ?_) rfl ?_ ?_ (hS := HS.out.c4 (List.mem_cons_of_mem _ (List.mem_cons_of_mem _ List.mem_cons_self)))
     rotate_left
     · intro wS hSw; (try dsimp only at hSw); obtain ⟨y1, y2, y3, y4⟩ := hSw; go_simp; (try with_reducible rfl)
     try simp only [Act.put, List.setIfInBounds_toArray, List.set_cons_zero, List.set_cons_succ]
     refine wpAnyH_ready (rs := [1]) (by kernel_rfl) (by simp) ?_
     refine AllReadyH.cons rfl (fun K hK => ?_) AllReadyH.nil
     obtain ⟨r1, e1, hl⟩ := bnd_some HL.out
     have HL : Hid _ := hl
     have hc := id_s rb ta cap T j61 op _ r1 hop HS.out.rdr e1
     (try unfold ptr at hc)
     clear e1 hl
     go_simp
     refine hc.mono ?_
     intro e w63 hpost
     clear hc
     cases r1 with
     | inl q =>
      obtain ⟨hG, HP⟩ := HS.out.bad2 (V := VX) (op' := op) HL.out hpost
      unfold GUs at hG
      subst hG
      clear hpost
      exact ⟨rfl, HP.out⟩
     | inr q =>
      obtain ⟨x63, j63⟩ := q
      obtain ⟨rfl, HS⟩ := HS.out.okT hpost
      obtain ⟨⟨x63a, x63b, x63c⟩, x63d⟩ := x63
      unfold ttV
      dsimp only
      have hl := HL.out
      rw [bnd_ok] at hl
      (try dsimp only at hl)
      have HL : Hid _ := hl
      clear hl hpost
      refine hK.out _ _ (HS.out.c4 (List.mem_cons_of_mem _ (List.mem_cons_of_mem _ List.mem_cons_self))) (fun hHz => ?_)
      clear hK K hHz
      try simp only [Act.put, List.setIfInBounds_toArray, List.set_cons_zero, List.set_cons_succ]
      refine wpAnyH_ready (rs := [3]) (by kernel_rfl) (by simp) ?_
      refine AllReadyH.cons rfl (fun K hK => ?_) AllReadyH.nil
      have hc := textNode_s 15 ((x1a, x1b, x1c), x1d) none 0 0 w63
      (try unfold ttV at hc)
      (try unfold nV at hc)
      (try dsimp only at hc)
      go_simp
      refine hc.mono ?_
      rintro e w64 ⟨rfl, hb⟩
      have HS : Hid (St rb ta cap T w [(b5, (nL 20 [] 0 0 (.slice none 0 0))), (b4, (tL x1a x1b x1c x1d)), (b2, (tL x1a x1b x1c x1d)), (w.heap.size, z5)] [((mkX 20 [] 0 0 []), none)] j63 op w64) := HS.out.below hb
      clear hc hb
      refine hK.out _ _ (HS.out.c4 (List.mem_cons_of_mem _ (List.mem_cons_of_mem _ List.mem_cons_self))) (fun hHz => ?_)
      clear hK K hHz
      try simp only [Act.put, List.setIfInBounds_toArray, List.set_cons_zero, List.set_cons_succ]
      refine wpAnyH_ready (rs := [4]) (by kernel_rfl) (by simp) ?_
      refine AllReadyH.cons rfl (fun K hK => ?_) AllReadyH.nil
      obtain ⟨y65a, y65b, y65c, y65d⟩ := HS.out.c4 (List.mem_cons_of_mem _ List.mem_cons_self)
      obtain ⟨f65a, f65b, f65c, f65d, f65e⟩ := HS.out.f5 (List.mem_cons_of_mem _ List.mem_cons_self)
      go_simp
      clear  y65a y65b y65c y65d f65a f65b f65c f65d f65e
      have HS : Hid (St rb ta cap T w [(b5, (nL 20 [] 0 0 (.slice none 0 0))), (b4, (tL x63a x63b x63c x63d)), (b2, (tL x1a x1b x1c x1d)), (w.heap.size, z5)] [((mkX 20 [] 0 0 []), none)] j63 op ((((w64.setCell ⟨b4, 0, none⟩ (.int .i64 x63a)).setCell ⟨b4, 1, none⟩ (.string (bsA x63b))).setCell ⟨b4, 2, none⟩ (.int .i64 x63c)).setCell ⟨b4, 3, none⟩ (.int .i64 x63d))) := St.put [(b5, (nL 20 [] 0 0 (.slice none 0 0)))] (St.put [(b5, (nL 20 [] 0 0 (.slice none 0 0)))] (St.put [(b5, (nL 20 [] 0 0 (.slice none 0 0)))] (St.put [(b5, (nL 20 [] 0 0 (.slice none 0 0)))] HS.out 0 (.int .i64 x63a)) 1 (.string (bsA x63b))) 2 (.int .i64 x63c)) 3 (.int .i64 x63d)
      refine hK.out _ _ (HS.out.c4 (List.mem_cons_of_mem _ (List.mem_cons_of_mem _ List.mem_cons_self))) (fun hHz => ?_)
      clear hK K hHz
      try simp only [Act.put, List.setIfInBounds_toArray, List.set_cons_zero, List.set_cons_succ]
      generalize ((((w64.setCell ⟨b4, 0, none⟩ (.int .i64 x63a)).setCell ⟨b4, 1, none⟩ (.string (bsA x63b))).setCell ⟨b4, 2, none⟩ (.int .i64 x63c)).setCell ⟨b4, 3, none⟩ (.int .i64 x63d)) = w66 at HS ⊢
      refine wpAnyH_ready (rs := [5]) (by kernel_rfl) (by simp) ?_
      refine AllReadyH.cons rfl (fun K hK => ?_) AllReadyH.nil
      obtain ⟨y67a, y67b, y67c, y67d, y67e⟩ := HS.out.c5 List.mem_cons_self
      obtain ⟨f67a, f67b, f67c, f67d, f67e⟩ := HS.out.f5 List.mem_cons_self
      go_simp
      clear  y67a y67b y67c y67d y67e f67a f67b f67c f67d f67e
      have HS : Hid (St rb ta cap T w [(b5, (nL 15 x1b 0 x1d (.slice none 0 0))), (b4, (tL x63a x63b x63c x63d)), (b2, (tL x1a x1b x1c x1d)), (w.heap.size, z5)] [((mkX 20 [] 0 0 []), none)] j63 op (((((w66.setCell ⟨b5, 0, none⟩ (.int .i64 15)).setCell ⟨b5, 1, none⟩ (.string (bsA x1b))).setCell ⟨b5, 2, none⟩ (.int .i64 0)).setCell ⟨b5, 3, none⟩ (.int .i64 x1d)).setCell ⟨b5, 4, none⟩ (.slice none 0 0))) := St.put [] (St.put [] (St.put [] (St.put [] (St.put [] HS.out 0 (.int .i64 15)) 1 (.string (bsA x1b))) 2 (.int .i64 0)) 3 (.int .i64 x1d)) 4 (.slice none 0 0)
      refine hK.out _ _ (HS.out.c4 (List.mem_cons_of_mem _ (List.mem_cons_of_mem _ List.mem_cons_self))) (fun hHz => ?_)
      clear hK K hHz
      try simp only [Act.put, List.setIfInBounds_toArray, List.set_cons_zero, List.set_cons_succ]
      generalize (((((w66.setCell ⟨b5, 0, none⟩ (.int .i64 15)).setCell ⟨b5, 1, none⟩ (.string (bsA x1b))).setCell ⟨b5, 2, none⟩ (.int .i64 0)).setCell ⟨b5, 3, none⟩ (.int .i64 x1d)).setCell ⟨b5, 4, none⟩ (.slice none 0 0)) = w68 at HS ⊢
      refine wpAnyH_done (by kernel_rfl) ?_ _
      have HS : Hid (St rb ta cap T w [(b5, (nL 15 x1b 0 x1d (.slice none 0 0))), (b4, (tL x63a x63b x63c x63d)), (b2, (tL x1a x1b x1c x1d)), (w.heap.size, z5)] [((mkX 15 x1b 0 x1d []), none), ((mkX 20 [] 0 0 []), none)] j63 op w68) := HS.out.leaf 15 x1b 0 x1d none
      go_wp2_with fail
      have HS : Hid (St rb ta cap T w [(b5, (nL 15 x1b 0 x1d (.slice none 0 0))), (b4, (tL x63a x63b x63c x63d)), (b2, (tL x1a x1b x1c x1d)), (w.heap.size, z5)] [((mkX 15 x1b 0 x1d []), none), ((mkX 20 [] 0 0 []), none)] j63 op w68.drew) := HS.out.drew
      refine wp_region_held_drew (S := (fun wS => (wS.cell? ⟨b2, 0, none⟩ = some (.int .i64 x1a) ∧ wS.cell? ⟨b2, 1, none⟩ = some (.string (bsA x1b)) ∧ wS.cell? ⟨b2, 2, none⟩ = some (.int .i64 x1c) ∧ wS.cell? ⟨b2, 3, none⟩ = some (.int .i64 x1d)) ∧ (wS.cell? ⟨b5, 0, none⟩ = some (.int .i64 15) ∧ wS.cell? ⟨b5, 1, none⟩ = some (.string (bsA x1b)) ∧ wS.cell? ⟨b5, 2, none⟩ = some (.int .i64 0) ∧ wS.cell? ⟨b5, 3, none⟩ = some (.int .i64 x1d) ∧ wS.cell? ⟨b5, 4, none⟩ = some (.slice none 0 0)))) (by kernel_rfl) (And.intro (HS.out.c4 (List.mem_cons_of_mem _ (List.mem_cons_of_mem _ List.mem_cons_self))) (HS.out.c5 List.mem_cons_self)) (fun hHeld => ?_)
      generalize w68.drew = w69 at HS ⊢
      refine tk 0 (some 17) (v := ?_) rfl ?_ ?_ (hS := And.intro (HS.out.c4 (List.mem_cons_of_mem _ (List.mem_cons_of_mem _ List.mem_cons_self))) (HS.out.c5 List.mem_cons_self))
      rotate_left
      · intro wS hSw; (try dsimp only at hSw); obtain ⟨⟨y1, y2, y3, y4⟩, _⟩ := hSw; go_simp; (try with_reducible rfl)
      try simp only [Act.put, List.setIfInBounds_toArray, List.set_cons_zero, List.set_cons_succ]
      refine tk 1 (some 18) (v := ?_) rfl ?_ ?_ (hS := And.intro (HS.out.c4 (List.mem_cons_of_mem _ (List.mem_cons_of_mem _ List.mem_cons_self))) (HS.out.c5 List.mem_cons_self))
      rotate_left
      · intro wS hSw; (try dsimp only at hSw); go_simp; (try with_reducible rfl)
      try simp only [Act.put, List.setIfInBounds_toArray, List.set_cons_zero, List.set_cons_succ]
      refine tk 3 (some 20) (v := ?_) rfl ?_ ?_ (hS := And.intro (HS.out.c4 (List.mem_cons_of_mem _ (List.mem_cons_of_mem _ List.mem_cons_self))) (HS.out.c5 List.mem_cons_self))
      rotate_left
      · intro wS hSw; (try dsimp only at hSw); obtain ⟨_, ⟨y1, y2, y3, y4, y5⟩⟩ := hSw; go_simp; (try with_reducible rfl)
      try simp only [Act.put, List.setIfInBounds_toArray, List.set_cons_zero, List.set_cons_succ]
      refine wpAnyH_ready (rs := [2, 6]) (by kernel_rfl) (by simp) ?_
      refine AllReadyH.cons rfl (fun K hK => ?_) (AllReadyH.cons rfl (fun K hK => ?_) AllReadyH.nil)
      ·
       obtain ⟨r1, e1, hl⟩ := bnd_some HL.out
       have HL : Hid _ := hl
       have hc := filter_s rb ta cap T E hE j63 op _ r1 hop HS.out.rdr e1
       (try unfold ptr at hc)
       clear e1 hl
       go_simp
       refine hc.mono ?_
       intro e w70 hpost
       clear hc
       cases r1 with
       | inl q =>
        obtain ⟨hG, HP⟩ := HS.out.bad2 (V := VX) (op' := op) HL.out hpost
        unfold GUs at hG
        subst hG
        clear hpost
        exact ⟨rfl, HP.out⟩
       | inr q =>
        obtain ⟨x70, j70⟩ := q
        obtain ⟨s70, c70, rfl, HS⟩ := HS.out.okX hpost
        unfold xV nV
        have hl := HL.out
        rw [bnd_ok] at hl
        (try dsimp only at hl)
        have HL : Hid _ := hl
        clear hl hpost
        refine hK.out _ _ (And.intro (HS.out.c4 (List.mem_cons_of_mem _ (List.mem_cons_of_mem _ List.mem_cons_self))) (HS.out.c5 List.mem_cons_self)) (fun hHz => ?_)
        clear hK K hHz
        try simp only [Act.put, List.setIfInBounds_toArray, List.set_cons_zero, List.set_cons_succ]
        refine wpAnyH_ready (rs := [4, 6]) (by kernel_rfl) (by simp) ?_
        refine AllReadyH.cons rfl (fun K hK => ?_) (AllReadyH.cons rfl (fun K hK => ?_) AllReadyH.nil)
        ·
         go_simp
         have HS : Hid (St rb ta cap T w [(w70.heap.size, (xC [(x70, s70, c70), ((mkX 15 x1b 0 x1d []), none, 0)])), (b5, (nL 15 x1b 0 x1d (.slice none 0 0))), (b4, (tL x63a x63b x63c x63d)), (b2, (tL x1a x1b x1c x1d)), (w.heap.size, z5)] [(x70, s70), ((mkX 15 x1b 0 x1d []), none), ((mkX 20 [] 0 0 []), none)] j70 op (w70.alloc (.cells #[.int .i64 (xk x70), .string (bsA (xt x70)), .int .i64 (xn x70), .int .i64 (xa x70), .slice s70 (xl x70) c70, .int .i64 15, .string (bsA x1b), .int .i64 0, .int .i64 x1d, .slice none 0 0] 34))) := HS.out.newO (xC [(x70, s70, c70), ((mkX 15 x1b 0 x1d []), none, 0)])
         refine hK.out _ _ (And.intro (HS.out.c4 (List.mem_cons_of_mem _ (List.mem_cons_of_mem _ (List.mem_cons_of_mem _ List.mem_cons_self)))) (HS.out.c5 (List.mem_cons_of_mem _ List.mem_cons_self))) (fun hHz => ?_)
         clear hK K hHz
         try simp only [Act.put, List.setIfInBounds_toArray, List.set_cons_zero, List.set_cons_succ]
         obtain ⟨b71, hnb⟩ : ∃ nb, nb = w70.heap.size := ⟨_, rfl⟩
         rw [← hnb] at HS ⊢
         clear hnb
         generalize (w70.alloc (.cells #[.int .i64 (xk x70), .string (bsA (xt x70)), .int .i64 (xn x70), .int .i64 (xa x70), .slice s70 (xl x70) c70, .int .i64 15, .string (bsA x1b), .int .i64 0, .int .i64 x1d, .slice none 0 0] 34)) = w71 at HS ⊢
         refine wpAnyH_ready (rs := [5, 6]) (by kernel_rfl) (by simp) ?_
         refine AllReadyH.cons rfl (fun K hK => ?_) (AllReadyH.cons rfl (fun K hK => ?_) AllReadyH.nil)
         ·
          have hc := node_s 30 ((x1a, x1b, x1c), x1d) (some ⟨b71, 0, none⟩) 2 2 w71
          (try unfold ttV at hc)
          (try unfold nV at hc)
          (try dsimp only at hc)
          go_simp
          refine hc.mono ?_
          rintro e w72 ⟨rfl, hb⟩
          have HS : Hid (St rb ta cap T w [(b71, (xC [(x70, s70, c70), ((mkX 15 x1b 0 x1d []), none, 0)])), (b5, (nL 15 x1b 0 x1d (.slice none 0 0))), (b4, (tL x63a x63b x63c x63d)), (b2, (tL x1a x1b x1c x1d)), (w.heap.size, z5)] [(x70, s70), ((mkX 15 x1b 0 x1d []), none), ((mkX 20 [] 0 0 []), none)] j70 op w72) := HS.out.below hb
          clear hc hb
          refine hK.out _ _ (And.intro (HS.out.c4 (List.mem_cons_of_mem _ (List.mem_cons_of_mem _ (List.mem_cons_of_mem _ List.mem_cons_self)))) (HS.out.c5 (List.mem_cons_of_mem _ List.mem_cons_self))) (fun hHz => ?_)
          clear hK K hHz
          try simp only [Act.put, List.setIfInBounds_toArray, List.set_cons_zero, List.set_cons_succ]
          refine wpAnyH_ready (rs := [6]) (by kernel_rfl) (by simp) ?_
          refine AllReadyH.cons rfl (fun K hK => ?_) AllReadyH.nil
          go_simp
          have HS : Hid (St rb ta cap T w [(w72.heap.size, z5), (b71, (xC [(x70, s70, c70), ((mkX 15 x1b 0 x1d []), none, 0)])), (b5, (nL 15 x1b 0 x1d (.slice none 0 0))), (b4, (tL x63a x63b x63c x63d)), (b2, (tL x1a x1b x1c x1d)), (w.heap.size, z5)] [(x70, s70), ((mkX 15 x1b 0 x1d []), none), ((mkX 20 [] 0 0 []), none)] j70 op (w72.alloc o5)) := HS.out.newO z5
          refine hK.out _ _ (And.intro (HS.out.c4 (List.mem_cons_of_mem _ (List.mem_cons_of_mem _ (List.mem_cons_of_mem _ (List.mem_cons_of_mem _ List.mem_cons_self))))) (HS.out.c5 (List.mem_cons_of_mem _ (List.mem_cons_of_mem _ List.mem_cons_self)))) (fun hHz => ?_)
          clear hK K hHz
          try simp only [Act.put, List.setIfInBounds_toArray, List.set_cons_zero, List.set_cons_succ]
          obtain ⟨b73, hnb⟩ : ∃ nb, nb = w72.heap.size := ⟨_, rfl⟩
          rw [← hnb] at HS ⊢
          clear hnb
          generalize (w72.alloc o5) = w73 at HS ⊢
          refine wpAnyH_ready (rs := [7]) (by kernel_rfl) (by simp) ?_
          refine AllReadyH.cons rfl (fun K hK => ?_) AllReadyH.nil
          obtain ⟨y74a, y74b, y74c, y74d, y74e⟩ := HS.out.c5 List.mem_cons_self
          obtain ⟨f74a, f74b, f74c, f74d, f74e⟩ := HS.out.f5 List.mem_cons_self
          go_simp
          clear  y74a y74b y74c y74d y74e f74a f74b f74c f74d f74e
          have HS : Hid (St rb ta cap T w [(b73, (nL 30 [] 0 x1d (.slice (some ⟨b71, 0, none⟩) 2 2))), (b71, (xC [(x70, s70, c70), ((mkX 15 x1b 0 x1d []), none, 0)])), (b5, (nL 15 x1b 0 x1d (.slice none 0 0))), (b4, (tL x63a x63b x63c x63d)), (b2, (tL x1a x1b x1c x1d)), (w.heap.size, z5)] [(x70, s70), ((mkX 15 x1b 0 x1d []), none), ((mkX 20 [] 0 0 []), none)] j70 op (((((w73.setCell ⟨b73, 0, none⟩ (.int .i64 30)).setCell ⟨b73, 1, none⟩ (.string (bsA []))).setCell ⟨b73, 2, none⟩ (.int .i64 0)).setCell ⟨b73, 3, none⟩ (.int .i64 x1d)).setCell ⟨b73, 4, none⟩ (.slice (some ⟨b71, 0, none⟩) 2 2))) := St.put [] (St.put [] (St.put [] (St.put [] (St.put [] HS.out 0 (.int .i64 30)) 1 (.string (bsA []))) 2 (.int .i64 0)) 3 (.int .i64 x1d)) 4 (.slice (some ⟨b71, 0, none⟩) 2 2)
          refine hK.out _ _ (And.intro (HS.out.c4 (List.mem_cons_of_mem _ (List.mem_cons_of_mem _ (List.mem_cons_of_mem _ (List.mem_cons_of_mem _ List.mem_cons_self))))) (HS.out.c5 (List.mem_cons_of_mem _ (List.mem_cons_of_mem _ List.mem_cons_self)))) (fun hHz => ?_)
          clear hK K hHz
          try simp only [Act.put, List.setIfInBounds_toArray, List.set_cons_zero, List.set_cons_succ]
          generalize (((((w73.setCell ⟨b73, 0, none⟩ (.int .i64 30)).setCell ⟨b73, 1, none⟩ (.string (bsA []))).setCell ⟨b73, 2, none⟩ (.int .i64 0)).setCell ⟨b73, 3, none⟩ (.int .i64 x1d)).setCell ⟨b73, 4, none⟩ (.slice (some ⟨b71, 0, none⟩) 2 2)) = w75 at HS ⊢
          refine wpAnyH_done (by kernel_rfl) ?_ _
          have HS : Hid (St rb ta cap T w [(b73, (nL 30 [] 0 x1d (.slice (some ⟨b71, 0, none⟩) 2 2))), (b5, (nL 15 x1b 0 x1d (.slice none 0 0))), (b4, (tL x63a x63b x63c x63d)), (b2, (tL x1a x1b x1c x1d)), (w.heap.size, z5)] [((mkX 30 [] 0 x1d [x70, (mkX 15 x1b 0 x1d [])]), (some ⟨b71, 0, none⟩)), (x70, s70), ((mkX 15 x1b 0 x1d []), none), ((mkX 20 [] 0 0 []), none)] j70 op w75) := HS.out.row [(b73, (nL 30 [] 0 x1d (.slice (some ⟨b71, 0, none⟩) 2 2)))] [(x70, s70, c70), ((mkX 15 x1b 0 x1d []), none, 0)] 30 [] 0 x1d (by intro p hp; simp only [List.mem_cons, List.not_mem_nil, or_false] at hp; rcases hp with rfl | rfl <;> simp)
          obtain ⟨y76a, y76b, y76c, y76d⟩ := HS.out.c4 (List.mem_cons_of_mem _ (List.mem_cons_of_mem _ List.mem_cons_self))
          obtain ⟨y77a, y77b, y77c, y77d, y77e⟩ := HS.out.c5 List.mem_cons_self
          obtain ⟨f77a, f77b, f77c, f77d, f77e⟩ := HS.out.f5 List.mem_cons_self
          have HS : Hid (St rb ta cap T w [(b73, (nL 30 x63b 0 x1d (.slice (some ⟨b71, 0, none⟩) 2 2))), (b5, (nL 15 x1b 0 x1d (.slice none 0 0))), (b4, (tL x63a x63b x63c x63d)), (b2, (tL x1a x1b x1c x1d)), (w.heap.size, z5)] [((mkX 30 [] 0 x1d [x70, (mkX 15 x1b 0 x1d [])]), (some ⟨b71, 0, none⟩)), (x70, s70), ((mkX 15 x1b 0 x1d []), none), ((mkX 20 [] 0 0 []), none)] j70 op (w75.setCell ⟨b73, 1, none⟩ (.string (bsA x63b)))) := St.put [] HS.out 1 (.string (bsA x63b))
          obtain ⟨y78a, y78b, y78c, y78d, y78e⟩ := HS.out.c5 List.mem_cons_self
          have HS : Hid (St rb ta cap T w [(b73, (nL 30 x63b 0 x1d (.slice (some ⟨b71, 0, none⟩) 2 2))), (b5, (nL 15 x1b 0 x1d (.slice none 0 0))), (b4, (tL x63a x63b x63c x63d)), (b2, (tL x1a x1b x1c x1d)), (w.heap.size, z5)] [((mkX 30 x63b 0 x1d [x70, (mkX 15 x1b 0 x1d [])]), (some ⟨b71, 0, none⟩)), ((mkX 30 [] 0 x1d [x70, (mkX 15 x1b 0 x1d [])]), (some ⟨b71, 0, none⟩)), (x70, s70), ((mkX 15 x1b 0 x1d []), none), ((mkX 20 [] 0 0 []), none)] j70 op (w75.setCell ⟨b73, 1, none⟩ (.string (bsA x63b)))) := HS.out.head List.mem_cons_self 30 x63b 0 x1d
          obtain ⟨y79a, y79b, y79c, y79d, y79e⟩ := HS.out.c5 List.mem_cons_self
          obtain ⟨⟨d0, d1, d2, d3, d4⟩, ⟨g0, g1, g2, g3, g4⟩, hz⟩ := St.fin5 [(b73, (nL 30 x63b 0 x1d (.slice (some ⟨b71, 0, none⟩) 2 2))), (b5, (nL 15 x1b 0 x1d (.slice none 0 0))), (b4, (tL x63a x63b x63c x63d)), (b2, (tL x1a x1b x1c x1d))] HS.out (v0 := .int .i64 30) (v1 := .string (bsA x63b)) (v2 := .int .i64 0) (v3 := .int .i64 x1d) (v4 := .slice (some ⟨b71, 0, none⟩) 2 2) (c := 2) HL.out List.mem_cons_self (mkX_V' _ _ _ _ _ _ _ _ rfl)
          obtain ⟨⟨z0, z1, z2, z3, z4⟩, HP⟩ := hz _ rfl
          clear hz HS HL
          go_wp2
          refine bodyPost_ret (v := .agg #[.int .i64 30, .string (bsA x63b), .int .i64 0, .int .i64 x1d, .slice (some ⟨b71, 0, none⟩) 2 2]) (by simp [results, Tryz.results162, go_sem, z0, z1, z2, z3, z4]) rfl HP.out
         ·
          go_simp
          have HS : Hid (St rb ta cap T w [(w71.heap.size, z5), (b71, (xC [(x70, s70, c70), ((mkX 15 x1b 0 x1d []), none, 0)])), (b5, (nL 15 x1b 0 x1d (.slice none 0 0))), (b4, (tL x63a x63b x63c x63d)), (b2, (tL x1a x1b x1c x1d)), (w.heap.size, z5)] [(x70, s70), ((mkX 15 x1b 0 x1d []), none), ((mkX 20 [] 0 0 []), none)] j70 op (w71.alloc o5)) := HS.out.newO z5
          refine hK.out _ _ (And.intro (HS.out.c4 (List.mem_cons_of_mem _ (List.mem_cons_of_mem _ (List.mem_cons_of_mem _ (List.mem_cons_of_mem _ List.mem_cons_self))))) (HS.out.c5 (List.mem_cons_of_mem _ (List.mem_cons_of_mem _ List.mem_cons_self)))) (fun hHz => ?_)
          clear hK K hHz
          try simp only [Act.put, List.setIfInBounds_toArray, List.set_cons_zero, List.set_cons_succ]
          obtain ⟨b72, hnb⟩ : ∃ nb, nb = w71.heap.size := ⟨_, rfl⟩
          rw [← hnb] at HS ⊢
          clear hnb
          generalize (w71.alloc o5) = w72 at HS ⊢
          refine wpAnyH_ready (rs := [5]) (by kernel_rfl) (by simp) ?_
          refine AllReadyH.cons rfl (fun K hK => ?_) AllReadyH.nil
          have hc := node_s 30 ((x1a, x1b, x1c), x1d) (some ⟨b71, 0, none⟩) 2 2 w72
          (try unfold ttV at hc)
          (try unfold nV at hc)
          (try dsimp only at hc)
          go_simp
          refine hc.mono ?_
          rintro e w73 ⟨rfl, hb⟩
          have HS : Hid (St rb ta cap T w [(b72, z5), (b71, (xC [(x70, s70, c70), ((mkX 15 x1b 0 x1d []), none, 0)])), (b5, (nL 15 x1b 0 x1d (.slice none 0 0))), (b4, (tL x63a x63b x63c x63d)), (b2, (tL x1a x1b x1c x1d)), (w.heap.size, z5)] [(x70, s70), ((mkX 15 x1b 0 x1d []), none), ((mkX 20 [] 0 0 []), none)] j70 op w73) := HS.out.below hb
          clear hc hb
          refine hK.out _ _ (And.intro (HS.out.c4 (List.mem_cons_of_mem _ (List.mem_cons_of_mem _ (List.mem_cons_of_mem _ (List.mem_cons_of_mem _ List.mem_cons_self))))) (HS.out.c5 (List.mem_cons_of_mem _ (List.mem_cons_of_mem _ List.mem_cons_self)))) (fun hHz => ?_)
          clear hK K hHz
          try simp only [Act.put, List.setIfInBounds_toArray, List.set_cons_zero, List.set_cons_succ]
          refine wpAnyH_ready (rs := [7]) (by kernel_rfl) (by simp) ?_
          refine AllReadyH.cons rfl (fun K hK => ?_) AllReadyH.nil
          obtain ⟨y74a, y74b, y74c, y74d, y74e⟩ := HS.out.c5 List.mem_cons_self
          obtain ⟨f74a, f74b, f74c, f74d, f74e⟩ := HS.out.f5 List.mem_cons_self
          go_simp
          clear  y74a y74b y74c y74d y74e f74a f74b f74c f74d f74e
          have HS : Hid (St rb ta cap T w [(b72, (nL 30 [] 0 x1d (.slice (some ⟨b71, 0, none⟩) 2 2))), (b71, (xC [(x70, s70, c70), ((mkX 15 x1b 0 x1d []), none, 0)])), (b5, (nL 15 x1b 0 x1d (.slice none 0 0))), (b4, (tL x63a x63b x63c x63d)), (b2, (tL x1a x1b x1c x1d)), (w.heap.size, z5)] [(x70, s70), ((mkX 15 x1b 0 x1d []), none), ((mkX 20 [] 0 0 []), none)] j70 op (((((w73.setCell ⟨b72, 0, none⟩ (.int .i64 30)).setCell ⟨b72, 1, none⟩ (.string (bsA []))).setCell ⟨b72, 2, none⟩ (.int .i64 0)).setCell ⟨b72, 3, none⟩ (.int .i64 x1d)).setCell ⟨b72, 4, none⟩ (.slice (some ⟨b71, 0, none⟩) 2 2))) := St.put [] (St.put [] (St.put [] (St.put [] (St.put [] HS.out 0 (.int .i64 30)) 1 (.string (bsA []))) 2 (.int .i64 0)) 3 (.int .i64 x1d)) 4 (.slice (some ⟨b71, 0, none⟩) 2 2)
          refine hK.out _ _ (And.intro (HS.out.c4 (List.mem_cons_of_mem _ (List.mem_cons_of_mem _ (List.mem_cons_of_mem _ (List.mem_cons_of_mem _ List.mem_cons_self))))) (HS.out.c5 (List.mem_cons_of_mem _ (List.mem_cons_of_mem _ List.mem_cons_self)))) (fun hHz => ?_)
          clear hK K hHz
          try simp only [Act.put, List.setIfInBounds_toArray, List.set_cons_zero, List.set_cons_succ]
          generalize (((((w73.setCell ⟨b72, 0, none⟩ (.int .i64 30)).setCell ⟨b72, 1, none⟩ (.string (bsA []))).setCell ⟨b72, 2, none⟩ (.int .i64 0)).setCell ⟨b72, 3, none⟩ (.int .i64 x1d)).setCell ⟨b72, 4, none⟩ (.slice (some ⟨b71, 0, none⟩) 2 2)) = w75 at HS ⊢
          refine wpAnyH_done (by kernel_rfl) ?_ _
          have HS : Hid (St rb ta cap T w [(b72, (nL 30 [] 0 x1d (.slice (some ⟨b71, 0, none⟩) 2 2))), (b5, (nL 15 x1b 0 x1d (.slice none 0 0))), (b4, (tL x63a x63b x63c x63d)), (b2, (tL x1a x1b x1c x1d)), (w.heap.size, z5)] [((mkX 30 [] 0 x1d [x70, (mkX 15 x1b 0 x1d [])]), (some ⟨b71, 0, none⟩)), (x70, s70), ((mkX 15 x1b 0 x1d []), none), ((mkX 20 [] 0 0 []), none)] j70 op w75) := HS.out.row [(b72, (nL 30 [] 0 x1d (.slice (some ⟨b71, 0, none⟩) 2 2)))] [(x70, s70, c70), ((mkX 15 x1b 0 x1d []), none, 0)] 30 [] 0 x1d (by intro p hp; simp only [List.mem_cons, List.not_mem_nil, or_false] at hp; rcases hp with rfl | rfl <;> simp)
          obtain ⟨y76a, y76b, y76c, y76d⟩ := HS.out.c4 (List.mem_cons_of_mem _ (List.mem_cons_of_mem _ List.mem_cons_self))
          obtain ⟨y77a, y77b, y77c, y77d, y77e⟩ := HS.out.c5 List.mem_cons_self
          obtain ⟨f77a, f77b, f77c, f77d, f77e⟩ := HS.out.f5 List.mem_cons_self
          have HS : Hid (St rb ta cap T w [(b72, (nL 30 x63b 0 x1d (.slice (some ⟨b71, 0, none⟩) 2 2))), (b5, (nL 15 x1b 0 x1d (.slice none 0 0))), (b4, (tL x63a x63b x63c x63d)), (b2, (tL x1a x1b x1c x1d)), (w.heap.size, z5)] [((mkX 30 [] 0 x1d [x70, (mkX 15 x1b 0 x1d [])]), (some ⟨b71, 0, none⟩)), (x70, s70), ((mkX 15 x1b 0 x1d []), none), ((mkX 20 [] 0 0 []), none)] j70 op (w75.setCell ⟨b72, 1, none⟩ (.string (bsA x63b)))) := St.put [] HS.out 1 (.string (bsA x63b))
          obtain ⟨y78a, y78b, y78c, y78d, y78e⟩ := HS.out.c5 List.mem_cons_self
          have HS : Hid (St rb ta cap T w [(b72, (nL 30 x63b 0 x1d (.slice (some ⟨b71, 0, none⟩) 2 2))), (b5, (nL 15 x1b 0 x1d (.slice none 0 0))), (b4, (tL x63a x63b x63c x63d)), (b2, (tL x1a x1b x1c x1d)), (w.heap.size, z5)] [((mkX 30 x63b 0 x1d [x70, (mkX 15 x1b 0 x1d [])]), (some ⟨b71, 0, none⟩)), ((mkX 30 [] 0 x1d [x70, (mkX 15 x1b 0 x1d [])]), (some ⟨b71, 0, none⟩)), (x70, s70), ((mkX 15 x1b 0 x1d []), none), ((mkX 20 [] 0 0 []), none)] j70 op (w75.setCell ⟨b72, 1, none⟩ (.string (bsA x63b)))) := HS.out.head List.mem_cons_self 30 x63b 0 x1d
          obtain ⟨y79a, y79b, y79c, y79d, y79e⟩ := HS.out.c5 List.mem_cons_self
          obtain ⟨⟨d0, d1, d2, d3, d4⟩, ⟨g0, g1, g2, g3, g4⟩, hz⟩ := St.fin5 [(b72, (nL 30 x63b 0 x1d (.slice (some ⟨b71, 0, none⟩) 2 2))), (b5, (nL 15 x1b 0 x1d (.slice none 0 0))), (b4, (tL x63a x63b x63c x63d)), (b2, (tL x1a x1b x1c x1d))] HS.out (v0 := .int .i64 30) (v1 := .string (bsA x63b)) (v2 := .int .i64 0) (v3 := .int .i64 x1d) (v4 := .slice (some ⟨b71, 0, none⟩) 2 2) (c := 2) HL.out List.mem_cons_self (mkX_V' _ _ _ _ _ _ _ _ rfl)
          obtain ⟨⟨z0, z1, z2, z3, z4⟩, HP⟩ := hz _ rfl
          clear hz HS HL
          go_wp2
          refine bodyPost_ret (v := .agg #[.int .i64 30, .string (bsA x63b), .int .i64 0, .int .i64 x1d, .slice (some ⟨b71, 0, none⟩) 2 2]) (by simp [results, Tryz.results162, go_sem, z0, z1, z2, z3, z4]) rfl HP.out
        ·
         go_simp
         have HS : Hid (St rb ta cap T w [(w70.heap.size, z5), (b5, (nL 15 x1b 0 x1d (.slice none 0 0))), (b4, (tL x63a x63b x63c x63d)), (b2, (tL x1a x1b x1c x1d)), (w.heap.size, z5)] [(x70, s70), ((mkX 15 x1b 0 x1d []), none), ((mkX 20 [] 0 0 []), none)] j70 op (w70.alloc o5)) := HS.out.newO z5
         refine hK.out _ _ (And.intro (HS.out.c4 (List.mem_cons_of_mem _ (List.mem_cons_of_mem _ (List.mem_cons_of_mem _ List.mem_cons_self)))) (HS.out.c5 (List.mem_cons_of_mem _ List.mem_cons_self))) (fun hHz => ?_)
         clear hK K hHz
         try simp only [Act.put, List.setIfInBounds_toArray, List.set_cons_zero, List.set_cons_succ]
         obtain ⟨b71, hnb⟩ : ∃ nb, nb = w70.heap.size := ⟨_, rfl⟩
         rw [← hnb] at HS ⊢
         clear hnb
         generalize (w70.alloc o5) = w71 at HS ⊢
         refine wpAnyH_ready (rs := [4]) (by kernel_rfl) (by simp) ?_
         refine AllReadyH.cons rfl (fun K hK => ?_) AllReadyH.nil
         go_simp
         have HS : Hid (St rb ta cap T w [(w71.heap.size, (xC [(x70, s70, c70), ((mkX 15 x1b 0 x1d []), none, 0)])), (b71, z5), (b5, (nL 15 x1b 0 x1d (.slice none 0 0))), (b4, (tL x63a x63b x63c x63d)), (b2, (tL x1a x1b x1c x1d)), (w.heap.size, z5)] [(x70, s70), ((mkX 15 x1b 0 x1d []), none), ((mkX 20 [] 0 0 []), none)] j70 op (w71.alloc (.cells #[.int .i64 (xk x70), .string (bsA (xt x70)), .int .i64 (xn x70), .int .i64 (xa x70), .slice s70 (xl x70) c70, .int .i64 15, .string (bsA x1b), .int .i64 0, .int .i64 x1d, .slice none 0 0] 34))) := HS.out.newO (xC [(x70, s70, c70), ((mkX 15 x1b 0 x1d []), none, 0)])
         refine hK.out _ _ (And.intro (HS.out.c4 (List.mem_cons_of_mem _ (List.mem_cons_of_mem _ (List.mem_cons_of_mem _ (List.mem_cons_of_mem _ List.mem_cons_self))))) (HS.out.c5 (List.mem_cons_of_mem _ (List.mem_cons_of_mem _ List.mem_cons_self)))) (fun hHz => ?_)
         clear hK K hHz
         try simp only [Act.put, List.setIfInBounds_toArray, List.set_cons_zero, List.set_cons_succ]
         obtain ⟨b72, hnb⟩ : ∃ nb, nb = w71.heap.size := ⟨_, rfl⟩
         rw [← hnb] at HS ⊢
         clear hnb
         generalize (w71.alloc (.cells #[.int .i64 (xk x70), .string (bsA (xt x70)), .int .i64 (xn x70), .int .i64 (xa x70), .slice s70 (xl x70) c70, .int .i64 15, .string (bsA x1b), .int .i64 0, .int .i64 x1d, .slice none 0 0] 34)) = w72 at HS ⊢
         refine wpAnyH_ready (rs := [5]) (by kernel_rfl) (by simp) ?_
         refine AllReadyH.cons rfl (fun K hK => ?_) AllReadyH.nil
         have hc := node_s 30 ((x1a, x1b, x1c), x1d) (some ⟨b72, 0, none⟩) 2 2 w72
         (try unfold ttV at hc)
         (try unfold nV at hc)
         (try dsimp only at hc)
         go_simp
         refine hc.mono ?_
         rintro e w73 ⟨rfl, hb⟩
         have HS : Hid (St rb ta cap T w [(b72, (xC [(x70, s70, c70), ((mkX 15 x1b 0 x1d []), none, 0)])), (b71, z5), (b5, (nL 15 x1b 0 x1d (.slice none 0 0))), (b4, (tL x63a x63b x63c x63d)), (b2, (tL x1a x1b x1c x1d)), (w.heap.size, z5)] [(x70, s70), ((mkX 15 x1b 0 x1d []), none), ((mkX 20 [] 0 0 []), none)] j70 op w73) := HS.out.below hb
         clear hc hb
         refine hK.out _ _ (And.intro (HS.out.c4 (List.mem_cons_of_mem _ (List.mem_cons_of_mem _ (List.mem_cons_of_mem _ (List.mem_cons_of_mem _ List.mem_cons_self))))) (HS.out.c5 (List.mem_cons_of_mem _ (List.mem_cons_of_mem _ List.mem_cons_self)))) (fun hHz => ?_)
         clear hK K hHz
         try simp only [Act.put, List.setIfInBounds_toArray, List.set_cons_zero, List.set_cons_succ]
         refine wpAnyH_ready (rs := [7]) (by kernel_rfl) (by simp) ?_
         refine AllReadyH.cons rfl (fun K hK => ?_) AllReadyH.nil
         obtain ⟨y74a, y74b, y74c, y74d, y74e⟩ := HS.out.c5 (List.mem_cons_of_mem _ List.mem_cons_self)
         obtain ⟨f74a, f74b, f74c, f74d, f74e⟩ := HS.out.f5 (List.mem_cons_of_mem _ List.mem_cons_self)
         go_simp
         clear  y74a y74b y74c y74d y74e f74a f74b f74c f74d f74e
         have HS : Hid (St rb ta cap T w [(b72, (xC [(x70, s70, c70), ((mkX 15 x1b 0 x1d []), none, 0)])), (b71, (nL 30 [] 0 x1d (.slice (some ⟨b72, 0, none⟩) 2 2))), (b5, (nL 15 x1b 0 x1d (.slice none 0 0))), (b4, (tL x63a x63b x63c x63d)), (b2, (tL x1a x1b x1c x1d)), (w.heap.size, z5)] [(x70, s70), ((mkX 15 x1b 0 x1d []), none), ((mkX 20 [] 0 0 []), none)] j70 op (((((w73.setCell ⟨b71, 0, none⟩ (.int .i64 30)).setCell ⟨b71, 1, none⟩ (.string (bsA []))).setCell ⟨b71, 2, none⟩ (.int .i64 0)).setCell ⟨b71, 3, none⟩ (.int .i64 x1d)).setCell ⟨b71, 4, none⟩ (.slice (some ⟨b72, 0, none⟩) 2 2))) := St.put [(b72, (xC [(x70, s70, c70), ((mkX 15 x1b 0 x1d []), none, 0)]))] (St.put [(b72, (xC [(x70, s70, c70), ((mkX 15 x1b 0 x1d []), none, 0)]))] (St.put [(b72, (xC [(x70, s70, c70), ((mkX 15 x1b 0 x1d []), none, 0)]))] (St.put [(b72, (xC [(x70, s70, c70), ((mkX 15 x1b 0 x1d []), none, 0)]))] (St.put [(b72, (xC [(x70, s70, c70), ((mkX 15 x1b 0 x1d []), none, 0)]))] HS.out 0 (.int .i64 30)) 1 (.string (bsA []))) 2 (.int .i64 0)) 3 (.int .i64 x1d)) 4 (.slice (some ⟨b72, 0, none⟩) 2 2)
         refine hK.out _ _ (And.intro (HS.out.c4 (List.mem_cons_of_mem _ (List.mem_cons_of_mem _ (List.mem_cons_of_mem _ (List.mem_cons_of_mem _ List.mem_cons_self))))) (HS.out.c5 (List.mem_cons_of_mem _ (List.mem_cons_of_mem _ List.mem_cons_self)))) (fun hHz => ?_)
         clear hK K hHz
         try simp only [Act.put, List.setIfInBounds_toArray, List.set_cons_zero, List.set_cons_succ]
         generalize (((((w73.setCell ⟨b71, 0, none⟩ (.int .i64 30)).setCell ⟨b71, 1, none⟩ (.string (bsA []))).setCell ⟨b71, 2, none⟩ (.int .i64 0)).setCell ⟨b71, 3, none⟩ (.int .i64 x1d)).setCell ⟨b71, 4, none⟩ (.slice (some ⟨b72, 0, none⟩) 2 2)) = w75 at HS ⊢
         refine wpAnyH_done (by kernel_rfl) ?_ _
         have HS : Hid (St rb ta cap T w [(b71, (nL 30 [] 0 x1d (.slice (some ⟨b72, 0, none⟩) 2 2))), (b5, (nL 15 x1b 0 x1d (.slice none 0 0))), (b4, (tL x63a x63b x63c x63d)), (b2, (tL x1a x1b x1c x1d)), (w.heap.size, z5)] [((mkX 30 [] 0 x1d [x70, (mkX 15 x1b 0 x1d [])]), (some ⟨b72, 0, none⟩)), (x70, s70), ((mkX 15 x1b 0 x1d []), none), ((mkX 20 [] 0 0 []), none)] j70 op w75) := HS.out.row [] [(x70, s70, c70), ((mkX 15 x1b 0 x1d []), none, 0)] 30 [] 0 x1d (by intro p hp; simp only [List.mem_cons, List.not_mem_nil, or_false] at hp; rcases hp with rfl | rfl <;> simp)
         obtain ⟨y76a, y76b, y76c, y76d⟩ := HS.out.c4 (List.mem_cons_of_mem _ (List.mem_cons_of_mem _ List.mem_cons_self))
         obtain ⟨y77a, y77b, y77c, y77d, y77e⟩ := HS.out.c5 List.mem_cons_self
         obtain ⟨f77a, f77b, f77c, f77d, f77e⟩ := HS.out.f5 List.mem_cons_self
         have HS : Hid (St rb ta cap T w [(b71, (nL 30 x63b 0 x1d (.slice (some ⟨b72, 0, none⟩) 2 2))), (b5, (nL 15 x1b 0 x1d (.slice none 0 0))), (b4, (tL x63a x63b x63c x63d)), (b2, (tL x1a x1b x1c x1d)), (w.heap.size, z5)] [((mkX 30 [] 0 x1d [x70, (mkX 15 x1b 0 x1d [])]), (some ⟨b72, 0, none⟩)), (x70, s70), ((mkX 15 x1b 0 x1d []), none), ((mkX 20 [] 0 0 []), none)] j70 op (w75.setCell ⟨b71, 1, none⟩ (.string (bsA x63b)))) := St.put [] HS.out 1 (.string (bsA x63b))
         obtain ⟨y78a, y78b, y78c, y78d, y78e⟩ := HS.out.c5 List.mem_cons_self
         have HS : Hid (St rb ta cap T w [(b71, (nL 30 x63b 0 x1d (.slice (some ⟨b72, 0, none⟩) 2 2))), (b5, (nL 15 x1b 0 x1d (.slice none 0 0))), (b4, (tL x63a x63b x63c x63d)), (b2, (tL x1a x1b x1c x1d)), (w.heap.size, z5)] [((mkX 30 x63b 0 x1d [x70, (mkX 15 x1b 0 x1d [])]), (some ⟨b72, 0, none⟩)), ((mkX 30 [] 0 x1d [x70, (mkX 15 x1b 0 x1d [])]), (some ⟨b72, 0, none⟩)), (x70, s70), ((mkX 15 x1b 0 x1d []), none), ((mkX 20 [] 0 0 []), none)] j70 op (w75.setCell ⟨b71, 1, none⟩ (.string (bsA x63b)))) := HS.out.head List.mem_cons_self 30 x63b 0 x1d
         obtain ⟨y79a, y79b, y79c, y79d, y79e⟩ := HS.out.c5 List.mem_cons_self
         obtain ⟨⟨d0, d1, d2, d3, d4⟩, ⟨g0, g1, g2, g3, g4⟩, hz⟩ := St.fin5 [(b71, (nL 30 x63b 0 x1d (.slice (some ⟨b72, 0, none⟩) 2 2))), (b5, (nL 15 x1b 0 x1d (.slice none 0 0))), (b4, (tL x63a x63b x63c x63d)), (b2, (tL x1a x1b x1c x1d))] HS.out (v0 := .int .i64 30) (v1 := .string (bsA x63b)) (v2 := .int .i64 0) (v3 := .int .i64 x1d) (v4 := .slice (some ⟨b72, 0, none⟩) 2 2) (c := 2) HL.out List.mem_cons_self (mkX_V' _ _ _ _ _ _ _ _ rfl)
         obtain ⟨⟨z0, z1, z2, z3, z4⟩, HP⟩ := hz _ rfl
         clear hz HS HL
         go_wp2
         refine bodyPost_ret (v := .agg #[.int .i64 30, .string (bsA x63b), .int .i64 0, .int .i64 x1d, .slice (some ⟨b72, 0, none⟩) 2 2]) (by simp [results, Tryz.results162, go_sem, z0, z1, z2, z3, z4]) rfl HP.out
      ·
       go_simp
       have HS : Hid (St rb ta cap T w [(w69.heap.size, z5), (b5, (nL 15 x1b 0 x1d (.slice none 0 0))), (b4, (tL x63a x63b x63c x63d)), (b2, (tL x1a x1b x1c x1d)), (w.heap.size, z5)] [((mkX 15 x1b 0 x1d []), none), ((mkX 20 [] 0 0 []), none)] j63 op (w69.alloc o5)) := HS.out.newO z5
       refine hK.out _ _ (And.intro (HS.out.c4 (List.mem_cons_of_mem _ (List.mem_cons_of_mem _ (List.mem_cons_of_mem _ List.mem_cons_self)))) (HS.out.c5 (List.mem_cons_of_mem _ List.mem_cons_self))) (fun hHz => ?_)
       clear hK K hHz
       try simp only [Act.put, List.setIfInBounds_toArray, List.set_cons_zero, List.set_cons_succ]
       obtain ⟨b70, hnb⟩ : ∃ nb, nb = w69.heap.size := ⟨_, rfl⟩
       rw [← hnb] at HS ⊢
       clear hnb
       generalize (w69.alloc o5) = w70 at HS ⊢
       refine wpAnyH_ready (rs := [2]) (by kernel_rfl) (by simp) ?_
       refine AllReadyH.cons rfl (fun K hK => ?_) AllReadyH.nil
       obtain ⟨r1, e1, hl⟩ := bnd_some HL.out
       have HL : Hid _ := hl
       have hc := filter_s rb ta cap T E hE j63 op _ r1 hop HS.out.rdr e1
       (try unfold ptr at hc)
       clear e1 hl
       go_simp
       refine hc.mono ?_
       intro e w71 hpost
       clear hc
       cases r1 with
       | inl q =>
        obtain ⟨hG, HP⟩ := HS.out.bad2 (V := VX) (op' := op) HL.out hpost
        unfold GUs at hG
        subst hG
        clear hpost
        exact ⟨rfl, HP.out⟩
       | inr q =>
        obtain ⟨x71, j71⟩ := q
        obtain ⟨s71, c71, rfl, HS⟩ := HS.out.okX hpost
        unfold xV nV
        have hl := HL.out
        rw [bnd_ok] at hl
        (try dsimp only at hl)
        have HL : Hid _ := hl
        clear hl hpost
        refine hK.out _ _ (And.intro (HS.out.c4 (List.mem_cons_of_mem _ (List.mem_cons_of_mem _ (List.mem_cons_of_mem _ List.mem_cons_self)))) (HS.out.c5 (List.mem_cons_of_mem _ List.mem_cons_self))) (fun hHz => ?_)
        clear hK K hHz
        try simp only [Act.put, List.setIfInBounds_toArray, List.set_cons_zero, List.set_cons_succ]
        refine wpAnyH_ready (rs := [4]) (by kernel_rfl) (by simp) ?_
        refine AllReadyH.cons rfl (fun K hK => ?_) AllReadyH.nil
        go_simp
        have HS : Hid (St rb ta cap T w [(w71.heap.size, (xC [(x71, s71, c71), ((mkX 15 x1b 0 x1d []), none, 0)])), (b70, z5), (b5, (nL 15 x1b 0 x1d (.slice none 0 0))), (b4, (tL x63a x63b x63c x63d)), (b2, (tL x1a x1b x1c x1d)), (w.heap.size, z5)] [(x71, s71), ((mkX 15 x1b 0 x1d []), none), ((mkX 20 [] 0 0 []), none)] j71 op (w71.alloc (.cells #[.int .i64 (xk x71), .string (bsA (xt x71)), .int .i64 (xn x71), .int .i64 (xa x71), .slice s71 (xl x71) c71, .int .i64 15, .string (bsA x1b), .int .i64 0, .int .i64 x1d, .slice none 0 0] 34))) := HS.out.newO (xC [(x71, s71, c71), ((mkX 15 x1b 0 x1d []), none, 0)])
        refine hK.out _ _ (And.intro (HS.out.c4 (List.mem_cons_of_mem _ (List.mem_cons_of_mem _ (List.mem_cons_of_mem _ (List.mem_cons_of_mem _ List.mem_cons_self))))) (HS.out.c5 (List.mem_cons_of_mem _ (List.mem_cons_of_mem _ List.mem_cons_self)))) (fun hHz => ?_)
        clear hK K hHz
        try simp only [Act.put, List.setIfInBounds_toArray, List.set_cons_zero, List.set_cons_succ]
        obtain ⟨b72, hnb⟩ : ∃ nb, nb = w71.heap.size := ⟨_, rfl⟩
        rw [← hnb] at HS ⊢
        clear hnb
        generalize (w71.alloc (.cells #[.int .i64 (xk x71), .string (bsA (xt x71)), .int .i64 (xn x71), .int .i64 (xa x71), .slice s71 (xl x71) c71, .int .i64 15, .string (bsA x1b), .int .i64 0, .int .i64 x1d, .slice none 0 0] 34)) = w72 at HS ⊢
        refine wpAnyH_ready (rs := [5]) (by kernel_rfl) (by simp) ?_
        refine AllReadyH.cons rfl (fun K hK => ?_) AllReadyH.nil
        have hc := node_s 30 ((x1a, x1b, x1c), x1d) (some ⟨b72, 0, none⟩) 2 2 w72
        (try unfold ttV at hc)
        (try unfold nV at hc)
        (try dsimp only at hc)
        go_simp
        refine hc.mono ?_
        rintro e w73 ⟨rfl, hb⟩
        have HS : Hid (St rb ta cap T w [(b72, (xC [(x71, s71, c71), ((mkX 15 x1b 0 x1d []), none, 0)])), (b70, z5), (b5, (nL 15 x1b 0 x1d (.slice none 0 0))), (b4, (tL x63a x63b x63c x63d)), (b2, (tL x1a x1b x1c x1d)), (w.heap.size, z5)] [(x71, s71), ((mkX 15 x1b 0 x1d []), none), ((mkX 20 [] 0 0 []), none)] j71 op w73) := HS.out.below hb
        clear hc hb
        refine hK.out _ _ (And.intro (HS.out.c4 (List.mem_cons_of_mem _ (List.mem_cons_of_mem _ (List.mem_cons_of_mem _ (List.mem_cons_of_mem _ List.mem_cons_self))))) (HS.out.c5 (List.mem_cons_of_mem _ (List.mem_cons_of_mem _ List.mem_cons_self)))) (fun hHz => ?_)
        clear hK K hHz
        try simp only [Act.put, List.setIfInBounds_toArray, List.set_cons_zero, List.set_cons_succ]
        refine wpAnyH_ready (rs := [7]) (by kernel_rfl) (by simp) ?_
        refine AllReadyH.cons rfl (fun K hK => ?_) AllReadyH.nil
        obtain ⟨y74a, y74b, y74c, y74d, y74e⟩ := HS.out.c5 (List.mem_cons_of_mem _ List.mem_cons_self)
        obtain ⟨f74a, f74b, f74c, f74d, f74e⟩ := HS.out.f5 (List.mem_cons_of_mem _ List.mem_cons_self)
        go_simp
        clear  y74a y74b y74c y74d y74e f74a f74b f74c f74d f74e
        have HS : Hid (St rb ta cap T w [(b72, (xC [(x71, s71, c71), ((mkX 15 x1b 0 x1d []), none, 0)])), (b70, (nL 30 [] 0 x1d (.slice (some ⟨b72, 0, none⟩) 2 2))), (b5, (nL 15 x1b 0 x1d (.slice none 0 0))), (b4, (tL x63a x63b x63c x63d)), (b2, (tL x1a x1b x1c x1d)), (w.heap.size, z5)] [(x71, s71), ((mkX 15 x1b 0 x1d []), none), ((mkX 20 [] 0 0 []), none)] j71 op (((((w73.setCell ⟨b70, 0, none⟩ (.int .i64 30)).setCell ⟨b70, 1, none⟩ (.string (bsA []))).setCell ⟨b70, 2, none⟩ (.int .i64 0)).setCell ⟨b70, 3, none⟩ (.int .i64 x1d)).setCell ⟨b70, 4, none⟩ (.slice (some ⟨b72, 0, none⟩) 2 2))) := St.put [(b72, (xC [(x71, s71, c71), ((mkX 15 x1b 0 x1d []), none, 0)]))] (St.put [(b72, (xC [(x71, s71, c71), ((mkX 15 x1b 0 x1d []), none, 0)]))] (St.put [(b72, (xC [(x71, s71, c71), ((mkX 15 x1b 0 x1d []), none, 0)]))] (St.put [(b72, (xC [(x71, s71, c71), ((mkX 15 x1b 0 x1d []), none, 0)]))] (St.put [(b72, (xC [(x71, s71, c71), ((mkX 15 x1b 0 x1d []), none, 0)]))] HS.out 0 (.int .i64 30)) 1 (.string (bsA []))) 2 (.int .i64 0)) 3 (.int .i64 x1d)) 4 (.slice (some ⟨b72, 0, none⟩) 2 2)
        refine hK.out _ _ (And.intro (HS.out.c4 (List.mem_cons_of_mem _ (List.mem_cons_of_mem _ (List.mem_cons_of_mem _ (List.mem_cons_of_mem _ List.mem_cons_self))))) (HS.out.c5 (List.mem_cons_of_mem _ (List.mem_cons_of_mem _ List.mem_cons_self)))) (fun hHz => ?_)
        clear hK K hHz
        try simp only [Act.put, List.setIfInBounds_toArray, List.set_cons_zero, List.set_cons_succ]
        generalize (((((w73.setCell ⟨b70, 0, none⟩ (.int .i64 30)).setCell ⟨b70, 1, none⟩ (.string (bsA []))).setCell ⟨b70, 2, none⟩ (.int .i64 0)).setCell ⟨b70, 3, none⟩ (.int .i64 x1d)).setCell ⟨b70, 4, none⟩ (.slice (some ⟨b72, 0, none⟩) 2 2)) = w75 at HS ⊢
        refine wpAnyH_done (by kernel_rfl) ?_ _
        have HS : Hid (St rb ta cap T w [(b70, (nL 30 [] 0 x1d (.slice (some ⟨b72, 0, none⟩) 2 2))), (b5, (nL 15 x1b 0 x1d (.slice none 0 0))), (b4, (tL x63a x63b x63c x63d)), (b2, (tL x1a x1b x1c x1d)), (w.heap.size, z5)] [((mkX 30 [] 0 x1d [x71, (mkX 15 x1b 0 x1d [])]), (some ⟨b72, 0, none⟩)), (x71, s71), ((mkX 15 x1b 0 x1d []), none), ((mkX 20 [] 0 0 []), none)] j71 op w75) := HS.out.row [] [(x71, s71, c71), ((mkX 15 x1b 0 x1d []), none, 0)] 30 [] 0 x1d (by intro p hp; simp only [List.mem_cons, List.not_mem_nil, or_false] at hp; rcases hp with rfl | rfl <;> simp)
        obtain ⟨y76a, y76b, y76c, y76d⟩ := HS.out.c4 (List.mem_cons_of_mem _ (List.mem_cons_of_mem _ List.mem_cons_self))
        obtain ⟨y77a, y77b, y77c, y77d, y77e⟩ := HS.out.c5 List.mem_cons_self
        obtain ⟨f77a, f77b, f77c, f77d, f77e⟩ := HS.out.f5 List.mem_cons_self
        have HS : Hid (St rb ta cap T w [(b70, (nL 30 x63b 0 x1d (.slice (some ⟨b72, 0, none⟩) 2 2))), (b5, (nL 15 x1b 0 x1d (.slice none 0 0))), (b4, (tL x63a x63b x63c x63d)), (b2, (tL x1a x1b x1c x1d)), (w.heap.size, z5)] [((mkX 30 [] 0 x1d [x71, (mkX 15 x1b 0 x1d [])]), (some ⟨b72, 0, none⟩)), (x71, s71), ((mkX 15 x1b 0 x1d []), none), ((mkX 20 [] 0 0 []), none)] j71 op (w75.setCell ⟨b70, 1, none⟩ (.string (bsA x63b)))) := St.put [] HS.out 1 (.string (bsA x63b))
        obtain ⟨y78a, y78b, y78c, y78d, y78e⟩ := HS.out.c5 List.mem_cons_self
        have HS : Hid (St rb ta cap T w [(b70, (nL 30 x63b 0 x1d (.slice (some ⟨b72, 0, none⟩) 2 2))), (b5, (nL 15 x1b 0 x1d (.slice none 0 0))), (b4, (tL x63a x63b x63c x63d)), (b2, (tL x1a x1b x1c x1d)), (w.heap.size, z5)] [((mkX 30 x63b 0 x1d [x71, (mkX 15 x1b 0 x1d [])]), (some ⟨b72, 0, none⟩)), ((mkX 30 [] 0 x1d [x71, (mkX 15 x1b 0 x1d [])]), (some ⟨b72, 0, none⟩)), (x71, s71), ((mkX 15 x1b 0 x1d []), none), ((mkX 20 [] 0 0 []), none)] j71 op (w75.setCell ⟨b70, 1, none⟩ (.string (bsA x63b)))) := HS.out.head List.mem_cons_self 30 x63b 0 x1d
        obtain ⟨y79a, y79b, y79c, y79d, y79e⟩ := HS.out.c5 List.mem_cons_self
        obtain ⟨⟨d0, d1, d2, d3, d4⟩, ⟨g0, g1, g2, g3, g4⟩, hz⟩ := St.fin5 [(b70, (nL 30 x63b 0 x1d (.slice (some ⟨b72, 0, none⟩) 2 2))), (b5, (nL 15 x1b 0 x1d (.slice none 0 0))), (b4, (tL x63a x63b x63c x63d)), (b2, (tL x1a x1b x1c x1d))] HS.out (v0 := .int .i64 30) (v1 := .string (bsA x63b)) (v2 := .int .i64 0) (v3 := .int .i64 x1d) (v4 := .slice (some ⟨b72, 0, none⟩) 2 2) (c := 2) HL.out List.mem_cons_self (mkX_V' _ _ _ _ _ _ _ _ rfl)
        obtain ⟨⟨z0, z1, z2, z3, z4⟩, HP⟩ := hz _ rfl
        clear hz HS HL
        go_wp2
        refine bodyPost_ret (v := .agg #[.int .i64 30, .string (bsA x63b), .int .i64 0, .int .i64 x1d, .slice (some ⟨b72, 0, none⟩) 2 2]) (by simp [results, Tryz.results162, go_sem, z0, z1, z2, z3, z4]) rfl HP.out
    | false =>
     have hl := HL.out
     simp only [if_true, if_false, Bool.false_eq_true] at hl
     have HL : Hid _ := hl
     clear hl
     go_wp2_with fail
     have HS : Hid (St rb ta cap T w [(b5, (nL 20 [] 0 0 (.slice none 0 0))), (b4, (tL x1a x1b x1c x1d)), (b2, (tL x1a x1b x1c x1d)), (w.heap.size, z5)] [((mkX 20 [] 0 0 []), none)] j61 op w61.drew) := HS.out.drew
     refine wp_region_held_drew (S := (fun wS => (wS.cell? ⟨b2, 0, none⟩ = some (.int .i64 x1a) ∧ wS.cell? ⟨b2, 1, none⟩ = some (.string (bsA x1b)) ∧ wS.cell? ⟨b2, 2, none⟩ = some (.int .i64 x1c) ∧ wS.cell? ⟨b2, 3, none⟩ = some (.int .i64 x1d)) ∧ (wS.cell? ⟨b5, 0, none⟩ = some (.int .i64 20) ∧ wS.cell? ⟨b5, 1, none⟩ = some (.string (bsA [])) ∧ wS.cell? ⟨b5, 2, none⟩ = some (.int .i64 0) ∧ wS.cell? ⟨b5, 3, none⟩ = some (.int .i64 0) ∧ wS.cell? ⟨b5, 4, none⟩ = some (.slice none 0 0)))) (by kernel_rfl) (And.intro (HS.out.c4 (List.mem_cons_of_mem _ (List.mem_cons_of_mem _ List.mem_cons_self))) (HS.out.c5 List.mem_cons_self)) (fun hHeld => ?_)
     generalize w61.drew = w62 at HS ⊢
     refine tk 0 (some 17) (v := ?_) rfl ?_ ?_ (hS := And.intro (HS.out.c4 (List.mem_cons_of_mem _ (List.mem_cons_of_mem _ List.mem_cons_self))) (HS.out.c5 List.mem_cons_self))
     rotate_left
     · intro wS hSw; (try dsimp only at hSw); obtain ⟨⟨y1, y2, y3, y4⟩, _⟩ := hSw; go_simp; (try with_reducible rfl)
     try simp only [Act.put, List.setIfInBounds_toArray, List.set_cons_zero, List.set_cons_succ]
     refine tk 1 (some 18) (v := ?_) rfl ?_ ?_ (hS := And.intro (HS.out.c4 (List.mem_cons_of_mem _ (List.mem_cons_of_mem _ List.mem_cons_self))) (HS.out.c5 List.mem_cons_self))
     rotate_left
     · intro wS hSw; (try dsimp only at hSw); go_simp; (try with_reducible rfl)
     try simp only [Act.put, List.setIfInBounds_toArray, List.set_cons_zero, List.set_cons_succ]
     refine tk 3 (some 20) (v := ?_) rfl ?_ ?_ (hS := And.intro (HS.out.c4 (List.mem_cons_of_mem _ (List.mem_cons_of_mem _ List.mem_cons_self))) (HS.out.c5 List.mem_cons_self))
     rotate_left
     · intro wS hSw; (try dsimp only at hSw); obtain ⟨_, ⟨y1, y2, y3, y4, y5⟩⟩ := hSw; go_simp; (try with_reducible rfl)
     try simp only [Act.put, List.setIfInBounds_toArray, List.set_cons_zero, List.set_cons_succ]
     refine wpAnyH_ready (rs := [2, 6]) (by kernel_rfl) (by simp) ?_
     refine AllReadyH.cons rfl (fun K hK => ?_) (AllReadyH.cons rfl (fun K hK => ?_) AllReadyH.nil)
     ·
      obtain ⟨r1, e1, hl⟩ := bnd_some HL.out
      have HL : Hid _ := hl
      have hc := filter_s rb ta cap T E hE j61 op _ r1 hop HS.out.rdr e1
      (try unfold ptr at hc)
      clear e1 hl
      go_simp
      refine hc.mono ?_
      intro e w63 hpost
      clear hc
      cases r1 with
      | inl q =>
       obtain ⟨hG, HP⟩ := HS.out.bad2 (V := VX) (op' := op) HL.out hpost
       unfold GUs at hG
       subst hG
       clear hpost
       exact ⟨rfl, HP.out⟩
      | inr q =>
       obtain ⟨x63, j63⟩ := q
       obtain ⟨s63, c63, rfl, HS⟩ := HS.out.okX hpost
       unfold xV nV
       have hl := HL.out
       rw [bnd_ok] at hl
       (try dsimp only at hl)
       have HL : Hid _ := hl
       clear hl hpost
       refine hK.out _ _ (And.intro (HS.out.c4 (List.mem_cons_of_mem _ (List.mem_cons_of_mem _ List.mem_cons_self))) (HS.out.c5 List.mem_cons_self)) (fun hHz => ?_)
       clear hK K hHz
       try simp only [Act.put, List.setIfInBounds_toArray, List.set_cons_zero, List.set_cons_succ]
       refine wpAnyH_ready (rs := [4, 6]) (by kernel_rfl) (by simp) ?_
       refine AllReadyH.cons rfl (fun K hK => ?_) (AllReadyH.cons rfl (fun K hK => ?_) AllReadyH.nil)
       ·
        go_simp
        have HS : Hid (St rb ta cap T w [(w63.heap.size, (xC [(x63, s63, c63), ((mkX 20 [] 0 0 []), none, 0)])), (b5, (nL 20 [] 0 0 (.slice none 0 0))), (b4, (tL x1a x1b x1c x1d)), (b2, (tL x1a x1b x1c x1d)), (w.heap.size, z5)] [(x63, s63), ((mkX 20 [] 0 0 []), none)] j63 op (w63.alloc (.cells #[.int .i64 (xk x63), .string (bsA (xt x63)), .int .i64 (xn x63), .int .i64 (xa x63), .slice s63 (xl x63) c63, .int .i64 20, .string (bsA []), .int .i64 0, .int .i64 0, .slice none 0 0] 34))) := HS.out.newO (xC [(x63, s63, c63), ((mkX 20 [] 0 0 []), none, 0)])
        refine hK.out _ _ (And.intro (HS.out.c4 (List.mem_cons_of_mem _ (List.mem_cons_of_mem _ (List.mem_cons_of_mem _ List.mem_cons_self)))) (HS.out.c5 (List.mem_cons_of_mem _ List.mem_cons_self))) (fun hHz => ?_)
        clear hK K hHz
        try simp only [Act.put, List.setIfInBounds_toArray, List.set_cons_zero, List.set_cons_succ]
        obtain ⟨b64, hnb⟩ : ∃ nb, nb = w63.heap.size := ⟨_, rfl⟩
        rw [← hnb] at HS ⊢
        clear hnb
        generalize (w63.alloc (.cells #[.int .i64 (xk x63), .string (bsA (xt x63)), .int .i64 (xn x63), .int .i64 (xa x63), .slice s63 (xl x63) c63, .int .i64 20, .string (bsA []), .int .i64 0, .int .i64 0, .slice none 0 0] 34)) = w64 at HS ⊢
        refine wpAnyH_ready (rs := [5, 6]) (by kernel_rfl) (by simp) ?_
        refine AllReadyH.cons rfl (fun K hK => ?_) (AllReadyH.cons rfl (fun K hK => ?_) AllReadyH.nil)
        ·
         have hc := node_s 30 ((x1a, x1b, x1c), x1d) (some ⟨b64, 0, none⟩) 2 2 w64
         (try unfold ttV at hc)
         (try unfold nV at hc)
         (try dsimp only at hc)
         go_simp
         refine hc.mono ?_
         rintro e w65 ⟨rfl, hb⟩
         have HS : Hid (St rb ta cap T w [(b64, (xC [(x63, s63, c63), ((mkX 20 [] 0 0 []), none, 0)])), (b5, (nL 20 [] 0 0 (.slice none 0 0))), (b4, (tL x1a x1b x1c x1d)), (b2, (tL x1a x1b x1c x1d)), (w.heap.size, z5)] [(x63, s63), ((mkX 20 [] 0 0 []), none)] j63 op w65) := HS.out.below hb
         clear hc hb
         refine hK.out _ _ (And.intro (HS.out.c4 (List.mem_cons_of_mem _ (List.mem_cons_of_mem _ (List.mem_cons_of_mem _ List.mem_cons_self)))) (HS.out.c5 (List.mem_cons_of_mem _ List.mem_cons_self))) (fun hHz => ?_)
         clear hK K hHz
         try simp only [Act.put, List.setIfInBounds_toArray, List.set_cons_zero, List.set_cons_succ]
         refine wpAnyH_ready (rs := [6]) (by kernel_rfl) (by simp) ?_
         refine AllReadyH.cons rfl (fun K hK => ?_) AllReadyH.nil
         go_simp
         have HS : Hid (St rb ta cap T w [(w65.heap.size, z5), (b64, (xC [(x63, s63, c63), ((mkX 20 [] 0 0 []), none, 0)])), (b5, (nL 20 [] 0 0 (.slice none 0 0))), (b4, (tL x1a x1b x1c x1d)), (b2, (tL x1a x1b x1c x1d)), (w.heap.size, z5)] [(x63, s63), ((mkX 20 [] 0 0 []), none)] j63 op (w65.alloc o5)) := HS.out.newO z5
         refine hK.out _ _ (And.intro (HS.out.c4 (List.mem_cons_of_mem _ (List.mem_cons_of_mem _ (List.mem_cons_of_mem _ (List.mem_cons_of_mem _ List.mem_cons_self))))) (HS.out.c5 (List.mem_cons_of_mem _ (List.mem_cons_of_mem _ List.mem_cons_self)))) (fun hHz => ?_)
         clear hK K hHz
         try simp only [Act.put, List.setIfInBounds_toArray, List.set_cons_zero, List.set_cons_succ]
         obtain ⟨b66, hnb⟩ : ∃ nb, nb = w65.heap.size := ⟨_, rfl⟩
         rw [← hnb] at HS ⊢
         clear hnb
         generalize (w65.alloc o5) = w66 at HS ⊢
         refine wpAnyH_ready (rs := [7]) (by kernel_rfl) (by simp) ?_
         refine AllReadyH.cons rfl (fun K hK => ?_) AllReadyH.nil
         obtain ⟨y67a, y67b, y67c, y67d, y67e⟩ := HS.out.c5 List.mem_cons_self
         obtain ⟨f67a, f67b, f67c, f67d, f67e⟩ := HS.out.f5 List.mem_cons_self
         go_simp
         clear  y67a y67b y67c y67d y67e f67a f67b f67c f67d f67e
         have HS : Hid (St rb ta cap T w [(b66, (nL 30 [] 0 x1d (.slice (some ⟨b64, 0, none⟩) 2 2))), (b64, (xC [(x63, s63, c63), ((mkX 20 [] 0 0 []), none, 0)])), (b5, (nL 20 [] 0 0 (.slice none 0 0))), (b4, (tL x1a x1b x1c x1d)), (b2, (tL x1a x1b x1c x1d)), (w.heap.size, z5)] [(x63, s63), ((mkX 20 [] 0 0 []), none)] j63 op (((((w66.setCell ⟨b66, 0, none⟩ (.int .i64 30)).setCell ⟨b66, 1, none⟩ (.string (bsA []))).setCell ⟨b66, 2, none⟩ (.int .i64 0)).setCell ⟨b66, 3, none⟩ (.int .i64 x1d)).setCell ⟨b66, 4, none⟩ (.slice (some ⟨b64, 0, none⟩) 2 2))) := St.put [] (St.put [] (St.put [] (St.put [] (St.put [] HS.out 0 (.int .i64 30)) 1 (.string (bsA []))) 2 (.int .i64 0)) 3 (.int .i64 x1d)) 4 (.slice (some ⟨b64, 0, none⟩) 2 2)
         refine hK.out _ _ (And.intro (HS.out.c4 (List.mem_cons_of_mem _ (List.mem_cons_of_mem _ (List.mem_cons_of_mem _ (List.mem_cons_of_mem _ List.mem_cons_self))))) (HS.out.c5 (List.mem_cons_of_mem _ (List.mem_cons_of_mem _ List.mem_cons_self)))) (fun hHz => ?_)
         clear hK K hHz
         try simp only [Act.put, List.setIfInBounds_toArray, List.set_cons_zero, List.set_cons_succ]
         generalize (((((w66.setCell ⟨b66, 0, none⟩ (.int .i64 30)).setCell ⟨b66, 1, none⟩ (.string (bsA []))).setCell ⟨b66, 2, none⟩ (.int .i64 0)).setCell ⟨b66, 3, none⟩ (.int .i64 x1d)).setCell ⟨b66, 4, none⟩ (.slice (some ⟨b64, 0, none⟩) 2 2)) = w68 at HS ⊢
         refine wpAnyH_done (by kernel_rfl) ?_ _
         have HS : Hid (St rb ta cap T w [(b66, (nL 30 [] 0 x1d (.slice (some ⟨b64, 0, none⟩) 2 2))), (b5, (nL 20 [] 0 0 (.slice none 0 0))), (b4, (tL x1a x1b x1c x1d)), (b2, (tL x1a x1b x1c x1d)), (w.heap.size, z5)] [((mkX 30 [] 0 x1d [x63, (mkX 20 [] 0 0 [])]), (some ⟨b64, 0, none⟩)), (x63, s63), ((mkX 20 [] 0 0 []), none)] j63 op w68) := HS.out.row [(b66, (nL 30 [] 0 x1d (.slice (some ⟨b64, 0, none⟩) 2 2)))] [(x63, s63, c63), ((mkX 20 [] 0 0 []), none, 0)] 30 [] 0 x1d (by intro p hp; simp only [List.mem_cons, List.not_mem_nil, or_false] at hp; rcases hp with rfl | rfl <;> simp)
         obtain ⟨y69a, y69b, y69c, y69d⟩ := HS.out.c4 (List.mem_cons_of_mem _ (List.mem_cons_of_mem _ List.mem_cons_self))
         obtain ⟨y70a, y70b, y70c, y70d, y70e⟩ := HS.out.c5 List.mem_cons_self
         obtain ⟨f70a, f70b, f70c, f70d, f70e⟩ := HS.out.f5 List.mem_cons_self
         have HS : Hid (St rb ta cap T w [(b66, (nL 30 x1b 0 x1d (.slice (some ⟨b64, 0, none⟩) 2 2))), (b5, (nL 20 [] 0 0 (.slice none 0 0))), (b4, (tL x1a x1b x1c x1d)), (b2, (tL x1a x1b x1c x1d)), (w.heap.size, z5)] [((mkX 30 [] 0 x1d [x63, (mkX 20 [] 0 0 [])]), (some ⟨b64, 0, none⟩)), (x63, s63), ((mkX 20 [] 0 0 []), none)] j63 op (w68.setCell ⟨b66, 1, none⟩ (.string (bsA x1b)))) := St.put [] HS.out 1 (.string (bsA x1b))
         obtain ⟨y71a, y71b, y71c, y71d, y71e⟩ := HS.out.c5 List.mem_cons_self
         have HS : Hid (St rb ta cap T w [(b66, (nL 30 x1b 0 x1d (.slice (some ⟨b64, 0, none⟩) 2 2))), (b5, (nL 20 [] 0 0 (.slice none 0 0))), (b4, (tL x1a x1b x1c x1d)), (b2, (tL x1a x1b x1c x1d)), (w.heap.size, z5)] [((mkX 30 x1b 0 x1d [x63, (mkX 20 [] 0 0 [])]), (some ⟨b64, 0, none⟩)), ((mkX 30 [] 0 x1d [x63, (mkX 20 [] 0 0 [])]), (some ⟨b64, 0, none⟩)), (x63, s63), ((mkX 20 [] 0 0 []), none)] j63 op (w68.setCell ⟨b66, 1, none⟩ (.string (bsA x1b)))) := HS.out.head List.mem_cons_self 30 x1b 0 x1d
         obtain ⟨y72a, y72b, y72c, y72d, y72e⟩ := HS.out.c5 List.mem_cons_self
         obtain ⟨⟨d0, d1, d2, d3, d4⟩, ⟨g0, g1, g2, g3, g4⟩, hz⟩ := St.fin5 [(b66, (nL 30 x1b 0 x1d (.slice (some ⟨b64, 0, none⟩) 2 2))), (b5, (nL 20 [] 0 0 (.slice none 0 0))), (b4, (tL x1a x1b x1c x1d)), (b2, (tL x1a x1b x1c x1d))] HS.out (v0 := .int .i64 30) (v1 := .string (bsA x1b)) (v2 := .int .i64 0) (v3 := .int .i64 x1d) (v4 := .slice (some ⟨b64, 0, none⟩) 2 2) (c := 2) HL.out List.mem_cons_self (mkX_V' _ _ _ _ _ _ _ _ rfl)
         obtain ⟨⟨z0, z1, z2, z3, z4⟩, HP⟩ := hz _ rfl
         clear hz HS HL
         go_wp2
         refine bodyPost_ret (v := .agg #[.int .i64 30, .string (bsA x1b), .int .i64 0, .int .i64 x1d, .slice (some ⟨b64, 0, none⟩) 2 2]) (by simp [results, Tryz.results162, go_sem, z0, z1, z2, z3, z4]) rfl HP.out
        ·
         go_simp
         have HS : Hid (St rb ta cap T w [(w64.heap.size, z5), (b64, (xC [(x63, s63, c63), ((mkX 20 [] 0 0 []), none, 0)])), (b5, (nL 20 [] 0 0 (.slice none 0 0))), (b4, (tL x1a x1b x1c x1d)), (b2, (tL x1a x1b x1c x1d)), (w.heap.size, z5)] [(x63, s63), ((mkX 20 [] 0 0 []), none)] j63 op (w64.alloc o5)) := HS.out.newO z5
         refine hK.out _ _ (And.intro (HS.out.c4 (List.mem_cons_of_mem _ (List.mem_cons_of_mem _ (List.mem_cons_of_mem _ (List.mem_cons_of_mem _ List.mem_cons_self))))) (HS.out.c5 (List.mem_cons_of_mem _ (List.mem_cons_of_mem _ List.mem_cons_self)))) (fun hHz => ?_)
         clear hK K hHz
         try simp only [Act.put, List.setIfInBounds_toArray, List.set_cons_zero, List.set_cons_succ]
         obtain ⟨b65, hnb⟩ : ∃ nb, nb = w64.heap.size := ⟨_, rfl⟩
         rw [← hnb] at HS ⊢
         clear hnb
         generalize (w64.alloc o5) = w65 at HS ⊢
         refine wpAnyH_ready (rs := [5]) (by kernel_rfl) (by simp) ?_
         refine AllReadyH.cons rfl (fun K hK => ?_) AllReadyH.nil
         have hc := node_s 30 ((x1a, x1b, x1c), x1d) (some ⟨b64, 0, none⟩) 2 2 w65
         (try unfold ttV at hc)
         (try unfold nV at hc)
         (try dsimp only at hc)
         go_simp
         refine hc.mono ?_
         rintro e w66 ⟨rfl, hb⟩
         have HS : Hid (St rb ta cap T w [(b65, z5), (b64, (xC [(x63, s63, c63), ((mkX 20 [] 0 0 []), none, 0)])), (b5, (nL 20 [] 0 0 (.slice none 0 0))), (b4, (tL x1a x1b x1c x1d)), (b2, (tL x1a x1b x1c x1d)), (w.heap.size, z5)] [(x63, s63), ((mkX 20 [] 0 0 []), none)] j63 op w66) := HS.out.below hb
         clear hc hb
         refine hK.out _ _ (And.intro (HS.out.c4 (List.mem_cons_of_mem _ (List.mem_cons_of_mem _ (List.mem_cons_of_mem _ (List.mem_cons_of_mem _ List.mem_cons_self))))) (HS.out.c5 (List.mem_cons_of_mem _ (List.mem_cons_of_mem _ List.mem_cons_self)))) (fun hHz => ?_)
         clear hK K hHz
         try simp only [Act.put, List.setIfInBounds_toArray, List.set_cons_zero, List.set_cons_succ]
         refine wpAnyH_ready (rs := [7]) (by kernel_rfl) (by simp) ?_
         refine AllReadyH.cons rfl (fun K hK => ?_) AllReadyH.nil
         obtain ⟨y67a, y67b, y67c, y67d, y67e⟩ := HS.out.c5 List.mem_cons_self
         obtain ⟨f67a, f67b, f67c, f67d, f67e⟩ := HS.out.f5 List.mem_cons_self
         go_simp
         clear  y67a y67b y67c y67d y67e f67a f67b f67c f67d f67e
         have HS : Hid (St rb ta cap T w [(b65, (nL 30 [] 0 x1d (.slice (some ⟨b64, 0, none⟩) 2 2))), (b64, (xC [(x63, s63, c63), ((mkX 20 [] 0 0 []), none, 0)])), (b5, (nL 20 [] 0 0 (.slice none 0 0))), (b4, (tL x1a x1b x1c x1d)), (b2, (tL x1a x1b x1c x1d)), (w.heap.size, z5)] [(x63, s63), ((mkX 20 [] 0 0 []), none)] j63 op (((((w66.setCell ⟨b65, 0, none⟩ (.int .i64 30)).setCell ⟨b65, 1, none⟩ (.string (bsA []))).setCell ⟨b65, 2, none⟩ (.int .i64 0)).setCell ⟨b65, 3, none⟩ (.int .i64 x1d)).setCell ⟨b65, 4, none⟩ (.slice (some ⟨b64, 0, none⟩) 2 2))) := St.put [] (St.put [] (St.put [] (St.put [] (St.put [] HS.out 0 (.int .i64 30)) 1 (.string (bsA []))) 2 (.int .i64 0)) 3 (.int .i64 x1d)) 4 (.slice (some ⟨b64, 0, none⟩) 2 2)
         refine hK.out _ _ (And.intro (HS.out.c4 (List.mem_cons_of_mem _ (List.mem_cons_of_mem _ (List.mem_cons_of_mem _ (List.mem_cons_of_mem _ List.mem_cons_self))))) (HS.out.c5 (List.mem_cons_of_mem _ (List.mem_cons_of_mem _ List.mem_cons_self)))) (fun hHz => ?_)
         clear hK K hHz
         try simp only [Act.put, List.setIfInBounds_toArray, List.set_cons_zero, List.set_cons_succ]
         generalize (((((w66.setCell ⟨b65, 0, none⟩ (.int .i64 30)).setCell ⟨b65, 1, none⟩ (.string (bsA []))).setCell ⟨b65, 2, none⟩ (.int .i64 0)).setCell ⟨b65, 3, none⟩ (.int .i64 x1d)).setCell ⟨b65, 4, none⟩ (.slice (some ⟨b64, 0, none⟩) 2 2)) = w68 at HS ⊢
         refine wpAnyH_done (by kernel_rfl) ?_ _
         have HS : Hid (St rb ta cap T w [(b65, (nL 30 [] 0 x1d (.slice (some ⟨b64, 0, none⟩) 2 2))), (b5, (nL 20 [] 0 0 (.slice none 0 0))), (b4, (tL x1a x1b x1c x1d)), (b2, (tL x1a x1b x1c x1d)), (w.heap.size, z5)] [((mkX 30 [] 0 x1d [x63, (mkX 20 [] 0 0 [])]), (some ⟨b64, 0, none⟩)), (x63, s63), ((mkX 20 [] 0 0 []), none)] j63 op w68) := HS.out.row [(b65, (nL 30 [] 0 x1d (.slice (some ⟨b64, 0, none⟩) 2 2)))] [(x63, s63, c63), ((mkX 20 [] 0 0 []), none, 0)] 30 [] 0 x1d (by intro p hp; simp only [List.mem_cons, List.not_mem_nil, or_false] at hp; rcases hp with rfl | rfl <;> simp)
         obtain ⟨y69a, y69b, y69c, y69d⟩ := HS.out.c4 (List.mem_cons_of_mem _ (List.mem_cons_of_mem _ List.mem_cons_self))
         obtain ⟨y70a, y70b, y70c, y70d, y70e⟩ := HS.out.c5 List.mem_cons_self
         obtain ⟨f70a, f70b, f70c, f70d, f70e⟩ := HS.out.f5 List.mem_cons_self
         have HS : Hid (St rb ta cap T w [(b65, (nL 30 x1b 0 x1d (.slice (some ⟨b64, 0, none⟩) 2 2))), (b5, (nL 20 [] 0 0 (.slice none 0 0))), (b4, (tL x1a x1b x1c x1d)), (b2, (tL x1a x1b x1c x1d)), (w.heap.size, z5)] [((mkX 30 [] 0 x1d [x63, (mkX 20 [] 0 0 [])]), (some ⟨b64, 0, none⟩)), (x63, s63), ((mkX 20 [] 0 0 []), none)] j63 op (w68.setCell ⟨b65, 1, none⟩ (.string (bsA x1b)))) := St.put [] HS.out 1 (.string (bsA x1b))
         obtain ⟨y71a, y71b, y71c, y71d, y71e⟩ := HS.out.c5 List.mem_cons_self
         have HS : Hid (St rb ta cap T w [(b65, (nL 30 x1b 0 x1d (.slice (some ⟨b64, 0, none⟩) 2 2))), (b5, (nL 20 [] 0 0 (.slice none 0 0))), (b4, (tL x1a x1b x1c x1d)), (b2, (tL x1a x1b x1c x1d)), (w.heap.size, z5)] [((mkX 30 x1b 0 x1d [x63, (mkX 20 [] 0 0 [])]), (some ⟨b64, 0, none⟩)), ((mkX 30 [] 0 x1d [x63, (mkX 20 [] 0 0 [])]), (some ⟨b64, 0, none⟩)), (x63, s63), ((mkX 20 [] 0 0 []), none)] j63 op (w68.setCell ⟨b65, 1, none⟩ (.string (bsA x1b)))) := HS.out.head List.mem_cons_self 30 x1b 0 x1d
         obtain ⟨y72a, y72b, y72c, y72d, y72e⟩ := HS.out.c5 List.mem_cons_self
         obtain ⟨⟨d0, d1, d2, d3, d4⟩, ⟨g0, g1, g2, g3, g4⟩, hz⟩ := St.fin5 [(b65, (nL 30 x1b 0 x1d (.slice (some ⟨b64, 0, none⟩) 2 2))), (b5, (nL 20 [] 0 0 (.slice none 0 0))), (b4, (tL x1a x1b x1c x1d)), (b2, (tL x1a x1b x1c x1d))] HS.out (v0 := .int .i64 30) (v1 := .string (bsA x1b)) (v2 := .int .i64 0) (v3 := .int .i64 x1d) (v4 := .slice (some ⟨b64, 0, none⟩) 2 2) (c := 2) HL.out List.mem_cons_self (mkX_V' _ _ _ _ _ _ _ _ rfl)
         obtain ⟨⟨z0, z1, z2, z3, z4⟩, HP⟩ := hz _ rfl
         clear hz HS HL
         go_wp2
         refine bodyPost_ret (v := .agg #[.int .i64 30, .string (bsA x1b), .int .i64 0, .int .i64 x1d, .slice (some ⟨b64, 0, none⟩) 2 2]) (by simp [results, Tryz.results162, go_sem, z0, z1, z2, z3, z4]) rfl HP.out
       ·
        go_simp
        have HS : Hid (St rb ta cap T w [(w63.heap.size, z5), (b5, (nL 20 [] 0 0 (.slice none 0 0))), (b4, (tL x1a x1b x1c x1d)), (b2, (tL x1a x1b x1c x1d)), (w.heap.size, z5)] [(x63, s63), ((mkX 20 [] 0 0 []), none)] j63 op (w63.alloc o5)) := HS.out.newO z5
        refine hK.out _ _ (And.intro (HS.out.c4 (List.mem_cons_of_mem _ (List.mem_cons_of_mem _ (List.mem_cons_of_mem _ List.mem_cons_self)))) (HS.out.c5 (List.mem_cons_of_mem _ List.mem_cons_self))) (fun hHz => ?_)
        clear hK K hHz
        try simp only [Act.put, List.setIfInBounds_toArray, List.set_cons_zero, List.set_cons_succ]
        obtain ⟨b64, hnb⟩ : ∃ nb, nb = w63.heap.size := ⟨_, rfl⟩
        rw [← hnb] at HS ⊢
        clear hnb
        generalize (w63.alloc o5) = w64 at HS ⊢
        refine wpAnyH_ready (rs := [4]) (by kernel_rfl) (by simp) ?_
        refine AllReadyH.cons rfl (fun K hK => ?_) AllReadyH.nil
        go_simp
        have HS : Hid (St rb ta cap T w [(w64.heap.size, (xC [(x63, s63, c63), ((mkX 20 [] 0 0 []), none, 0)])), (b64, z5), (b5, (nL 20 [] 0 0 (.slice none 0 0))), (b4, (tL x1a x1b x1c x1d)), (b2, (tL x1a x1b x1c x1d)), (w.heap.size, z5)] [(x63, s63), ((mkX 20 [] 0 0 []), none)] j63 op (w64.alloc (.cells #[.int .i64 (xk x63), .string (bsA (xt x63)), .int .i64 (xn x63), .int .i64 (xa x63), .slice s63 (xl x63) c63, .int .i64 20, .string (bsA []), .int .i64 0, .int .i64 0, .slice none 0 0] 34))) := HS.out.newO (xC [(x63, s63, c63), ((mkX 20 [] 0 0 []), none, 0)])
        refine hK.out _ _ (And.intro (HS.out.c4 (List.mem_cons_of_mem _ (List.mem_cons_of_mem _ (List.mem_cons_of_mem _ (List.mem_cons_of_mem _ List.mem_cons_self))))) (HS.out.c5 (List.mem_cons_of_mem _ (List.mem_cons_of_mem _ List.mem_cons_self)))) (fun hHz => ?_)
        clear hK K hHz
        try simp only [Act.put, List.setIfInBounds_toArray, List.set_cons_zero, List.set_cons_succ]
        obtain ⟨b65, hnb⟩ : ∃ nb, nb = w64.heap.size := ⟨_, rfl⟩
        rw [← hnb] at HS ⊢
        clear hnb
        generalize (w64.alloc (.cells #[.int .i64 (xk x63), .string (bsA (xt x63)), .int .i64 (xn x63), .int .i64 (xa x63), .slice s63 (xl x63) c63, .int .i64 20, .string (bsA []), .int .i64 0, .int .i64 0, .slice none 0 0] 34)) = w65 at HS ⊢
        refine wpAnyH_ready (rs := [5]) (by kernel_rfl) (by simp) ?_
        refine AllReadyH.cons rfl (fun K hK => ?_) AllReadyH.nil
        have hc := node_s 30 ((x1a, x1b, x1c), x1d) (some ⟨b65, 0, none⟩) 2 2 w65
        (try unfold ttV at hc)
        (try unfold nV at hc)
        (try dsimp only at hc)
        go_simp
        refine hc.mono ?_
        rintro e w66 ⟨rfl, hb⟩
        have HS : Hid (St rb ta cap T w [(b65, (xC [(x63, s63, c63), ((mkX 20 [] 0 0 []), none, 0)])), (b64, z5), (b5, (nL 20 [] 0 0 (.slice none 0 0))), (b4, (tL x1a x1b x1c x1d)), (b2, (tL x1a x1b x1c x1d)), (w.heap.size, z5)] [(x63, s63), ((mkX 20 [] 0 0 []), none)] j63 op w66) := HS.out.below hb
        clear hc hb
        refine hK.out _ _ (And.intro (HS.out.c4 (List.mem_cons_of_mem _ (List.mem_cons_of_mem _ (List.mem_cons_of_mem _ (List.mem_cons_of_mem _ List.mem_cons_self))))) (HS.out.c5 (List.mem_cons_of_mem _ (List.mem_cons_of_mem _ List.mem_cons_self)))) (fun hHz => ?_)
        clear hK K hHz
        try simp only [Act.put, List.setIfInBounds_toArray, List.set_cons_zero, List.set_cons_succ]
        refine wpAnyH_ready (rs := [7]) (by kernel_rfl) (by simp) ?_
        refine AllReadyH.cons rfl (fun K hK => ?_) AllReadyH.nil
        obtain ⟨y67a, y67b, y67c, y67d, y67e⟩ := HS.out.c5 (List.mem_cons_of_mem _ List.mem_cons_self)
        obtain ⟨f67a, f67b, f67c, f67d, f67e⟩ := HS.out.f5 (List.mem_cons_of_mem _ List.mem_cons_self)
        go_simp
        clear  y67a y67b y67c y67d y67e f67a f67b f67c f67d f67e
        have HS : Hid (St rb ta cap T w [(b65, (xC [(x63, s63, c63), ((mkX 20 [] 0 0 []), none, 0)])), (b64, (nL 30 [] 0 x1d (.slice (some ⟨b65, 0, none⟩) 2 2))), (b5, (nL 20 [] 0 0 (.slice none 0 0))), (b4, (tL x1a x1b x1c x1d)), (b2, (tL x1a x1b x1c x1d)), (w.heap.size, z5)] [(x63, s63), ((mkX 20 [] 0 0 []), none)] j63 op (((((w66.setCell ⟨b64, 0, none⟩ (.int .i64 30)).setCell ⟨b64, 1, none⟩ (.string (bsA []))).setCell ⟨b64, 2, none⟩ (.int .i64 0)).setCell ⟨b64, 3, none⟩ (.int .i64 x1d)).setCell ⟨b64, 4, none⟩ (.slice (some ⟨b65, 0, none⟩) 2 2))) := St.put [(b65, (xC [(x63, s63, c63), ((mkX 20 [] 0 0 []), none, 0)]))] (St.put [(b65, (xC [(x63, s63, c63), ((mkX 20 [] 0 0 []), none, 0)]))] (St.put [(b65, (xC [(x63, s63, c63), ((mkX 20 [] 0 0 []), none, 0)]))] (St.put [(b65, (xC [(x63, s63, c63), ((mkX 20 [] 0 0 []), none, 0)]))] (St.put [(b65, (xC [(x63, s63, c63), ((mkX 20 [] 0 0 []), none, 0)]))] HS.out 0 (.int .i64 30)) 1 (.string (bsA []))) 2 (.int .i64 0)) 3 (.int .i64 x1d)) 4 (.slice (some ⟨b65, 0, none⟩) 2 2)
        refine hK.out _ _ (And.intro (HS.out.c4 (List.mem_cons_of_mem _ (List.mem_cons_of_mem _ (List.mem_cons_of_mem _ (List.mem_cons_of_mem _ List.mem_cons_self))))) (HS.out.c5 (List.mem_cons_of_mem _ (List.mem_cons_of_mem _ List.mem_cons_self)))) (fun hHz => ?_)
        clear hK K hHz
        try simp only [Act.put, List.setIfInBounds_toArray, List.set_cons_zero, List.set_cons_succ]
        generalize (((((w66.setCell ⟨b64, 0, none⟩ (.int .i64 30)).setCell ⟨b64, 1, none⟩ (.string (bsA []))).setCell ⟨b64, 2, none⟩ (.int .i64 0)).setCell ⟨b64, 3, none⟩ (.int .i64 x1d)).setCell ⟨b64, 4, none⟩ (.slice (some ⟨b65, 0, none⟩) 2 2)) = w68 at HS ⊢
        refine wpAnyH_done (by kernel_rfl) ?_ _
        have HS : Hid (St rb ta cap T w [(b64, (nL 30 [] 0 x1d (.slice (some ⟨b65, 0, none⟩) 2 2))), (b5, (nL 20 [] 0 0 (.slice none 0 0))), (b4, (tL x1a x1b x1c x1d)), (b2, (tL x1a x1b x1c x1d)), (w.heap.size, z5)] [((mkX 30 [] 0 x1d [x63, (mkX 20 [] 0 0 [])]), (some ⟨b65, 0, none⟩)), (x63, s63), ((mkX 20 [] 0 0 []), none)] j63 op w68) := HS.out.row [] [(x63, s63, c63), ((mkX 20 [] 0 0 []), none, 0)] 30 [] 0 x1d (by intro p hp; simp only [List.mem_cons, List.not_mem_nil, or_false] at hp; rcases hp with rfl | rfl <;> simp)
        obtain ⟨y69a, y69b, y69c, y69d⟩ := HS.out.c4 (List.mem_cons_of_mem _ (List.mem_cons_of_mem _ List.mem_cons_self))
        obtain ⟨y70a, y70b, y70c, y70d, y70e⟩ := HS.out.c5 List.mem_cons_self
        obtain ⟨f70a, f70b, f70c, f70d, f70e⟩ := HS.out.f5 List.mem_cons_self
        have HS : Hid (St rb ta cap T w [(b64, (nL 30 x1b 0 x1d (.slice (some ⟨b65, 0, none⟩) 2 2))), (b5, (nL 20 [] 0 0 (.slice none 0 0))), (b4, (tL x1a x1b x1c x1d)), (b2, (tL x1a x1b x1c x1d)), (w.heap.size, z5)] [((mkX 30 [] 0 x1d [x63, (mkX 20 [] 0 0 [])]), (some ⟨b65, 0, none⟩)), (x63, s63), ((mkX 20 [] 0 0 []), none)] j63 op (w68.setCell ⟨b64, 1, none⟩ (.string (bsA x1b)))) := St.put [] HS.out 1 (.string (bsA x1b))
        obtain ⟨y71a, y71b, y71c, y71d, y71e⟩ := HS.out.c5 List.mem_cons_self
        have HS : Hid (St rb ta cap T w [(b64, (nL 30 x1b 0 x1d (.slice (some ⟨b65, 0, none⟩) 2 2))), (b5, (nL 20 [] 0 0 (.slice none 0 0))), (b4, (tL x1a x1b x1c x1d)), (b2, (tL x1a x1b x1c x1d)), (w.heap.size, z5)] [((mkX 30 x1b 0 x1d [x63, (mkX 20 [] 0 0 [])]), (some ⟨b65, 0, none⟩)), ((mkX 30 [] 0 x1d [x63, (mkX 20 [] 0 0 [])]), (some ⟨b65, 0, none⟩)), (x63, s63), ((mkX 20 [] 0 0 []), none)] j63 op (w68.setCell ⟨b64, 1, none⟩ (.string (bsA x1b)))) := HS.out.head List.mem_cons_self 30 x1b 0 x1d
        obtain ⟨y72a, y72b, y72c, y72d, y72e⟩ := HS.out.c5 List.mem_cons_self
        obtain ⟨⟨d0, d1, d2, d3, d4⟩, ⟨g0, g1, g2, g3, g4⟩, hz⟩ := St.fin5 [(b64, (nL 30 x1b 0 x1d (.slice (some ⟨b65, 0, none⟩) 2 2))), (b5, (nL 20 [] 0 0 (.slice none 0 0))), (b4, (tL x1a x1b x1c x1d)), (b2, (tL x1a x1b x1c x1d))] HS.out (v0 := .int .i64 30) (v1 := .string (bsA x1b)) (v2 := .int .i64 0) (v3 := .int .i64 x1d) (v4 := .slice (some ⟨b65, 0, none⟩) 2 2) (c := 2) HL.out List.mem_cons_self (mkX_V' _ _ _ _ _ _ _ _ rfl)
        obtain ⟨⟨z0, z1, z2, z3, z4⟩, HP⟩ := hz _ rfl
        clear hz HS HL
        go_wp2
        refine bodyPost_ret (v := .agg #[.int .i64 30, .string (bsA x1b), .int .i64 0, .int .i64 x1d, .slice (some ⟨b65, 0, none⟩) 2 2]) (by simp [results, Tryz.results162, go_sem, z0, z1, z2, z3, z4]) rfl HP.out
     ·
      go_simp
      have HS : Hid (St rb ta cap T w [(w62.heap.size, z5), (b5, (nL 20 [] 0 0 (.slice none 0 0))), (b4, (tL x1a x1b x1c x1d)), (b2, (tL x1a x1b x1c x1d)), (w.heap.size, z5)] [((mkX 20 [] 0 0 []), none)] j61 op (w62.alloc o5)) := HS.out.newO z5
      refine hK.out _ _ (And.intro (HS.out.c4 (List.mem_cons_of_mem _ (List.mem_cons_of_mem _ (List.mem_cons_of_mem _ List.mem_cons_self)))) (HS.out.c5 (List.mem_cons_of_mem _ List.mem_cons_self))) (fun hHz => ?_)
      clear hK K hHz
      try simp only [Act.put, List.setIfInBounds_toArray, List.set_cons_zero, List.set_cons_succ]
      obtain ⟨b63, hnb⟩ : ∃ nb, nb = w62.heap.size := ⟨_, rfl⟩
      rw [← hnb] at HS ⊢
      clear hnb
      generalize (w62.alloc o5) = w63 at HS ⊢
      refine wpAnyH_ready (rs := [2]) (by kernel_rfl) (by simp) ?_
      refine AllReadyH.cons rfl (fun K hK => ?_) AllReadyH.nil
      obtain ⟨r1, e1, hl⟩ := bnd_some HL.out
      have HL : Hid _ := hl
      have hc := filter_s rb ta cap T E hE j61 op _ r1 hop HS.out.rdr e1
      (try unfold ptr at hc)
      clear e1 hl
      go_simp
      refine hc.mono ?_
      intro e w64 hpost
      clear hc
      cases r1 with
      | inl q =>
       obtain ⟨hG, HP⟩ := HS.out.bad2 (V := VX) (op' := op) HL.out hpost
       unfold GUs at hG
       subst hG
       clear hpost
       exact ⟨rfl, HP.out⟩
      | inr q =>
       obtain ⟨x64, j64⟩ := q
       obtain ⟨s64, c64, rfl, HS⟩ := HS.out.okX hpost
       unfold xV nV
       have hl := HL.out
       rw [bnd_ok] at hl
       (try dsimp only at hl)
       have HL : Hid _ := hl
       clear hl hpost
       refine hK.out _ _ (And.intro (HS.out.c4 (List.mem_cons_of_mem _ (List.mem_cons_of_mem _ (List.mem_cons_of_mem _ List.mem_cons_self)))) (HS.out.c5 (List.mem_cons_of_mem _ List.mem_cons_self))) (fun hHz => ?_)
       clear hK K hHz
       try simp only [Act.put, List.setIfInBounds_toArray, List.set_cons_zero, List.set_cons_succ]
       refine wpAnyH_ready (rs := [4]) (by kernel_rfl) (by simp) ?_
       refine AllReadyH.cons rfl (fun K hK => ?_) AllReadyH.nil
       go_simp
       have HS : Hid (St rb ta cap T w [(w64.heap.size, (xC [(x64, s64, c64), ((mkX 20 [] 0 0 []), none, 0)])), (b63, z5), (b5, (nL 20 [] 0 0 (.slice none 0 0))), (b4, (tL x1a x1b x1c x1d)), (b2, (tL x1a x1b x1c x1d)), (w.heap.size, z5)] [(x64, s64), ((mkX 20 [] 0 0 []), none)] j64 op (w64.alloc (.cells #[.int .i64 (xk x64), .string (bsA (xt x64)), .int .i64 (xn x64), .int .i64 (xa x64), .slice s64 (xl x64) c64, .int .i64 20, .string (bsA []), .int .i64 0, .int .i64 0, .slice none 0 0] 34))) := HS.out.newO (xC [(x64, s64, c64), ((mkX 20 [] 0 0 []), none, 0)])
       refine hK.out _ _ (And.intro (HS.out.c4 (List.mem_cons_of_mem _ (List.mem_cons_of_mem _ (List.mem_cons_of_mem _ (List.mem_cons_of_mem _ List.mem_cons_self))))) (HS.out.c5 (List.mem_cons_of_mem _ (List.mem_cons_of_mem _ List.mem_cons_self)))) (fun hHz => ?_)
       clear hK K hHz
       try simp only [Act.put, List.setIfInBounds_toArray, List.set_cons_zero, List.set_cons_succ]
       obtain ⟨b65, hnb⟩ : ∃ nb, nb = w64.heap.size := ⟨_, rfl⟩
       rw [← hnb] at HS ⊢
       clear hnb
       generalize (w64.alloc (.cells #[.int .i64 (xk x64), .string (bsA (xt x64)), .int .i64 (xn x64), .int .i64 (xa x64), .slice s64 (xl x64) c64, .int .i64 20, .string (bsA []), .int .i64 0, .int .i64 0, .slice none 0 0] 34)) = w65 at HS ⊢
       refine wpAnyH_ready (rs := [5]) (by kernel_rfl) (by simp) ?_
       refine AllReadyH.cons rfl (fun K hK => ?_) AllReadyH.nil
       have hc := node_s 30 ((x1a, x1b, x1c), x1d) (some ⟨b65, 0, none⟩) 2 2 w65
       (try unfold ttV at hc)
       (try unfold nV at hc)
       (try dsimp only at hc)
       go_simp
       refine hc.mono ?_
       rintro e w66 ⟨rfl, hb⟩
       have HS : Hid (St rb ta cap T w [(b65, (xC [(x64, s64, c64), ((mkX 20 [] 0 0 []), none, 0)])), (b63, z5), (b5, (nL 20 [] 0 0 (.slice none 0 0))), (b4, (tL x1a x1b x1c x1d)), (b2, (tL x1a x1b x1c x1d)), (w.heap.size, z5)] [(x64, s64), ((mkX 20 [] 0 0 []), none)] j64 op w66) := HS.out.below hb
       clear hc hb
       refine hK.out _ _ (And.intro (HS.out.c4 (List.mem_cons_of_mem _ (List.mem_cons_of_mem _ (List.mem_cons_of_mem _ (List.mem_cons_of_mem _ List.mem_cons_self))))) (HS.out.c5 (List.mem_cons_of_mem _ (List.mem_cons_of_mem _ List.mem_cons_self)))) (fun hHz => ?_)
       clear hK K hHz
       try simp only [Act.put, List.setIfInBounds_toArray, List.set_cons_zero, List.set_cons_succ]
       refine wpAnyH_ready (rs := [7]) (by kernel_rfl) (by simp) ?_
       refine AllReadyH.cons rfl (fun K hK => ?_) AllReadyH.nil
       obtain ⟨y67a, y67b, y67c, y67d, y67e⟩ := HS.out.c5 (List.mem_cons_of_mem _ List.mem_cons_self)
       obtain ⟨f67a, f67b, f67c, f67d, f67e⟩ := HS.out.f5 (List.mem_cons_of_mem _ List.mem_cons_self)
       go_simp
       clear  y67a y67b y67c y67d y67e f67a f67b f67c f67d f67e
       have HS : Hid (St rb ta cap T w [(b65, (xC [(x64, s64, c64), ((mkX 20 [] 0 0 []), none, 0)])), (b63, (nL 30 [] 0 x1d (.slice (some ⟨b65, 0, none⟩) 2 2))), (b5, (nL 20 [] 0 0 (.slice none 0 0))), (b4, (tL x1a x1b x1c x1d)), (b2, (tL x1a x1b x1c x1d)), (w.heap.size, z5)] [(x64, s64), ((mkX 20 [] 0 0 []), none)] j64 op (((((w66.setCell ⟨b63, 0, none⟩ (.int .i64 30)).setCell ⟨b63, 1, none⟩ (.string (bsA []))).setCell ⟨b63, 2, none⟩ (.int .i64 0)).setCell ⟨b63, 3, none⟩ (.int .i64 x1d)).setCell ⟨b63, 4, none⟩ (.slice (some ⟨b65, 0, none⟩) 2 2))) := St.put [(b65, (xC [(x64, s64, c64), ((mkX 20 [] 0 0 []), none, 0)]))] (St.put [(b65, (xC [(x64, s64, c64), ((mkX 20 [] 0 0 []), none, 0)]))] (St.put [(b65, (xC [(x64, s64, c64), ((mkX 20 [] 0 0 []), none, 0)]))] (St.put [(b65, (xC [(x64, s64, c64), ((mkX 20 [] 0 0 []), none, 0)]))] (St.put [(b65, (xC [(x64, s64, c64), ((mkX 20 [] 0 0 []), none, 0)]))] HS.out 0 (.int .i64 30)) 1 (.string (bsA []))) 2 (.int .i64 0)) 3 (.int .i64 x1d)) 4 (.slice (some ⟨b65, 0, none⟩) 2 2)
       refine hK.out _ _ (And.intro (HS.out.c4 (List.mem_cons_of_mem _ (List.mem_cons_of_mem _ (List.mem_cons_of_mem _ (List.mem_cons_of_mem _ List.mem_cons_self))))) (HS.out.c5 (List.mem_cons_of_mem _ (List.mem_cons_of_mem _ List.mem_cons_self)))) (fun hHz => ?_)
       clear hK K hHz
       try simp only [Act.put, List.setIfInBounds_toArray, List.set_cons_zero, List.set_cons_succ]
       generalize (((((w66.setCell ⟨b63, 0, none⟩ (.int .i64 30)).setCell ⟨b63, 1, none⟩ (.string (bsA []))).setCell ⟨b63, 2, none⟩ (.int .i64 0)).setCell ⟨b63, 3, none⟩ (.int .i64 x1d)).setCell ⟨b63, 4, none⟩ (.slice (some ⟨b65, 0, none⟩) 2 2)) = w68 at HS ⊢
       refine wpAnyH_done (by kernel_rfl) ?_ _
       have HS : Hid (St rb ta cap T w [(b63, (nL 30 [] 0 x1d (.slice (some ⟨b65, 0, none⟩) 2 2))), (b5, (nL 20 [] 0 0 (.slice none 0 0))), (b4, (tL x1a x1b x1c x1d)), (b2, (tL x1a x1b x1c x1d)), (w.heap.size, z5)] [((mkX 30 [] 0 x1d [x64, (mkX 20 [] 0 0 [])]), (some ⟨b65, 0, none⟩)), (x64, s64), ((mkX 20 [] 0 0 []), none)] j64 op w68) := HS.out.row [] [(x64, s64, c64), ((mkX 20 [] 0 0 []), none, 0)] 30 [] 0 x1d (by intro p hp; simp only [List.mem_cons, List.not_mem_nil, or_false] at hp; rcases hp with rfl | rfl <;> simp)
       obtain ⟨y69a, y69b, y69c, y69d⟩ := HS.out.c4 (List.mem_cons_of_mem _ (List.mem_cons_of_mem _ List.mem_cons_self))
       obtain ⟨y70a, y70b, y70c, y70d, y70e⟩ := HS.out.c5 List.mem_cons_self
       obtain ⟨f70a, f70b, f70c, f70d, f70e⟩ := HS.out.f5 List.mem_cons_self
       have HS : Hid (St rb ta cap T w [(b63, (nL 30 x1b 0 x1d (.slice (some ⟨b65, 0, none⟩) 2 2))), (b5, (nL 20 [] 0 0 (.slice none 0 0))), (b4, (tL x1a x1b x1c x1d)), (b2, (tL x1a x1b x1c x1d)), (w.heap.size, z5)] [((mkX 30 [] 0 x1d [x64, (mkX 20 [] 0 0 [])]), (some ⟨b65, 0, none⟩)), (x64, s64), ((mkX 20 [] 0 0 []), none)] j64 op (w68.setCell ⟨b63, 1, none⟩ (.string (bsA x1b)))) := St.put [] HS.out 1 (.string (bsA x1b))
       obtain ⟨y71a, y71b, y71c, y71d, y71e⟩ := HS.out.c5 List.mem_cons_self
       have HS : Hid (St rb ta cap T w [(b63, (nL 30 x1b 0 x1d (.slice (some ⟨b65, 0, none⟩) 2 2))), (b5, (nL 20 [] 0 0 (.slice none 0 0))), (b4, (tL x1a x1b x1c x1d)), (b2, (tL x1a x1b x1c x1d)), (w.heap.size, z5)] [((mkX 30 x1b 0 x1d [x64, (mkX 20 [] 0 0 [])]), (some ⟨b65, 0, none⟩)), ((mkX 30 [] 0 x1d [x64, (mkX 20 [] 0 0 [])]), (some ⟨b65, 0, none⟩)), (x64, s64), ((mkX 20 [] 0 0 []), none)] j64 op (w68.setCell ⟨b63, 1, none⟩ (.string (bsA x1b)))) := HS.out.head List.mem_cons_self 30 x1b 0 x1d
       obtain ⟨y72a, y72b, y72c, y72d, y72e⟩ := HS.out.c5 List.mem_cons_self
       obtain ⟨⟨d0, d1, d2, d3, d4⟩, ⟨g0, g1, g2, g3, g4⟩, hz⟩ := St.fin5 [(b63, (nL 30 x1b 0 x1d (.slice (some ⟨b65, 0, none⟩) 2 2))), (b5, (nL 20 [] 0 0 (.slice none 0 0))), (b4, (tL x1a x1b x1c x1d)), (b2, (tL x1a x1b x1c x1d))] HS.out (v0 := .int .i64 30) (v1 := .string (bsA x1b)) (v2 := .int .i64 0) (v3 := .int .i64 x1d) (v4 := .slice (some ⟨b65, 0, none⟩) 2 2) (c := 2) HL.out List.mem_cons_self (mkX_V' _ _ _ _ _ _ _ _ rfl)
       obtain ⟨⟨z0, z1, z2, z3, z4⟩, HP⟩ := hz _ rfl
       clear hz HS HL
       go_wp2
       refine bodyPost_ret (v := .agg #[.int .i64 30, .string (bsA x1b), .int .i64 0, .int .i64 x1d, .slice (some ⟨b65, 0, none⟩) 2 2]) (by simp [results, Tryz.results162, go_sem, z0, z1, z2, z3, z4]) rfl HP.out
end Go.Proofs.YtgdndahhledikaaGreatDoor
