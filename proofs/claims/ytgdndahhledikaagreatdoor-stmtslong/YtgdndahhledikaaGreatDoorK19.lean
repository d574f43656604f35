/- Sxe, Exs. -/
import Derived.Test.YtgdndahhledikaaGreatDoorK18
import Derived.Test.YtgdndahhledikaaGreatDoorK13
namespace Go.Proofs.YtgdndahhledikaaGreatDoor
open Go.ChangeShapes Go.WideShapes Go.ChangeAt Go.RowKit
set_option linter.unusedSimpArgs false
set_option maxRecDepth 20000
set_option maxHeartbeats 4000000
structure ExpR (ta : Option Addr) (cap : Nat) (T : List Tt) (E : Nat → Rz X) : Prop where
 run : ∀ (i0 : Nat) (w : World) (r : Sum Er (X × Nat)), i0 ≤ T.length → TksAt w ta T → T.length ≤ 1000000000 → (∀ b o, ta = some ⟨b, o, none⟩ → b < w.heap.size) → E i0 = some r → Calls Tryz.prog 118 #[.slice ta T.length cap, .int .i64 (i0 : Nat)] w (EPost w r)
 ne : ∀ i q, E i = some (.inl q) → q.2 ≠ 0
 le : ∀ i x j, E i = some (.inr (x, j)) → j ≤ T.length
theorem expr_s (rb : Nat) (ta : Option Addr) (cap : Nat) (T : List Tt) (E : Nat → Rz X) (hE : ExpR ta cap T E) : RdX rb ta cap T 80 (fun i _ => E i) := by
 intro i op w r hop hr h
 dsimp only at h
 have HS : Hid (St rb ta cap T w [(w.heap.size, z5)] [] i op (w.alloc o5)) := (St.start hr).newO z5
 have hlt := cell_lt hr.c0
 have HE : Hid _ := hE.run
 have HEI : Hid (E i = some r) := h
 have HIL : Hid (i ≤ T.length) := hr.le
 obtain ⟨n, hn⟩ : ∃ n, T.length = n := ⟨_, rfl⟩
 have HLn : Hid (T.length = n) := hn
 unfold ptr
 clear hn
 cases r with
 | inl q =>
  obtain ⟨q1, q2⟩ := q
  have g2 : (q2 != 0) = true := by simpa using hE.ne i _ h
  clear hr h hE
  go_enter Tryz.func80, Tryz.ntmps80
  go_wp2_with fail
  refine wp_region_held_drew (S := (fun wS => Rdr wS rb ta cap T i op)) (by kernel_rfl) ?_ (fun hHeld => ?_)
  · exact HS.out.rdr.below (Below.refl _ _).drew
  refine tk 0 (some 7) (v := ?_) rfl ?_ ?_
  rotate_left
  · intro wS hSw; (try dsimp only at hSw); go_simp; (try with_reducible rfl)
  try simp only [Act.put, List.setIfInBounds_toArray, List.set_cons_zero, List.set_cons_succ]
  refine tk 1 (some 8) (v := ?_) rfl ?_ ?_
  rotate_left
  · intro wS hSw; (try dsimp only at hSw); go_simp; (try with_reducible rfl)
  try simp only [Act.put, List.setIfInBounds_toArray, List.set_cons_zero, List.set_cons_succ]
  refine tk 2 (some 9) (v := ?_) rfl ?_ ?_
  rotate_left
  · intro wS hSw; (try dsimp only at hSw); go_simp; (try with_reducible rfl)
  try simp only [Act.put, List.setIfInBounds_toArray, List.set_cons_zero, List.set_cons_succ]
  refine tk 3 (some 10) (v := ?_) rfl ?_ ?_
  rotate_left
  · intro wS hSw; (try dsimp only at hSw); have c0 := hSw.c0; rw [HLn.out] at c0; go_simp; (try with_reducible rfl)
  try simp only [Act.put, List.setIfInBounds_toArray, List.set_cons_zero, List.set_cons_succ]
  refine tk 4 (some 11) (v := ?_) rfl ?_ ?_
  rotate_left
  · intro wS hSw; (try dsimp only at hSw); go_simp; (try with_reducible rfl)
  try simp only [Act.put, List.setIfInBounds_toArray, List.set_cons_zero, List.set_cons_succ]
  refine tk 5 (some 12) (v := ?_) rfl ?_ ?_
  rotate_left
  · intro wS hSw; (try dsimp only at hSw); go_simp; (try with_reducible rfl)
  try simp only [Act.put, List.setIfInBounds_toArray, List.set_cons_zero, List.set_cons_succ]
  refine tk 6 (some 13) (v := ?_) rfl ?_ ?_
  rotate_left
  · intro wS hSw; (try dsimp only at hSw); go_simp; (try with_reducible rfl)
  try simp only [Act.put, List.setIfInBounds_toArray, List.set_cons_zero, List.set_cons_succ]
  refine tk 7 (some 14) (v := ?_) rfl ?_ ?_
  rotate_left
  · intro wS hSw; (try dsimp only at hSw); have c1 := hSw.c1; go_simp; (try with_reducible rfl)
  try simp only [Act.put, List.setIfInBounds_toArray, List.set_cons_zero, List.set_cons_succ]
  have HS : Hid (St rb ta cap T w [(w.heap.size, z5)] [] i op (w.alloc o5).drew) := HS.out.drew
  generalize (w.alloc o5).drew = v0 at HS ⊢
  refine wpAnyH_ready (rs := [8, 13]) (by kernel_rfl) (by simp) ?_
  refine AllReadyH.cons rfl (fun K hK => ?_) (AllReadyH.cons rfl (fun K hK => ?_) AllReadyH.nil)
  ·
   have hc := HE.out i _ _ HIL.out HS.out.rdr.toks HS.out.rdr.len (fun b o e => by have h1 := HS.out.rdr.apart b o e; have h2 := cell_lt HS.out.rdr.c0; omega) HEI.out
   rw [HLn.out] at hc
   go_simp
   refine hc.mono ?_
   intro e w1 hpost
   clear hc
   obtain ⟨rfl, hb1⟩ : e = .returned (.tuple #[nV 0 [] 0 0 (.slice none 0 0), .int .i64 (q1 : Nat), .int .i64 q2]) ∧ Below _ _ w1 := hpost
   have HS : Hid (St rb ta cap T w [(w.heap.size, z5)] [] i op w1) := HS.out.below hb1
   unfold nV
   clear hb1
   refine hK.out _ _ ?_ (fun hHz => ?_)
   · exact HS.out.rdr
   clear hK K hHz
   try simp only [Act.put, List.setIfInBounds_toArray, List.set_cons_zero, List.set_cons_succ]
   refine tk 9 (some 6) (v := ?_) rfl ?_ ?_ (hS := HS.out.rdr)
   rotate_left
   · intro wS hSw; (try dsimp only at hSw); go_simp; (try with_reducible rfl)
   try simp only [Act.put, List.setIfInBounds_toArray, List.set_cons_zero, List.set_cons_succ]
   refine tk 10 (some 16) (v := ?_) rfl ?_ ?_ (hS := HS.out.rdr)
   rotate_left
   · intro wS hSw; (try dsimp only at hSw); go_simp; (try with_reducible rfl)
   try simp only [Act.put, List.setIfInBounds_toArray, List.set_cons_zero, List.set_cons_succ]
   refine tk 11 (some 17) (v := ?_) rfl ?_ ?_ (hS := HS.out.rdr)
   rotate_left
   · intro wS hSw; (try dsimp only at hSw); go_simp; (try with_reducible rfl)
   try simp only [Act.put, List.setIfInBounds_toArray, List.set_cons_zero, List.set_cons_succ]
   refine tk 12 (some 18) (v := ?_) rfl ?_ ?_ (hS := HS.out.rdr)
   rotate_left
   · intro wS hSw; (try dsimp only at hSw); go_simp; (try with_reducible rfl)
   try simp only [Act.put, List.setIfInBounds_toArray, List.set_cons_zero, List.set_cons_succ]
   refine wpAnyH_ready (rs := [13]) (by kernel_rfl) (by simp) ?_
   refine AllReadyH.cons rfl (fun K hK => ?_) AllReadyH.nil
   go_simp
   have HS : Hid (St rb ta cap T w [(w1.heap.size, z5), (w.heap.size, z5)] [] i op (w1.alloc o5)) := HS.out.newO z5
   refine hK.out _ _ ?_ (fun hHz => ?_)
   · exact HS.out.rdr
   clear hK K hHz
   try simp only [Act.put, List.setIfInBounds_toArray, List.set_cons_zero, List.set_cons_succ]
   obtain ⟨nb, hnb⟩ : ∃ nb, nb = w1.heap.size := ⟨_, rfl⟩
   rw [← hnb] at HS ⊢
   generalize (w1.alloc o5) = w2 at HS ⊢
   clear hnb
   refine wpAnyH_ready (rs := [14]) (by kernel_rfl) (by simp) ?_
   refine AllReadyH.cons rfl (fun K hK => ?_) AllReadyH.nil
   have hz0 := HS.out.c5 List.mem_cons_self
   have hz1 := HS.out.f5 List.mem_cons_self
   obtain ⟨y1, y2, y3, y4, y5⟩ := hz0
   obtain ⟨f1, f2, f3, f4, f5⟩ := hz1
   go_simp
   clear y1 y2 y3 y4 y5 f1 f2 f3 f4 f5
   have HS : Hid (St rb ta cap T w [(nb, (nL 0 [] 0 0 (.slice none 0 0))), (w.heap.size, z5)] [] i op (((((w2.setCell ⟨nb, 0, none⟩ (.int .i64 0)).setCell ⟨nb, 1, none⟩ (.string (bsA []))).setCell ⟨nb, 2, none⟩ (.int .i64 0)).setCell ⟨nb, 3, none⟩ (.int .i64 0)).setCell ⟨nb, 4, none⟩ (.slice none 0 0))) := St.put [] (St.put [] (St.put [] (St.put [] (St.put [] HS.out 0 (.int .i64 0)) 1 (.string (bsA []))) 2 (.int .i64 0)) 3 (.int .i64 0)) 4 (.slice none 0 0)
   refine hK.out _ _ ?_ (fun hHz => ?_)
   · exact HS.out.rdr
   clear hK K hHz
   try simp only [Act.put, List.setIfInBounds_toArray, List.set_cons_zero, List.set_cons_succ]
   generalize (((((w2.setCell ⟨nb, 0, none⟩ (.int .i64 0)).setCell ⟨nb, 1, none⟩ (.string (bsA []))).setCell ⟨nb, 2, none⟩ (.int .i64 0)).setCell ⟨nb, 3, none⟩ (.int .i64 0)).setCell ⟨nb, 4, none⟩ (.slice none 0 0)) = wv at HS ⊢
   refine tk 15 (some 4) (v := ?_) rfl ?_ ?_ (hS := HS.out.rdr)
   rotate_left
   · intro wS hSw; (try dsimp only at hSw); go_simp; (try with_reducible rfl)
   try simp only [Act.put, List.setIfInBounds_toArray, List.set_cons_zero, List.set_cons_succ]
   refine tk 16 (some 5) (v := ?_) rfl ?_ ?_ (hS := HS.out.rdr)
   rotate_left
   · intro wS hSw; (try dsimp only at hSw); go_simp; (try with_reducible rfl)
   try simp only [Act.put, List.setIfInBounds_toArray, List.set_cons_zero, List.set_cons_succ]
   refine wpAnyH_done (by kernel_rfl) ?_ _
   have HP : Hid (SPost VX rb ta cap T op w (.inl (q1, q2)) (.panicked [{ v := fsV q1 q2, recovered := false }]) wv) := HS.out.err (Fx.refl _) rfl
   unfold fsV at HP
   clear HS
   go_wp2
   exact ⟨rfl, HP.out⟩
  ·
   go_simp
   have HS : Hid (St rb ta cap T w [(v0.heap.size, z5), (w.heap.size, z5)] [] i op (v0.alloc o5)) := HS.out.newO z5
   refine hK.out _ _ ?_ (fun hHz => ?_)
   · exact HS.out.rdr
   clear hK K hHz
   try simp only [Act.put, List.setIfInBounds_toArray, List.set_cons_zero, List.set_cons_succ]
   obtain ⟨nb, hnb⟩ : ∃ nb, nb = v0.heap.size := ⟨_, rfl⟩
   rw [← hnb] at HS ⊢
   generalize (v0.alloc o5) = w2 at HS ⊢
   clear hnb
   refine wpAnyH_ready (rs := [8]) (by kernel_rfl) (by simp) ?_
   refine AllReadyH.cons rfl (fun K hK => ?_) AllReadyH.nil
   have hc := HE.out i _ _ HIL.out HS.out.rdr.toks HS.out.rdr.len (fun b o e => by have h1 := HS.out.rdr.apart b o e; have h2 := cell_lt HS.out.rdr.c0; omega) HEI.out
   rw [HLn.out] at hc
   go_simp
   refine hc.mono ?_
   intro e w1 hpost
   clear hc
   obtain ⟨rfl, hb1⟩ : e = .returned (.tuple #[nV 0 [] 0 0 (.slice none 0 0), .int .i64 (q1 : Nat), .int .i64 q2]) ∧ Below _ _ w1 := hpost
   have HS : Hid (St rb ta cap T w [(nb, z5), (w.heap.size, z5)] [] i op w1) := HS.out.below hb1
   unfold nV
   clear hb1
   refine hK.out _ _ ?_ (fun hHz => ?_)
   · exact HS.out.rdr
   clear hK K hHz
   try simp only [Act.put, List.setIfInBounds_toArray, List.set_cons_zero, List.set_cons_succ]
   refine tk 9 (some 6) (v := ?_) rfl ?_ ?_ (hS := HS.out.rdr)
   rotate_left
   · intro wS hSw; (try dsimp only at hSw); go_simp; (try with_reducible rfl)
   try simp only [Act.put, List.setIfInBounds_toArray, List.set_cons_zero, List.set_cons_succ]
   refine tk 10 (some 16) (v := ?_) rfl ?_ ?_ (hS := HS.out.rdr)
   rotate_left
   · intro wS hSw; (try dsimp only at hSw); go_simp; (try with_reducible rfl)
   try simp only [Act.put, List.setIfInBounds_toArray, List.set_cons_zero, List.set_cons_succ]
   refine tk 11 (some 17) (v := ?_) rfl ?_ ?_ (hS := HS.out.rdr)
   rotate_left
   · intro wS hSw; (try dsimp only at hSw); go_simp; (try with_reducible rfl)
   try simp only [Act.put, List.setIfInBounds_toArray, List.set_cons_zero, List.set_cons_succ]
   refine tk 12 (some 18) (v := ?_) rfl ?_ ?_ (hS := HS.out.rdr)
   rotate_left
   · intro wS hSw; (try dsimp only at hSw); go_simp; (try with_reducible rfl)
   try simp only [Act.put, List.setIfInBounds_toArray, List.set_cons_zero, List.set_cons_succ]
   refine wpAnyH_ready (rs := [14]) (by kernel_rfl) (by simp) ?_
   refine AllReadyH.cons rfl (fun K hK => ?_) AllReadyH.nil
   have hz0 := HS.out.c5 List.mem_cons_self
   have hz1 := HS.out.f5 List.mem_cons_self
   obtain ⟨y1, y2, y3, y4, y5⟩ := hz0
   obtain ⟨f1, f2, f3, f4, f5⟩ := hz1
   go_simp
   clear y1 y2 y3 y4 y5 f1 f2 f3 f4 f5
   have HS : Hid (St rb ta cap T w [(nb, (nL 0 [] 0 0 (.slice none 0 0))), (w.heap.size, z5)] [] i op (((((w1.setCell ⟨nb, 0, none⟩ (.int .i64 0)).setCell ⟨nb, 1, none⟩ (.string (bsA []))).setCell ⟨nb, 2, none⟩ (.int .i64 0)).setCell ⟨nb, 3, none⟩ (.int .i64 0)).setCell ⟨nb, 4, none⟩ (.slice none 0 0))) := St.put [] (St.put [] (St.put [] (St.put [] (St.put [] HS.out 0 (.int .i64 0)) 1 (.string (bsA []))) 2 (.int .i64 0)) 3 (.int .i64 0)) 4 (.slice none 0 0)
   refine hK.out _ _ ?_ (fun hHz => ?_)
   · exact HS.out.rdr
   clear hK K hHz
   try simp only [Act.put, List.setIfInBounds_toArray, List.set_cons_zero, List.set_cons_succ]
   generalize (((((w1.setCell ⟨nb, 0, none⟩ (.int .i64 0)).setCell ⟨nb, 1, none⟩ (.string (bsA []))).setCell ⟨nb, 2, none⟩ (.int .i64 0)).setCell ⟨nb, 3, none⟩ (.int .i64 0)).setCell ⟨nb, 4, none⟩ (.slice none 0 0)) = wv at HS ⊢
   refine tk 15 (some 4) (v := ?_) rfl ?_ ?_ (hS := HS.out.rdr)
   rotate_left
   · intro wS hSw; (try dsimp only at hSw); go_simp; (try with_reducible rfl)
   try simp only [Act.put, List.setIfInBounds_toArray, List.set_cons_zero, List.set_cons_succ]
   refine tk 16 (some 5) (v := ?_) rfl ?_ ?_ (hS := HS.out.rdr)
   rotate_left
   · intro wS hSw; (try dsimp only at hSw); go_simp; (try with_reducible rfl)
   try simp only [Act.put, List.setIfInBounds_toArray, List.set_cons_zero, List.set_cons_succ]
   refine wpAnyH_done (by kernel_rfl) ?_ _
   have HP : Hid (SPost VX rb ta cap T op w (.inl (q1, q2)) (.panicked [{ v := fsV q1 q2, recovered := false }]) wv) := HS.out.err (Fx.refl _) rfl
   unfold fsV at HP
   clear HS
   go_wp2
   exact ⟨rfl, HP.out⟩
 | inr q =>
  obtain ⟨x, j⟩ := q
  have HJ : Hid (j ≤ T.length) := hE.le i x j h
  clear hr h hE
  go_enter Tryz.func80, Tryz.ntmps80
  go_wp2_with fail
  refine wp_region_held_drew (S := (fun wS => Rdr wS rb ta cap T i op)) (by kernel_rfl) ?_ (fun hHeld => ?_)
  · exact HS.out.rdr.below (Below.refl _ _).drew
  refine tk 0 (some 7) (v := ?_) rfl ?_ ?_
  rotate_left
  · intro wS hSw; (try dsimp only at hSw); go_simp; (try with_reducible rfl)
  try simp only [Act.put, List.setIfInBounds_toArray, List.set_cons_zero, List.set_cons_succ]
  refine tk 1 (some 8) (v := ?_) rfl ?_ ?_
  rotate_left
  · intro wS hSw; (try dsimp only at hSw); go_simp; (try with_reducible rfl)
  try simp only [Act.put, List.setIfInBounds_toArray, List.set_cons_zero, List.set_cons_succ]
  refine tk 2 (some 9) (v := ?_) rfl ?_ ?_
  rotate_left
  · intro wS hSw; (try dsimp only at hSw); go_simp; (try with_reducible rfl)
  try simp only [Act.put, List.setIfInBounds_toArray, List.set_cons_zero, List.set_cons_succ]
  refine tk 3 (some 10) (v := ?_) rfl ?_ ?_
  rotate_left
  · intro wS hSw; (try dsimp only at hSw); have c0 := hSw.c0; rw [HLn.out] at c0; go_simp; (try with_reducible rfl)
  try simp only [Act.put, List.setIfInBounds_toArray, List.set_cons_zero, List.set_cons_succ]
  refine tk 4 (some 11) (v := ?_) rfl ?_ ?_
  rotate_left
  · intro wS hSw; (try dsimp only at hSw); go_simp; (try with_reducible rfl)
  try simp only [Act.put, List.setIfInBounds_toArray, List.set_cons_zero, List.set_cons_succ]
  refine tk 5 (some 12) (v := ?_) rfl ?_ ?_
  rotate_left
  · intro wS hSw; (try dsimp only at hSw); go_simp; (try with_reducible rfl)
  try simp only [Act.put, List.setIfInBounds_toArray, List.set_cons_zero, List.set_cons_succ]
  refine tk 6 (some 13) (v := ?_) rfl ?_ ?_
  rotate_left
  · intro wS hSw; (try dsimp only at hSw); go_simp; (try with_reducible rfl)
  try simp only [Act.put, List.setIfInBounds_toArray, List.set_cons_zero, List.set_cons_succ]
  refine tk 7 (some 14) (v := ?_) rfl ?_ ?_
  rotate_left
  · intro wS hSw; (try dsimp only at hSw); have c1 := hSw.c1; go_simp; (try with_reducible rfl)
  try simp only [Act.put, List.setIfInBounds_toArray, List.set_cons_zero, List.set_cons_succ]
  have HS : Hid (St rb ta cap T w [(w.heap.size, z5)] [] i op (w.alloc o5).drew) := HS.out.drew
  generalize (w.alloc o5).drew = v0 at HS ⊢
  refine wpAnyH_ready (rs := [8, 13]) (by kernel_rfl) (by simp) ?_
  refine AllReadyH.cons rfl (fun K hK => ?_) (AllReadyH.cons rfl (fun K hK => ?_) AllReadyH.nil)
  ·
   have hc := HE.out i _ _ HIL.out HS.out.rdr.toks HS.out.rdr.len (fun b o e => by have h1 := HS.out.rdr.apart b o e; have h2 := cell_lt HS.out.rdr.c0; omega) HEI.out
   rw [HLn.out] at hc
   go_simp
   refine hc.mono ?_
   intro e w1 hpost
   clear hc
   obtain ⟨s, c, rfl, hx, hb1⟩ : ∃ s c, e = .returned (.tuple #[xV x s c, .int .i64 (j : Nat), .int .i64 0]) ∧ XAt _ w1 x s ∧ Below _ _ w1 := by obtain ⟨⟨s, c, h1, h2⟩, h3⟩ := hpost; exact ⟨s, c, h1, h2, h3⟩
   have HS : Hid (St rb ta cap T w [(w.heap.size, z5)] [(x, s)] i op w1) := HS.out.tree (Fx.below hb1) (HS.out.rdr.below hb1) hx
   unfold xV nV
   clear hx hpost hb1
   refine hK.out _ _ ?_ (fun hHz => ?_)
   · exact HS.out.rdr
   clear hK K hHz
   try simp only [Act.put, List.setIfInBounds_toArray, List.set_cons_zero, List.set_cons_succ]
   refine tk 9 (some 6) (v := ?_) rfl ?_ ?_ (hS := HS.out.rdr)
   rotate_left
   · intro wS hSw; (try dsimp only at hSw); go_simp; (try with_reducible rfl)
   try simp only [Act.put, List.setIfInBounds_toArray, List.set_cons_zero, List.set_cons_succ]
   refine tk 10 (some 16) (v := ?_) rfl ?_ ?_ (hS := HS.out.rdr)
   rotate_left
   · intro wS hSw; (try dsimp only at hSw); go_simp; (try with_reducible rfl)
   try simp only [Act.put, List.setIfInBounds_toArray, List.set_cons_zero, List.set_cons_succ]
   refine tk 11 (some 17) (v := ?_) rfl ?_ ?_ (hS := HS.out.rdr)
   rotate_left
   · intro wS hSw; (try dsimp only at hSw); go_simp; (try with_reducible rfl)
   try simp only [Act.put, List.setIfInBounds_toArray, List.set_cons_zero, List.set_cons_succ]
   refine tk 12 (some 18) (v := ?_) rfl ?_ ?_ (hS := HS.out.rdr)
   rotate_left
   · intro wS hSw; (try dsimp only at hSw); go_simp; (try with_reducible rfl)
   try simp only [Act.put, List.setIfInBounds_toArray, List.set_cons_zero, List.set_cons_succ]
   refine wpAnyH_ready (rs := [13]) (by kernel_rfl) (by simp) ?_
   refine AllReadyH.cons rfl (fun K hK => ?_) AllReadyH.nil
   go_simp
   have HS : Hid (St rb ta cap T w [(w1.heap.size, z5), (w.heap.size, z5)] [(x, s)] i op (w1.alloc o5)) := HS.out.newO z5
   refine hK.out _ _ ?_ (fun hHz => ?_)
   · exact HS.out.rdr
   clear hK K hHz
   try simp only [Act.put, List.setIfInBounds_toArray, List.set_cons_zero, List.set_cons_succ]
   obtain ⟨nb, hnb⟩ : ∃ nb, nb = w1.heap.size := ⟨_, rfl⟩
   rw [← hnb] at HS ⊢
   generalize (w1.alloc o5) = w2 at HS ⊢
   clear hnb
   refine wpAnyH_ready (rs := [14]) (by kernel_rfl) (by simp) ?_
   refine AllReadyH.cons rfl (fun K hK => ?_) AllReadyH.nil
   have hz0 := HS.out.c5 List.mem_cons_self
   have hz1 := HS.out.f5 List.mem_cons_self
   obtain ⟨y1, y2, y3, y4, y5⟩ := hz0
   obtain ⟨f1, f2, f3, f4, f5⟩ := hz1
   go_simp
   clear y1 y2 y3 y4 y5 f1 f2 f3 f4 f5
   have HS : Hid (St rb ta cap T w [(nb, xL x s c), (w.heap.size, z5)] [(x, s)] i op (((((w2.setCell ⟨nb, 0, none⟩ (.int .i64 (xk x))).setCell ⟨nb, 1, none⟩ (.string (bsA (xt x)))).setCell ⟨nb, 2, none⟩ (.int .i64 (xn x))).setCell ⟨nb, 3, none⟩ (.int .i64 (xa x))).setCell ⟨nb, 4, none⟩ (.slice s (xl x) c))) := St.put [] (St.put [] (St.put [] (St.put [] (St.put [] HS.out 0 (.int .i64 (xk x))) 1 (.string (bsA (xt x)))) 2 (.int .i64 (xn x))) 3 (.int .i64 (xa x))) 4 (.slice s (xl x) c)
   refine hK.out _ _ ?_ (fun hHz => ?_)
   · exact HS.out.rdr
   clear hK K hHz
   try simp only [Act.put, List.setIfInBounds_toArray, List.set_cons_zero, List.set_cons_succ]
   generalize (((((w2.setCell ⟨nb, 0, none⟩ (.int .i64 (xk x))).setCell ⟨nb, 1, none⟩ (.string (bsA (xt x)))).setCell ⟨nb, 2, none⟩ (.int .i64 (xn x))).setCell ⟨nb, 3, none⟩ (.int .i64 (xa x))).setCell ⟨nb, 4, none⟩ (.slice s (xl x) c)) = wv at HS ⊢
   refine tk 15 (some 4) (v := ?_) rfl ?_ ?_ (hS := HS.out.rdr)
   rotate_left
   · intro wS hSw; (try dsimp only at hSw); go_simp; (try with_reducible rfl)
   try simp only [Act.put, List.setIfInBounds_toArray, List.set_cons_zero, List.set_cons_succ]
   refine tk 16 (some 5) (v := ?_) rfl ?_ ?_ (hS := HS.out.rdr)
   rotate_left
   · intro wS hSw; (try dsimp only at hSw); go_simp; (try with_reducible rfl)
   try simp only [Act.put, List.setIfInBounds_toArray, List.set_cons_zero, List.set_cons_succ]
   refine wpAnyH_done (by kernel_rfl) ?_ _
   have c1 := HS.out.rdr.c1
   have f1 := HS.out.rdr.f1
   obtain ⟨y1, y2, y3, y4, y5⟩ := HS.out.c5 List.mem_cons_self
   have HS : Hid (St rb ta cap T w [(nb, xL x s c), (w.heap.size, z5)] [(x, s)] j op (wv.setCell ⟨rb, 1, none⟩ (.int .i64 (j : Nat)))) := HS.out.call (Fx.set _ _ _) (HS.out.rdr.at j HJ.out)
   obtain ⟨x1, x2, x3, x4, x5⟩ := HS.out.c5 List.mem_cons_self
   obtain ⟨⟨d0, d1, d2, d3, d4⟩, ⟨g0, g1, g2, g3, g4⟩, hz⟩ := St.fin5 [(nb, xL x s c)] HS.out (v0 := .int .i64 (xk x)) (v1 := .string (bsA (xt x))) (v2 := .int .i64 (xn x)) (v3 := .int .i64 (xa x)) (v4 := .slice s (xl x) c) (c := c) (r := .inr (x, j)) rfl List.mem_cons_self rfl
   obtain ⟨⟨z0, z1, z2, z3, z4⟩, HP⟩ := hz _ rfl
   clear hz HS
   go_wp2
   refine bodyPost_ret (v := .agg #[.int .i64 (xk x), .string (bsA (xt x)), .int .i64 (xn x), .int .i64 (xa x), .slice s (xl x) c]) (by simp [results, Tryz.results80, go_sem, z0, z1, z2, z3, z4]) rfl HP.out
  ·
   go_simp
   have HS : Hid (St rb ta cap T w [(v0.heap.size, z5), (w.heap.size, z5)] [] i op (v0.alloc o5)) := HS.out.newO z5
   refine hK.out _ _ ?_ (fun hHz => ?_)
   · exact HS.out.rdr
   clear hK K hHz
   try simp only [Act.put, List.setIfInBounds_toArray, List.set_cons_zero, List.set_cons_succ]
   obtain ⟨nb, hnb⟩ : ∃ nb, nb = v0.heap.size := ⟨_, rfl⟩
   rw [← hnb] at HS ⊢
   generalize (v0.alloc o5) = w2 at HS ⊢
   clear hnb
   refine wpAnyH_ready (rs := [8]) (by kernel_rfl) (by simp) ?_
   refine AllReadyH.cons rfl (fun K hK => ?_) AllReadyH.nil
   have hc := HE.out i _ _ HIL.out HS.out.rdr.toks HS.out.rdr.len (fun b o e => by have h1 := HS.out.rdr.apart b o e; have h2 := cell_lt HS.out.rdr.c0; omega) HEI.out
   rw [HLn.out] at hc
   go_simp
   refine hc.mono ?_
   intro e w1 hpost
   clear hc
   obtain ⟨s, c, rfl, hx, hb1⟩ : ∃ s c, e = .returned (.tuple #[xV x s c, .int .i64 (j : Nat), .int .i64 0]) ∧ XAt _ w1 x s ∧ Below _ _ w1 := by obtain ⟨⟨s, c, h1, h2⟩, h3⟩ := hpost; exact ⟨s, c, h1, h2, h3⟩
   have HS : Hid (St rb ta cap T w [(nb, z5), (w.heap.size, z5)] [(x, s)] i op w1) := HS.out.tree (Fx.below hb1) (HS.out.rdr.below hb1) hx
   unfold xV nV
   clear hx hpost hb1
   refine hK.out _ _ ?_ (fun hHz => ?_)
   · exact HS.out.rdr
   clear hK K hHz
   try simp only [Act.put, List.setIfInBounds_toArray, List.set_cons_zero, List.set_cons_succ]
   refine tk 9 (some 6) (v := ?_) rfl ?_ ?_ (hS := HS.out.rdr)
   rotate_left
   · intro wS hSw; (try dsimp only at hSw); go_simp; (try with_reducible rfl)
   try simp only [Act.put, List.setIfInBounds_toArray, List.set_cons_zero, List.set_cons_succ]
   refine tk 10 (some 16) (v := ?_) rfl ?_ ?_ (hS := HS.out.rdr)
   rotate_left
   · intro wS hSw; (try dsimp only at hSw); go_simp; (try with_reducible rfl)
   try simp only [Act.put, List.setIfInBounds_toArray, List.set_cons_zero, List.set_cons_succ]
   refine tk 11 (some 17) (v := ?_) rfl ?_ ?_ (hS := HS.out.rdr)
   rotate_left
   · intro wS hSw; (try dsimp only at hSw); go_simp; (try with_reducible rfl)
   try simp only [Act.put, List.setIfInBounds_toArray, List.set_cons_zero, List.set_cons_succ]
   refine tk 12 (some 18) (v := ?_) rfl ?_ ?_ (hS := HS.out.rdr)
   rotate_left
   · intro wS hSw; (try dsimp only at hSw); go_simp; (try with_reducible rfl)
   try simp only [Act.put, List.setIfInBounds_toArray, List.set_cons_zero, List.set_cons_succ]
   refine wpAnyH_ready (rs := [14]) (by kernel_rfl) (by simp) ?_
   refine AllReadyH.cons rfl (fun K hK => ?_) AllReadyH.nil
   have hz0 := HS.out.c5 List.mem_cons_self
   have hz1 := HS.out.f5 List.mem_cons_self
   obtain ⟨y1, y2, y3, y4, y5⟩ := hz0
   obtain ⟨f1, f2, f3, f4, f5⟩ := hz1
   go_simp
   clear y1 y2 y3 y4 y5 f1 f2 f3 f4 f5
   have HS : Hid (St rb ta cap T w [(nb, xL x s c), (w.heap.size, z5)] [(x, s)] i op (((((w1.setCell ⟨nb, 0, none⟩ (.int .i64 (xk x))).setCell ⟨nb, 1, none⟩ (.string (bsA (xt x)))).setCell ⟨nb, 2, none⟩ (.int .i64 (xn x))).setCell ⟨nb, 3, none⟩ (.int .i64 (xa x))).setCell ⟨nb, 4, none⟩ (.slice s (xl x) c))) := St.put [] (St.put [] (St.put [] (St.put [] (St.put [] HS.out 0 (.int .i64 (xk x))) 1 (.string (bsA (xt x)))) 2 (.int .i64 (xn x))) 3 (.int .i64 (xa x))) 4 (.slice s (xl x) c)
   refine hK.out _ _ ?_ (fun hHz => ?_)
   · exact HS.out.rdr
   clear hK K hHz
   try simp only [Act.put, List.setIfInBounds_toArray, List.set_cons_zero, List.set_cons_succ]
   generalize (((((w1.setCell ⟨nb, 0, none⟩ (.int .i64 (xk x))).setCell ⟨nb, 1, none⟩ (.string (bsA (xt x)))).setCell ⟨nb, 2, none⟩ (.int .i64 (xn x))).setCell ⟨nb, 3, none⟩ (.int .i64 (xa x))).setCell ⟨nb, 4, none⟩ (.slice s (xl x) c)) = wv at HS ⊢
   refine tk 15 (some 4) (v := ?_) rfl ?_ ?_ (hS := HS.out.rdr)
   rotate_left
   · intro wS hSw; (try dsimp only at hSw); go_simp; (try with_reducible rfl)
   try simp only [Act.put, List.setIfInBounds_toArray, List.set_cons_zero, List.set_cons_succ]
   refine tk 16 (some 5) (v := ?_) rfl ?_ ?_ (hS := HS.out.rdr)
   rotate_left
   · intro wS hSw; (try dsimp only at hSw); go_simp; (try with_reducible rfl)
   try simp only [Act.put, List.setIfInBounds_toArray, List.set_cons_zero, List.set_cons_succ]
   refine wpAnyH_done (by kernel_rfl) ?_ _
   have c1 := HS.out.rdr.c1
   have f1 := HS.out.rdr.f1
   obtain ⟨y1, y2, y3, y4, y5⟩ := HS.out.c5 List.mem_cons_self
   have HS : Hid (St rb ta cap T w [(nb, xL x s c), (w.heap.size, z5)] [(x, s)] j op (wv.setCell ⟨rb, 1, none⟩ (.int .i64 (j : Nat)))) := HS.out.call (Fx.set _ _ _) (HS.out.rdr.at j HJ.out)
   obtain ⟨x1, x2, x3, x4, x5⟩ := HS.out.c5 List.mem_cons_self
   obtain ⟨⟨d0, d1, d2, d3, d4⟩, ⟨g0, g1, g2, g3, g4⟩, hz⟩ := St.fin5 [(nb, xL x s c)] HS.out (v0 := .int .i64 (xk x)) (v1 := .string (bsA (xt x))) (v2 := .int .i64 (xn x)) (v3 := .int .i64 (xa x)) (v4 := .slice s (xl x) c) (c := c) (r := .inr (x, j)) rfl List.mem_cons_self rfl
   obtain ⟨⟨z0, z1, z2, z3, z4⟩, HP⟩ := hz _ rfl
   clear hz HS
   go_wp2
   refine bodyPost_ret (v := .agg #[.int .i64 (xk x), .string (bsA (xt x)), .int .i64 (xn x), .int .i64 (xa x), .slice s (xl x) c]) (by simp [results, Tryz.results80, go_sem, z0, z1, z2, z3, z4]) rfl HP.out
end Go.Proofs.YtgdndahhledikaaGreatDoor
namespace Go.Proofs.YtgdndahhledikaaGreatDoor
open Go.ChangeShapes Go.WideShapes Go.ChangeAt Go.RowKit
set_option linter.unusedSimpArgs false
set_option maxRecDepth 20000
set_option maxHeartbeats 4000000
theorem TReads.no {rb : Nat} {ta : Option Addr} {cap : Nat} {T : List Tt} (k : FuncId) : TReads rb ta cap T k (fun _ _ _ => none) := fun _ _ _ _ _ _ _ _ _ _ _ _ _ _ _ _ h => by cases h
def primR (T : List Tt) : Nat → Nat → Rz X := (fun i op => if (tkI T i).1.1 = 3 then okR (nnd 3 (tkI T i)) (i + 1) else if (tkI T i).1.1 = 4 then okR (nnd 4 (tkI T i)) (i + 1) else if (tkI T i).1.1 = 5 then okR (tnd 5 (tkI T i) []) (i + 1) else if (tkI T i).1.1 = 1 then namedG T (fun _ _ => none) i op else if (tkI T i).1.1 = 2 then none else if (tkI T i).1.1 = 6 then none else noR i 70)
def minusR (T : List Tt) (f : Nat) : Nat → Nat → Rz X := fun i op => prefP T 6 [45] (primR T) f i op
def prodR (T : List Tt) (f : Nat) : Nat → Nat → Rz X := fun i op => bnd (minusR T f i op) (lineP T 6 [[42], [47], [37]] (fun j => minusR T f j op) f)
def sumR (T : List Tt) (f : Nat) : Nat → Nat → Rz X := fun i op => bnd (prodR T f i op) (lineP T 6 [[43], [45]] (fun j => prodR T f j op) f)
def testR (T : List Tt) (f : Nat) : Nat → Nat → Rz X := (fun i op => bnd (sumR T f i op) fun x j => if isT (tkI T j) 6 [[61], [33, 61], [60], [60, 61], [62], [62, 61]] then bnd (sumR T f (j + 1) op) (fun y k => okR (mkX 8 (tkI T j).1.2.1 0 (tkI T j).2 [x, y]) k) else if isT (tkI T j) 2 [[105, 115]] then none else if isT (tkI T j) 2 [[98, 101, 116, 119, 101, 101, 110]] then none else if isT (tkI T j) 2 [[105, 110]] then none else if isT (tkI T j) 2 [[110, 111, 116]] then none else okR x j)
def notR (T : List Tt) (f : Nat) : Nat → Nat → Rz X := fun i op => prefP T 2 [110, 111, 116] (testR T f) f i op
def andR (T : List Tt) (f : Nat) : Nat → Nat → Rz X := fun i op => bnd (notR T f i op) (lineP T 2 [[97, 110, 100]] (fun j => notR T f j op) f)
def orR (T : List Tt) (f : Nat) : Nat → Nat → Rz X := fun i op => bnd (andR T f i op) (lineP T 2 [[111, 114]] (fun j => andR T f j op) f)
def exR (T : List Tt) (f : Nat) : Nat → Nat → Rz X := fun i op => if op = 100 then noR i 71 else orR T f i (op + 1)
theorem exR_reads (rb : Nat) (ta : Option Addr) (cap : Nat) (T : List Tt) (f : Nat) : Reads rb ta cap T 157 (exR T f) := by
 have hp : Reads rb ta cap T 246 (primR T) := prim_any rb ta cap T _ _ _ (named_any rb ta cap T _ (LReads.no 234)) (Reads.no 251) (Reads.no 252)
 have hm : Reads rb ta cap T 240 (minusR T f) := minus_any rb ta cap T _ hp f
 have hd : Reads rb ta cap T 231 (prodR T f) := prod_any rb ta cap T _ hm f
 have hs : Reads rb ta cap T 224 (sumR T f) := sum_any rb ta cap T _ hd f
 have ht : Reads rb ta cap T 219 (testR T f) := test_any rb ta cap T (sumR T f) _ _ _ _ hs (TReads.no 225) (TReads.no 226) (TReads.no 227) (TReads.no 228)
 have hn : Reads rb ta cap T 210 (notR T f) := not_any rb ta cap T _ ht f
 have ha : Reads rb ta cap T 196 (andR T f) := and_any rb ta cap T _ hn f
 have ho : Reads rb ta cap T 181 (orR T f) := or_any rb ta cap T _ ha f
 exact expr_any rb ta cap T _ ho
def exE (T : List Tt) (f i : Nat) : Rz X :=
 match exR T f i 0 with
 | none => none
 | some (.inl q) => if q.2 = 0 then none else some (.inl q)
 | some (.inr q) => if q.2 ≤ T.length then some (.inr q) else none
theorem exE_of {T : List Tt} {f i : Nat} {r : Sum Er (X × Nat)} (h : exE T f i = some r) : exR T f i 0 = some r ∧ (∀ q, r = .inl q → q.2 ≠ 0) ∧ ∀ q, r = .inr q → q.2 ≤ T.length := by
 unfold exE at h
 cases he : exR T f i 0 with
 | none => rw [he] at h; cases h
 | some r1 =>
  rw [he] at h
  cases r1 with
  | inl q =>
   dsimp only at h
   split at h
   · cases h
   ·
    rename_i hq
    obtain rfl := Option.some.inj h
    exact ⟨rfl, fun p hp => (by cases hp; exact hq), fun p hp => (by cases hp)⟩
  | inr q =>
   dsimp only at h
   split at h
   ·
    rename_i hq
    obtain rfl := Option.some.inj h
    exact ⟨rfl, fun p hp => (by cases hp), fun p hp => (by cases hp; exact hq)⟩
   · cases h
theorem exE_ok (ta : Option Addr) (cap : Nat) (T : List Tt) (f : Nat) : ExpR ta cap T (exE T f) where
 run := fun i0 w r hi hT hl ht h => Expr_any ta cap T (exR T f) (fun rb => exR_reads rb ta cap T f) i0 hi w hT hl ht r (exE_of h).1
 ne := fun _ q h => (exE_of h).2.1 q rfl
 le := fun _ x j h => (exE_of h).2.2 (x, j) rfl
end Go.Proofs.YtgdndahhledikaaGreatDoor
