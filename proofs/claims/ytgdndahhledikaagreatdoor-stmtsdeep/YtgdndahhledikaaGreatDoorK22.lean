/- Spl. -/
import Derived.Test.YtgdndahhledikaaGreatDoorK21
namespace Go.Proofs.YtgdndahhledikaaGreatDoor
open Go.ChangeShapes Go.WideShapes Go.ChangeAt Go.RowKit
set_option linter.unusedSimpArgs false
set_option maxRecDepth 20000
set_option maxHeartbeats 4000000
def lnQ (T : List Tt) (kind : Int) (sj : Nat → Bool) (g : Nat → Rz X) : Nat → X → Nat → Rz X
 | 0, _, _ => none
 | f + 1, n, i => if sj i = true then (if i < T.length then bnd (g (i + 1)) fun m j => lnQ T kind sj g f (mkX kind [] 0 (tkI T i).2 [n, m]) j else none) else okR n i
theorem xL_mk (k : Int) (t : List UInt8) (m a : Int) (l : List X) (s : Option Addr) (c n : Nat) (hn : l.length = n) : xL (mkX k t m a l) s c = nL k t m a (.slice s n c) := by
 unfold xL nL
 rw [mkX_len, hn]
 rfl
theorem pline_s (rb : Nat) (ta : Option Addr) (cap : Nat) (T : List Tt) (kind : Int) (kj k1 k2 : FuncId) (hentj : Ent kj) (hent1 : Ent k1) (hent2 : Ent k2) (sj : Nat → Bool) (hj : ∀ (i op : Nat) (w : World), Rdr w rb ta cap T i op → Calls Tryz.prog kj #[ptr rb] w fun e w' => e = .returned (.bool (sj i)) ∧ Below w.heap.size w w') (g1 g2 : Nat → Nat → Rz X) (h1 : RdX rb ta cap T k1 g1) (h2 : RdX rb ta cap T k2 g2) (f : Nat) : Rds VX rb ta cap T 27 #[ptr rb, .int .i64 kind, fnV kj rb, fnV k1 rb, fnV k2 rb] (fun i op => bnd (g1 i op) fun x j => lnQ T kind sj (fun j => g2 j op) f x j) := by
 intro i op w r hop hr h
 dsimp only at h
 have HS : Hid (St rb ta cap T w [] [] i op w) := St.start hr
 have HL : Hid _ := h
 have hlt := cell_lt hr.c0
 clear hr h 
 have HE1 : Hid (Ent k1) := hent1
 have HE2 : Hid (Ent k2) := hent2
 have HEJ : Hid (Ent kj) := hentj
 have HG2 : Hid (RdX rb ta cap T k2 g2) := h2
 have HJ : Hid (∀ (i op : Nat) (w : World), Rdr w rb ta cap T i op → Calls Tryz.prog kj #[ptr rb] w fun e w' => e = .returned (.bool (sj i)) ∧ Below w.heap.size w w') := hj
 unfold Ent at hent1 hent2 hentj
 unfold fnV
 unfold ptr
 go_enter Tryz.func27, Tryz.ntmps27
 have HS : Hid (St rb ta cap T w [(w.heap.size, z5)] [] i op (w.alloc o5)) := HS.out.newO z5
 obtain ⟨r1, e1, hl⟩ := bnd_some HL.out
 have HL : Hid _ := hl
 have hc := h1 i op _ r1 hop HS.out.rdr e1
 (try unfold ptr at hc)
 clear e1 hl
 go_wp2_with fail
 refine hc.mono ?_
 intro e w1 hpost
 clear hc
 cases r1 with
 | inl q =>
  obtain ⟨hG, HP⟩ := HS.out.bad2 (V := VX) (op' := op) HL.out hpost
  unfold GUs at hG
  subst hG
  clear hpost
  go_wp2
  exact ⟨rfl, HP.out⟩
 | inr q =>
  obtain ⟨x1, j1⟩ := q
  obtain ⟨s1, c1, rfl, HS⟩ := HS.out.okX hpost
  unfold xV nV
  have hl := HL.out
  rw [bnd_ok] at hl
  (try dsimp only at hl)
  have HL : Hid _ := hl
  clear hl hpost
  have HS : Hid (St rb ta cap T w [(w1.heap.size, (xL x1 s1 c1)), (w.heap.size, z5)] [(x1, s1)] j1 op (w1.alloc (xO x1 s1 c1))) := HS.out.newO (xL x1 s1 c1)
  clear h1 h2 hj
  go_wp2
  obtain ⟨b2, hnb⟩ : ∃ nb, nb = w1.heap.size := ⟨_, rfl⟩
  rw [← hnb] at HS ⊢
  clear hnb
  generalize (w1.alloc (xO x1 s1 c1)) = w2 at HS ⊢
  have HL0 : Hid (lnQ T kind sj (fun j => g2 j op) f x1 j1 = some r) := HL.out
  clear HL
  go_loopg [14] f (fun gk _ wr => ∃ (x : X) (s : Option Addr) (c i' : Nat), St rb ta cap T w [(b2, xL x s c), (w.heap.size, z5)] [(x, s)] i' op wr ∧ lnQ T kind sj (fun j => g2 j op) gk x i' = some r)
  case atStart => exact ⟨x1, s1, c1, j1, HS.out, HL0.out⟩
  case round =>
   obtain ⟨x, s, c, i', hS, hl⟩ := hrel
   obtain ⟨m, rfl⟩ : ∃ m, gk = m + 1 := by
    cases gk with
    | zero => cases hl
    | succ m => exact ⟨m, rfl⟩
   clear HS HL0
   have HS : Hid (St rb ta cap T w [(b2, (xL x s c)), (w.heap.size, z5)] [(x, s)] i' op wr) := hS
   unfold lnQ at hl
   have HL : Hid _ := hl
   clear hS hl
   have hc := HJ.out i' op _ HS.out.rdr
   unfold ptr at hc
   cases hb : sj i' with
   | true =>
    rw [hb] at hc
    have hl := HL.out
    clear HL
    simp only [hb, if_true, if_false, Bool.false_eq_true] at hl
    have HL : Hid _ := hl
    clear hl hb
    go_wp2_with fail
    refine hc.mono ?_
    rintro e w21 ⟨rfl, hb⟩
    have HS : Hid (St rb ta cap T w [(b2, (xL x s c)), (w.heap.size, z5)] [(x, s)] i' op w21) := HS.out.below hb
    clear hc hb
    by_cases hin : i' < T.length
    rotate_left
    · have hl := HL.out; rw [if_neg hin] at hl; cases hl
    have HIT : Hid _ := hin
    have hl := HL.out
    clear HL
    rw [if_pos hin] at hl
    have HL : Hid _ := hl
    clear hl hin
    obtain ⟨⟨⟨q22a, q22b, q22c⟩, q22d⟩, hq⟩ : ∃ q, tkI T i' = q := ⟨_, rfl⟩
    have HQ22 : Hid (tkI T i' = ((q22a, q22b, q22c), q22d)) := hq
    have hl := HL.out
    (try rw [hq] at hl)
    (try dsimp only at hl)
    have HL : Hid _ := hl
    clear hl hq
    go_wp2_with fail
    refine wp_region_held_drew (S := (fun _ => True)) (by kernel_rfl) trivial (fun hHeld => ?_)
    have HS : Hid (St rb ta cap T w [(b2, (xL x s c)), (w.heap.size, z5)] [(x, s)] i' op w21.drew) := HS.out.drew
    generalize w21.drew = w23 at HS ⊢
    refine tk 0 (some 16) (v := ?_) rfl ?_ ?_ (hS := trivial)
    rotate_left
    · intro wS hSw; go_simp; (try with_reducible rfl)
    try simp only [Act.put, List.setIfInBounds_toArray, List.set_cons_zero, List.set_cons_succ]
    refine tk 1 (some 17) (v := ?_) rfl ?_ ?_ (hS := trivial)
    rotate_left
    · intro wS hSw; go_simp; (try with_reducible rfl)
    try simp only [Act.put, List.setIfInBounds_toArray, List.set_cons_zero, List.set_cons_succ]
    refine tk 4 (some 20) (v := ?_) rfl ?_ ?_ (hS := trivial)
    rotate_left
    · intro wS hSw; go_simp; (try with_reducible rfl)
    try simp only [Act.put, List.setIfInBounds_toArray, List.set_cons_zero, List.set_cons_succ]
    refine wpAnyH_ready (rs := [2, 3]) (by kernel_rfl) (by simp) ?_
    refine AllReadyH.cons rfl (fun K hK => ?_) (AllReadyH.cons rfl (fun K hK => ?_) AllReadyH.nil)
    ·
     have hc := take_s rb ta cap T i' op _ HS.out.rdr HIT.out
     rw [HQ22.out] at hc
     unfold ptr ttV at hc
     dsimp only at hc
     go_simp
     refine hc.mono ?_
     rintro e w24 ⟨rfl, hr, hf⟩
     have HS : Hid (St rb ta cap T w [(b2, (xL x s c)), (w.heap.size, z5)] [(x, s)] (i' + 1) op w24) := HS.out.call hf hr
     clear hc hr hf
     refine hK.out _ _ trivial (fun hHz => ?_)
     clear hK K hHz
     try simp only [Act.put, List.setIfInBounds_toArray, List.set_cons_zero, List.set_cons_succ]
     refine wpAnyH_ready (rs := [3, 5]) (by kernel_rfl) (by simp) ?_
     refine AllReadyH.cons rfl (fun K hK => ?_) (AllReadyH.cons rfl (fun K hK => ?_) AllReadyH.nil)
     ·
      obtain ⟨y25a, y25b, y25c, y25d, y25e⟩ := HS.out.c5 List.mem_cons_self
      go_simp
      clear  y25a y25b y25c y25d y25e
      refine hK.out _ _ trivial (fun hHz => ?_)
      clear hK K hHz
      try simp only [Act.put, List.setIfInBounds_toArray, List.set_cons_zero, List.set_cons_succ]
      refine wpAnyH_ready (rs := [5]) (by kernel_rfl) (by simp) ?_
      refine AllReadyH.cons rfl (fun K hK => ?_) AllReadyH.nil
      obtain ⟨r1, e1, hl⟩ := bnd_some HL.out
      have HL : Hid _ := hl
      have hc := HG2.out (i' + 1) op _ r1 hop HS.out.rdr e1
      (try unfold ptr at hc)
      clear e1 hl
      go_simp
      refine hc.mono ?_
      intro e w26 hpost
      clear hc
      cases r1 with
      | inl q =>
       obtain ⟨hG, HP⟩ := HS.out.bad2 (V := VX) (op' := op) HL.out hpost
       unfold GUs at hG
       subst hG
       clear hpost
       exact ⟨rfl, HP.out⟩
      | inr q =>
       obtain ⟨x26, j26⟩ := q
       obtain ⟨s26, c26, rfl, HS⟩ := HS.out.okX hpost
       unfold xV nV
       have hl := HL.out
       rw [bnd_ok] at hl
       (try dsimp only at hl)
       have HL : Hid _ := hl
       clear hl hpost
       refine hK.out _ _ trivial (fun hHz => ?_)
       clear hK K hHz
       try simp only [Act.put, List.setIfInBounds_toArray, List.set_cons_zero, List.set_cons_succ]
       refine wpAnyH_ready (rs := [6]) (by kernel_rfl) (by simp) ?_
       refine AllReadyH.cons rfl (fun K hK => ?_) AllReadyH.nil
       go_simp
       have HS : Hid (St rb ta cap T w [(w26.heap.size, (xC [(x, s, c), (x26, s26, c26)])), (b2, (xL x s c)), (w.heap.size, z5)] [(x26, s26), (x, s)] j26 op (w26.alloc (.cells #[.int .i64 (xk x), .string (bsA (xt x)), .int .i64 (xn x), .int .i64 (xa x), .slice s (xl x) c, .int .i64 (xk x26), .string (bsA (xt x26)), .int .i64 (xn x26), .int .i64 (xa x26), .slice s26 (xl x26) c26] 34))) := HS.out.newO (xC [(x, s, c), (x26, s26, c26)])
       refine hK.out _ _ trivial (fun hHz => ?_)
       clear hK K hHz
       try simp only [Act.put, List.setIfInBounds_toArray, List.set_cons_zero, List.set_cons_succ]
       refine wpAnyH_ready (rs := [7]) (by kernel_rfl) (by simp) ?_
       refine AllReadyH.cons rfl (fun K hK => ?_) AllReadyH.nil
       have hc := node_s kind ((q22a, q22b, q22c), q22d) (some ⟨w26.heap.size, 0, none⟩) 2 2 (w26.alloc (.cells #[.int .i64 (xk x), .string (bsA (xt x)), .int .i64 (xn x), .int .i64 (xa x), .slice s (xl x) c, .int .i64 (xk x26), .string (bsA (xt x26)), .int .i64 (xn x26), .int .i64 (xa x26), .slice s26 (xl x26) c26] 34))
       (try unfold ttV at hc)
       (try unfold nV at hc)
       (try dsimp only at hc)
       go_simp
       refine hc.mono ?_
       rintro e w27 ⟨rfl, hb⟩
       have HS : Hid (St rb ta cap T w [(w26.heap.size, (xC [(x, s, c), (x26, s26, c26)])), (b2, (xL x s c)), (w.heap.size, z5)] [(x26, s26), (x, s)] j26 op w27) := HS.out.below hb
       clear hc hb
       refine hK.out _ _ trivial (fun hHz => ?_)
       clear hK K hHz
       try simp only [Act.put, List.setIfInBounds_toArray, List.set_cons_zero, List.set_cons_succ]
       refine wpAnyH_ready (rs := [8]) (by kernel_rfl) (by simp) ?_
       refine AllReadyH.cons rfl (fun K hK => ?_) AllReadyH.nil
       obtain ⟨y28a, y28b, y28c, y28d, y28e⟩ := HS.out.c5 (List.mem_cons_of_mem _ List.mem_cons_self)
       obtain ⟨f28a, f28b, f28c, f28d, f28e⟩ := HS.out.f5 (List.mem_cons_of_mem _ List.mem_cons_self)
       go_simp
       clear  y28a y28b y28c y28d y28e f28a f28b f28c f28d f28e
       have HS : Hid (St rb ta cap T w [(w26.heap.size, (xC [(x, s, c), (x26, s26, c26)])), (b2, (nL kind [] 0 q22d (.slice (some ⟨w26.heap.size, 0, none⟩) 2 2))), (w.heap.size, z5)] [(x26, s26), (x, s)] j26 op (((((w27.setCell ⟨b2, 0, none⟩ (.int .i64 kind)).setCell ⟨b2, 1, none⟩ (.string (bsA []))).setCell ⟨b2, 2, none⟩ (.int .i64 0)).setCell ⟨b2, 3, none⟩ (.int .i64 q22d)).setCell ⟨b2, 4, none⟩ (.slice (some ⟨w26.heap.size, 0, none⟩) 2 2))) := St.put [(w26.heap.size, (xC [(x, s, c), (x26, s26, c26)]))] (St.put [(w26.heap.size, (xC [(x, s, c), (x26, s26, c26)]))] (St.put [(w26.heap.size, (xC [(x, s, c), (x26, s26, c26)]))] (St.put [(w26.heap.size, (xC [(x, s, c), (x26, s26, c26)]))] (St.put [(w26.heap.size, (xC [(x, s, c), (x26, s26, c26)]))] HS.out 0 (.int .i64 kind)) 1 (.string (bsA []))) 2 (.int .i64 0)) 3 (.int .i64 q22d)) 4 (.slice (some ⟨w26.heap.size, 0, none⟩) 2 2)
       have HS : Hid (St rb ta cap T w [(b2, (nL kind [] 0 q22d (.slice (some ⟨w26.heap.size, 0, none⟩) 2 2))), (w.heap.size, z5)] [((mkX kind [] 0 q22d [x, x26]), (some ⟨w26.heap.size, 0, none⟩)), (x26, s26), (x, s)] j26 op (((((w27.setCell ⟨b2, 0, none⟩ (.int .i64 kind)).setCell ⟨b2, 1, none⟩ (.string (bsA []))).setCell ⟨b2, 2, none⟩ (.int .i64 0)).setCell ⟨b2, 3, none⟩ (.int .i64 q22d)).setCell ⟨b2, 4, none⟩ (.slice (some ⟨w26.heap.size, 0, none⟩) 2 2))) := HS.out.row [] [(x, s, c), (x26, s26, c26)] kind [] 0 q22d (by intro p hp; simp only [List.mem_cons, List.not_mem_nil, or_false] at hp; rcases hp with rfl | rfl <;> simp)
       have HS : Hid (St rb ta cap T w [(b2, (nL kind [] 0 q22d (.slice (some ⟨w26.heap.size, 0, none⟩) 2 2))), (w.heap.size, z5)] [((mkX kind [] 0 q22d [x, x26]), (some ⟨w26.heap.size, 0, none⟩))] j26 op (((((w27.setCell ⟨b2, 0, none⟩ (.int .i64 kind)).setCell ⟨b2, 1, none⟩ (.string (bsA []))).setCell ⟨b2, 2, none⟩ (.int .i64 0)).setCell ⟨b2, 3, none⟩ (.int .i64 q22d)).setCell ⟨b2, 4, none⟩ (.slice (some ⟨w26.heap.size, 0, none⟩) 2 2))) := HS.out.sub (by intro p hp; simp only [List.mem_cons, List.not_mem_nil, or_false] at hp ⊢; rcases hp with rfl <;> simp)
       refine hK.out _ _ trivial (fun hHz => ?_)
       clear hK K hHz
       try simp only [Act.put, List.setIfInBounds_toArray, List.set_cons_zero, List.set_cons_succ]
       refine wpAnyH_done (by kernel_rfl) ?_ _
       go_wp2
       go_roundg m
       case measure => omega
       case rel => exact ⟨(mkX kind [] 0 q22d [x, x26]), (some ⟨w26.heap.size, 0, none⟩), 2, j26, by rw [xL_mk _ _ _ _ _ _ _ 2 rfl]; exact HS.out, HL.out⟩
     ·
      obtain ⟨r1, e1, hl⟩ := bnd_some HL.out
      have HL : Hid _ := hl
      have hc := HG2.out (i' + 1) op _ r1 hop HS.out.rdr e1
      (try unfold ptr at hc)
      clear e1 hl
      go_simp
      refine hc.mono ?_
      intro e w25 hpost
      clear hc
      cases r1 with
      | inl q =>
       obtain ⟨hG, HP⟩ := HS.out.bad2 (V := VX) (op' := op) HL.out hpost
       unfold GUs at hG
       subst hG
       clear hpost
       exact ⟨rfl, HP.out⟩
      | inr q =>
       obtain ⟨x25, j25⟩ := q
       obtain ⟨s25, c25, rfl, HS⟩ := HS.out.okX hpost
       unfold xV nV
       have hl := HL.out
       rw [bnd_ok] at hl
       (try dsimp only at hl)
       have HL : Hid _ := hl
       clear hl hpost
       refine hK.out _ _ trivial (fun hHz => ?_)
       clear hK K hHz
       try simp only [Act.put, List.setIfInBounds_toArray, List.set_cons_zero, List.set_cons_succ]
       refine wpAnyH_ready (rs := [3]) (by kernel_rfl) (by simp) ?_
       refine AllReadyH.cons rfl (fun K hK => ?_) AllReadyH.nil
       obtain ⟨y26a, y26b, y26c, y26d, y26e⟩ := HS.out.c5 List.mem_cons_self
       go_simp
       clear  y26a y26b y26c y26d y26e
       refine hK.out _ _ trivial (fun hHz => ?_)
       clear hK K hHz
       try simp only [Act.put, List.setIfInBounds_toArray, List.set_cons_zero, List.set_cons_succ]
       refine wpAnyH_ready (rs := [6]) (by kernel_rfl) (by simp) ?_
       refine AllReadyH.cons rfl (fun K hK => ?_) AllReadyH.nil
       go_simp
       have HS : Hid (St rb ta cap T w [(w25.heap.size, (xC [(x, s, c), (x25, s25, c25)])), (b2, (xL x s c)), (w.heap.size, z5)] [(x25, s25), (x, s)] j25 op (w25.alloc (.cells #[.int .i64 (xk x), .string (bsA (xt x)), .int .i64 (xn x), .int .i64 (xa x), .slice s (xl x) c, .int .i64 (xk x25), .string (bsA (xt x25)), .int .i64 (xn x25), .int .i64 (xa x25), .slice s25 (xl x25) c25] 34))) := HS.out.newO (xC [(x, s, c), (x25, s25, c25)])
       refine hK.out _ _ trivial (fun hHz => ?_)
       clear hK K hHz
       try simp only [Act.put, List.setIfInBounds_toArray, List.set_cons_zero, List.set_cons_succ]
       refine wpAnyH_ready (rs := [7]) (by kernel_rfl) (by simp) ?_
       refine AllReadyH.cons rfl (fun K hK => ?_) AllReadyH.nil
       have hc := node_s kind ((q22a, q22b, q22c), q22d) (some ⟨w25.heap.size, 0, none⟩) 2 2 (w25.alloc (.cells #[.int .i64 (xk x), .string (bsA (xt x)), .int .i64 (xn x), .int .i64 (xa x), .slice s (xl x) c, .int .i64 (xk x25), .string (bsA (xt x25)), .int .i64 (xn x25), .int .i64 (xa x25), .slice s25 (xl x25) c25] 34))
       (try unfold ttV at hc)
       (try unfold nV at hc)
       (try dsimp only at hc)
       go_simp
       refine hc.mono ?_
       rintro e w27 ⟨rfl, hb⟩
       have HS : Hid (St rb ta cap T w [(w25.heap.size, (xC [(x, s, c), (x25, s25, c25)])), (b2, (xL x s c)), (w.heap.size, z5)] [(x25, s25), (x, s)] j25 op w27) := HS.out.below hb
       clear hc hb
       refine hK.out _ _ trivial (fun hHz => ?_)
       clear hK K hHz
       try simp only [Act.put, List.setIfInBounds_toArray, List.set_cons_zero, List.set_cons_succ]
       refine wpAnyH_ready (rs := [8]) (by kernel_rfl) (by simp) ?_
       refine AllReadyH.cons rfl (fun K hK => ?_) AllReadyH.nil
       obtain ⟨y28a, y28b, y28c, y28d, y28e⟩ := HS.out.c5 (List.mem_cons_of_mem _ List.mem_cons_self)
       obtain ⟨f28a, f28b, f28c, f28d, f28e⟩ := HS.out.f5 (List.mem_cons_of_mem _ List.mem_cons_self)
       go_simp
       clear  y28a y28b y28c y28d y28e f28a f28b f28c f28d f28e
       have HS : Hid (St rb ta cap T w [(w25.heap.size, (xC [(x, s, c), (x25, s25, c25)])), (b2, (nL kind [] 0 q22d (.slice (some ⟨w25.heap.size, 0, none⟩) 2 2))), (w.heap.size, z5)] [(x25, s25), (x, s)] j25 op (((((w27.setCell ⟨b2, 0, none⟩ (.int .i64 kind)).setCell ⟨b2, 1, none⟩ (.string (bsA []))).setCell ⟨b2, 2, none⟩ (.int .i64 0)).setCell ⟨b2, 3, none⟩ (.int .i64 q22d)).setCell ⟨b2, 4, none⟩ (.slice (some ⟨w25.heap.size, 0, none⟩) 2 2))) := St.put [(w25.heap.size, (xC [(x, s, c), (x25, s25, c25)]))] (St.put [(w25.heap.size, (xC [(x, s, c), (x25, s25, c25)]))] (St.put [(w25.heap.size, (xC [(x, s, c), (x25, s25, c25)]))] (St.put [(w25.heap.size, (xC [(x, s, c), (x25, s25, c25)]))] (St.put [(w25.heap.size, (xC [(x, s, c), (x25, s25, c25)]))] HS.out 0 (.int .i64 kind)) 1 (.string (bsA []))) 2 (.int .i64 0)) 3 (.int .i64 q22d)) 4 (.slice (some ⟨w25.heap.size, 0, none⟩) 2 2)
       have HS : Hid (St rb ta cap T w [(b2, (nL kind [] 0 q22d (.slice (some ⟨w25.heap.size, 0, none⟩) 2 2))), (w.heap.size, z5)] [((mkX kind [] 0 q22d [x, x25]), (some ⟨w25.heap.size, 0, none⟩)), (x25, s25), (x, s)] j25 op (((((w27.setCell ⟨b2, 0, none⟩ (.int .i64 kind)).setCell ⟨b2, 1, none⟩ (.string (bsA []))).setCell ⟨b2, 2, none⟩ (.int .i64 0)).setCell ⟨b2, 3, none⟩ (.int .i64 q22d)).setCell ⟨b2, 4, none⟩ (.slice (some ⟨w25.heap.size, 0, none⟩) 2 2))) := HS.out.row [] [(x, s, c), (x25, s25, c25)] kind [] 0 q22d (by intro p hp; simp only [List.mem_cons, List.not_mem_nil, or_false] at hp; rcases hp with rfl | rfl <;> simp)
       have HS : Hid (St rb ta cap T w [(b2, (nL kind [] 0 q22d (.slice (some ⟨w25.heap.size, 0, none⟩) 2 2))), (w.heap.size, z5)] [((mkX kind [] 0 q22d [x, x25]), (some ⟨w25.heap.size, 0, none⟩))] j25 op (((((w27.setCell ⟨b2, 0, none⟩ (.int .i64 kind)).setCell ⟨b2, 1, none⟩ (.string (bsA []))).setCell ⟨b2, 2, none⟩ (.int .i64 0)).setCell ⟨b2, 3, none⟩ (.int .i64 q22d)).setCell ⟨b2, 4, none⟩ (.slice (some ⟨w25.heap.size, 0, none⟩) 2 2))) := HS.out.sub (by intro p hp; simp only [List.mem_cons, List.not_mem_nil, or_false] at hp ⊢; rcases hp with rfl <;> simp)
       refine hK.out _ _ trivial (fun hHz => ?_)
       clear hK K hHz
       try simp only [Act.put, List.setIfInBounds_toArray, List.set_cons_zero, List.set_cons_succ]
       refine wpAnyH_done (by kernel_rfl) ?_ _
       go_wp2
       go_roundg m
       case measure => omega
       case rel => exact ⟨(mkX kind [] 0 q22d [x, x25]), (some ⟨w25.heap.size, 0, none⟩), 2, j25, by rw [xL_mk _ _ _ _ _ _ _ 2 rfl]; exact HS.out, HL.out⟩
    ·
     obtain ⟨y24a, y24b, y24c, y24d, y24e⟩ := HS.out.c5 List.mem_cons_self
     go_simp
     clear  y24a y24b y24c y24d y24e
     refine hK.out _ _ trivial (fun hHz => ?_)
     clear hK K hHz
     try simp only [Act.put, List.setIfInBounds_toArray, List.set_cons_zero, List.set_cons_succ]
     refine wpAnyH_ready (rs := [2]) (by kernel_rfl) (by simp) ?_
     refine AllReadyH.cons rfl (fun K hK => ?_) AllReadyH.nil
     have hc := take_s rb ta cap T i' op _ HS.out.rdr HIT.out
     rw [HQ22.out] at hc
     unfold ptr ttV at hc
     dsimp only at hc
     go_simp
     refine hc.mono ?_
     rintro e w25 ⟨rfl, hr, hf⟩
     have HS : Hid (St rb ta cap T w [(b2, (xL x s c)), (w.heap.size, z5)] [(x, s)] (i' + 1) op w25) := HS.out.call hf hr
     clear hc hr hf
     refine hK.out _ _ trivial (fun hHz => ?_)
     clear hK K hHz
     try simp only [Act.put, List.setIfInBounds_toArray, List.set_cons_zero, List.set_cons_succ]
     refine wpAnyH_ready (rs := [5]) (by kernel_rfl) (by simp) ?_
     refine AllReadyH.cons rfl (fun K hK => ?_) AllReadyH.nil
     obtain ⟨r1, e1, hl⟩ := bnd_some HL.out
     have HL : Hid _ := hl
     have hc := HG2.out (i' + 1) op _ r1 hop HS.out.rdr e1
     (try unfold ptr at hc)
     clear e1 hl
     go_simp
     refine hc.mono ?_
     intro e w26 hpost
     clear hc
     cases r1 with
     | inl q =>
      obtain ⟨hG, HP⟩ := HS.out.bad2 (V := VX) (op' := op) HL.out hpost
      unfold GUs at hG
      subst hG
      clear hpost
      exact ⟨rfl, HP.out⟩
     | inr q =>
      obtain ⟨x26, j26⟩ := q
      obtain ⟨s26, c26, rfl, HS⟩ := HS.out.okX hpost
      unfold xV nV
      have hl := HL.out
      rw [bnd_ok] at hl
      (try dsimp only at hl)
      have HL : Hid _ := hl
      clear hl hpost
      refine hK.out _ _ trivial (fun hHz => ?_)
      clear hK K hHz
      try simp only [Act.put, List.setIfInBounds_toArray, List.set_cons_zero, List.set_cons_succ]
      refine wpAnyH_ready (rs := [6]) (by kernel_rfl) (by simp) ?_
      refine AllReadyH.cons rfl (fun K hK => ?_) AllReadyH.nil
      go_simp
      have HS : Hid (St rb ta cap T w [(w26.heap.size, (xC [(x, s, c), (x26, s26, c26)])), (b2, (xL x s c)), (w.heap.size, z5)] [(x26, s26), (x, s)] j26 op (w26.alloc (.cells #[.int .i64 (xk x), .string (bsA (xt x)), .int .i64 (xn x), .int .i64 (xa x), .slice s (xl x) c, .int .i64 (xk x26), .string (bsA (xt x26)), .int .i64 (xn x26), .int .i64 (xa x26), .slice s26 (xl x26) c26] 34))) := HS.out.newO (xC [(x, s, c), (x26, s26, c26)])
      refine hK.out _ _ trivial (fun hHz => ?_)
      clear hK K hHz
      try simp only [Act.put, List.setIfInBounds_toArray, List.set_cons_zero, List.set_cons_succ]
      refine wpAnyH_ready (rs := [7]) (by kernel_rfl) (by simp) ?_
      refine AllReadyH.cons rfl (fun K hK => ?_) AllReadyH.nil
      have hc := node_s kind ((q22a, q22b, q22c), q22d) (some ⟨w26.heap.size, 0, none⟩) 2 2 (w26.alloc (.cells #[.int .i64 (xk x), .string (bsA (xt x)), .int .i64 (xn x), .int .i64 (xa x), .slice s (xl x) c, .int .i64 (xk x26), .string (bsA (xt x26)), .int .i64 (xn x26), .int .i64 (xa x26), .slice s26 (xl x26) c26] 34))
      (try unfold ttV at hc)
      (try unfold nV at hc)
      (try dsimp only at hc)
      go_simp
      refine hc.mono ?_
      rintro e w27 ⟨rfl, hb⟩
      have HS : Hid (St rb ta cap T w [(w26.heap.size, (xC [(x, s, c), (x26, s26, c26)])), (b2, (xL x s c)), (w.heap.size, z5)] [(x26, s26), (x, s)] j26 op w27) := HS.out.below hb
      clear hc hb
      refine hK.out _ _ trivial (fun hHz => ?_)
      clear hK K hHz
      try simp only [Act.put, List.setIfInBounds_toArray, List.set_cons_zero, List.set_cons_succ]
      refine wpAnyH_ready (rs := [8]) (by kernel_rfl) (by simp) ?_
      refine AllReadyH.cons rfl (fun K hK => ?_) AllReadyH.nil
      obtain ⟨y28a, y28b, y28c, y28d, y28e⟩ := HS.out.c5 (List.mem_cons_of_mem _ List.mem_cons_self)
      obtain ⟨f28a, f28b, f28c, f28d, f28e⟩ := HS.out.f5 (List.mem_cons_of_mem _ List.mem_cons_self)
      go_simp
      clear  y28a y28b y28c y28d y28e f28a f28b f28c f28d f28e
      have HS : Hid (St rb ta cap T w [(w26.heap.size, (xC [(x, s, c), (x26, s26, c26)])), (b2, (nL kind [] 0 q22d (.slice (some ⟨w26.heap.size, 0, none⟩) 2 2))), (w.heap.size, z5)] [(x26, s26), (x, s)] j26 op (((((w27.setCell ⟨b2, 0, none⟩ (.int .i64 kind)).setCell ⟨b2, 1, none⟩ (.string (bsA []))).setCell ⟨b2, 2, none⟩ (.int .i64 0)).setCell ⟨b2, 3, none⟩ (.int .i64 q22d)).setCell ⟨b2, 4, none⟩ (.slice (some ⟨w26.heap.size, 0, none⟩) 2 2))) := St.put [(w26.heap.size, (xC [(x, s, c), (x26, s26, c26)]))] (St.put [(w26.heap.size, (xC [(x, s, c), (x26, s26, c26)]))] (St.put [(w26.heap.size, (xC [(x, s, c), (x26, s26, c26)]))] (St.put [(w26.heap.size, (xC [(x, s, c), (x26, s26, c26)]))] (St.put [(w26.heap.size, (xC [(x, s, c), (x26, s26, c26)]))] HS.out 0 (.int .i64 kind)) 1 (.string (bsA []))) 2 (.int .i64 0)) 3 (.int .i64 q22d)) 4 (.slice (some ⟨w26.heap.size, 0, none⟩) 2 2)
      have HS : Hid (St rb ta cap T w [(b2, (nL kind [] 0 q22d (.slice (some ⟨w26.heap.size, 0, none⟩) 2 2))), (w.heap.size, z5)] [((mkX kind [] 0 q22d [x, x26]), (some ⟨w26.heap.size, 0, none⟩)), (x26, s26), (x, s)] j26 op (((((w27.setCell ⟨b2, 0, none⟩ (.int .i64 kind)).setCell ⟨b2, 1, none⟩ (.string (bsA []))).setCell ⟨b2, 2, none⟩ (.int .i64 0)).setCell ⟨b2, 3, none⟩ (.int .i64 q22d)).setCell ⟨b2, 4, none⟩ (.slice (some ⟨w26.heap.size, 0, none⟩) 2 2))) := HS.out.row [] [(x, s, c), (x26, s26, c26)] kind [] 0 q22d (by intro p hp; simp only [List.mem_cons, List.not_mem_nil, or_false] at hp; rcases hp with rfl | rfl <;> simp)
      have HS : Hid (St rb ta cap T w [(b2, (nL kind [] 0 q22d (.slice (some ⟨w26.heap.size, 0, none⟩) 2 2))), (w.heap.size, z5)] [((mkX kind [] 0 q22d [x, x26]), (some ⟨w26.heap.size, 0, none⟩))] j26 op (((((w27.setCell ⟨b2, 0, none⟩ (.int .i64 kind)).setCell ⟨b2, 1, none⟩ (.string (bsA []))).setCell ⟨b2, 2, none⟩ (.int .i64 0)).setCell ⟨b2, 3, none⟩ (.int .i64 q22d)).setCell ⟨b2, 4, none⟩ (.slice (some ⟨w26.heap.size, 0, none⟩) 2 2))) := HS.out.sub (by intro p hp; simp only [List.mem_cons, List.not_mem_nil, or_false] at hp ⊢; rcases hp with rfl <;> simp)
      refine hK.out _ _ trivial (fun hHz => ?_)
      clear hK K hHz
      try simp only [Act.put, List.setIfInBounds_toArray, List.set_cons_zero, List.set_cons_succ]
      refine wpAnyH_done (by kernel_rfl) ?_ _
      go_wp2
      go_roundg m
      case measure => omega
      case rel => exact ⟨(mkX kind [] 0 q22d [x, x26]), (some ⟨w26.heap.size, 0, none⟩), 2, j26, by rw [xL_mk _ _ _ _ _ _ _ 2 rfl]; exact HS.out, HL.out⟩
   | false =>
    rw [hb] at hc
    have hl := HL.out
    clear HL
    simp only [hb, if_true, if_false, Bool.false_eq_true] at hl
    have HL : Hid _ := hl
    clear hl hb
    go_wp2_with fail
    refine hc.mono ?_
    rintro e w21 ⟨rfl, hb⟩
    have HS : Hid (St rb ta cap T w [(b2, (xL x s c)), (w.heap.size, z5)] [(x, s)] i' op w21) := HS.out.below hb
    clear hc hb
    obtain ⟨y22a, y22b, y22c, y22d, y22e⟩ := HS.out.c5 List.mem_cons_self
    obtain ⟨⟨d0, d1, d2, d3, d4⟩, ⟨g0, g1, g2, g3, g4⟩, hz⟩ := St.fin5 [(b2, (xL x s c))] HS.out (v0 := .int .i64 (xk x)) (v1 := .string (bsA (xt x))) (v2 := .int .i64 (xn x)) (v3 := .int .i64 (xa x)) (v4 := .slice s (xl x) c) (c := c) HL.out List.mem_cons_self (rfl)
    obtain ⟨⟨z0, z1, z2, z3, z4⟩, HP⟩ := hz _ rfl
    clear hz HS HL
    go_wp2
    refine bodyPost_ret (v := .agg #[.int .i64 (xk x), .string (bsA (xt x)), .int .i64 (xn x), .int .i64 (xa x), .slice s (xl x) c]) (by simp [results, Tryz.results27, go_sem, z0, z1, z2, z3, z4]) rfl HP.out
end Go.Proofs.YtgdndahhledikaaGreatDoor
