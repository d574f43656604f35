/- Spu. -/
import Derived.Test.YtgdndahhledikaaGreatDoorK24
namespace Go.Proofs.YtgdndahhledikaaGreatDoor
open Go.ChangeShapes Go.WideShapes Go.ChangeAt Go.RowKit
set_option linter.unusedSimpArgs false
set_option maxRecDepth 20000
set_option maxHeartbeats 4000000
def witQ (T : List Tt) : Nat → X → Nat → Rz X
 | 0, _, _ => none
 | f + 1, x, i => if isT (tkI T i) 2 [[119, 105, 116, 104, 105, 110]] = true then bnd (nbP T 7 0 1099511627776 (i + 1)) fun t j => witQ T f (mkX 37 [] t.1.2.2 (tkI T i).2 [x]) j else okR x i
def unQ (T : List Tt) (ga : Nat → Nat → Rz X) : Nat → Nat → Nat → Rz X
 | 0, _, _ => none
 | f + 1, i, op => if isT (tkI T i) 2 [[101, 118, 101, 114, 121]] = true then (if op = 100 then noR i 71 else bnd (unQ T ga f (i + 1) (op + 1)) fun x j => okR (mkX 31 [] 0 (tkI T i).2 [x]) j) else bnd (ga i op) fun x j => witQ T f x j
theorem un_step (rb : Nat) (ta : Option Addr) (cap : Nat) (T : List Tt) (ga : Nat → Nat → Rz X) (ha : RdX rb ta cap T 128 ga) (f : Nat) (ih : RdX rb ta cap T 90 (unQ T ga f)) : RdX rb ta cap T 90 (unQ T ga (f + 1)) := by
 intro i op w r hop hr h
 have HS : Hid (St rb ta cap T w [] [] i op w) := St.start hr
 unfold unQ at h
 have HL : Hid _ := h
 have hlt := cell_lt hr.c0
 have IH : Hid (RdX rb ta cap T 90 (unQ T ga f)) := ih
 have HA : Hid (RdX rb ta cap T 128 ga) := ha
 clear hr h ih ha
 unfold ptr
 go_enter Tryz.func90, Tryz.ntmps90
 have HS : Hid (St rb ta cap T w [(w.heap.size, z5)] [] i op (w.alloc o5)) := HS.out.newO z5
 have hc := seesWord_any rb ta cap T i op [101, 118, 101, 114, 121] _ HS.out.rdr
 unfold ptr at hc
 cases hb : isT (tkI T i) 2 [[101, 118, 101, 114, 121]] with
 | true =>
  have HIT : Hid (i < T.length) := isT_tk hb (by decide)
  rw [hb] at hc
  have hl := HL.out
  clear HL
  simp only [hb, if_true] at hl
  have HL : Hid _ := hl
  clear hl hb
  go_wp2_with fail
  refine hc.mono ?_
  rintro e w1 ⟨rfl, hb⟩
  have HS : Hid (St rb ta cap T w [(w.heap.size, z5)] [] i op w1) := HS.out.below hb
  clear hc hb
  by_cases hop1 : op = 100
  ·
   subst hop1
   have hl := HL.out
   rw [if_pos rfl] at hl
   have HRR : Hid _ := noR_eq hl
   clear hl
   have hc := beg_no rb ta cap T i _ HS.out.rdr
   unfold ptr at hc
   go_wp2_with fail
   refine hc.mono ?_
   rintro e wN ⟨hG, rfl⟩
   have HP : Hid _ := HS.out.err (V := VX) (op' := 100) (q := (i, 71)) (Fx.refl _) hG
   unfold GUs at hG
   subst hG
   clear hc
   go_wp2
   exact ⟨rfl, by rw [HRR.out]; exact HP.out⟩
  ·
   have hl := HL.out
   clear HL
   rw [if_neg hop1] at hl
   have HL : Hid _ := hl
   clear hl
   have hop2 : op + 1 ≤ 100 := by omega
   obtain ⟨⟨⟨q2a, q2b, q2c⟩, q2d⟩, hq⟩ : ∃ q, tkI T i = q := ⟨_, rfl⟩
   have HQ2 : Hid (tkI T i = ((q2a, q2b, q2c), q2d)) := hq
   have hl := HL.out
   (try rw [hq] at hl)
   (try dsimp only at hl)
   have HL : Hid _ := hl
   clear hl hq
   have hc := beg_ok rb ta cap T i op _ HS.out.rdr (by omega)
   unfold ptr at hc
   go_wp2_with fail
   refine hc.mono ?_
   rintro e w3 ⟨rfl, hr, hf⟩
   have HS : Hid (St rb ta cap T w [(w.heap.size, z5)] [] i (op + 1) w3) := HS.out.call hf hr
   clear hc hr hf
   have hc := take_s rb ta cap T i (op + 1) _ HS.out.rdr HIT.out
   rw [HQ2.out] at hc
   unfold ptr ttV at hc
   dsimp only at hc
   go_wp2_with fail
   refine hc.mono ?_
   rintro e w4 ⟨rfl, hr, hf⟩
   have HS : Hid (St rb ta cap T w [(w.heap.size, z5)] [] (i + 1) (op + 1) w4) := HS.out.call hf hr
   clear hc hr hf
   obtain ⟨r1, e1, hl⟩ := bnd_some HL.out
   have HL : Hid _ := hl
   have hc := IH.out (i + 1) (op + 1) _ r1 hop2 HS.out.rdr e1
   (try unfold ptr at hc)
   clear e1 hl
   go_wp2_with fail
   refine hc.mono ?_
   intro e w5 hpost
   clear hc
   cases r1 with
   | inl q =>
    obtain ⟨hG, HP⟩ := HS.out.bad2 (V := VX) (op' := op) HL.out hpost
    unfold GUs at hG
    subst hG
    clear hpost
    go_wp2
    exact ⟨rfl, HP.out⟩
   | inr q =>
    obtain ⟨x5, j5⟩ := q
    obtain ⟨s5, c5, rfl, HS⟩ := HS.out.okX hpost
    unfold xV nV
    have hl := HL.out
    rw [bnd_ok] at hl
    (try dsimp only at hl)
    have HL : Hid _ := hl
    clear hl hpost
    have HS : Hid (St rb ta cap T w [(w5.heap.size, (xL x5 s5 c5)), (w.heap.size, z5)] [(x5, s5)] j5 (op + 1) (w5.alloc (xO x5 s5 c5))) := HS.out.newO (xL x5 s5 c5)
    have hc := node_s 31 ((q2a, q2b, q2c), q2d) (some ⟨w5.heap.size, 0, none⟩) 1 1 (w5.alloc (xO x5 s5 c5))
    (try unfold ttV at hc)
    (try unfold nV at hc)
    (try dsimp only at hc)
    go_wp2_with fail
    refine hc.mono ?_
    rintro e w6 ⟨rfl, hb⟩
    have HS : Hid (St rb ta cap T w [(w5.heap.size, (xL x5 s5 c5)), (w.heap.size, z5)] [(x5, s5)] j5 (op + 1) w6) := HS.out.below hb
    clear hc hb
    have HS : Hid (St rb ta cap T w [(w.heap.size, z5)] [((mkX 31 [] 0 q2d [x5]), (some ⟨w5.heap.size, 0, none⟩)), (x5, s5)] j5 (op + 1) w6) := HS.out.row [] [(x5, s5, c5)] 31 [] 0 q2d (by intro p hp; simp only [List.mem_cons, List.not_mem_nil, or_false] at hp; rcases hp with rfl <;> simp)
    have HS : Hid (St rb ta cap T w [(w6.heap.size, (nL 31 [] 0 q2d (.slice (some ⟨w5.heap.size, 0, none⟩) 1 1))), (w.heap.size, z5)] [((mkX 31 [] 0 q2d [x5]), (some ⟨w5.heap.size, 0, none⟩)), (x5, s5)] j5 (op + 1) (w6.alloc (nO 31 [] 0 q2d (.slice (some ⟨w5.heap.size, 0, none⟩) 1 1)))) := HS.out.newO (nL 31 [] 0 q2d (.slice (some ⟨w5.heap.size, 0, none⟩) 1 1))
    have hc := fin_any rb ta cap T j5 op _ HS.out.rdr hop
    unfold ptr at hc
    go_wp2_with fail
    refine hc.mono ?_
    rintro e w7 ⟨rfl, hr, hf⟩
    have HS : Hid (St rb ta cap T w [(w6.heap.size, (nL 31 [] 0 q2d (.slice (some ⟨w5.heap.size, 0, none⟩) 1 1))), (w.heap.size, z5)] [((mkX 31 [] 0 q2d [x5]), (some ⟨w5.heap.size, 0, none⟩)), (x5, s5)] j5 op w7) := HS.out.call hf hr
    clear hc hr hf
    obtain ⟨y8a, y8b, y8c, y8d, y8e⟩ := HS.out.c5 List.mem_cons_self
    obtain ⟨⟨d0, d1, d2, d3, d4⟩, ⟨g0, g1, g2, g3, g4⟩, hz⟩ := St.fin5 [(w6.heap.size, (nL 31 [] 0 q2d (.slice (some ⟨w5.heap.size, 0, none⟩) 1 1)))] HS.out (v0 := .int .i64 31) (v1 := .string (bsA [])) (v2 := .int .i64 0) (v3 := .int .i64 q2d) (v4 := .slice (some ⟨w5.heap.size, 0, none⟩) 1 1) (c := 1) HL.out List.mem_cons_self (mkX_V' _ _ _ _ _ _ _ _ rfl)
    obtain ⟨⟨z0, z1, z2, z3, z4⟩, HP⟩ := hz _ rfl
    clear hz HS HL
    go_wp2
    refine bodyPost_ret (v := .agg #[.int .i64 31, .string (bsA []), .int .i64 0, .int .i64 q2d, .slice (some ⟨w5.heap.size, 0, none⟩) 1 1]) (by simp [results, Tryz.results90, go_sem, z0, z1, z2, z3, z4]) rfl HP.out
 | false =>
  rw [hb] at hc
  have hl := HL.out
  clear HL
  simp only [hb, if_false, Bool.false_eq_true] at hl
  have HL : Hid _ := hl
  clear hl hb
  go_wp2_with fail
  refine hc.mono ?_
  rintro e w1 ⟨rfl, hb⟩
  have HS : Hid (St rb ta cap T w [(w.heap.size, z5)] [] i op w1) := HS.out.below hb
  clear hc hb
  obtain ⟨r1, e1, hl⟩ := bnd_some HL.out
  have HL : Hid _ := hl
  have hc := HA.out i op _ r1 hop HS.out.rdr e1
  (try unfold ptr at hc)
  clear e1 hl
  go_wp2_with fail
  refine hc.mono ?_
  intro e w2 hpost
  clear hc
  cases r1 with
  | inl q =>
   obtain ⟨hG, HP⟩ := HS.out.bad2 (V := VX) (op' := op) HL.out hpost
   unfold GUs at hG
   subst hG
   clear hpost
   go_wp2
   exact ⟨rfl, HP.out⟩
  | inr q =>
   obtain ⟨x2, j2⟩ := q
   obtain ⟨s2, c2, rfl, HS⟩ := HS.out.okX hpost
   unfold xV nV
   have hl := HL.out
   rw [bnd_ok] at hl
   (try dsimp only at hl)
   have HL : Hid _ := hl
   clear hl hpost
   have HS : Hid (St rb ta cap T w [(w2.heap.size, (xL x2 s2 c2)), (w.heap.size, z5)] [(x2, s2)] j2 op (w2.alloc (xO x2 s2 c2))) := HS.out.newO (xL x2 s2 c2)
   clear IH HA
   go_wp2
   obtain ⟨b3, hnb⟩ : ∃ nb, nb = w2.heap.size := ⟨_, rfl⟩
   rw [← hnb] at HS ⊢
   clear hnb
   generalize (w2.alloc (xO x2 s2 c2)) = w3 at HS ⊢
   have HL0 : Hid (witQ T f x2 j2 = some r) := HL.out
   clear HL
   go_loopg [21] f (fun gk _ wr => ∃ (x : X) (s : Option Addr) (c i' : Nat), St rb ta cap T w [(b3, xL x s c), (w.heap.size, z5)] [(x, s)] i' op wr ∧ witQ T gk x i' = some r)
   case atStart => exact ⟨x2, s2, c2, j2, HS.out, HL0.out⟩
   case round =>
    obtain ⟨x, s, c, i', hS, hl⟩ := hrel
    obtain ⟨m, rfl⟩ : ∃ m, gk = m + 1 := by
     cases gk with
     | zero => cases hl
     | succ m => exact ⟨m, rfl⟩
    clear HS HL0
    have HS : Hid (St rb ta cap T w [(b3, (xL x s c)), (w.heap.size, z5)] [(x, s)] i' op wr) := hS
    unfold witQ at hl
    have HL : Hid _ := hl
    clear hS hl
    have hc := seesWord_any rb ta cap T i' op [119, 105, 116, 104, 105, 110] _ HS.out.rdr
    unfold ptr at hc
    cases hb : isT (tkI T i') 2 [[119, 105, 116, 104, 105, 110]] with
    | true =>
     have HIT : Hid (i' < T.length) := isT_tk hb (by decide)
     rw [hb] at hc
     have hl := HL.out
     clear HL
     simp only [hb, if_true, if_false, Bool.false_eq_true] at hl
     have HL : Hid _ := hl
     clear hl hb
     go_wp2_with fail
     refine hc.mono ?_
     rintro e w41 ⟨rfl, hb⟩
     have HS : Hid (St rb ta cap T w [(b3, (xL x s c)), (w.heap.size, z5)] [(x, s)] i' op w41) := HS.out.below hb
     clear hc hb
     obtain ⟨⟨⟨q42a, q42b, q42c⟩, q42d⟩, hq⟩ : ∃ q, tkI T i' = q := ⟨_, rfl⟩
     have HQ42 : Hid (tkI T i' = ((q42a, q42b, q42c), q42d)) := hq
     have hl := HL.out
     (try rw [hq] at hl)
     (try dsimp only at hl)
     have HL : Hid _ := hl
     clear hl hq
     go_wp2_with fail
     refine wp_region_held_drew (S := (fun _ => True)) (by kernel_rfl) trivial (fun hHeld => ?_)
     have HS : Hid (St rb ta cap T w [(b3, (xL x s c)), (w.heap.size, z5)] [(x, s)] i' op w41.drew) := HS.out.drew
     generalize w41.drew = w43 at HS ⊢
     refine tk 0 (some 22) (v := ?_) rfl ?_ ?_ (hS := trivial)
     rotate_left
     · intro wS hSw; go_simp; (try with_reducible rfl)
     try simp only [Act.put, List.setIfInBounds_toArray, List.set_cons_zero, List.set_cons_succ]
     refine wpAnyH_ready (rs := [1, 2]) (by kernel_rfl) (by simp) ?_
     refine AllReadyH.cons rfl (fun K hK => ?_) (AllReadyH.cons rfl (fun K hK => ?_) AllReadyH.nil)
     ·
      have hc := take_s rb ta cap T i' op _ HS.out.rdr HIT.out
      rw [HQ42.out] at hc
      unfold ptr ttV at hc
      dsimp only at hc
      go_simp
      refine hc.mono ?_
      rintro e w44 ⟨rfl, hr, hf⟩
      have HS : Hid (St rb ta cap T w [(b3, (xL x s c)), (w.heap.size, z5)] [(x, s)] (i' + 1) op w44) := HS.out.call hf hr
      clear hc hr hf
      refine hK.out _ _ trivial (fun hHz => ?_)
      clear hK K hHz
      try simp only [Act.put, List.setIfInBounds_toArray, List.set_cons_zero, List.set_cons_succ]
      refine wpAnyH_ready (rs := [2]) (by kernel_rfl) (by simp) ?_
      refine AllReadyH.cons rfl (fun K hK => ?_) AllReadyH.nil
      obtain ⟨y45a, y45b, y45c, y45d, y45e⟩ := HS.out.c5 List.mem_cons_self
      go_simp
      clear  y45a y45b y45c y45d y45e
      refine hK.out _ _ trivial (fun hHz => ?_)
      clear hK K hHz
      try simp only [Act.put, List.setIfInBounds_toArray, List.set_cons_zero, List.set_cons_succ]
      refine wpAnyH_ready (rs := [3]) (by kernel_rfl) (by simp) ?_
      refine AllReadyH.cons rfl (fun K hK => ?_) AllReadyH.nil
      go_simp
      have HS : Hid (St rb ta cap T w [(w44.heap.size, (xC [(x, s, c)])), (b3, (xL x s c)), (w.heap.size, z5)] [(x, s)] (i' + 1) op (w44.alloc (.cells #[.int .i64 (xk x), .string (bsA (xt x)), .int .i64 (xn x), .int .i64 (xa x), .slice s (xl x) c] 34))) := HS.out.newO (xC [(x, s, c)])
      refine hK.out _ _ trivial (fun hHz => ?_)
      clear hK K hHz
      try simp only [Act.put, List.setIfInBounds_toArray, List.set_cons_zero, List.set_cons_succ]
      refine wpAnyH_ready (rs := [4]) (by kernel_rfl) (by simp) ?_
      refine AllReadyH.cons rfl (fun K hK => ?_) AllReadyH.nil
      have hc := node_s 37 ((q42a, q42b, q42c), q42d) (some ⟨w44.heap.size, 0, none⟩) 1 1 (w44.alloc (.cells #[.int .i64 (xk x), .string (bsA (xt x)), .int .i64 (xn x), .int .i64 (xa x), .slice s (xl x) c] 34))
      (try unfold ttV at hc)
      (try unfold nV at hc)
      (try dsimp only at hc)
      go_simp
      refine hc.mono ?_
      rintro e w46 ⟨rfl, hb⟩
      have HS : Hid (St rb ta cap T w [(w44.heap.size, (xC [(x, s, c)])), (b3, (xL x s c)), (w.heap.size, z5)] [(x, s)] (i' + 1) op w46) := HS.out.below hb
      clear hc hb
      refine hK.out _ _ trivial (fun hHz => ?_)
      clear hK K hHz
      try simp only [Act.put, List.setIfInBounds_toArray, List.set_cons_zero, List.set_cons_succ]
      refine wpAnyH_ready (rs := [5]) (by kernel_rfl) (by simp) ?_
      refine AllReadyH.cons rfl (fun K hK => ?_) AllReadyH.nil
      obtain ⟨y47a, y47b, y47c, y47d, y47e⟩ := HS.out.c5 (List.mem_cons_of_mem _ List.mem_cons_self)
      obtain ⟨f47a, f47b, f47c, f47d, f47e⟩ := HS.out.f5 (List.mem_cons_of_mem _ List.mem_cons_self)
      go_simp
      clear  y47a y47b y47c y47d y47e f47a f47b f47c f47d f47e
      have HS : Hid (St rb ta cap T w [(w44.heap.size, (xC [(x, s, c)])), (b3, (nL 37 [] 0 q42d (.slice (some ⟨w44.heap.size, 0, none⟩) 1 1))), (w.heap.size, z5)] [(x, s)] (i' + 1) op (((((w46.setCell ⟨b3, 0, none⟩ (.int .i64 37)).setCell ⟨b3, 1, none⟩ (.string (bsA []))).setCell ⟨b3, 2, none⟩ (.int .i64 0)).setCell ⟨b3, 3, none⟩ (.int .i64 q42d)).setCell ⟨b3, 4, none⟩ (.slice (some ⟨w44.heap.size, 0, none⟩) 1 1))) := St.put [(w44.heap.size, (xC [(x, s, c)]))] (St.put [(w44.heap.size, (xC [(x, s, c)]))] (St.put [(w44.heap.size, (xC [(x, s, c)]))] (St.put [(w44.heap.size, (xC [(x, s, c)]))] (St.put [(w44.heap.size, (xC [(x, s, c)]))] HS.out 0 (.int .i64 37)) 1 (.string (bsA []))) 2 (.int .i64 0)) 3 (.int .i64 q42d)) 4 (.slice (some ⟨w44.heap.size, 0, none⟩) 1 1)
      have HS : Hid (St rb ta cap T w [(b3, (nL 37 [] 0 q42d (.slice (some ⟨w44.heap.size, 0, none⟩) 1 1))), (w.heap.size, z5)] [((mkX 37 [] 0 q42d [x]), (some ⟨w44.heap.size, 0, none⟩)), (x, s)] (i' + 1) op (((((w46.setCell ⟨b3, 0, none⟩ (.int .i64 37)).setCell ⟨b3, 1, none⟩ (.string (bsA []))).setCell ⟨b3, 2, none⟩ (.int .i64 0)).setCell ⟨b3, 3, none⟩ (.int .i64 q42d)).setCell ⟨b3, 4, none⟩ (.slice (some ⟨w44.heap.size, 0, none⟩) 1 1))) := HS.out.row [] [(x, s, c)] 37 [] 0 q42d (by intro p hp; simp only [List.mem_cons, List.not_mem_nil, or_false] at hp; rcases hp with rfl <;> simp)
      have HS : Hid (St rb ta cap T w [(b3, (nL 37 [] 0 q42d (.slice (some ⟨w44.heap.size, 0, none⟩) 1 1))), (w.heap.size, z5)] [((mkX 37 [] 0 q42d [x]), (some ⟨w44.heap.size, 0, none⟩))] (i' + 1) op (((((w46.setCell ⟨b3, 0, none⟩ (.int .i64 37)).setCell ⟨b3, 1, none⟩ (.string (bsA []))).setCell ⟨b3, 2, none⟩ (.int .i64 0)).setCell ⟨b3, 3, none⟩ (.int .i64 q42d)).setCell ⟨b3, 4, none⟩ (.slice (some ⟨w44.heap.size, 0, none⟩) 1 1))) := HS.out.sub (by intro p hp; simp only [List.mem_cons, List.not_mem_nil, or_false] at hp ⊢; rcases hp with rfl <;> simp)
      refine hK.out _ _ trivial (fun hHz => ?_)
      clear hK K hHz
      try simp only [Act.put, List.setIfInBounds_toArray, List.set_cons_zero, List.set_cons_succ]
      refine wpAnyH_done (by kernel_rfl) ?_ _
      generalize (((((w46.setCell ⟨b3, 0, none⟩ (.int .i64 37)).setCell ⟨b3, 1, none⟩ (.string (bsA []))).setCell ⟨b3, 2, none⟩ (.int .i64 0)).setCell ⟨b3, 3, none⟩ (.int .i64 q42d)).setCell ⟨b3, 4, none⟩ (.slice (some ⟨w44.heap.size, 0, none⟩) 1 1)) = w48 at HS ⊢
      obtain ⟨r1, e1, hl⟩ := bnd_some HL.out
      have HL : Hid _ := hl
      have hc := period_s rb ta cap T 0 (i' + 1) op _ r1 hop HS.out.rdr e1
      (try unfold ptr at hc)
      clear e1 hl
      go_wp2_with fail
      refine hc.mono ?_
      intro e w49 hpost
      clear hc
      cases r1 with
      | inl q =>
       obtain ⟨hG, HP⟩ := HS.out.bad2 (V := VX) (op' := op) HL.out hpost
       unfold GUs at hG
       subst hG
       clear hpost
       go_wp2
       exact ⟨rfl, HP.out⟩
      | inr q =>
       obtain ⟨x49, j49⟩ := q
       obtain ⟨rfl, HS⟩ := HS.out.okT hpost
       obtain ⟨⟨x49a, x49b, x49c⟩, x49d⟩ := x49
       unfold ttV
       dsimp only
       have hl := HL.out
       rw [bnd_ok] at hl
       (try dsimp only at hl)
       have HL : Hid _ := hl
       clear hl hpost
       have hfe := field26_2 x49a x49b x49c x49d
       obtain ⟨y50a, y50b, y50c, y50d, y50e⟩ := HS.out.c5 List.mem_cons_self
       obtain ⟨f50a, f50b, f50c, f50d, f50e⟩ := HS.out.f5 List.mem_cons_self
       have HS : Hid (St rb ta cap T w [(b3, (nL 37 [] x49c q42d (.slice (some ⟨w44.heap.size, 0, none⟩) 1 1))), (w.heap.size, z5)] [((mkX 37 [] 0 q42d [x]), (some ⟨w44.heap.size, 0, none⟩))] j49 op (w49.setCell ⟨b3, 2, none⟩ (.int .i64 x49c))) := St.put [] HS.out 2 (.int .i64 x49c)
       obtain ⟨y51a, y51b, y51c, y51d, y51e⟩ := HS.out.c5 List.mem_cons_self
       have HS : Hid (St rb ta cap T w [(b3, (nL 37 [] x49c q42d (.slice (some ⟨w44.heap.size, 0, none⟩) 1 1))), (w.heap.size, z5)] [((mkX 37 [] x49c q42d [x]), (some ⟨w44.heap.size, 0, none⟩)), ((mkX 37 [] 0 q42d [x]), (some ⟨w44.heap.size, 0, none⟩))] j49 op (w49.setCell ⟨b3, 2, none⟩ (.int .i64 x49c))) := HS.out.head List.mem_cons_self 37 [] x49c q42d
       have HS : Hid (St rb ta cap T w [(b3, (nL 37 [] x49c q42d (.slice (some ⟨w44.heap.size, 0, none⟩) 1 1))), (w.heap.size, z5)] [((mkX 37 [] x49c q42d [x]), (some ⟨w44.heap.size, 0, none⟩))] j49 op (w49.setCell ⟨b3, 2, none⟩ (.int .i64 x49c))) := HS.out.sub (by intro p hp; simp only [List.mem_cons, List.not_mem_nil, or_false] at hp ⊢; rcases hp with rfl <;> simp)
       go_wp2
       go_roundg m
       case measure => omega
       case rel => exact ⟨(mkX 37 [] x49c q42d [x]), (some ⟨w44.heap.size, 0, none⟩), 1, j49, by rw [xL_mk _ _ _ _ _ _ _ 1 rfl]; exact HS.out, HL.out⟩
     ·
      obtain ⟨y44a, y44b, y44c, y44d, y44e⟩ := HS.out.c5 List.mem_cons_self
      go_simp
      clear  y44a y44b y44c y44d y44e
      refine hK.out _ _ trivial (fun hHz => ?_)
      clear hK K hHz
      try simp only [Act.put, List.setIfInBounds_toArray, List.set_cons_zero, List.set_cons_succ]
      refine wpAnyH_ready (rs := [1, 3]) (by kernel_rfl) (by simp) ?_
      refine AllReadyH.cons rfl (fun K hK => ?_) (AllReadyH.cons rfl (fun K hK => ?_) AllReadyH.nil)
      ·
       have hc := take_s rb ta cap T i' op _ HS.out.rdr HIT.out
       rw [HQ42.out] at hc
       unfold ptr ttV at hc
       dsimp only at hc
       go_simp
       refine hc.mono ?_
       rintro e w45 ⟨rfl, hr, hf⟩
       have HS : Hid (St rb ta cap T w [(b3, (xL x s c)), (w.heap.size, z5)] [(x, s)] (i' + 1) op w45) := HS.out.call hf hr
       clear hc hr hf
       refine hK.out _ _ trivial (fun hHz => ?_)
       clear hK K hHz
       try simp only [Act.put, List.setIfInBounds_toArray, List.set_cons_zero, List.set_cons_succ]
       refine wpAnyH_ready (rs := [3]) (by kernel_rfl) (by simp) ?_
       refine AllReadyH.cons rfl (fun K hK => ?_) AllReadyH.nil
       go_simp
       have HS : Hid (St rb ta cap T w [(w45.heap.size, (xC [(x, s, c)])), (b3, (xL x s c)), (w.heap.size, z5)] [(x, s)] (i' + 1) op (w45.alloc (.cells #[.int .i64 (xk x), .string (bsA (xt x)), .int .i64 (xn x), .int .i64 (xa x), .slice s (xl x) c] 34))) := HS.out.newO (xC [(x, s, c)])
       refine hK.out _ _ trivial (fun hHz => ?_)
       clear hK K hHz
       try simp only [Act.put, List.setIfInBounds_toArray, List.set_cons_zero, List.set_cons_succ]
       refine wpAnyH_ready (rs := [4]) (by kernel_rfl) (by simp) ?_
       refine AllReadyH.cons rfl (fun K hK => ?_) AllReadyH.nil
       have hc := node_s 37 ((q42a, q42b, q42c), q42d) (some ⟨w45.heap.size, 0, none⟩) 1 1 (w45.alloc (.cells #[.int .i64 (xk x), .string (bsA (xt x)), .int .i64 (xn x), .int .i64 (xa x), .slice s (xl x) c] 34))
       (try unfold ttV at hc)
       (try unfold nV at hc)
       (try dsimp only at hc)
       go_simp
       refine hc.mono ?_
       rintro e w46 ⟨rfl, hb⟩
       have HS : Hid (St rb ta cap T w [(w45.heap.size, (xC [(x, s, c)])), (b3, (xL x s c)), (w.heap.size, z5)] [(x, s)] (i' + 1) op w46) := HS.out.below hb
       clear hc hb
       refine hK.out _ _ trivial (fun hHz => ?_)
       clear hK K hHz
       try simp only [Act.put, List.setIfInBounds_toArray, List.set_cons_zero, List.set_cons_succ]
       refine wpAnyH_ready (rs := [5]) (by kernel_rfl) (by simp) ?_
       refine AllReadyH.cons rfl (fun K hK => ?_) AllReadyH.nil
       obtain ⟨y47a, y47b, y47c, y47d, y47e⟩ := HS.out.c5 (List.mem_cons_of_mem _ List.mem_cons_self)
       obtain ⟨f47a, f47b, f47c, f47d, f47e⟩ := HS.out.f5 (List.mem_cons_of_mem _ List.mem_cons_self)
       go_simp
       clear  y47a y47b y47c y47d y47e f47a f47b f47c f47d f47e
       have HS : Hid (St rb ta cap T w [(w45.heap.size, (xC [(x, s, c)])), (b3, (nL 37 [] 0 q42d (.slice (some ⟨w45.heap.size, 0, none⟩) 1 1))), (w.heap.size, z5)] [(x, s)] (i' + 1) op (((((w46.setCell ⟨b3, 0, none⟩ (.int .i64 37)).setCell ⟨b3, 1, none⟩ (.string (bsA []))).setCell ⟨b3, 2, none⟩ (.int .i64 0)).setCell ⟨b3, 3, none⟩ (.int .i64 q42d)).setCell ⟨b3, 4, none⟩ (.slice (some ⟨w45.heap.size, 0, none⟩) 1 1))) := St.put [(w45.heap.size, (xC [(x, s, c)]))] (St.put [(w45.heap.size, (xC [(x, s, c)]))] (St.put [(w45.heap.size, (xC [(x, s, c)]))] (St.put [(w45.heap.size, (xC [(x, s, c)]))] (St.put [(w45.heap.size, (xC [(x, s, c)]))] HS.out 0 (.int .i64 37)) 1 (.string (bsA []))) 2 (.int .i64 0)) 3 (.int .i64 q42d)) 4 (.slice (some ⟨w45.heap.size, 0, none⟩) 1 1)
       have HS : Hid (St rb ta cap T w [(b3, (nL 37 [] 0 q42d (.slice (some ⟨w45.heap.size, 0, none⟩) 1 1))), (w.heap.size, z5)] [((mkX 37 [] 0 q42d [x]), (some ⟨w45.heap.size, 0, none⟩)), (x, s)] (i' + 1) op (((((w46.setCell ⟨b3, 0, none⟩ (.int .i64 37)).setCell ⟨b3, 1, none⟩ (.string (bsA []))).setCell ⟨b3, 2, none⟩ (.int .i64 0)).setCell ⟨b3, 3, none⟩ (.int .i64 q42d)).setCell ⟨b3, 4, none⟩ (.slice (some ⟨w45.heap.size, 0, none⟩) 1 1))) := HS.out.row [] [(x, s, c)] 37 [] 0 q42d (by intro p hp; simp only [List.mem_cons, List.not_mem_nil, or_false] at hp; rcases hp with rfl <;> simp)
       have HS : Hid (St rb ta cap T w [(b3, (nL 37 [] 0 q42d (.slice (some ⟨w45.heap.size, 0, none⟩) 1 1))), (w.heap.size, z5)] [((mkX 37 [] 0 q42d [x]), (some ⟨w45.heap.size, 0, none⟩))] (i' + 1) op (((((w46.setCell ⟨b3, 0, none⟩ (.int .i64 37)).setCell ⟨b3, 1, none⟩ (.string (bsA []))).setCell ⟨b3, 2, none⟩ (.int .i64 0)).setCell ⟨b3, 3, none⟩ (.int .i64 q42d)).setCell ⟨b3, 4, none⟩ (.slice (some ⟨w45.heap.size, 0, none⟩) 1 1))) := HS.out.sub (by intro p hp; simp only [List.mem_cons, List.not_mem_nil, or_false] at hp ⊢; rcases hp with rfl <;> simp)
       refine hK.out _ _ trivial (fun hHz => ?_)
       clear hK K hHz
       try simp only [Act.put, List.setIfInBounds_toArray, List.set_cons_zero, List.set_cons_succ]
       refine wpAnyH_done (by kernel_rfl) ?_ _
       generalize (((((w46.setCell ⟨b3, 0, none⟩ (.int .i64 37)).setCell ⟨b3, 1, none⟩ (.string (bsA []))).setCell ⟨b3, 2, none⟩ (.int .i64 0)).setCell ⟨b3, 3, none⟩ (.int .i64 q42d)).setCell ⟨b3, 4, none⟩ (.slice (some ⟨w45.heap.size, 0, none⟩) 1 1)) = w48 at HS ⊢
       obtain ⟨r1, e1, hl⟩ := bnd_some HL.out
       have HL : Hid _ := hl
       have hc := period_s rb ta cap T 0 (i' + 1) op _ r1 hop HS.out.rdr e1
       (try unfold ptr at hc)
       clear e1 hl
       go_wp2_with fail
       refine hc.mono ?_
       intro e w49 hpost
       clear hc
       cases r1 with
       | inl q =>
        obtain ⟨hG, HP⟩ := HS.out.bad2 (V := VX) (op' := op) HL.out hpost
        unfold GUs at hG
        subst hG
        clear hpost
        go_wp2
        exact ⟨rfl, HP.out⟩
       | inr q =>
        obtain ⟨x49, j49⟩ := q
        obtain ⟨rfl, HS⟩ := HS.out.okT hpost
        obtain ⟨⟨x49a, x49b, x49c⟩, x49d⟩ := x49
        unfold ttV
        dsimp only
        have hl := HL.out
        rw [bnd_ok] at hl
        (try dsimp only at hl)
        have HL : Hid _ := hl
        clear hl hpost
        have hfe := field26_2 x49a x49b x49c x49d
        obtain ⟨y50a, y50b, y50c, y50d, y50e⟩ := HS.out.c5 List.mem_cons_self
        obtain ⟨f50a, f50b, f50c, f50d, f50e⟩ := HS.out.f5 List.mem_cons_self
        have HS : Hid (St rb ta cap T w [(b3, (nL 37 [] x49c q42d (.slice (some ⟨w45.heap.size, 0, none⟩) 1 1))), (w.heap.size, z5)] [((mkX 37 [] 0 q42d [x]), (some ⟨w45.heap.size, 0, none⟩))] j49 op (w49.setCell ⟨b3, 2, none⟩ (.int .i64 x49c))) := St.put [] HS.out 2 (.int .i64 x49c)
        obtain ⟨y51a, y51b, y51c, y51d, y51e⟩ := HS.out.c5 List.mem_cons_self
        have HS : Hid (St rb ta cap T w [(b3, (nL 37 [] x49c q42d (.slice (some ⟨w45.heap.size, 0, none⟩) 1 1))), (w.heap.size, z5)] [((mkX 37 [] x49c q42d [x]), (some ⟨w45.heap.size, 0, none⟩)), ((mkX 37 [] 0 q42d [x]), (some ⟨w45.heap.size, 0, none⟩))] j49 op (w49.setCell ⟨b3, 2, none⟩ (.int .i64 x49c))) := HS.out.head List.mem_cons_self 37 [] x49c q42d
        have HS : Hid (St rb ta cap T w [(b3, (nL 37 [] x49c q42d (.slice (some ⟨w45.heap.size, 0, none⟩) 1 1))), (w.heap.size, z5)] [((mkX 37 [] x49c q42d [x]), (some ⟨w45.heap.size, 0, none⟩))] j49 op (w49.setCell ⟨b3, 2, none⟩ (.int .i64 x49c))) := HS.out.sub (by intro p hp; simp only [List.mem_cons, List.not_mem_nil, or_false] at hp ⊢; rcases hp with rfl <;> simp)
        go_wp2
        go_roundg m
        case measure => omega
        case rel => exact ⟨(mkX 37 [] x49c q42d [x]), (some ⟨w45.heap.size, 0, none⟩), 1, j49, by rw [xL_mk _ _ _ _ _ _ _ 1 rfl]; exact HS.out, HL.out⟩
      ·
       go_simp
       have HS : Hid (St rb ta cap T w [(w43.heap.size, (xC [(x, s, c)])), (b3, (xL x s c)), (w.heap.size, z5)] [(x, s)] i' op (w43.alloc (.cells #[.int .i64 (xk x), .string (bsA (xt x)), .int .i64 (xn x), .int .i64 (xa x), .slice s (xl x) c] 34))) := HS.out.newO (xC [(x, s, c)])
       refine hK.out _ _ trivial (fun hHz => ?_)
       clear hK K hHz
       try simp only [Act.put, List.setIfInBounds_toArray, List.set_cons_zero, List.set_cons_succ]
       refine wpAnyH_ready (rs := [1]) (by kernel_rfl) (by simp) ?_
       refine AllReadyH.cons rfl (fun K hK => ?_) AllReadyH.nil
       have hc := take_s rb ta cap T i' op _ HS.out.rdr HIT.out
       rw [HQ42.out] at hc
       unfold ptr ttV at hc
       dsimp only at hc
       go_simp
       refine hc.mono ?_
       rintro e w45 ⟨rfl, hr, hf⟩
       have HS : Hid (St rb ta cap T w [(w43.heap.size, (xC [(x, s, c)])), (b3, (xL x s c)), (w.heap.size, z5)] [(x, s)] (i' + 1) op w45) := HS.out.call hf hr
       clear hc hr hf
       refine hK.out _ _ trivial (fun hHz => ?_)
       clear hK K hHz
       try simp only [Act.put, List.setIfInBounds_toArray, List.set_cons_zero, List.set_cons_succ]
       refine wpAnyH_ready (rs := [4]) (by kernel_rfl) (by simp) ?_
       refine AllReadyH.cons rfl (fun K hK => ?_) AllReadyH.nil
       have hc := node_s 37 ((q42a, q42b, q42c), q42d) (some ⟨w43.heap.size, 0, none⟩) 1 1 w45
       (try unfold ttV at hc)
       (try unfold nV at hc)
       (try dsimp only at hc)
       go_simp
       refine hc.mono ?_
       rintro e w46 ⟨rfl, hb⟩
       have HS : Hid (St rb ta cap T w [(w43.heap.size, (xC [(x, s, c)])), (b3, (xL x s c)), (w.heap.size, z5)] [(x, s)] (i' + 1) op w46) := HS.out.below hb
       clear hc hb
       refine hK.out _ _ trivial (fun hHz => ?_)
       clear hK K hHz
       try simp only [Act.put, List.setIfInBounds_toArray, List.set_cons_zero, List.set_cons_succ]
       refine wpAnyH_ready (rs := [5]) (by kernel_rfl) (by simp) ?_
       refine AllReadyH.cons rfl (fun K hK => ?_) AllReadyH.nil
       obtain ⟨y47a, y47b, y47c, y47d, y47e⟩ := HS.out.c5 (List.mem_cons_of_mem _ List.mem_cons_self)
       obtain ⟨f47a, f47b, f47c, f47d, f47e⟩ := HS.out.f5 (List.mem_cons_of_mem _ List.mem_cons_self)
       go_simp
       clear  y47a y47b y47c y47d y47e f47a f47b f47c f47d f47e
       have HS : Hid (St rb ta cap T w [(w43.heap.size, (xC [(x, s, c)])), (b3, (nL 37 [] 0 q42d (.slice (some ⟨w43.heap.size, 0, none⟩) 1 1))), (w.heap.size, z5)] [(x, s)] (i' + 1) op (((((w46.setCell ⟨b3, 0, none⟩ (.int .i64 37)).setCell ⟨b3, 1, none⟩ (.string (bsA []))).setCell ⟨b3, 2, none⟩ (.int .i64 0)).setCell ⟨b3, 3, none⟩ (.int .i64 q42d)).setCell ⟨b3, 4, none⟩ (.slice (some ⟨w43.heap.size, 0, none⟩) 1 1))) := St.put [(w43.heap.size, (xC [(x, s, c)]))] (St.put [(w43.heap.size, (xC [(x, s, c)]))] (St.put [(w43.heap.size, (xC [(x, s, c)]))] (St.put [(w43.heap.size, (xC [(x, s, c)]))] (St.put [(w43.heap.size, (xC [(x, s, c)]))] HS.out 0 (.int .i64 37)) 1 (.string (bsA []))) 2 (.int .i64 0)) 3 (.int .i64 q42d)) 4 (.slice (some ⟨w43.heap.size, 0, none⟩) 1 1)
       have HS : Hid (St rb ta cap T w [(b3, (nL 37 [] 0 q42d (.slice (some ⟨w43.heap.size, 0, none⟩) 1 1))), (w.heap.size, z5)] [((mkX 37 [] 0 q42d [x]), (some ⟨w43.heap.size, 0, none⟩)), (x, s)] (i' + 1) op (((((w46.setCell ⟨b3, 0, none⟩ (.int .i64 37)).setCell ⟨b3, 1, none⟩ (.string (bsA []))).setCell ⟨b3, 2, none⟩ (.int .i64 0)).setCell ⟨b3, 3, none⟩ (.int .i64 q42d)).setCell ⟨b3, 4, none⟩ (.slice (some ⟨w43.heap.size, 0, none⟩) 1 1))) := HS.out.row [] [(x, s, c)] 37 [] 0 q42d (by intro p hp; simp only [List.mem_cons, List.not_mem_nil, or_false] at hp; rcases hp with rfl <;> simp)
       have HS : Hid (St rb ta cap T w [(b3, (nL 37 [] 0 q42d (.slice (some ⟨w43.heap.size, 0, none⟩) 1 1))), (w.heap.size, z5)] [((mkX 37 [] 0 q42d [x]), (some ⟨w43.heap.size, 0, none⟩))] (i' + 1) op (((((w46.setCell ⟨b3, 0, none⟩ (.int .i64 37)).setCell ⟨b3, 1, none⟩ (.string (bsA []))).setCell ⟨b3, 2, none⟩ (.int .i64 0)).setCell ⟨b3, 3, none⟩ (.int .i64 q42d)).setCell ⟨b3, 4, none⟩ (.slice (some ⟨w43.heap.size, 0, none⟩) 1 1))) := HS.out.sub (by intro p hp; simp only [List.mem_cons, List.not_mem_nil, or_false] at hp ⊢; rcases hp with rfl <;> simp)
       refine hK.out _ _ trivial (fun hHz => ?_)
       clear hK K hHz
       try simp only [Act.put, List.setIfInBounds_toArray, List.set_cons_zero, List.set_cons_succ]
       refine wpAnyH_done (by kernel_rfl) ?_ _
       generalize (((((w46.setCell ⟨b3, 0, none⟩ (.int .i64 37)).setCell ⟨b3, 1, none⟩ (.string (bsA []))).setCell ⟨b3, 2, none⟩ (.int .i64 0)).setCell ⟨b3, 3, none⟩ (.int .i64 q42d)).setCell ⟨b3, 4, none⟩ (.slice (some ⟨w43.heap.size, 0, none⟩) 1 1)) = w48 at HS ⊢
       obtain ⟨r1, e1, hl⟩ := bnd_some HL.out
       have HL : Hid _ := hl
       have hc := period_s rb ta cap T 0 (i' + 1) op _ r1 hop HS.out.rdr e1
       (try unfold ptr at hc)
       clear e1 hl
       go_wp2_with fail
       refine hc.mono ?_
       intro e w49 hpost
       clear hc
       cases r1 with
       | inl q =>
        obtain ⟨hG, HP⟩ := HS.out.bad2 (V := VX) (op' := op) HL.out hpost
        unfold GUs at hG
        subst hG
        clear hpost
        go_wp2
        exact ⟨rfl, HP.out⟩
       | inr q =>
        obtain ⟨x49, j49⟩ := q
        obtain ⟨rfl, HS⟩ := HS.out.okT hpost
        obtain ⟨⟨x49a, x49b, x49c⟩, x49d⟩ := x49
        unfold ttV
        dsimp only
        have hl := HL.out
        rw [bnd_ok] at hl
        (try dsimp only at hl)
        have HL : Hid _ := hl
        clear hl hpost
        have hfe := field26_2 x49a x49b x49c x49d
        obtain ⟨y50a, y50b, y50c, y50d, y50e⟩ := HS.out.c5 List.mem_cons_self
        obtain ⟨f50a, f50b, f50c, f50d, f50e⟩ := HS.out.f5 List.mem_cons_self
        have HS : Hid (St rb ta cap T w [(b3, (nL 37 [] x49c q42d (.slice (some ⟨w43.heap.size, 0, none⟩) 1 1))), (w.heap.size, z5)] [((mkX 37 [] 0 q42d [x]), (some ⟨w43.heap.size, 0, none⟩))] j49 op (w49.setCell ⟨b3, 2, none⟩ (.int .i64 x49c))) := St.put [] HS.out 2 (.int .i64 x49c)
        obtain ⟨y51a, y51b, y51c, y51d, y51e⟩ := HS.out.c5 List.mem_cons_self
        have HS : Hid (St rb ta cap T w [(b3, (nL 37 [] x49c q42d (.slice (some ⟨w43.heap.size, 0, none⟩) 1 1))), (w.heap.size, z5)] [((mkX 37 [] x49c q42d [x]), (some ⟨w43.heap.size, 0, none⟩)), ((mkX 37 [] 0 q42d [x]), (some ⟨w43.heap.size, 0, none⟩))] j49 op (w49.setCell ⟨b3, 2, none⟩ (.int .i64 x49c))) := HS.out.head List.mem_cons_self 37 [] x49c q42d
        have HS : Hid (St rb ta cap T w [(b3, (nL 37 [] x49c q42d (.slice (some ⟨w43.heap.size, 0, none⟩) 1 1))), (w.heap.size, z5)] [((mkX 37 [] x49c q42d [x]), (some ⟨w43.heap.size, 0, none⟩))] j49 op (w49.setCell ⟨b3, 2, none⟩ (.int .i64 x49c))) := HS.out.sub (by intro p hp; simp only [List.mem_cons, List.not_mem_nil, or_false] at hp ⊢; rcases hp with rfl <;> simp)
        go_wp2
        go_roundg m
        case measure => omega
        case rel => exact ⟨(mkX 37 [] x49c q42d [x]), (some ⟨w43.heap.size, 0, none⟩), 1, j49, by rw [xL_mk _ _ _ _ _ _ _ 1 rfl]; exact HS.out, HL.out⟩
    | false =>
     rw [hb] at hc
     have hl := HL.out
     clear HL
     simp only [hb, if_true, if_false, Bool.false_eq_true] at hl
     have HL : Hid _ := hl
     clear hl hb
     go_wp2_with fail
     refine hc.mono ?_
     rintro e w41 ⟨rfl, hb⟩
     have HS : Hid (St rb ta cap T w [(b3, (xL x s c)), (w.heap.size, z5)] [(x, s)] i' op w41) := HS.out.below hb
     clear hc hb
     obtain ⟨y42a, y42b, y42c, y42d, y42e⟩ := HS.out.c5 List.mem_cons_self
     obtain ⟨⟨d0, d1, d2, d3, d4⟩, ⟨g0, g1, g2, g3, g4⟩, hz⟩ := St.fin5 [(b3, (xL x s c))] HS.out (v0 := .int .i64 (xk x)) (v1 := .string (bsA (xt x))) (v2 := .int .i64 (xn x)) (v3 := .int .i64 (xa x)) (v4 := .slice s (xl x) c) (c := c) HL.out List.mem_cons_self (rfl)
     obtain ⟨⟨z0, z1, z2, z3, z4⟩, HP⟩ := hz _ rfl
     clear hz HS HL
     go_wp2
     refine bodyPost_ret (v := .agg #[.int .i64 (xk x), .string (bsA (xt x)), .int .i64 (xn x), .int .i64 (xa x), .slice s (xl x) c]) (by simp [results, Tryz.results90, go_sem, z0, z1, z2, z3, z4]) rfl HP.out
theorem un_s (rb : Nat) (ta : Option Addr) (cap : Nat) (T : List Tt) (ga : Nat → Nat → Rz X) (ha : RdX rb ta cap T 128 ga) : ∀ f, RdX rb ta cap T 90 (unQ T ga f)
 | 0 => fun _ _ _ _ _ _ h => by cases h
 | f + 1 => un_step rb ta cap T ga ha f (un_s rb ta cap T ga ha f)
end Go.Proofs.YtgdndahhledikaaGreatDoor
