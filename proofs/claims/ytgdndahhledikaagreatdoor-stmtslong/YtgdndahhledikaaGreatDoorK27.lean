/- Sye, Syc. -/
import Derived.Test.YtgdndahhledikaaGreatDoorK26
import Derived.Test.YtgdndahhledikaaGreatDoorK21
namespace Go.Proofs.YtgdndahhledikaaGreatDoor
open Go.ChangeShapes Go.WideShapes Go.ChangeAt Go.RowKit
set_option linter.unusedSimpArgs false
set_option maxRecDepth 20000
set_option maxHeartbeats 4000000
theorem items_s (rb : Nat) (ta : Option Addr) (cap : Nat) (T : List Tt) (E : Nat → Rz X) (hE : RdX rb ta cap T 80 (fun i _ => E i)) (f : Nat) : Rds VX rb ta cap T 76 #[ptr rb] (fun i _ => itsP T E f i) := by
 intro i op w r hop hr h
 (try dsimp only at h)
 have HS : Hid (St rb ta cap T w [] [] i op w) := St.start hr
 unfold itsP at h
 have HL : Hid _ := h
 have hlt := cell_lt hr.c0
 clear hr h 
 unfold ptr
 go_enter Tryz.func76, Tryz.ntmps76
 have HIT : Hid (isT (tkI T i) 6 [[42]] = true → i < T.length) := fun h => isT_tk h (by decide)
 have HS : Hid (St rb ta cap T w [(w.heap.size, z5)] [] i op (w.alloc o5)) := HS.out.newO z5
 cases hb : isT (tkI T i) 6 [[42]] with
 | true =>
  have HIT : Hid (i < T.length) := HIT.out hb
  have HB : Hid _ := hb
  have hl := HL.out
  simp only [hb, if_true, if_false, Bool.false_eq_true] at hl
  have HL : Hid _ := hl
  clear hl hb
  have hc := seesSign_any rb ta cap T i op [42] _ HS.out.rdr
  rw [HB.out] at hc
  unfold ptr at hc
  go_wp2_with fail
  refine hc.mono ?_
  rintro e w1 ⟨rfl, hb⟩
  have HS : Hid (St rb ta cap T w [(w.heap.size, z5)] [] i op w1) := HS.out.below hb
  clear hc hb
  obtain ⟨⟨⟨q2a, q2b, q2c⟩, q2d⟩, hq⟩ : ∃ q, tkI T i = q := ⟨_, rfl⟩
  have HQ2 : Hid (tkI T i = ((q2a, q2b, q2c), q2d)) := hq
  have hl := HL.out
  (try rw [hq] at hl)
  (try dsimp only at hl)
  have HL : Hid _ := hl
  clear hl hq
  have hc := take_s rb ta cap T i op _ HS.out.rdr HIT.out
  rw [HQ2.out] at hc
  unfold ptr ttV at hc
  dsimp only at hc
  go_wp2_with fail
  refine hc.mono ?_
  rintro e w3 ⟨rfl, hr, hf⟩
  have HS : Hid (St rb ta cap T w [(w.heap.size, z5)] [] (i + 1) op w3) := HS.out.call hf hr
  clear hc hr hf
  have hc := node_s 22 ((q2a, q2b, q2c), q2d) none 0 0 w3
  (try unfold ttV at hc)
  (try unfold nV at hc)
  (try dsimp only at hc)
  go_wp2_with fail
  refine hc.mono ?_
  rintro e w4 ⟨rfl, hb⟩
  have HS : Hid (St rb ta cap T w [(w.heap.size, z5)] [] (i + 1) op w4) := HS.out.below hb
  clear hc hb
  have HS : Hid (St rb ta cap T w [(w.heap.size, z5)] [((mkX 22 [] 0 q2d []), none)] (i + 1) op w4) := HS.out.leaf 22 [] 0 q2d none
  obtain ⟨⟨d0, d1, d2, d3, d4⟩, ⟨g0, g1, g2, g3, g4⟩, hz⟩ := St.fin5 [] HS.out (v0 := .int .i64 22) (v1 := .string (bsA [])) (v2 := .int .i64 0) (v3 := .int .i64 q2d) (v4 := .slice none 0 0) (c := 0) HL.out List.mem_cons_self (mkX_V' _ _ _ _ _ _ _ _ rfl)
  obtain ⟨⟨z0, z1, z2, z3, z4⟩, HP⟩ := hz _ rfl
  clear hz HS HL
  go_wp2
  refine bodyPost_ret (v := .agg #[.int .i64 22, .string (bsA []), .int .i64 0, .int .i64 q2d, .slice none 0 0]) (by simp [results, Tryz.results76, go_sem, z0, z1, z2, z3, z4]) rfl HP.out
 | false =>
  have HB : Hid _ := hb
  have hl := HL.out
  simp only [hb, if_true, if_false, Bool.false_eq_true] at hl
  have HL : Hid _ := hl
  clear hl hb
  have hc := seesSign_any rb ta cap T i op [42] _ HS.out.rdr
  rw [HB.out] at hc
  unfold ptr at hc
  go_wp2_with fail
  refine hc.mono ?_
  rintro e w1 ⟨rfl, hb⟩
  have HS : Hid (St rb ta cap T w [(w.heap.size, z5)] [] i op w1) := HS.out.below hb
  clear hc hb
  obtain ⟨r1, e1, hl⟩ := bnd_some HL.out
  have HL : Hid _ := hl
  have hc := listNode_s rb ta cap T 115 (ent_of (fn := Tryz.f115) rfl (by decide) rfl) (fun i _ => itemP T E i) (item_s rb ta cap T E hE) 32 (by decide) (by decide) f i op _ r1 hop HS.out.rdr e1
  (try unfold ptr fnV at hc)
  (try unfold ptr at hc)
  clear e1 hl
  go_wp2_with fail
  refine hc.mono ?_
  intro e w2 hpost
  clear hc
  cases r1 with
  | inl q =>
   obtain ⟨hG, HP⟩ := HS.out.bad2 (V := VX) (op' := op) HL.out hpost
   unfold GUs at hG
   subst hG
   clear hpost
   go_wp2
   exact ⟨rfl, HP.out⟩
  | inr q =>
   obtain ⟨x2, j2⟩ := q
   obtain ⟨s2, c2, rfl, HS⟩ := HS.out.okX hpost
   unfold xV nV
   have hl := HL.out
   rw [bnd_ok] at hl
   (try dsimp only at hl)
   have HL : Hid _ := hl
   clear hl hpost
   obtain ⟨⟨d0, d1, d2, d3, d4⟩, ⟨g0, g1, g2, g3, g4⟩, hz⟩ := St.fin5 [] HS.out (v0 := .int .i64 (xk x2)) (v1 := .string (bsA (xt x2))) (v2 := .int .i64 (xn x2)) (v3 := .int .i64 (xa x2)) (v4 := .slice s2 (xl x2) c2) (c := c2) HL.out List.mem_cons_self (rfl)
   obtain ⟨⟨z0, z1, z2, z3, z4⟩, HP⟩ := hz _ rfl
   clear hz HS HL
   go_wp2
   refine bodyPost_ret (v := .agg #[.int .i64 (xk x2), .string (bsA (xt x2)), .int .i64 (xn x2), .int .i64 (xa x2), .slice s2 (xl x2) c2]) (by simp [results, Tryz.results76, go_sem, z0, z1, z2, z3, z4]) rfl HP.out
theorem into_s (rb : Nat) (ta : Option Addr) (cap : Nat) (T : List Tt)  : Rds VX rb ta cap T 73 #[ptr rb] (fun i _ => intP T i) := by
 intro i op w r hop hr h
 (try dsimp only at h)
 have HS : Hid (St rb ta cap T w [] [] i op w) := St.start hr
 unfold intP at h
 have HL : Hid _ := h
 have hlt := cell_lt hr.c0
 clear hr h 
 unfold ptr
 go_enter Tryz.func73, Tryz.ntmps73
 have HS : Hid (St rb ta cap T w [(w.heap.size, z5)] [] i op (w.alloc o5)) := HS.out.newO z5
 obtain ⟨r1, e1, hl⟩ := bnd_some HL.out
 have HL : Hid _ := hl
 have hc := passesWord_s rb ta cap T [105, 110, 115, 101, 114, 116] i op _ r1 hop HS.out.rdr e1
 (try unfold ptr at hc)
 clear e1 hl
 go_wp2_with fail
 refine hc.mono ?_
 intro e w1 hpost
 clear hc
 cases r1 with
 | inl q =>
  obtain ⟨hG, HP⟩ := HS.out.bad2 (V := VX) (op' := op) HL.out hpost
  unfold GUs at hG
  subst hG
  clear hpost
  go_wp2
  exact ⟨rfl, HP.out⟩
 | inr q =>
  obtain ⟨x1, j1⟩ := q
  obtain ⟨rfl, HS⟩ := HS.out.okB hpost
  have hl := HL.out
  rw [bnd_ok] at hl
  (try dsimp only at hl)
  have HL : Hid _ := hl
  clear hl hpost
  cases x1 with
  | true =>
   have hl := HL.out
   simp only [if_true, if_false, Bool.false_eq_true] at hl
   have HL : Hid _ := hl
   clear hl
   obtain ⟨r1, e1, hl⟩ := bnd_some HL.out
   have HL : Hid _ := hl
   have hc := needWord_s rb ta cap T [105, 110, 116, 111] j1 op _ r1 hop HS.out.rdr e1
   (try unfold ptr at hc)
   clear e1 hl
   go_wp2_with fail
   refine hc.mono ?_
   intro e w2 hpost
   clear hc
   cases r1 with
   | inl q =>
    obtain ⟨hG, HP⟩ := HS.out.bad2 (V := VX) (op' := op) HL.out hpost
    unfold GUs at hG
    subst hG
    clear hpost
    go_wp2
    exact ⟨rfl, HP.out⟩
   | inr q =>
    obtain ⟨x2, j2⟩ := q
    obtain ⟨rfl, HS⟩ := HS.out.okT hpost
    obtain ⟨⟨x2a, x2b, x2c⟩, x2d⟩ := x2
    unfold ttV
    dsimp only
    have hl := HL.out
    rw [bnd_ok] at hl
    (try dsimp only at hl)
    have HL : Hid _ := hl
    clear hl hpost
    obtain ⟨r1, e1, hl⟩ := bnd_some HL.out
    have HL : Hid _ := hl
    have hc := name_s rb ta cap T j2 op _ r1 hop HS.out.rdr e1
    (try unfold ptr at hc)
    clear e1 hl
    go_wp2_with fail
    refine hc.mono ?_
    intro e w3 hpost
    clear hc
    cases r1 with
    | inl q =>
     obtain ⟨hG, HP⟩ := HS.out.bad2 (V := VX) (op' := op) HL.out hpost
     unfold GUs at hG
     subst hG
     clear hpost
     go_wp2
     exact ⟨rfl, HP.out⟩
    | inr q =>
     obtain ⟨x3, j3⟩ := q
     obtain ⟨s3, c3, rfl, HS⟩ := HS.out.okX hpost
     unfold xV nV
     have hl := HL.out
     rw [bnd_ok] at hl
     (try dsimp only at hl)
     have HL : Hid _ := hl
     clear hl hpost
     obtain ⟨⟨d0, d1, d2, d3, d4⟩, ⟨g0, g1, g2, g3, g4⟩, hz⟩ := St.fin5 [] HS.out (v0 := .int .i64 (xk x3)) (v1 := .string (bsA (xt x3))) (v2 := .int .i64 (xn x3)) (v3 := .int .i64 (xa x3)) (v4 := .slice s3 (xl x3) c3) (c := c3) HL.out List.mem_cons_self (rfl)
     obtain ⟨⟨z0, z1, z2, z3, z4⟩, HP⟩ := hz _ rfl
     clear hz HS HL
     go_wp2
     refine bodyPost_ret (v := .agg #[.int .i64 (xk x3), .string (bsA (xt x3)), .int .i64 (xn x3), .int .i64 (xa x3), .slice s3 (xl x3) c3]) (by simp [results, Tryz.results73, go_sem, z0, z1, z2, z3, z4]) rfl HP.out
  | false =>
   have hl := HL.out
   simp only [if_true, if_false, Bool.false_eq_true] at hl
   have HL : Hid _ := hl
   clear hl
   have hc := none_s w1
   (try unfold ttV at hc)
   (try unfold nV at hc)
   (try dsimp only at hc)
   go_wp2_with fail
   refine hc.mono ?_
   rintro e w2 ⟨rfl, hb⟩
   have HS : Hid (St rb ta cap T w [(w.heap.size, z5)] [] j1 op w2) := HS.out.below hb
   clear hc hb
   have HS : Hid (St rb ta cap T w [(w.heap.size, z5)] [((mkX 20 [] 0 0 []), none)] j1 op w2) := HS.out.leaf 20 [] 0 0 none
   obtain ⟨⟨d0, d1, d2, d3, d4⟩, ⟨g0, g1, g2, g3, g4⟩, hz⟩ := St.fin5 [] HS.out (v0 := .int .i64 20) (v1 := .string (bsA [])) (v2 := .int .i64 0) (v3 := .int .i64 0) (v4 := .slice none 0 0) (c := 0) HL.out List.mem_cons_self (mkX_V' _ _ _ _ _ _ _ _ rfl)
   obtain ⟨⟨z0, z1, z2, z3, z4⟩, HP⟩ := hz _ rfl
   clear hz HS HL
   go_wp2
   refine bodyPost_ret (v := .agg #[.int .i64 20, .string (bsA []), .int .i64 0, .int .i64 0, .slice none 0 0]) (by simp [results, Tryz.results73, go_sem, z0, z1, z2, z3, z4]) rfl HP.out
theorem told_s (rb : Nat) (ta : Option Addr) (cap : Nat) (T : List Tt)  : Rds VI rb ta cap T 75 #[ptr rb] (fun i _ => tldP T i) := by
 intro i op w r hop hr h
 (try dsimp only at h)
 have HS : Hid (St rb ta cap T w [] [] i op w) := St.start hr
 unfold tldP at h
 have HL : Hid _ := h
 have hlt := cell_lt hr.c0
 clear hr h 
 unfold ptr
 go_enter Tryz.func75, Tryz.ntmps75
 obtain ⟨r1, e1, hl⟩ := bnd_some HL.out
 have HL : Hid _ := hl
 have hc := passesWord_s rb ta cap T [114, 115, 116, 114, 101, 97, 109] i op _ r1 hop HS.out.rdr e1
 (try unfold ptr at hc)
 clear e1 hl
 go_wp2_with fail
 refine hc.mono ?_
 intro e w1 hpost
 clear hc
 cases r1 with
 | inl q =>
  obtain ⟨hG, HP⟩ := HS.out.bad2 (V := VI) (op' := op) HL.out hpost
  unfold GUs at hG
  subst hG
  clear hpost
  go_wp2
  exact ⟨rfl, HP.out⟩
 | inr q =>
  obtain ⟨x1, j1⟩ := q
  obtain ⟨rfl, HS⟩ := HS.out.okB hpost
  have hl := HL.out
  rw [bnd_ok] at hl
  (try dsimp only at hl)
  have HL : Hid _ := hl
  clear hl hpost
  cases x1 with
  | true =>
   have hl := HL.out
   simp only [if_true, if_false, Bool.false_eq_true] at hl
   have HL : Hid _ := hl
   clear hl
   have HRR : Hid _ := okR_eq HL.out
   have HP : Hid _ := HS.out.giv (V := VI) (x := 2) (v := .int .i64 2) rfl
   clear HS HL
   go_wp2
   go_ret
   rw [HRR.out]
   exact HP.out
  | false =>
   have hl := HL.out
   simp only [if_true, if_false, Bool.false_eq_true] at hl
   have HL : Hid _ := hl
   clear hl
   obtain ⟨r1, e1, hl⟩ := bnd_some HL.out
   have HL : Hid _ := hl
   have hc := passesWord_s rb ta cap T [105, 114, 115, 116, 114, 101, 97, 109] j1 op _ r1 hop HS.out.rdr e1
   (try unfold ptr at hc)
   clear e1 hl
   go_wp2_with fail
   refine hc.mono ?_
   intro e w2 hpost
   clear hc
   cases r1 with
   | inl q =>
    obtain ⟨hG, HP⟩ := HS.out.bad2 (V := VI) (op' := op) HL.out hpost
    unfold GUs at hG
    subst hG
    clear hpost
    go_wp2
    exact ⟨rfl, HP.out⟩
   | inr q =>
    obtain ⟨x2, j2⟩ := q
    obtain ⟨rfl, HS⟩ := HS.out.okB hpost
    have hl := HL.out
    rw [bnd_ok] at hl
    (try dsimp only at hl)
    have HL : Hid _ := hl
    clear hl hpost
    cases x2 with
    | true =>
     have hl := HL.out
     simp only [if_true, if_false, Bool.false_eq_true] at hl
     have HL : Hid _ := hl
     clear hl
     have HRR : Hid _ := okR_eq HL.out
     have HP : Hid _ := HS.out.giv (V := VI) (x := 3) (v := .int .i64 3) rfl
     clear HS HL
     go_wp2
     go_ret
     rw [HRR.out]
     exact HP.out
    | false =>
     have hl := HL.out
     simp only [if_true, if_false, Bool.false_eq_true] at hl
     have HL : Hid _ := hl
     clear hl
     obtain ⟨r1, e1, hl⟩ := bnd_some HL.out
     have HL : Hid _ := hl
     have hc := passesWord_s rb ta cap T [105, 115, 116, 114, 101, 97, 109] j2 op _ r1 hop HS.out.rdr e1
     (try unfold ptr at hc)
     clear e1 hl
     go_wp2_with fail
     refine hc.mono ?_
     intro e w3 hpost
     clear hc
     cases r1 with
     | inl q =>
      obtain ⟨hG, HP⟩ := HS.out.bad2 (V := VI) (op' := op) HL.out hpost
      unfold GUs at hG
      subst hG
      clear hpost
      go_wp2
      exact ⟨rfl, HP.out⟩
     | inr q =>
      obtain ⟨x3, j3⟩ := q
      obtain ⟨rfl, HS⟩ := HS.out.okB hpost
      have hl := HL.out
      rw [bnd_ok] at hl
      (try dsimp only at hl)
      have HL : Hid _ := hl
      clear hl hpost
      have HRR : Hid _ := okR_eq HL.out
      have HP : Hid _ := HS.out.giv (V := VI) (x := 1) (v := .int .i64 1) rfl
      clear HS HL
      go_wp2
      go_ret
      rw [HRR.out]
      exact HP.out
theorem by_s (rb : Nat) (ta : Option Addr) (cap : Nat) (T : List Tt) (kf : FuncId) (hent : Ent kf) (g : Nat → Nat → Rz X) (hg : RdX rb ta cap T kf g) (f : Nat) (t : List UInt8) : Rds VX rb ta cap T 79 #[ptr rb, .string (bsA t), fnV kf rb] (fun i op => byP T (fun j => g j op) f t i) := by
 intro i op w r hop hr h
 (try dsimp only at h)
 have HS : Hid (St rb ta cap T w [] [] i op w) := St.start hr
 unfold byP at h
 have HL : Hid _ := h
 have hlt := cell_lt hr.c0
 clear hr h 
 unfold fnV
 unfold ptr
 go_enter Tryz.func79, Tryz.ntmps79
 have HS : Hid (St rb ta cap T w [(w.heap.size, z5)] [] i op (w.alloc o5)) := HS.out.newO z5
 obtain ⟨r1, e1, hl⟩ := bnd_some HL.out
 have HL : Hid _ := hl
 have hc := passesWord_s rb ta cap T t i op _ r1 hop HS.out.rdr e1
 (try unfold ptr fnV at hc)
 (try unfold ptr at hc)
 clear e1 hl
 go_wp2_with fail
 refine hc.mono ?_
 intro e w1 hpost
 clear hc
 cases r1 with
 | inl q =>
  obtain ⟨hG, HP⟩ := HS.out.bad2 (V := VX) (op' := op) HL.out hpost
  unfold GUs at hG
  subst hG
  clear hpost
  go_wp2
  exact ⟨rfl, HP.out⟩
 | inr q =>
  obtain ⟨x1, j1⟩ := q
  obtain ⟨rfl, HS⟩ := HS.out.okB hpost
  have hl := HL.out
  rw [bnd_ok] at hl
  (try dsimp only at hl)
  have HL : Hid _ := hl
  clear hl hpost
  cases x1 with
  | true =>
   have hl := HL.out
   simp only [if_true, if_false, Bool.false_eq_true] at hl
   have HL : Hid _ := hl
   clear hl
   obtain ⟨r1, e1, hl⟩ := bnd_some HL.out
   have HL : Hid _ := hl
   have hc := needWord_s rb ta cap T [98, 121] j1 op _ r1 hop HS.out.rdr e1
   (try unfold ptr fnV at hc)
   (try unfold ptr at hc)
   clear e1 hl
   go_wp2_with fail
   refine hc.mono ?_
   intro e w2 hpost
   clear hc
   cases r1 with
   | inl q =>
    obtain ⟨hG, HP⟩ := HS.out.bad2 (V := VX) (op' := op) HL.out hpost
    unfold GUs at hG
    subst hG
    clear hpost
    go_wp2
    exact ⟨rfl, HP.out⟩
   | inr q =>
    obtain ⟨x2, j2⟩ := q
    obtain ⟨rfl, HS⟩ := HS.out.okT hpost
    obtain ⟨⟨x2a, x2b, x2c⟩, x2d⟩ := x2
    unfold ttV
    dsimp only
    have hl := HL.out
    rw [bnd_ok] at hl
    (try dsimp only at hl)
    have HL : Hid _ := hl
    clear hl hpost
    obtain ⟨r1, e1, hl⟩ := bnd_some HL.out
    have HL : Hid _ := hl
    have hc := listNode_s rb ta cap T kf hent g hg 32 (by decide) (by decide) f j2 op _ r1 hop HS.out.rdr e1
    (try unfold ptr fnV at hc)
    (try unfold ptr at hc)
    clear e1 hl
    go_wp2_with fail
    refine hc.mono ?_
    intro e w3 hpost
    clear hc
    cases r1 with
    | inl q =>
     obtain ⟨hG, HP⟩ := HS.out.bad2 (V := VX) (op' := op) HL.out hpost
     unfold GUs at hG
     subst hG
     clear hpost
     go_wp2
     exact ⟨rfl, HP.out⟩
    | inr q =>
     obtain ⟨x3, j3⟩ := q
     obtain ⟨s3, c3, rfl, HS⟩ := HS.out.okX hpost
     unfold xV nV
     have hl := HL.out
     rw [bnd_ok] at hl
     (try dsimp only at hl)
     have HL : Hid _ := hl
     clear hl hpost
     obtain ⟨⟨d0, d1, d2, d3, d4⟩, ⟨g0, g1, g2, g3, g4⟩, hz⟩ := St.fin5 [] HS.out (v0 := .int .i64 (xk x3)) (v1 := .string (bsA (xt x3))) (v2 := .int .i64 (xn x3)) (v3 := .int .i64 (xa x3)) (v4 := .slice s3 (xl x3) c3) (c := c3) HL.out List.mem_cons_self (rfl)
     obtain ⟨⟨z0, z1, z2, z3, z4⟩, HP⟩ := hz _ rfl
     clear hz HS HL
     go_wp2
     refine bodyPost_ret (v := .agg #[.int .i64 (xk x3), .string (bsA (xt x3)), .int .i64 (xn x3), .int .i64 (xa x3), .slice s3 (xl x3) c3]) (by simp [results, Tryz.results79, go_sem, z0, z1, z2, z3, z4]) rfl HP.out
  | false =>
   have hl := HL.out
   simp only [if_true, if_false, Bool.false_eq_true] at hl
   have HL : Hid _ := hl
   clear hl
   have HS : Hid (St rb ta cap T w [(w.heap.size, z5)] [((mkX 28 [] 0 0 []), none)] j1 op w1) := HS.out.leaf 28 [] 0 0 none
   obtain ⟨⟨d0, d1, d2, d3, d4⟩, ⟨g0, g1, g2, g3, g4⟩, hz⟩ := St.fin5 [] HS.out (v0 := .int .i64 28) (v1 := .string ⟨#[]⟩) (v2 := .int .i64 0) (v3 := .int .i64 0) (v4 := .slice none 0 0) (c := 0) HL.out List.mem_cons_self (mkX_V' _ _ _ _ _ _ _ _ rfl)
   obtain ⟨⟨z0, z1, z2, z3, z4⟩, HP⟩ := hz _ rfl
   clear hz HS HL
   go_wp2
   refine bodyPost_ret (v := .agg #[.int .i64 28, .string ⟨#[]⟩, .int .i64 0, .int .i64 0, .slice none 0 0]) (by simp [results, Tryz.results79, go_sem, z0, z1, z2, z3, z4]) rfl HP.out
theorem schema_s (rb : Nat) (ta : Option Addr) (cap : Nat) (T : List Tt) (f : Nat) : Rds VX rb ta cap T 67 #[ptr rb] (fun i _ => schP T f i) := by
 intro i op w r hop hr h
 (try dsimp only at h)
 have HS : Hid (St rb ta cap T w [] [] i op w) := St.start hr
 unfold schP at h
 have HL : Hid _ := h
 have hlt := cell_lt hr.c0
 clear hr h 
 unfold ptr
 go_enter Tryz.func67, Tryz.ntmps67
 by_cases hin : i < T.length
 rotate_left
 · have hl := HL.out; rw [if_neg hin] at hl; cases hl
 have HIT : Hid _ := hin
 have hl := HL.out
 rw [if_pos hin] at hl
 have HL : Hid _ := hl
 clear hl hin
 obtain ⟨⟨⟨q1a, q1b, q1c⟩, q1d⟩, hq⟩ : ∃ q, tkI T i = q := ⟨_, rfl⟩
 have HQ1 : Hid (tkI T i = ((q1a, q1b, q1c), q1d)) := hq
 have hl := HL.out
 (try rw [hq] at hl)
 (try dsimp only at hl)
 have HL : Hid _ := hl
 clear hl hq
 have HS : Hid (St rb ta cap T w [(w.heap.size, z5)] [] i op (w.alloc o5)) := HS.out.newO z5
 have hc := take_s rb ta cap T i op _ HS.out.rdr HIT.out
 rw [HQ1.out] at hc
 unfold ptr ttV at hc
 dsimp only at hc
 go_wp2_with fail
 refine hc.mono ?_
 rintro e w2 ⟨rfl, hr, hf⟩
 have HS : Hid (St rb ta cap T w [(w.heap.size, z5)] [] (i + 1) op w2) := HS.out.call hf hr
 clear hc hr hf
 obtain ⟨r1, e1, hl⟩ := bnd_some HL.out
 have HL : Hid _ := hl
 have hc := id_s rb ta cap T (i + 1) op _ r1 hop HS.out.rdr e1
 (try unfold ptr fnV at hc)
 (try unfold ptr at hc)
 clear e1 hl
 go_wp2_with fail
 refine hc.mono ?_
 intro e w3 hpost
 clear hc
 cases r1 with
 | inl q =>
  obtain ⟨hG, HP⟩ := HS.out.bad2 (V := VX) (op' := op) HL.out hpost
  unfold GUs at hG
  subst hG
  clear hpost
  go_wp2
  exact ⟨rfl, HP.out⟩
 | inr q =>
  obtain ⟨x3, j3⟩ := q
  obtain ⟨rfl, HS⟩ := HS.out.okT hpost
  obtain ⟨⟨x3a, x3b, x3c⟩, x3d⟩ := x3
  unfold ttV
  dsimp only
  have hl := HL.out
  rw [bnd_ok] at hl
  (try dsimp only at hl)
  have HL : Hid _ := hl
  clear hl hpost
  have hc := textNode_s 50 ((x3a, x3b, x3c), x3d) none 0 0 w3
  (try unfold ttV at hc)
  (try unfold nV at hc)
  (try dsimp only at hc)
  go_wp2_with fail
  refine hc.mono ?_
  rintro e w4 ⟨rfl, hb⟩
  have HS : Hid (St rb ta cap T w [(w.heap.size, z5)] [] j3 op w4) := HS.out.below hb
  clear hc hb
  have HS : Hid (St rb ta cap T w [(w4.heap.size, (nL 50 x3b 0 x3d (.slice none 0 0))), (w.heap.size, z5)] [] j3 op (w4.alloc (nO 50 x3b 0 x3d (.slice none 0 0)))) := HS.out.newO (nL 50 x3b 0 x3d (.slice none 0 0))
  obtain ⟨r1, e1, hl⟩ := bnd_some HL.out
  have HL : Hid _ := hl
  have hc := listed_s rb ta cap T 106 (ent_of (fn := Tryz.f106) rfl (by decide) rfl) (fun i _ => colP T i) (column_s rb ta cap T) 32 (by decide) (by decide) f j3 op _ r1 hop HS.out.rdr e1
  (try unfold ptr fnV at hc)
  (try unfold ptr at hc)
  clear e1 hl
  go_wp2_with fail
  refine hc.mono ?_
  intro e w5 hpost
  clear hc
  cases r1 with
  | inl q =>
   obtain ⟨hG, HP⟩ := HS.out.bad2 (V := VX) (op' := op) HL.out hpost
   unfold GUs at hG
   subst hG
   clear hpost
   go_wp2
   exact ⟨rfl, HP.out⟩
  | inr q =>
   obtain ⟨x5, j5⟩ := q
   obtain ⟨gr5, c5, m5, rfl, HN5, HS⟩ := HS.out.okL hpost 50 x3b 0 x3d
   have hl := HL.out
   rw [bnd_ok] at hl
   (try dsimp only at hl)
   have HL : Hid _ := hl
   clear hl hpost
   obtain ⟨y6a, y6b, y6c, y6d, y6e⟩ := HS.out.c5 List.mem_cons_self
   obtain ⟨f6a, f6b, f6c, f6d, f6e⟩ := HS.out.f5 List.mem_cons_self
   have HS : Hid (St rb ta cap T w [(w4.heap.size, (nL 50 x3b 0 x3d (.slice (some ⟨gr5, 0, none⟩) m5 c5))), (w.heap.size, z5)] [((mkX 50 x3b 0 x3d x5), (some ⟨gr5, 0, none⟩))] j5 op (w5.setCell ⟨w4.heap.size, 4, none⟩ (.slice (some ⟨gr5, 0, none⟩) m5 c5))) := St.put [] HS.out 4 (.slice (some ⟨gr5, 0, none⟩) m5 c5)
   obtain ⟨y7a, y7b, y7c, y7d, y7e⟩ := HS.out.c5 List.mem_cons_self
   obtain ⟨y8a, y8b, y8c, y8d, y8e⟩ := HS.out.c5 List.mem_cons_self
   obtain ⟨⟨d0, d1, d2, d3, d4⟩, ⟨g0, g1, g2, g3, g4⟩, hz⟩ := St.fin5 [(w4.heap.size, (nL 50 x3b 0 x3d (.slice (some ⟨gr5, 0, none⟩) m5 c5)))] HS.out (v0 := .int .i64 50) (v1 := .string (bsA x3b)) (v2 := .int .i64 0) (v3 := .int .i64 x3d) (v4 := .slice (some ⟨gr5, 0, none⟩) m5 c5) (c := c5) HL.out List.mem_cons_self (mkX_V' _ _ _ _ _ _ _ _ HN5.out)
   obtain ⟨⟨z0, z1, z2, z3, z4⟩, HP⟩ := hz _ rfl
   clear hz HS HL
   go_wp2
   refine bodyPost_ret (v := .agg #[.int .i64 50, .string (bsA x3b), .int .i64 0, .int .i64 x3d, .slice (some ⟨gr5, 0, none⟩) m5 c5]) (by simp [results, Tryz.results67, go_sem, z0, z1, z2, z3, z4]) rfl HP.out
end Go.Proofs.YtgdndahhledikaaGreatDoor
namespace Go.Proofs.YtgdndahhledikaaGreatDoor
open Go.ChangeShapes Go.WideShapes Go.ChangeAt Go.RowKit
set_option linter.unusedSimpArgs false
set_option maxRecDepth 20000
set_option maxHeartbeats 4000000
def chP (T : List Tt) (k : Int) : List (List UInt8 × FuncId × (Nat → Nat → Rz X)) → Nat → Nat → Rz X
 | [], i, _ => noR i 70
 | c :: cs, i, op => if isT (tkI T i) k [c.1] = true then c.2.2 i op else chP T k cs i op
def ChA (rb : Nat) (w : World) (g : Nat) (cs : List (List UInt8 × FuncId × (Nat → Nat → Rz X))) : Prop := ∀ (j : Nat) (c : List UInt8 × FuncId × (Nat → Nat → Rz X)), cs[j]? = some c → w.cell? ⟨g, j * 2, none⟩ = some (.string (bsA c.1)) ∧ w.cell? ⟨g, j * 2 + 1, none⟩ = some (fnV c.2.1 rb)
theorem ChA.below {rb : Nat} {w w' : World} {g : Nat} {cs : List (List UInt8 × FuncId × (Nat → Nat → Rz X))} (h : ChA rb w g cs) (hb : Below w.heap.size w w') : ChA rb w' g cs := fun j c hc => ⟨cell_below hb (h j c hc).1, cell_below hb (h j c hc).2⟩
theorem choose_s (rb : Nat) (ta : Option Addr) (cap : Nat) (T : List Tt) (k : Int) (cs : List (List UInt8 × FuncId × (Nat → Nat → Rz X))) (hcs : ∀ c ∈ cs, Ent c.2.1 ∧ RdX rb ta cap T c.2.1 c.2.2) (hn : cs.length ≤ 1000) (g c : Nat) (i op : Nat) (w : World) (r : Sum Er (X × Nat)) (hop : op ≤ 100) (hr : Rdr w rb ta cap T i op) (hC : ChA rb w g cs) (h : chP T k cs i op = some r) : Calls Tryz.prog 44 #[ptr rb, .int .i64 k, .slice (some ⟨g, 0, none⟩) cs.length c] w (SPost VX rb ta cap T op w r) := by
 have hb0 : Below w.heap.size w (w.alloc o5) := (Below.refl _ _).alloc (Nat.le_refl _) _
 have HS0 : Hid (St rb ta cap T w [(w.heap.size, z5)] [] i op (w.alloc o5)) := (St.start hr).newO z5
 have HC0 : Hid (ChA rb (w.alloc o5) g cs) := hC.below hb0
 have HL0 : Hid (chP T k (cs.drop 0) i op = some r) := h
 have HH : Hid (∀ c ∈ cs, Ent c.2.1 ∧ RdX rb ta cap T c.2.1 c.2.2) := hcs
 have hlt := cell_lt hr.c0
 have hst : ∀ (a : Addr) (f : Fn) (x y : Array Value) (w : World), (store a (.func f x y)).run Tryz.prog w = stored Tryz.prog w a (.func f x y) .plain := fun a f x y w => run_store Tryz.prog w a (.func f x y) .plain rfl
 unfold ptr
 clear hr h hC hcs hb0
 obtain ⟨n, hnn⟩ : ∃ n, n = cs.length := ⟨_, rfl⟩
 have HN : Hid (n = cs.length) := hnn
 rw [← hnn] at hn ⊢
 clear hnn
 go_enter Tryz.func44, Tryz.ntmps44
 go_wp2
 go_loopg [11] n (fun gk v wr => ∃ m : Nat, v = .int .i64 m ∧ gk + m = n ∧ St rb ta cap T w [(w.heap.size, z5)] [] i op wr ∧ ChA rb wr g cs ∧ chP T k (cs.drop m) i op = some r)
 case atStart => exact ⟨0, rfl, rfl, HS0.out, HC0.out, HL0.out⟩
 case round =>
  obtain ⟨m, rfl, hgm, hS, hC, hl⟩ := hrel
  have HS : Hid (St rb ta cap T w [(w.heap.size, z5)] [] i op wr) := hS
  have HC : Hid (ChA rb wr g cs) := hC
  have HL : Hid (chP T k (cs.drop m) i op = some r) := hl
  clear hS hC hl HS0 HC0 HL0
  rcases Nat.lt_or_ge m n with hm | hm
  ·
   have hmi : ((m : Int) < (n : Int)) = True := eq_true (by omega)
   obtain ⟨ch, hch⟩ : ∃ ch, cs[m]? = some ch := ⟨_, List.getElem?_eq_getElem (by have := HN.out; omega)⟩
   have hc2 := HC.out m ch hch
   have HM : Hid (ch ∈ cs) := List.mem_of_getElem? hch
   have hdr : cs.drop m = ch :: cs.drop (m + 1) := by
    obtain ⟨hlt2, e⟩ := List.getElem?_eq_some_iff.1 hch
    rw [List.drop_eq_getElem_cons hlt2, e]
   have hl := HL.out
   rw [hdr] at hl
   unfold chP at hl
   have HL : Hid _ := hl
   clear hl hdr hch
   obtain ⟨ct, cf, cg⟩ := ch
   obtain ⟨y0, y1⟩ := hc2
   unfold fnV at y1
   dsimp only at y0 y1
   have HS : Hid (St rb ta cap T w [(wr.heap.size, [.string (bsA ct), .func (.func cf) #[.pointer (some ⟨rb, 0, none⟩)] #[]]), (w.heap.size, z5)] [] i op (wr.alloc (.cells #[.string (bsA ct), .func (.func cf) #[.pointer (some ⟨rb, 0, none⟩)] #[]] 74))) := HS.out.newO _
   have HC : Hid (ChA rb (wr.alloc (.cells #[.string (bsA ct), .func (.func cf) #[.pointer (some ⟨rb, 0, none⟩)] #[]] 74)) g cs) := HC.out.below ((Below.refl _ _).alloc (Nat.le_refl _) _)
   have hc := see_any rb ta cap T i op k ct _ HS.out.rdr
   unfold ptr at hc
   cases hb : isT (tkI T i) k [ct] with
   | true =>
    have hl := HL.out
    clear HL
    rw [if_pos hb] at hl
    have HLt : Hid (cg i op = some r) := hl
    rw [hb] at hc
    clear hl hb
    go_wp2_with fail
    refine hc.mono ?_
    rintro e w2 ⟨rfl, hb2⟩
    clear hc y0 y1
    have HS : Hid (St rb ta cap T w [(wr.heap.size, [.string (bsA ct), .func (.func cf) #[.pointer (some ⟨rb, 0, none⟩)] #[]]), (w.heap.size, z5)] [] i op w2) := HS.out.below hb2
    have y0 := HS.out.get List.mem_cons_self 0 (v := .string (bsA ct)) rfl
    have y1 := HS.out.get List.mem_cons_self 1 (v := .func (.func cf) #[.pointer (some ⟨rb, 0, none⟩)] #[]) rfl
    obtain ⟨hent, hrd⟩ := HH.out _ HM.out
    unfold Ent at hent
    have hc := hrd i op w2 r hop HS.out.rdr HLt.out
    unfold ptr at hc
    clear hrd hb2 HC
    dsimp only at hent hc
    go_wp2_with fail
    refine hc.mono ?_
    intro e w3 hpost
    clear hc y0 y1
    cases r with
    | inl q =>
     obtain ⟨hG, HP⟩ := St.bad2 (V := VX) (op' := op) (r := .inl q) (f := fun x j => okR x j) HS.out rfl hpost
     unfold GUs at hG
     subst hG
     clear hpost
     go_wp2
     exact ⟨rfl, HP.out⟩
    | inr q =>
     obtain ⟨x, j⟩ := q
     obtain ⟨s, c2, rfl, HS⟩ := HS.out.okX hpost
     obtain ⟨⟨d0, d1, d2, d3, d4⟩, ⟨g0, g1, g2, g3, g4⟩, hz⟩ := St.fin5 [(wr.heap.size, [.string (bsA ct), .func (.func cf) #[.pointer (some ⟨rb, 0, none⟩)] #[]])] HS.out (v0 := .int .i64 (xk x)) (v1 := .string (bsA (xt x))) (v2 := .int .i64 (xn x)) (v3 := .int .i64 (xa x)) (v4 := .slice s (xl x) c2) (c := c2) (r := .inr (x, j)) rfl List.mem_cons_self rfl
     obtain ⟨⟨z0, z1, z2, z3, z4⟩, HP⟩ := hz _ rfl
     unfold xV nV
     clear hz HS HLt hpost
     go_wp2
     refine bodyPost_ret (v := .agg #[.int .i64 (xk x), .string (bsA (xt x)), .int .i64 (xn x), .int .i64 (xa x), .slice s (xl x) c2]) (by simp [results, Tryz.results44, go_sem, z0, z1, z2, z3, z4]) rfl HP.out
   | false =>
    have hl := HL.out
    clear HL
    rw [if_neg (by rw [hb]; decide)] at hl
    have HLf : Hid (chP T k (cs.drop (m + 1)) i op = some r) := hl
    rw [hb] at hc
    clear hl hb
    go_wp2_with fail
    refine hc.mono ?_
    rintro e w2 ⟨rfl, hb2⟩
    clear hc y0 y1
    have HS : Hid (St rb ta cap T w [(w.heap.size, z5)] [] i op w2) := St.drop [] (HS.out.below hb2)
    have HC : Hid (ChA rb w2 g cs) := HC.out.below hb2
    clear hb2
    go_wp2
    go_roundg (n - (m + 1))
    case measure => omega
    case rel => exact ⟨m + 1, by go_num, by omega, HS.out, HC.out, HLf.out⟩
  ·
   have hmi : ((m : Int) < (n : Int)) = False := eq_false (by omega)
   have hdr : cs.drop m = [] := List.drop_eq_nil_of_le (by have := HN.out; omega)
   have hl := HL.out
   rw [hdr] at hl
   have HRR : Hid (r = .inl (i, 70)) := noR_eq hl
   have HP : Hid (SPost VX rb ta cap T op w (.inl (i, 70)) (.panicked [{ v := fsV i 70, recovered := false }]) wr) := HS.out.err (Fx.refl _) rfl
   have c1 := HS.out.rdr.c1
   unfold fsV at HP
   clear hl hdr HL HC
   go_wp2
   exact ⟨rfl, by rw [HRR.out]; exact HP.out⟩
end Go.Proofs.YtgdndahhledikaaGreatDoor
