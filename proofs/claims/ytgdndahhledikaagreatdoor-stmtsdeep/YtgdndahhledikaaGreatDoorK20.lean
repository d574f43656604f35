/- Sxb. -/
import Derived.Test.YtgdndahhledikaaGreatDoorK18
namespace Go.Proofs.YtgdndahhledikaaGreatDoor
open Go.ChangeShapes Go.WideShapes Go.ChangeAt Go.RowKit
set_option linter.unusedSimpArgs false
set_option maxRecDepth 20000
set_option maxHeartbeats 4000000
theorem name_s (rb : Nat) (ta : Option Addr) (cap : Nat) (T : List Tt)  : Rds VX rb ta cap T 108 #[ptr rb] (fun i _ => nameP T i) := by
 intro i op w r hop hr h
 (try dsimp only at h)
 have HS : Hid (St rb ta cap T w [] [] i op w) := St.start hr
 unfold nameP at h
 have HL : Hid _ := h
 have hlt := cell_lt hr.c0
 clear hr h 
 unfold ptr
 go_enter Tryz.func108, Tryz.ntmps108
 have HS : Hid (St rb ta cap T w [(w.heap.size, z5)] [] i op (w.alloc o5)) := HS.out.newO z5
 obtain ⟨r1, e1, hl⟩ := bnd_some HL.out
 have HL : Hid _ := hl
 have hc := id_s rb ta cap T i op _ r1 hop HS.out.rdr e1
 (try unfold ptr at hc)
 clear e1 hl
 go_wp2_with fail
 refine hc.mono ?_
 intro e w1 hpost
 clear hc
 cases r1 with
 | inl q =>
  obtain ⟨hG, HP⟩ := HS.out.bad2 (V := VX) (op' := op) HL.out hpost
  unfold GUs at hG
  subst hG
  clear hpost
  go_wp2
  exact ⟨rfl, HP.out⟩
 | inr q =>
  obtain ⟨x1, j1⟩ := q
  obtain ⟨rfl, HS⟩ := HS.out.okT hpost
  obtain ⟨⟨x1a, x1b, x1c⟩, x1d⟩ := x1
  unfold ttV
  dsimp only
  have hl := HL.out
  rw [bnd_ok] at hl
  (try dsimp only at hl)
  have HL : Hid _ := hl
  clear hl hpost
  have hc := textNode_s 15 ((x1a, x1b, x1c), x1d) none 0 0 w1
  (try unfold ttV at hc)
  (try unfold nV at hc)
  (try dsimp only at hc)
  go_wp2_with fail
  refine hc.mono ?_
  rintro e w2 ⟨rfl, hb⟩
  have HS : Hid (St rb ta cap T w [(w.heap.size, z5)] [] j1 op w2) := HS.out.below hb
  clear hc hb
  have HS : Hid (St rb ta cap T w [(w.heap.size, z5)] [((mkX 15 x1b 0 x1d []), none)] j1 op w2) := HS.out.leaf 15 x1b 0 x1d none
  obtain ⟨⟨d0, d1, d2, d3, d4⟩, ⟨g0, g1, g2, g3, g4⟩, hz⟩ := St.fin5 [] HS.out (v0 := .int .i64 15) (v1 := .string (bsA x1b)) (v2 := .int .i64 0) (v3 := .int .i64 x1d) (v4 := .slice none 0 0) (c := 0) HL.out List.mem_cons_self (mkX_V' _ _ _ _ _ _ _ _ rfl)
  obtain ⟨⟨z0, z1, z2, z3, z4⟩, HP⟩ := hz _ rfl
  clear hz HS HL
  go_wp2
  refine bodyPost_ret (v := .agg #[.int .i64 15, .string (bsA x1b), .int .i64 0, .int .i64 x1d, .slice none 0 0]) (by simp [results, Tryz.results108, go_sem, z0, z1, z2, z3, z4]) rfl HP.out
theorem as_s (rb : Nat) (ta : Option Addr) (cap : Nat) (T : List Tt)  : Rds VX rb ta cap T 124 #[ptr rb] (fun i _ => asP T i) := by
 intro i op w r hop hr h
 (try dsimp only at h)
 have HS : Hid (St rb ta cap T w [] [] i op w) := St.start hr
 unfold asP at h
 have HL : Hid _ := h
 have hlt := cell_lt hr.c0
 clear hr h 
 unfold ptr
 go_enter Tryz.func124, Tryz.ntmps124
 have HS : Hid (St rb ta cap T w [(w.heap.size, z5)] [] i op (w.alloc o5)) := HS.out.newO z5
 obtain ⟨r1, e1, hl⟩ := bnd_some HL.out
 have HL : Hid _ := hl
 have hc := passesWord_s rb ta cap T [97, 115] i op _ r1 hop HS.out.rdr e1
 (try unfold ptr at hc)
 clear e1 hl
 go_wp2_with fail
 refine hc.mono ?_
 intro e w1 hpost
 clear hc
 cases r1 with
 | inl q =>
  obtain ⟨hG, HP⟩ := HS.out.bad2 (V := VX) (op' := op) HL.out hpost
  unfold GUs at hG
  subst hG
  clear hpost
  go_wp2
  exact ⟨rfl, HP.out⟩
 | inr q =>
  obtain ⟨x1, j1⟩ := q
  obtain ⟨rfl, HS⟩ := HS.out.okB hpost
  have hl := HL.out
  rw [bnd_ok] at hl
  (try dsimp only at hl)
  have HL : Hid _ := hl
  clear hl hpost
  cases x1 with
  | true =>
   have hl := HL.out
   simp only [if_true, if_false, Bool.false_eq_true] at hl
   have HL : Hid _ := hl
   clear hl
   obtain ⟨r1, e1, hl⟩ := bnd_some HL.out
   have HL : Hid _ := hl
   have hc := name_s rb ta cap T j1 op _ r1 hop HS.out.rdr e1
   (try unfold ptr at hc)
   clear e1 hl
   go_wp2_with fail
   refine hc.mono ?_
   intro e w2 hpost
   clear hc
   cases r1 with
   | inl q =>
    obtain ⟨hG, HP⟩ := HS.out.bad2 (V := VX) (op' := op) HL.out hpost
    unfold GUs at hG
    subst hG
    clear hpost
    go_wp2
    exact ⟨rfl, HP.out⟩
   | inr q =>
    obtain ⟨x2, j2⟩ := q
    obtain ⟨s2, c2, rfl, HS⟩ := HS.out.okX hpost
    unfold xV nV
    have hl := HL.out
    rw [bnd_ok] at hl
    (try dsimp only at hl)
    have HL : Hid _ := hl
    clear hl hpost
    obtain ⟨⟨d0, d1, d2, d3, d4⟩, ⟨g0, g1, g2, g3, g4⟩, hz⟩ := St.fin5 [] HS.out (v0 := .int .i64 (xk x2)) (v1 := .string (bsA (xt x2))) (v2 := .int .i64 (xn x2)) (v3 := .int .i64 (xa x2)) (v4 := .slice s2 (xl x2) c2) (c := c2) HL.out List.mem_cons_self (rfl)
    obtain ⟨⟨z0, z1, z2, z3, z4⟩, HP⟩ := hz _ rfl
    clear hz HS HL
    go_wp2
    refine bodyPost_ret (v := .agg #[.int .i64 (xk x2), .string (bsA (xt x2)), .int .i64 (xn x2), .int .i64 (xa x2), .slice s2 (xl x2) c2]) (by simp [results, Tryz.results124, go_sem, z0, z1, z2, z3, z4]) rfl HP.out
  | false =>
   have hl := HL.out
   simp only [if_true, if_false, Bool.false_eq_true] at hl
   have HL : Hid _ := hl
   clear hl
   have hc := none_s w1
   (try unfold ttV at hc)
   (try unfold nV at hc)
   (try dsimp only at hc)
   go_wp2_with fail
   refine hc.mono ?_
   rintro e w2 ⟨rfl, hb⟩
   have HS : Hid (St rb ta cap T w [(w.heap.size, z5)] [] j1 op w2) := HS.out.below hb
   clear hc hb
   have HS : Hid (St rb ta cap T w [(w.heap.size, z5)] [((mkX 20 [] 0 0 []), none)] j1 op w2) := HS.out.leaf 20 [] 0 0 none
   obtain ⟨⟨d0, d1, d2, d3, d4⟩, ⟨g0, g1, g2, g3, g4⟩, hz⟩ := St.fin5 [] HS.out (v0 := .int .i64 20) (v1 := .string (bsA [])) (v2 := .int .i64 0) (v3 := .int .i64 0) (v4 := .slice none 0 0) (c := 0) HL.out List.mem_cons_self (mkX_V' _ _ _ _ _ _ _ _ rfl)
   obtain ⟨⟨z0, z1, z2, z3, z4⟩, HP⟩ := hz _ rfl
   clear hz HS HL
   go_wp2
   refine bodyPost_ret (v := .agg #[.int .i64 20, .string (bsA []), .int .i64 0, .int .i64 0, .slice none 0 0]) (by simp [results, Tryz.results124, go_sem, z0, z1, z2, z3, z4]) rfl HP.out
theorem filter_s (rb : Nat) (ta : Option Addr) (cap : Nat) (T : List Tt) (E : Nat → Rz X) (hE : RdX rb ta cap T 80 (fun i _ => E i)) : Rds VX rb ta cap T 123 #[ptr rb] (fun i _ => filtP T E i) := by
 intro i op w r hop hr h
 (try dsimp only at h)
 have HS : Hid (St rb ta cap T w [] [] i op w) := St.start hr
 unfold filtP at h
 have HL : Hid _ := h
 have hlt := cell_lt hr.c0
 clear hr h 
 unfold ptr
 go_enter Tryz.func123, Tryz.ntmps123
 have HS : Hid (St rb ta cap T w [(w.heap.size, z5)] [] i op (w.alloc o5)) := HS.out.newO z5
 obtain ⟨r1, e1, hl⟩ := bnd_some HL.out
 have HL : Hid _ := hl
 have hc := passesSign_s rb ta cap T [40] i op _ r1 hop HS.out.rdr e1
 (try unfold ptr at hc)
 clear e1 hl
 go_wp2_with fail
 refine hc.mono ?_
 intro e w1 hpost
 clear hc
 cases r1 with
 | inl q =>
  obtain ⟨hG, HP⟩ := HS.out.bad2 (V := VX) (op' := op) HL.out hpost
  unfold GUs at hG
  subst hG
  clear hpost
  go_wp2
  exact ⟨rfl, HP.out⟩
 | inr q =>
  obtain ⟨x1, j1⟩ := q
  obtain ⟨rfl, HS⟩ := HS.out.okB hpost
  have hl := HL.out
  rw [bnd_ok] at hl
  (try dsimp only at hl)
  have HL : Hid _ := hl
  clear hl hpost
  cases x1 with
  | true =>
   have hl := HL.out
   simp only [if_true, if_false, Bool.false_eq_true] at hl
   have HL : Hid _ := hl
   clear hl
   obtain ⟨r1, e1, hl⟩ := bnd_some HL.out
   have HL : Hid _ := hl
   have hc := hE j1 op _ r1 hop HS.out.rdr e1
   (try unfold ptr at hc)
   clear e1 hl
   go_wp2_with fail
   refine hc.mono ?_
   intro e w2 hpost
   clear hc
   cases r1 with
   | inl q =>
    obtain ⟨hG, HP⟩ := HS.out.bad2 (V := VX) (op' := op) HL.out hpost
    unfold GUs at hG
    subst hG
    clear hpost
    go_wp2
    exact ⟨rfl, HP.out⟩
   | inr q =>
    obtain ⟨x2, j2⟩ := q
    obtain ⟨s2, c2, rfl, HS⟩ := HS.out.okX hpost
    unfold xV nV
    have hl := HL.out
    rw [bnd_ok] at hl
    (try dsimp only at hl)
    have HL : Hid _ := hl
    clear hl hpost
    have HS : Hid (St rb ta cap T w [(w2.heap.size, (xL x2 s2 c2)), (w.heap.size, z5)] [(x2, s2)] j2 op (w2.alloc (xO x2 s2 c2))) := HS.out.newO (xL x2 s2 c2)
    obtain ⟨r1, e1, hl⟩ := bnd_some HL.out
    have HL : Hid _ := hl
    have hc := needSign_s rb ta cap T [41] j2 op _ r1 hop HS.out.rdr e1
    (try unfold ptr at hc)
    clear e1 hl
    go_wp2_with fail
    refine hc.mono ?_
    intro e w3 hpost
    clear hc
    cases r1 with
    | inl q =>
     obtain ⟨hG, HP⟩ := HS.out.bad2 (V := VX) (op' := op) HL.out hpost
     unfold GUs at hG
     subst hG
     clear hpost
     go_wp2
     exact ⟨rfl, HP.out⟩
    | inr q =>
     obtain ⟨x3, j3⟩ := q
     obtain ⟨rfl, HS⟩ := HS.out.okT hpost
     obtain ⟨⟨x3a, x3b, x3c⟩, x3d⟩ := x3
     unfold ttV
     dsimp only
     have hl := HL.out
     rw [bnd_ok] at hl
     (try dsimp only at hl)
     have HL : Hid _ := hl
     clear hl hpost
     obtain ⟨y4a, y4b, y4c, y4d, y4e⟩ := HS.out.c5 List.mem_cons_self
     obtain ⟨⟨d0, d1, d2, d3, d4⟩, ⟨g0, g1, g2, g3, g4⟩, hz⟩ := St.fin5 [(w2.heap.size, (xL x2 s2 c2))] HS.out (v0 := .int .i64 (xk x2)) (v1 := .string (bsA (xt x2))) (v2 := .int .i64 (xn x2)) (v3 := .int .i64 (xa x2)) (v4 := .slice s2 (xl x2) c2) (c := c2) HL.out List.mem_cons_self (rfl)
     obtain ⟨⟨z0, z1, z2, z3, z4⟩, HP⟩ := hz _ rfl
     clear hz HS HL
     go_wp2
     refine bodyPost_ret (v := .agg #[.int .i64 (xk x2), .string (bsA (xt x2)), .int .i64 (xn x2), .int .i64 (xa x2), .slice s2 (xl x2) c2]) (by simp [results, Tryz.results123, go_sem, z0, z1, z2, z3, z4]) rfl HP.out
  | false =>
   have hl := HL.out
   simp only [if_true, if_false, Bool.false_eq_true] at hl
   have HL : Hid _ := hl
   clear hl
   have hc := none_s w1
   (try unfold ttV at hc)
   (try unfold nV at hc)
   (try dsimp only at hc)
   go_wp2_with fail
   refine hc.mono ?_
   rintro e w2 ⟨rfl, hb⟩
   have HS : Hid (St rb ta cap T w [(w.heap.size, z5)] [] j1 op w2) := HS.out.below hb
   clear hc hb
   have HS : Hid (St rb ta cap T w [(w.heap.size, z5)] [((mkX 20 [] 0 0 []), none)] j1 op w2) := HS.out.leaf 20 [] 0 0 none
   obtain ⟨⟨d0, d1, d2, d3, d4⟩, ⟨g0, g1, g2, g3, g4⟩, hz⟩ := St.fin5 [] HS.out (v0 := .int .i64 20) (v1 := .string (bsA [])) (v2 := .int .i64 0) (v3 := .int .i64 0) (v4 := .slice none 0 0) (c := 0) HL.out List.mem_cons_self (mkX_V' _ _ _ _ _ _ _ _ rfl)
   obtain ⟨⟨z0, z1, z2, z3, z4⟩, HP⟩ := hz _ rfl
   clear hz HS HL
   go_wp2
   refine bodyPost_ret (v := .agg #[.int .i64 20, .string (bsA []), .int .i64 0, .int .i64 0, .slice none 0 0]) (by simp [results, Tryz.results123, go_sem, z0, z1, z2, z3, z4]) rfl HP.out
theorem clause_s (rb : Nat) (ta : Option Addr) (cap : Nat) (T : List Tt) (E : Nat → Rz X) (hE : RdX rb ta cap T 80 (fun i _ => E i)) (t : List UInt8) : Rds VX rb ta cap T 78 #[ptr rb, .string (bsA t)] (fun i _ => clauP T E t i) := by
 intro i op w r hop hr h
 (try dsimp only at h)
 have HS : Hid (St rb ta cap T w [] [] i op w) := St.start hr
 unfold clauP at h
 have HL : Hid _ := h
 have hlt := cell_lt hr.c0
 clear hr h 
 unfold ptr
 go_enter Tryz.func78, Tryz.ntmps78
 have HS : Hid (St rb ta cap T w [(w.heap.size, z5)] [] i op (w.alloc o5)) := HS.out.newO z5
 obtain ⟨r1, e1, hl⟩ := bnd_some HL.out
 have HL : Hid _ := hl
 have hc := passesWord_s rb ta cap T t i op _ r1 hop HS.out.rdr e1
 (try unfold ptr at hc)
 clear e1 hl
 go_wp2_with fail
 refine hc.mono ?_
 intro e w1 hpost
 clear hc
 cases r1 with
 | inl q =>
  obtain ⟨hG, HP⟩ := HS.out.bad2 (V := VX) (op' := op) HL.out hpost
  unfold GUs at hG
  subst hG
  clear hpost
  go_wp2
  exact ⟨rfl, HP.out⟩
 | inr q =>
  obtain ⟨x1, j1⟩ := q
  obtain ⟨rfl, HS⟩ := HS.out.okB hpost
  have hl := HL.out
  rw [bnd_ok] at hl
  (try dsimp only at hl)
  have HL : Hid _ := hl
  clear hl hpost
  cases x1 with
  | true =>
   have hl := HL.out
   simp only [if_true, if_false, Bool.false_eq_true] at hl
   have HL : Hid _ := hl
   clear hl
   obtain ⟨r1, e1, hl⟩ := bnd_some HL.out
   have HL : Hid _ := hl
   have hc := hE j1 op _ r1 hop HS.out.rdr e1
   (try unfold ptr at hc)
   clear e1 hl
   go_wp2_with fail
   refine hc.mono ?_
   intro e w2 hpost
   clear hc
   cases r1 with
   | inl q =>
    obtain ⟨hG, HP⟩ := HS.out.bad2 (V := VX) (op' := op) HL.out hpost
    unfold GUs at hG
    subst hG
    clear hpost
    go_wp2
    exact ⟨rfl, HP.out⟩
   | inr q =>
    obtain ⟨x2, j2⟩ := q
    obtain ⟨s2, c2, rfl, HS⟩ := HS.out.okX hpost
    unfold xV nV
    have hl := HL.out
    rw [bnd_ok] at hl
    (try dsimp only at hl)
    have HL : Hid _ := hl
    clear hl hpost
    obtain ⟨⟨d0, d1, d2, d3, d4⟩, ⟨g0, g1, g2, g3, g4⟩, hz⟩ := St.fin5 [] HS.out (v0 := .int .i64 (xk x2)) (v1 := .string (bsA (xt x2))) (v2 := .int .i64 (xn x2)) (v3 := .int .i64 (xa x2)) (v4 := .slice s2 (xl x2) c2) (c := c2) HL.out List.mem_cons_self (rfl)
    obtain ⟨⟨z0, z1, z2, z3, z4⟩, HP⟩ := hz _ rfl
    clear hz HS HL
    go_wp2
    refine bodyPost_ret (v := .agg #[.int .i64 (xk x2), .string (bsA (xt x2)), .int .i64 (xn x2), .int .i64 (xa x2), .slice s2 (xl x2) c2]) (by simp [results, Tryz.results78, go_sem, z0, z1, z2, z3, z4]) rfl HP.out
  | false =>
   have hl := HL.out
   simp only [if_true, if_false, Bool.false_eq_true] at hl
   have HL : Hid _ := hl
   clear hl
   have hc := none_s w1
   (try unfold ttV at hc)
   (try unfold nV at hc)
   (try dsimp only at hc)
   go_wp2_with fail
   refine hc.mono ?_
   rintro e w2 ⟨rfl, hb⟩
   have HS : Hid (St rb ta cap T w [(w.heap.size, z5)] [] j1 op w2) := HS.out.below hb
   clear hc hb
   have HS : Hid (St rb ta cap T w [(w.heap.size, z5)] [((mkX 20 [] 0 0 []), none)] j1 op w2) := HS.out.leaf 20 [] 0 0 none
   obtain ⟨⟨d0, d1, d2, d3, d4⟩, ⟨g0, g1, g2, g3, g4⟩, hz⟩ := St.fin5 [] HS.out (v0 := .int .i64 20) (v1 := .string (bsA [])) (v2 := .int .i64 0) (v3 := .int .i64 0) (v4 := .slice none 0 0) (c := 0) HL.out List.mem_cons_self (mkX_V' _ _ _ _ _ _ _ _ rfl)
   obtain ⟨⟨z0, z1, z2, z3, z4⟩, HP⟩ := hz _ rfl
   clear hz HS HL
   go_wp2
   refine bodyPost_ret (v := .agg #[.int .i64 20, .string (bsA []), .int .i64 0, .int .i64 0, .slice none 0 0]) (by simp [results, Tryz.results78, go_sem, z0, z1, z2, z3, z4]) rfl HP.out
theorem item_s (rb : Nat) (ta : Option Addr) (cap : Nat) (T : List Tt) (E : Nat → Rz X) (hE : RdX rb ta cap T 80 (fun i _ => E i)) : Rds VX rb ta cap T 115 #[ptr rb] (fun i _ => itemP T E i) := by
 intro i op w r hop hr h
 (try dsimp only at h)
 have HS : Hid (St rb ta cap T w [] [] i op w) := St.start hr
 unfold itemP at h
 have HL : Hid _ := h
 have hlt := cell_lt hr.c0
 clear hr h 
 unfold ptr
 go_enter Tryz.func115, Tryz.ntmps115
 obtain ⟨⟨⟨q1a, q1b, q1c⟩, q1d⟩, hq⟩ : ∃ q, tkI T i = q := ⟨_, rfl⟩
 have HQ1 : Hid (tkI T i = ((q1a, q1b, q1c), q1d)) := hq
 have hl := HL.out
 (try rw [hq] at hl)
 (try dsimp only at hl)
 have HL : Hid _ := hl
 clear hl hq
 have HS : Hid (St rb ta cap T w [(w.heap.size, z5)] [] i op (w.alloc o5)) := HS.out.newO z5
 have hc := next_any rb ta cap T i op _ HS.out.rdr
 rw [HQ1.out] at hc
 (try unfold ptr at hc)
 (try unfold ttV at hc)
 (try dsimp only at hc)
 go_wp2_with fail
 refine hc.mono ?_
 rintro e w2 ⟨rfl, hb⟩
 have HS : Hid (St rb ta cap T w [(w.heap.size, z5)] [] i op w2) := HS.out.below hb
 clear hc hb
 obtain ⟨r1, e1, hl⟩ := bnd_some HL.out
 have HL : Hid _ := hl
 have hc := hE i op _ r1 hop HS.out.rdr e1
 (try unfold ptr at hc)
 clear e1 hl
 go_wp2_with fail
 refine hc.mono ?_
 intro e w3 hpost
 clear hc
 cases r1 with
 | inl q =>
  obtain ⟨hG, HP⟩ := HS.out.bad2 (V := VX) (op' := op) HL.out hpost
  unfold GUs at hG
  subst hG
  clear hpost
  go_wp2
  exact ⟨rfl, HP.out⟩
 | inr q =>
  obtain ⟨x3, j3⟩ := q
  obtain ⟨s3, c3, rfl, HS⟩ := HS.out.okX hpost
  unfold xV nV
  have hl := HL.out
  rw [bnd_ok] at hl
  (try dsimp only at hl)
  have HL : Hid _ := hl
  clear hl hpost
  have HS : Hid (St rb ta cap T w [(w3.heap.size, (xL x3 s3 c3)), (w.heap.size, z5)] [(x3, s3)] j3 op (w3.alloc (xO x3 s3 c3))) := HS.out.newO (xL x3 s3 c3)
  have hc := node_s 21 ((q1a, q1b, q1c), q1d) (some ⟨w3.heap.size, 0, none⟩) 1 1 (w3.alloc (xO x3 s3 c3))
  (try unfold ttV at hc)
  (try unfold nV at hc)
  (try dsimp only at hc)
  go_wp2_with fail
  refine hc.mono ?_
  rintro e w4 ⟨rfl, hb⟩
  have HS : Hid (St rb ta cap T w [(w3.heap.size, (xL x3 s3 c3)), (w.heap.size, z5)] [(x3, s3)] j3 op w4) := HS.out.below hb
  clear hc hb
  have HS : Hid (St rb ta cap T w [(w.heap.size, z5)] [((mkX 21 [] 0 q1d [x3]), (some ⟨w3.heap.size, 0, none⟩)), (x3, s3)] j3 op w4) := HS.out.row [] [(x3, s3, c3)] 21 [] 0 q1d (by intro p hp; simp only [List.mem_cons, List.not_mem_nil, or_false] at hp; rcases hp with rfl <;> simp)
  have HS : Hid (St rb ta cap T w [(w4.heap.size, (nL 21 [] 0 q1d (.slice (some ⟨w3.heap.size, 0, none⟩) 1 1))), (w.heap.size, z5)] [((mkX 21 [] 0 q1d [x3]), (some ⟨w3.heap.size, 0, none⟩)), (x3, s3)] j3 op (w4.alloc (nO 21 [] 0 q1d (.slice (some ⟨w3.heap.size, 0, none⟩) 1 1)))) := HS.out.newO (nL 21 [] 0 q1d (.slice (some ⟨w3.heap.size, 0, none⟩) 1 1))
  obtain ⟨r1, e1, hl⟩ := bnd_some HL.out
  have HL : Hid _ := hl
  have hc := passesWord_s rb ta cap T [97, 115] j3 op _ r1 hop HS.out.rdr e1
  (try unfold ptr at hc)
  clear e1 hl
  go_wp2_with fail
  refine hc.mono ?_
  intro e w5 hpost
  clear hc
  cases r1 with
  | inl q =>
   obtain ⟨hG, HP⟩ := HS.out.bad2 (V := VX) (op' := op) HL.out hpost
   unfold GUs at hG
   subst hG
   clear hpost
   go_wp2
   exact ⟨rfl, HP.out⟩
  | inr q =>
   obtain ⟨x5, j5⟩ := q
   obtain ⟨rfl, HS⟩ := HS.out.okB hpost
   have hl := HL.out
   rw [bnd_ok] at hl
   (try dsimp only at hl)
   have HL : Hid _ := hl
   clear hl hpost
   cases x5 with
   | true =>
    have hl := HL.out
    simp only [if_true, if_false, Bool.false_eq_true] at hl
    have HL : Hid _ := hl
    clear hl
    obtain ⟨r1, e1, hl⟩ := bnd_some HL.out
    have HL : Hid _ := hl
    have hc := id_s rb ta cap T j5 op _ r1 hop HS.out.rdr e1
    (try unfold ptr at hc)
    clear e1 hl
    go_wp2_with fail
    refine hc.mono ?_
    intro e w6 hpost
    clear hc
    cases r1 with
    | inl q =>
     obtain ⟨hG, HP⟩ := HS.out.bad2 (V := VX) (op' := op) HL.out hpost
     unfold GUs at hG
     subst hG
     clear hpost
     go_wp2
     exact ⟨rfl, HP.out⟩
    | inr q =>
     obtain ⟨x6, j6⟩ := q
     obtain ⟨rfl, HS⟩ := HS.out.okT hpost
     obtain ⟨⟨x6a, x6b, x6c⟩, x6d⟩ := x6
     unfold ttV
     dsimp only
     have hl := HL.out
     rw [bnd_ok] at hl
     (try dsimp only at hl)
     have HL : Hid _ := hl
     clear hl hpost
     have hfd := field26_1 x6a x6b x6c x6d
     obtain ⟨y7a, y7b, y7c, y7d, y7e⟩ := HS.out.c5 List.mem_cons_self
     obtain ⟨f7a, f7b, f7c, f7d, f7e⟩ := HS.out.f5 List.mem_cons_self
     have HS : Hid (St rb ta cap T w [(w4.heap.size, (nL 21 x6b 0 q1d (.slice (some ⟨w3.heap.size, 0, none⟩) 1 1))), (w.heap.size, z5)] [((mkX 21 [] 0 q1d [x3]), (some ⟨w3.heap.size, 0, none⟩)), (x3, s3)] j6 op (w6.setCell ⟨w4.heap.size, 1, none⟩ (.string (bsA x6b)))) := St.put [] HS.out 1 (.string (bsA x6b))
     obtain ⟨y8a, y8b, y8c, y8d, y8e⟩ := HS.out.c5 List.mem_cons_self
     have HS : Hid (St rb ta cap T w [(w4.heap.size, (nL 21 x6b 0 q1d (.slice (some ⟨w3.heap.size, 0, none⟩) 1 1))), (w.heap.size, z5)] [((mkX 21 x6b 0 q1d [x3]), (some ⟨w3.heap.size, 0, none⟩)), ((mkX 21 [] 0 q1d [x3]), (some ⟨w3.heap.size, 0, none⟩)), (x3, s3)] j6 op (w6.setCell ⟨w4.heap.size, 1, none⟩ (.string (bsA x6b)))) := HS.out.head List.mem_cons_self 21 x6b 0 q1d
     obtain ⟨y9a, y9b, y9c, y9d, y9e⟩ := HS.out.c5 List.mem_cons_self
     obtain ⟨⟨d0, d1, d2, d3, d4⟩, ⟨g0, g1, g2, g3, g4⟩, hz⟩ := St.fin5 [(w4.heap.size, (nL 21 x6b 0 q1d (.slice (some ⟨w3.heap.size, 0, none⟩) 1 1)))] HS.out (v0 := .int .i64 21) (v1 := .string (bsA x6b)) (v2 := .int .i64 0) (v3 := .int .i64 q1d) (v4 := .slice (some ⟨w3.heap.size, 0, none⟩) 1 1) (c := 1) HL.out List.mem_cons_self (mkX_V' _ _ _ _ _ _ _ _ rfl)
     obtain ⟨⟨z0, z1, z2, z3, z4⟩, HP⟩ := hz _ rfl
     clear hz HS HL
     go_wp2
     refine bodyPost_ret (v := .agg #[.int .i64 21, .string (bsA x6b), .int .i64 0, .int .i64 q1d, .slice (some ⟨w3.heap.size, 0, none⟩) 1 1]) (by simp [results, Tryz.results115, go_sem, z0, z1, z2, z3, z4]) rfl HP.out
   | false =>
    have hl := HL.out
    simp only [if_true, if_false, Bool.false_eq_true] at hl
    have HL : Hid _ := hl
    clear hl
    obtain ⟨y6a, y6b, y6c, y6d, y6e⟩ := HS.out.c5 List.mem_cons_self
    obtain ⟨⟨d0, d1, d2, d3, d4⟩, ⟨g0, g1, g2, g3, g4⟩, hz⟩ := St.fin5 [(w4.heap.size, (nL 21 [] 0 q1d (.slice (some ⟨w3.heap.size, 0, none⟩) 1 1)))] HS.out (v0 := .int .i64 21) (v1 := .string (bsA [])) (v2 := .int .i64 0) (v3 := .int .i64 q1d) (v4 := .slice (some ⟨w3.heap.size, 0, none⟩) 1 1) (c := 1) HL.out List.mem_cons_self (mkX_V' _ _ _ _ _ _ _ _ rfl)
    obtain ⟨⟨z0, z1, z2, z3, z4⟩, HP⟩ := hz _ rfl
    clear hz HS HL
    go_wp2
    refine bodyPost_ret (v := .agg #[.int .i64 21, .string (bsA []), .int .i64 0, .int .i64 q1d, .slice (some ⟨w3.heap.size, 0, none⟩) 1 1]) (by simp [results, Tryz.results115, go_sem, z0, z1, z2, z3, z4]) rfl HP.out
theorem order_s (rb : Nat) (ta : Option Addr) (cap : Nat) (T : List Tt) (E : Nat → Rz X) (hE : RdX rb ta cap T 80 (fun i _ => E i)) : Rds VX rb ta cap T 82 #[ptr rb] (fun i _ => ordP T E i) := by
 intro i op w r hop hr h
 (try dsimp only at h)
 have HS : Hid (St rb ta cap T w [] [] i op w) := St.start hr
 unfold ordP at h
 have HL : Hid _ := h
 have hlt := cell_lt hr.c0
 clear hr h 
 unfold ptr
 go_enter Tryz.func82, Tryz.ntmps82
 obtain ⟨⟨⟨q1a, q1b, q1c⟩, q1d⟩, hq⟩ : ∃ q, tkI T i = q := ⟨_, rfl⟩
 have HQ1 : Hid (tkI T i = ((q1a, q1b, q1c), q1d)) := hq
 have hl := HL.out
 (try rw [hq] at hl)
 (try dsimp only at hl)
 have HL : Hid _ := hl
 clear hl hq
 have HS : Hid (St rb ta cap T w [(w.heap.size, z5)] [] i op (w.alloc o5)) := HS.out.newO z5
 have hc := next_any rb ta cap T i op _ HS.out.rdr
 rw [HQ1.out] at hc
 (try unfold ptr at hc)
 (try unfold ttV at hc)
 (try dsimp only at hc)
 go_wp2_with fail
 refine hc.mono ?_
 rintro e w2 ⟨rfl, hb⟩
 have HS : Hid (St rb ta cap T w [(w.heap.size, z5)] [] i op w2) := HS.out.below hb
 clear hc hb
 obtain ⟨r1, e1, hl⟩ := bnd_some HL.out
 have HL : Hid _ := hl
 have hc := hE i op _ r1 hop HS.out.rdr e1
 (try unfold ptr at hc)
 clear e1 hl
 go_wp2_with fail
 refine hc.mono ?_
 intro e w3 hpost
 clear hc
 cases r1 with
 | inl q =>
  obtain ⟨hG, HP⟩ := HS.out.bad2 (V := VX) (op' := op) HL.out hpost
  unfold GUs at hG
  subst hG
  clear hpost
  go_wp2
  exact ⟨rfl, HP.out⟩
 | inr q =>
  obtain ⟨x3, j3⟩ := q
  obtain ⟨s3, c3, rfl, HS⟩ := HS.out.okX hpost
  unfold xV nV
  have hl := HL.out
  rw [bnd_ok] at hl
  (try dsimp only at hl)
  have HL : Hid _ := hl
  clear hl hpost
  have HS : Hid (St rb ta cap T w [(w3.heap.size, (xL x3 s3 c3)), (w.heap.size, z5)] [(x3, s3)] j3 op (w3.alloc (xO x3 s3 c3))) := HS.out.newO (xL x3 s3 c3)
  have hc := node_s 25 ((q1a, q1b, q1c), q1d) (some ⟨w3.heap.size, 0, none⟩) 1 1 (w3.alloc (xO x3 s3 c3))
  (try unfold ttV at hc)
  (try unfold nV at hc)
  (try dsimp only at hc)
  go_wp2_with fail
  refine hc.mono ?_
  rintro e w4 ⟨rfl, hb⟩
  have HS : Hid (St rb ta cap T w [(w3.heap.size, (xL x3 s3 c3)), (w.heap.size, z5)] [(x3, s3)] j3 op w4) := HS.out.below hb
  clear hc hb
  have HS : Hid (St rb ta cap T w [(w.heap.size, z5)] [((mkX 25 [] 0 q1d [x3]), (some ⟨w3.heap.size, 0, none⟩)), (x3, s3)] j3 op w4) := HS.out.row [] [(x3, s3, c3)] 25 [] 0 q1d (by intro p hp; simp only [List.mem_cons, List.not_mem_nil, or_false] at hp; rcases hp with rfl <;> simp)
  have HS : Hid (St rb ta cap T w [(w4.heap.size, (nL 25 [] 0 q1d (.slice (some ⟨w3.heap.size, 0, none⟩) 1 1))), (w.heap.size, z5)] [((mkX 25 [] 0 q1d [x3]), (some ⟨w3.heap.size, 0, none⟩)), (x3, s3)] j3 op (w4.alloc (nO 25 [] 0 q1d (.slice (some ⟨w3.heap.size, 0, none⟩) 1 1)))) := HS.out.newO (nL 25 [] 0 q1d (.slice (some ⟨w3.heap.size, 0, none⟩) 1 1))
  obtain ⟨r1, e1, hl⟩ := bnd_some HL.out
  have HL : Hid _ := hl
  have hc := passesWord_s rb ta cap T [100, 101, 115, 99] j3 op _ r1 hop HS.out.rdr e1
  (try unfold ptr at hc)
  clear e1 hl
  go_wp2_with fail
  refine hc.mono ?_
  intro e w5 hpost
  clear hc
  cases r1 with
  | inl q =>
   obtain ⟨hG, HP⟩ := HS.out.bad2 (V := VX) (op' := op) HL.out hpost
   unfold GUs at hG
   subst hG
   clear hpost
   go_wp2
   exact ⟨rfl, HP.out⟩
  | inr q =>
   obtain ⟨x5, j5⟩ := q
   obtain ⟨rfl, HS⟩ := HS.out.okB hpost
   have hl := HL.out
   rw [bnd_ok] at hl
   (try dsimp only at hl)
   have HL : Hid _ := hl
   clear hl hpost
   cases x5 with
   | true =>
    have hl := HL.out
    simp only [if_true, if_false, Bool.false_eq_true] at hl
    have HL : Hid _ := hl
    clear hl
    obtain ⟨y6a, y6b, y6c, y6d, y6e⟩ := HS.out.c5 List.mem_cons_self
    obtain ⟨f6a, f6b, f6c, f6d, f6e⟩ := HS.out.f5 List.mem_cons_self
    have HS : Hid (St rb ta cap T w [(w4.heap.size, (nL 25 [] 1 q1d (.slice (some ⟨w3.heap.size, 0, none⟩) 1 1))), (w.heap.size, z5)] [((mkX 25 [] 0 q1d [x3]), (some ⟨w3.heap.size, 0, none⟩)), (x3, s3)] j5 op (w5.setCell ⟨w4.heap.size, 2, none⟩ (.int .i64 1))) := St.put [] HS.out 2 (.int .i64 1)
    obtain ⟨y7a, y7b, y7c, y7d, y7e⟩ := HS.out.c5 List.mem_cons_self
    have HS : Hid (St rb ta cap T w [(w4.heap.size, (nL 25 [] 1 q1d (.slice (some ⟨w3.heap.size, 0, none⟩) 1 1))), (w.heap.size, z5)] [((mkX 25 [] 1 q1d [x3]), (some ⟨w3.heap.size, 0, none⟩)), ((mkX 25 [] 0 q1d [x3]), (some ⟨w3.heap.size, 0, none⟩)), (x3, s3)] j5 op (w5.setCell ⟨w4.heap.size, 2, none⟩ (.int .i64 1))) := HS.out.head List.mem_cons_self 25 [] 1 q1d
    obtain ⟨y8a, y8b, y8c, y8d, y8e⟩ := HS.out.c5 List.mem_cons_self
    obtain ⟨⟨d0, d1, d2, d3, d4⟩, ⟨g0, g1, g2, g3, g4⟩, hz⟩ := St.fin5 [(w4.heap.size, (nL 25 [] 1 q1d (.slice (some ⟨w3.heap.size, 0, none⟩) 1 1)))] HS.out (v0 := .int .i64 25) (v1 := .string (bsA [])) (v2 := .int .i64 1) (v3 := .int .i64 q1d) (v4 := .slice (some ⟨w3.heap.size, 0, none⟩) 1 1) (c := 1) HL.out List.mem_cons_self (mkX_V' _ _ _ _ _ _ _ _ rfl)
    obtain ⟨⟨z0, z1, z2, z3, z4⟩, HP⟩ := hz _ rfl
    clear hz HS HL
    go_wp2
    refine bodyPost_ret (v := .agg #[.int .i64 25, .string (bsA []), .int .i64 1, .int .i64 q1d, .slice (some ⟨w3.heap.size, 0, none⟩) 1 1]) (by simp [results, Tryz.results82, go_sem, z0, z1, z2, z3, z4]) rfl HP.out
   | false =>
    have hl := HL.out
    simp only [if_true, if_false, Bool.false_eq_true] at hl
    have HL : Hid _ := hl
    clear hl
    obtain ⟨r1, e1, hl⟩ := bnd_some HL.out
    have HL : Hid _ := hl
    have hc := passes_s rb ta cap T 1 (by decide) [97, 115, 99] j5 op _ r1 hop HS.out.rdr e1
    (try unfold ptr at hc)
    clear e1 hl
    go_wp2_with fail
    refine hc.mono ?_
    intro e w6 hpost
    clear hc
    cases r1 with
    | inl q =>
     obtain ⟨hG, HP⟩ := HS.out.bad2 (V := VX) (op' := op) HL.out hpost
     unfold GUs at hG
     subst hG
     clear hpost
     go_wp2
     exact ⟨rfl, HP.out⟩
    | inr q =>
     obtain ⟨x6, j6⟩ := q
     obtain ⟨rfl, HS⟩ := HS.out.okB hpost
     have hl := HL.out
     rw [bnd_ok] at hl
     (try dsimp only at hl)
     have HL : Hid _ := hl
     clear hl hpost
     obtain ⟨y7a, y7b, y7c, y7d, y7e⟩ := HS.out.c5 List.mem_cons_self
     obtain ⟨⟨d0, d1, d2, d3, d4⟩, ⟨g0, g1, g2, g3, g4⟩, hz⟩ := St.fin5 [(w4.heap.size, (nL 25 [] 0 q1d (.slice (some ⟨w3.heap.size, 0, none⟩) 1 1)))] HS.out (v0 := .int .i64 25) (v1 := .string (bsA [])) (v2 := .int .i64 0) (v3 := .int .i64 q1d) (v4 := .slice (some ⟨w3.heap.size, 0, none⟩) 1 1) (c := 1) HL.out List.mem_cons_self (mkX_V' _ _ _ _ _ _ _ _ rfl)
     obtain ⟨⟨z0, z1, z2, z3, z4⟩, HP⟩ := hz _ rfl
     clear hz HS HL
     go_wp2
     refine bodyPost_ret (v := .agg #[.int .i64 25, .string (bsA []), .int .i64 0, .int .i64 q1d, .slice (some ⟨w3.heap.size, 0, none⟩) 1 1]) (by simp [results, Tryz.results82, go_sem, z0, z1, z2, z3, z4]) rfl HP.out
theorem plainView_s (rb : Nat) (ta : Option Addr) (cap : Nat) (T : List Tt)  : Rds VX rb ta cap T 174 #[ptr rb] (fun i _ => plvP T i) := by
 intro i op w r hop hr h
 (try dsimp only at h)
 have HS : Hid (St rb ta cap T w [] [] i op w) := St.start hr
 unfold plvP at h
 have HL : Hid _ := h
 have hlt := cell_lt hr.c0
 clear hr h 
 unfold ptr
 go_enter Tryz.func174, Tryz.ntmps174
 by_cases hin : i < T.length
 rotate_left
 · have hl := HL.out; rw [if_neg hin] at hl; cases hl
 have HIT : Hid _ := hin
 have hl := HL.out
 rw [if_pos hin] at hl
 have HL : Hid _ := hl
 clear hl hin
 obtain ⟨⟨⟨q1a, q1b, q1c⟩, q1d⟩, hq⟩ : ∃ q, tkI T i = q := ⟨_, rfl⟩
 have HQ1 : Hid (tkI T i = ((q1a, q1b, q1c), q1d)) := hq
 have hl := HL.out
 (try rw [hq] at hl)
 (try dsimp only at hl)
 have HL : Hid _ := hl
 clear hl hq
 have HS : Hid (St rb ta cap T w [(w.heap.size, z5)] [] i op (w.alloc o5)) := HS.out.newO z5
 have hc := take_s rb ta cap T i op _ HS.out.rdr HIT.out
 rw [HQ1.out] at hc
 unfold ptr ttV at hc
 dsimp only at hc
 go_wp2_with fail
 refine hc.mono ?_
 rintro e w2 ⟨rfl, hr, hf⟩
 have HS : Hid (St rb ta cap T w [(w.heap.size, z5)] [] (i + 1) op w2) := HS.out.call hf hr
 clear hc hr hf
 have hc := textNode_s 23 ((q1a, q1b, q1c), q1d) none 0 0 w2
 (try unfold ttV at hc)
 (try unfold nV at hc)
 (try dsimp only at hc)
 go_wp2_with fail
 refine hc.mono ?_
 rintro e w3 ⟨rfl, hb⟩
 have HS : Hid (St rb ta cap T w [(w.heap.size, z5)] [] (i + 1) op w3) := HS.out.below hb
 clear hc hb
 have HS : Hid (St rb ta cap T w [(w.heap.size, z5)] [((mkX 23 q1b 0 q1d []), none)] (i + 1) op w3) := HS.out.leaf 23 q1b 0 q1d none
 obtain ⟨⟨d0, d1, d2, d3, d4⟩, ⟨g0, g1, g2, g3, g4⟩, hz⟩ := St.fin5 [] HS.out (v0 := .int .i64 23) (v1 := .string (bsA q1b)) (v2 := .int .i64 0) (v3 := .int .i64 q1d) (v4 := .slice none 0 0) (c := 0) HL.out List.mem_cons_self (mkX_V' _ _ _ _ _ _ _ _ rfl)
 obtain ⟨⟨z0, z1, z2, z3, z4⟩, HP⟩ := hz _ rfl
 clear hz HS HL
 go_wp2
 refine bodyPost_ret (v := .agg #[.int .i64 23, .string (bsA q1b), .int .i64 0, .int .i64 q1d, .slice none 0 0]) (by simp [results, Tryz.results174, go_sem, z0, z1, z2, z3, z4]) rfl HP.out
theorem lengthView_s (rb : Nat) (ta : Option Addr) (cap : Nat) (T : List Tt)  : Rds VX rb ta cap T 175 #[ptr rb] (fun i _ => lenP T i) := by
 intro i op w r hop hr h
 (try dsimp only at h)
 have HS : Hid (St rb ta cap T w [] [] i op w) := St.start hr
 unfold lenP at h
 have HL : Hid _ := h
 have hlt := cell_lt hr.c0
 clear hr h 
 unfold ptr
 go_enter Tryz.func175, Tryz.ntmps175
 have HS : Hid (St rb ta cap T w [(w.heap.size, z5)] [] i op (w.alloc o5)) := HS.out.newO z5
 obtain ⟨r1, e1, hl⟩ := bnd_some HL.out
 have HL : Hid _ := hl
 have hc := plainView_s rb ta cap T i op _ r1 hop HS.out.rdr e1
 (try unfold ptr at hc)
 clear e1 hl
 go_wp2_with fail
 refine hc.mono ?_
 intro e w1 hpost
 clear hc
 cases r1 with
 | inl q =>
  obtain ⟨hG, HP⟩ := HS.out.bad2 (V := VX) (op' := op) HL.out hpost
  unfold GUs at hG
  subst hG
  clear hpost
  go_wp2
  exact ⟨rfl, HP.out⟩
 | inr q =>
  obtain ⟨x1, j1⟩ := q
  obtain ⟨s1, c1, rfl, HS⟩ := HS.out.okX hpost
  unfold xV nV
  have hl := HL.out
  rw [bnd_ok] at hl
  (try dsimp only at hl)
  have HL : Hid _ := hl
  clear hl hpost
  have HS : Hid (St rb ta cap T w [(w1.heap.size, (xL x1 s1 c1)), (w.heap.size, z5)] [(x1, s1)] j1 op (w1.alloc (xO x1 s1 c1))) := HS.out.newO (xL x1 s1 c1)
  obtain ⟨r1, e1, hl⟩ := bnd_some HL.out
  have HL : Hid _ := hl
  have hc := needSign_s rb ta cap T [40] j1 op _ r1 hop HS.out.rdr e1
  (try unfold ptr at hc)
  clear e1 hl
  go_wp2_with fail
  refine hc.mono ?_
  intro e w2 hpost
  clear hc
  cases r1 with
  | inl q =>
   obtain ⟨hG, HP⟩ := HS.out.bad2 (V := VX) (op' := op) HL.out hpost
   unfold GUs at hG
   subst hG
   clear hpost
   go_wp2
   exact ⟨rfl, HP.out⟩
  | inr q =>
   obtain ⟨x2, j2⟩ := q
   obtain ⟨rfl, HS⟩ := HS.out.okT hpost
   obtain ⟨⟨x2a, x2b, x2c⟩, x2d⟩ := x2
   unfold ttV
   dsimp only
   have hl := HL.out
   rw [bnd_ok] at hl
   (try dsimp only at hl)
   have HL : Hid _ := hl
   clear hl hpost
   obtain ⟨r1, e1, hl⟩ := bnd_some HL.out
   have HL : Hid _ := hl
   have hc := size_s rb ta cap T j2 op _ r1 hop HS.out.rdr e1
   (try unfold ptr at hc)
   clear e1 hl
   go_wp2_with fail
   refine hc.mono ?_
   intro e w3 hpost
   clear hc
   cases r1 with
   | inl q =>
    obtain ⟨hG, HP⟩ := HS.out.bad2 (V := VX) (op' := op) HL.out hpost
    unfold GUs at hG
    subst hG
    clear hpost
    go_wp2
    exact ⟨rfl, HP.out⟩
   | inr q =>
    obtain ⟨x3, j3⟩ := q
    obtain ⟨rfl, HS⟩ := HS.out.okT hpost
    obtain ⟨⟨x3a, x3b, x3c⟩, x3d⟩ := x3
    unfold ttV
    dsimp only
    have hl := HL.out
    rw [bnd_ok] at hl
    (try dsimp only at hl)
    have HL : Hid _ := hl
    clear hl hpost
    have hc := numberNode_s 3 ((x3a, x3b, x3c), x3d) w3
    (try unfold ttV at hc)
    (try unfold nV at hc)
    (try dsimp only at hc)
    go_wp2_with fail
    refine hc.mono ?_
    rintro e w4 ⟨rfl, hb⟩
    have HS : Hid (St rb ta cap T w [(w1.heap.size, (xL x1 s1 c1)), (w.heap.size, z5)] [(x1, s1)] j3 op w4) := HS.out.below hb
    clear hc hb
    have HS : Hid (St rb ta cap T w [(w1.heap.size, (xL x1 s1 c1)), (w.heap.size, z5)] [((mkX 3 [] x3c x3d []), none), (x1, s1)] j3 op w4) := HS.out.leaf 3 [] x3c x3d none
    have HS : Hid (St rb ta cap T w [(w4.heap.size, (nL 3 [] x3c x3d (.slice none 0 0))), (w1.heap.size, (xL x1 s1 c1)), (w.heap.size, z5)] [((mkX 3 [] x3c x3d []), none), (x1, s1)] j3 op (w4.alloc (nO 3 [] x3c x3d (.slice none 0 0)))) := HS.out.newO (nL 3 [] x3c x3d (.slice none 0 0))
    obtain ⟨y5a, y5b, y5c, y5d, y5e⟩ := HS.out.c5 (List.mem_cons_of_mem _ List.mem_cons_self)
    obtain ⟨f5a, f5b, f5c, f5d, f5e⟩ := HS.out.f5 (List.mem_cons_of_mem _ List.mem_cons_self)
    have HS : Hid (St rb ta cap T w [(w4.heap.size, (nL 3 [] x3c x3d (.slice none 0 0))), (w1.heap.size, (nL (xk x1) (xt x1) (xn x1) (xa x1) (.slice (some ⟨w4.heap.size, 0, none⟩) 1 1))), (w.heap.size, z5)] [((mkX 3 [] x3c x3d []), none), (x1, s1)] j3 op ((w4.alloc (nO 3 [] x3c x3d (.slice none 0 0))).setCell ⟨w1.heap.size, 4, none⟩ (.slice (some ⟨w4.heap.size, 0, none⟩) 1 1))) := St.put [(w4.heap.size, (nL 3 [] x3c x3d (.slice none 0 0)))] HS.out 4 (.slice (some ⟨w4.heap.size, 0, none⟩) 1 1)
    obtain ⟨y6a, y6b, y6c, y6d, y6e⟩ := HS.out.c5 (List.mem_cons_of_mem _ List.mem_cons_self)
    have HS : Hid (St rb ta cap T w [(w1.heap.size, (nL (xk x1) (xt x1) (xn x1) (xa x1) (.slice (some ⟨w4.heap.size, 0, none⟩) 1 1))), (w.heap.size, z5)] [((mkX (xk x1) (xt x1) (xn x1) (xa x1) [(mkX 3 [] x3c x3d [])]), (some ⟨w4.heap.size, 0, none⟩)), ((mkX 3 [] x3c x3d []), none), (x1, s1)] j3 op ((w4.alloc (nO 3 [] x3c x3d (.slice none 0 0))).setCell ⟨w1.heap.size, 4, none⟩ (.slice (some ⟨w4.heap.size, 0, none⟩) 1 1))) := HS.out.row [] [((mkX 3 [] x3c x3d []), none, 0)] (xk x1) (xt x1) (xn x1) (xa x1) (by intro p hp; simp only [List.mem_cons, List.not_mem_nil, or_false] at hp; rcases hp with rfl <;> simp)
    obtain ⟨r1, e1, hl⟩ := bnd_some HL.out
    have HL : Hid _ := hl
    have hc := needSign_s rb ta cap T [41] j3 op _ r1 hop HS.out.rdr e1
    (try unfold ptr at hc)
    clear e1 hl
    go_wp2_with fail
    refine hc.mono ?_
    intro e w7 hpost
    clear hc y5a y5b y5c y5d y5e f5a f5b f5c f5d f5e y6a y6b y6c y6d y6e
    cases r1 with
    | inl q =>
     obtain ⟨hG, HP⟩ := HS.out.bad2 (V := VX) (op' := op) HL.out hpost
     unfold GUs at hG
     subst hG
     clear hpost
     go_wp2
     exact ⟨rfl, HP.out⟩
    | inr q =>
     obtain ⟨x7, j7⟩ := q
     obtain ⟨rfl, HS⟩ := HS.out.okT hpost
     obtain ⟨⟨x7a, x7b, x7c⟩, x7d⟩ := x7
     unfold ttV
     dsimp only
     have hl := HL.out
     rw [bnd_ok] at hl
     (try dsimp only at hl)
     have HL : Hid _ := hl
     clear hl hpost
     obtain ⟨y8a, y8b, y8c, y8d, y8e⟩ := HS.out.c5 List.mem_cons_self
     obtain ⟨⟨d0, d1, d2, d3, d4⟩, ⟨g0, g1, g2, g3, g4⟩, hz⟩ := St.fin5 [(w1.heap.size, (nL (xk x1) (xt x1) (xn x1) (xa x1) (.slice (some ⟨w4.heap.size, 0, none⟩) 1 1)))] HS.out (v0 := .int .i64 (xk x1)) (v1 := .string (bsA (xt x1))) (v2 := .int .i64 (xn x1)) (v3 := .int .i64 (xa x1)) (v4 := .slice (some ⟨w4.heap.size, 0, none⟩) 1 1) (c := 1) HL.out List.mem_cons_self (mkX_V' _ _ _ _ _ _ _ _ rfl)
     obtain ⟨⟨z0, z1, z2, z3, z4⟩, HP⟩ := hz _ rfl
     clear hz HS HL
     go_wp2
     refine bodyPost_ret (v := .agg #[.int .i64 (xk x1), .string (bsA (xt x1)), .int .i64 (xn x1), .int .i64 (xa x1), .slice (some ⟨w4.heap.size, 0, none⟩) 1 1]) (by simp [results, Tryz.results175, go_sem, z0, z1, z2, z3, z4]) rfl HP.out
end Go.Proofs.YtgdndahhledikaaGreatDoor
