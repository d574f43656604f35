/- Spp. -/
import Derived.Test.YtgdndahhledikaaGreatDoorK22
import Derived.Test.YtgdndahhledikaaGreatDoorK20
namespace Go.Proofs.YtgdndahhledikaaGreatDoor
open Go.ChangeShapes Go.WideShapes Go.ChangeAt Go.RowKit
set_option linter.unusedSimpArgs false
set_option maxRecDepth 20000
set_option maxHeartbeats 4000000
def orQ (T : List Tt) (g : Nat → Nat → Rz X) (f i op : Nat) : Rz X := bnd (bnd (g i op) fun x j => lnQ T 34 (fun i => isT (tkI T i) 2 [[111, 114]]) (fun j => g j op) f x j) fun x j => okR x j
def anQ (T : List Tt) (g h : Nat → Nat → Rz X) (f i op : Nat) : Rz X := bnd (bnd (g i op) fun x j => lnQ T 33 (fun i => isT (tkI T i) 2 [[97, 110, 100]]) (fun j => h j op) f x j) fun x j => okR x j
def paQ (T : List Tt) (g : Nat → Nat → Rz X) (f i op : Nat) : Rz X := if op = 100 then noR i 71 else bnd (bnd (g i (op + 1)) fun x j => lnQ T 32 (fun i => isT (tkI T i) 6 [[45, 62]]) (fun j => g j (op + 1)) f x j) fun x j => okR x j
def atQ (T : List Tt) (gt gp ge : Nat → Nat → Rz X) (i op : Nat) : Rz X := if isT (tkI T i) 2 [[116, 105, 109, 101, 114]] = true then bnd (gt i op) (fun x j => okR x j) else bnd (pasP T 6 [40] i) fun b j => if b then bnd (gp j op) fun x j => bnd (needP T 6 [41] j) fun _ j => okR x j else bnd (ge j op) fun x j => okR x j
theorem or_s (rb : Nat) (ta : Option Addr) (cap : Nat) (T : List Tt) (g : Nat → Nat → Rz X) (hg : RdX rb ta cap T 52 g) (f : Nat) : Rds VX rb ta cap T 29 #[ptr rb] (fun i op => orQ T g f i op) := by
 intro i op w r hop hr h
 (try dsimp only at h)
 have HS : Hid (St rb ta cap T w [] [] i op w) := St.start hr
 unfold orQ at h
 have HL : Hid _ := h
 have hlt := cell_lt hr.c0
 clear hr h 
 unfold ptr
 go_enter Tryz.func29, Tryz.ntmps29
 have HS : Hid (St rb ta cap T w [(w.heap.size, z5)] [] i op (w.alloc o5)) := HS.out.newO z5
 obtain ⟨r1, e1, hl⟩ := bnd_some HL.out
 have HL : Hid _ := hl
 have hc := pline_s rb ta cap T 34 51 52 52 (ent_of (fn := Tryz.f51) rfl (by decide) rfl) (ent_of (fn := Tryz.f52) rfl (by decide) rfl) (ent_of (fn := Tryz.f52) rfl (by decide) rfl) (fun i => isT (tkI T i) 2 [[111, 114]]) (fun i op w hr => seesOr_any rb ta cap T i op w hr) g g hg hg f i op _ r1 hop HS.out.rdr e1
 (try unfold ptr fnV at hc)
 (try unfold ptr at hc)
 clear e1 hl
 go_wp2_with fail
 refine hc.mono ?_
 intro e w1 hpost
 clear hc
 cases r1 with
 | inl q =>
  obtain ⟨hG, HP⟩ := HS.out.bad2 (V := VX) (op' := op) HL.out hpost
  unfold GUs at hG
  subst hG
  clear hpost
  go_wp2
  exact ⟨rfl, HP.out⟩
 | inr q =>
  obtain ⟨x1, j1⟩ := q
  obtain ⟨s1, c1, rfl, HS⟩ := HS.out.okX hpost
  unfold xV nV
  have hl := HL.out
  rw [bnd_ok] at hl
  (try dsimp only at hl)
  have HL : Hid _ := hl
  clear hl hpost
  obtain ⟨⟨d0, d1, d2, d3, d4⟩, ⟨g0, g1, g2, g3, g4⟩, hz⟩ := St.fin5 [] HS.out (v0 := .int .i64 (xk x1)) (v1 := .string (bsA (xt x1))) (v2 := .int .i64 (xn x1)) (v3 := .int .i64 (xa x1)) (v4 := .slice s1 (xl x1) c1) (c := c1) HL.out List.mem_cons_self (rfl)
  obtain ⟨⟨z0, z1, z2, z3, z4⟩, HP⟩ := hz _ rfl
  clear hz HS HL
  go_wp2
  refine bodyPost_ret (v := .agg #[.int .i64 (xk x1), .string (bsA (xt x1)), .int .i64 (xn x1), .int .i64 (xa x1), .slice s1 (xl x1) c1]) (by simp [results, Tryz.results29, go_sem, z0, z1, z2, z3, z4]) rfl HP.out
theorem and_s (rb : Nat) (ta : Option Addr) (cap : Nat) (T : List Tt) (g g2 : Nat → Nat → Rz X) (hg : RdX rb ta cap T 90 g) (hg2 : RdX rb ta cap T 91 g2) (f : Nat) : Rds VX rb ta cap T 52 #[ptr rb] (fun i op => anQ T g g2 f i op) := by
 intro i op w r hop hr h
 (try dsimp only at h)
 have HS : Hid (St rb ta cap T w [] [] i op w) := St.start hr
 unfold anQ at h
 have HL : Hid _ := h
 have hlt := cell_lt hr.c0
 clear hr h 
 unfold ptr
 go_enter Tryz.func52, Tryz.ntmps52
 have HS : Hid (St rb ta cap T w [(w.heap.size, z5)] [] i op (w.alloc o5)) := HS.out.newO z5
 obtain ⟨r1, e1, hl⟩ := bnd_some HL.out
 have HL : Hid _ := hl
 have hc := pline_s rb ta cap T 33 89 90 91 (ent_of (fn := Tryz.f89) rfl (by decide) rfl) (ent_of (fn := Tryz.f90) rfl (by decide) rfl) (ent_of (fn := Tryz.f91) rfl (by decide) rfl) (fun i => isT (tkI T i) 2 [[97, 110, 100]]) (fun i op w hr => seesAnd_any rb ta cap T i op w hr) g g2 hg hg2 f i op _ r1 hop HS.out.rdr e1
 (try unfold ptr fnV at hc)
 (try unfold ptr at hc)
 clear e1 hl
 go_wp2_with fail
 refine hc.mono ?_
 intro e w1 hpost
 clear hc
 cases r1 with
 | inl q =>
  obtain ⟨hG, HP⟩ := HS.out.bad2 (V := VX) (op' := op) HL.out hpost
  unfold GUs at hG
  subst hG
  clear hpost
  go_wp2
  exact ⟨rfl, HP.out⟩
 | inr q =>
  obtain ⟨x1, j1⟩ := q
  obtain ⟨s1, c1, rfl, HS⟩ := HS.out.okX hpost
  unfold xV nV
  have hl := HL.out
  rw [bnd_ok] at hl
  (try dsimp only at hl)
  have HL : Hid _ := hl
  clear hl hpost
  obtain ⟨⟨d0, d1, d2, d3, d4⟩, ⟨g0, g1, g2, g3, g4⟩, hz⟩ := St.fin5 [] HS.out (v0 := .int .i64 (xk x1)) (v1 := .string (bsA (xt x1))) (v2 := .int .i64 (xn x1)) (v3 := .int .i64 (xa x1)) (v4 := .slice s1 (xl x1) c1) (c := c1) HL.out List.mem_cons_self (rfl)
  obtain ⟨⟨z0, z1, z2, z3, z4⟩, HP⟩ := hz _ rfl
  clear hz HS HL
  go_wp2
  refine bodyPost_ret (v := .agg #[.int .i64 (xk x1), .string (bsA (xt x1)), .int .i64 (xn x1), .int .i64 (xa x1), .slice s1 (xl x1) c1]) (by simp [results, Tryz.results52, go_sem, z0, z1, z2, z3, z4]) rfl HP.out
theorem pattern_s (rb : Nat) (ta : Option Addr) (cap : Nat) (T : List Tt) (g : Nat → Nat → Rz X) (hg : RdX rb ta cap T 29 g) (f : Nat) : Rds VX rb ta cap T 17 #[ptr rb] (fun i op => paQ T g f i op) := by
 intro i op w r hop hr h
 (try dsimp only at h)
 have HS : Hid (St rb ta cap T w [] [] i op w) := St.start hr
 unfold paQ at h
 have HL : Hid _ := h
 have hlt := cell_lt hr.c0
 clear hr h 
 unfold ptr
 go_enter Tryz.func17, Tryz.ntmps17
 by_cases hop1 : op = 100
 ·
  subst hop1
  have hl := HL.out
  rw [if_pos rfl] at hl
  have HRR : Hid _ := noR_eq hl
  clear hl
  have HS : Hid (St rb ta cap T w [(w.heap.size, z5)] [] i 100 (w.alloc o5)) := HS.out.newO z5
  have hc := beg_no rb ta cap T i _ HS.out.rdr
  unfold ptr at hc
  go_wp2_with fail
  refine hc.mono ?_
  rintro e wN ⟨hG, rfl⟩
  have HP : Hid _ := HS.out.err (V := VX) (op' := 100) (q := (i, 71)) (Fx.refl _) hG
  unfold GUs at hG
  subst hG
  clear hc
  go_wp2
  exact ⟨rfl, by rw [HRR.out]; exact HP.out⟩
 ·
  have hl := HL.out
  rw [if_neg hop1] at hl
  have HL : Hid _ := hl
  clear hl
  have hop2 : op + 1 ≤ 100 := by omega
  have HS : Hid (St rb ta cap T w [(w.heap.size, z5)] [] i op (w.alloc o5)) := HS.out.newO z5
  have hc := beg_ok rb ta cap T i op _ HS.out.rdr (by omega)
  unfold ptr at hc
  go_wp2_with fail
  refine hc.mono ?_
  rintro e w1 ⟨rfl, hr, hf⟩
  have HS : Hid (St rb ta cap T w [(w.heap.size, z5)] [] i (op + 1) w1) := HS.out.call hf hr
  clear hc hr hf
  obtain ⟨r1, e1, hl⟩ := bnd_some HL.out
  have HL : Hid _ := hl
  have hc := pline_s rb ta cap T 32 28 29 29 (ent_of (fn := Tryz.f28) rfl (by decide) rfl) (ent_of (fn := Tryz.f29) rfl (by decide) rfl) (ent_of (fn := Tryz.f29) rfl (by decide) rfl) (fun i => isT (tkI T i) 6 [[45, 62]]) (fun i op w hr => seesThen_any rb ta cap T i op w hr) g g hg hg f i (op + 1) _ r1 hop2 HS.out.rdr e1
  (try unfold ptr fnV at hc)
  (try unfold ptr at hc)
  clear e1 hl
  go_wp2_with fail
  refine hc.mono ?_
  intro e w2 hpost
  clear hc
  cases r1 with
  | inl q =>
   obtain ⟨hG, HP⟩ := HS.out.bad2 (V := VX) (op' := op) HL.out hpost
   unfold GUs at hG
   subst hG
   clear hpost
   go_wp2
   exact ⟨rfl, HP.out⟩
  | inr q =>
   obtain ⟨x2, j2⟩ := q
   obtain ⟨s2, c2, rfl, HS⟩ := HS.out.okX hpost
   unfold xV nV
   have hl := HL.out
   rw [bnd_ok] at hl
   (try dsimp only at hl)
   have HL : Hid _ := hl
   clear hl hpost
   have HS : Hid (St rb ta cap T w [(w2.heap.size, (xL x2 s2 c2)), (w.heap.size, z5)] [(x2, s2)] j2 (op + 1) (w2.alloc (xO x2 s2 c2))) := HS.out.newO (xL x2 s2 c2)
   have hc := fin_any rb ta cap T j2 op _ HS.out.rdr hop
   unfold ptr at hc
   go_wp2_with fail
   refine hc.mono ?_
   rintro e w3 ⟨rfl, hr, hf⟩
   have HS : Hid (St rb ta cap T w [(w2.heap.size, (xL x2 s2 c2)), (w.heap.size, z5)] [(x2, s2)] j2 op w3) := HS.out.call hf hr
   clear hc hr hf
   obtain ⟨y4a, y4b, y4c, y4d, y4e⟩ := HS.out.c5 List.mem_cons_self
   obtain ⟨⟨d0, d1, d2, d3, d4⟩, ⟨g0, g1, g2, g3, g4⟩, hz⟩ := St.fin5 [(w2.heap.size, (xL x2 s2 c2))] HS.out (v0 := .int .i64 (xk x2)) (v1 := .string (bsA (xt x2))) (v2 := .int .i64 (xn x2)) (v3 := .int .i64 (xa x2)) (v4 := .slice s2 (xl x2) c2) (c := c2) HL.out List.mem_cons_self (rfl)
   obtain ⟨⟨z0, z1, z2, z3, z4⟩, HP⟩ := hz _ rfl
   clear hz HS HL
   go_wp2
   refine bodyPost_ret (v := .agg #[.int .i64 (xk x2), .string (bsA (xt x2)), .int .i64 (xn x2), .int .i64 (xa x2), .slice s2 (xl x2) c2]) (by simp [results, Tryz.results17, go_sem, z0, z1, z2, z3, z4]) rfl HP.out
theorem atom_s (rb : Nat) (ta : Option Addr) (cap : Nat) (T : List Tt) (gt gp ge : Nat → Nat → Rz X) (ht : RdX rb ta cap T 161 gt) (hp : RdX rb ta cap T 17 gp) (he : RdX rb ta cap T 162 ge) : Rds VX rb ta cap T 128 #[ptr rb] (fun i op => atQ T gt gp ge i op) := by
 intro i op w r hop hr h
 (try dsimp only at h)
 have HS : Hid (St rb ta cap T w [] [] i op w) := St.start hr
 unfold atQ at h
 have HL : Hid _ := h
 have hlt := cell_lt hr.c0
 clear hr h 
 unfold ptr
 go_enter Tryz.func128, Tryz.ntmps128
 have HS : Hid (St rb ta cap T w [(w.heap.size, z5)] [] i op (w.alloc o5)) := HS.out.newO z5
 cases hb : isT (tkI T i) 2 [[116, 105, 109, 101, 114]] with
 | true =>
  have HB : Hid _ := hb
  have hl := HL.out
  simp only [hb, if_true, if_false, Bool.false_eq_true] at hl
  have HL : Hid _ := hl
  clear hl hb
  have hc := seesWord_any rb ta cap T i op [116, 105, 109, 101, 114] _ HS.out.rdr
  rw [HB.out] at hc
  unfold ptr at hc
  go_wp2_with fail
  refine hc.mono ?_
  rintro e w1 ⟨rfl, hb⟩
  have HS : Hid (St rb ta cap T w [(w.heap.size, z5)] [] i op w1) := HS.out.below hb
  clear hc hb
  obtain ⟨r1, e1, hl⟩ := bnd_some HL.out
  have HL : Hid _ := hl
  have hc := ht i op _ r1 hop HS.out.rdr e1
  (try unfold ptr at hc)
  clear e1 hl
  go_wp2_with fail
  refine hc.mono ?_
  intro e w2 hpost
  clear hc
  cases r1 with
  | inl q =>
   obtain ⟨hG, HP⟩ := HS.out.bad2 (V := VX) (op' := op) HL.out hpost
   unfold GUs at hG
   subst hG
   clear hpost
   go_wp2
   exact ⟨rfl, HP.out⟩
  | inr q =>
   obtain ⟨x2, j2⟩ := q
   obtain ⟨s2, c2, rfl, HS⟩ := HS.out.okX hpost
   unfold xV nV
   have hl := HL.out
   rw [bnd_ok] at hl
   (try dsimp only at hl)
   have HL : Hid _ := hl
   clear hl hpost
   obtain ⟨⟨d0, d1, d2, d3, d4⟩, ⟨g0, g1, g2, g3, g4⟩, hz⟩ := St.fin5 [] HS.out (v0 := .int .i64 (xk x2)) (v1 := .string (bsA (xt x2))) (v2 := .int .i64 (xn x2)) (v3 := .int .i64 (xa x2)) (v4 := .slice s2 (xl x2) c2) (c := c2) HL.out List.mem_cons_self (rfl)
   obtain ⟨⟨z0, z1, z2, z3, z4⟩, HP⟩ := hz _ rfl
   clear hz HS HL
   go_wp2
   refine bodyPost_ret (v := .agg #[.int .i64 (xk x2), .string (bsA (xt x2)), .int .i64 (xn x2), .int .i64 (xa x2), .slice s2 (xl x2) c2]) (by simp [results, Tryz.results128, go_sem, z0, z1, z2, z3, z4]) rfl HP.out
 | false =>
  have HB : Hid _ := hb
  have hl := HL.out
  simp only [hb, if_true, if_false, Bool.false_eq_true] at hl
  have HL : Hid _ := hl
  clear hl hb
  have hc := seesWord_any rb ta cap T i op [116, 105, 109, 101, 114] _ HS.out.rdr
  rw [HB.out] at hc
  unfold ptr at hc
  go_wp2_with fail
  refine hc.mono ?_
  rintro e w1 ⟨rfl, hb⟩
  have HS : Hid (St rb ta cap T w [(w.heap.size, z5)] [] i op w1) := HS.out.below hb
  clear hc hb
  obtain ⟨r1, e1, hl⟩ := bnd_some HL.out
  have HL : Hid _ := hl
  have hc := passesSign_s rb ta cap T [40] i op _ r1 hop HS.out.rdr e1
  (try unfold ptr at hc)
  clear e1 hl
  go_wp2_with fail
  refine hc.mono ?_
  intro e w2 hpost
  clear hc
  cases r1 with
  | inl q =>
   obtain ⟨hG, HP⟩ := HS.out.bad2 (V := VX) (op' := op) HL.out hpost
   unfold GUs at hG
   subst hG
   clear hpost
   go_wp2
   exact ⟨rfl, HP.out⟩
  | inr q =>
   obtain ⟨x2, j2⟩ := q
   obtain ⟨rfl, HS⟩ := HS.out.okB hpost
   have hl := HL.out
   rw [bnd_ok] at hl
   (try dsimp only at hl)
   have HL : Hid _ := hl
   clear hl hpost
   cases x2 with
   | true =>
    have hl := HL.out
    simp only [if_true, if_false, Bool.false_eq_true] at hl
    have HL : Hid _ := hl
    clear hl
    obtain ⟨r1, e1, hl⟩ := bnd_some HL.out
    have HL : Hid _ := hl
    have hc := hp j2 op _ r1 hop HS.out.rdr e1
    (try unfold ptr at hc)
    clear e1 hl
    go_wp2_with fail
    refine hc.mono ?_
    intro e w3 hpost
    clear hc
    cases r1 with
    | inl q =>
     obtain ⟨hG, HP⟩ := HS.out.bad2 (V := VX) (op' := op) HL.out hpost
     unfold GUs at hG
     subst hG
     clear hpost
     go_wp2
     exact ⟨rfl, HP.out⟩
    | inr q =>
     obtain ⟨x3, j3⟩ := q
     obtain ⟨s3, c3, rfl, HS⟩ := HS.out.okX hpost
     unfold xV nV
     have hl := HL.out
     rw [bnd_ok] at hl
     (try dsimp only at hl)
     have HL : Hid _ := hl
     clear hl hpost
     have HS : Hid (St rb ta cap T w [(w3.heap.size, (xL x3 s3 c3)), (w.heap.size, z5)] [(x3, s3)] j3 op (w3.alloc (xO x3 s3 c3))) := HS.out.newO (xL x3 s3 c3)
     obtain ⟨r1, e1, hl⟩ := bnd_some HL.out
     have HL : Hid _ := hl
     have hc := needSign_s rb ta cap T [41] j3 op _ r1 hop HS.out.rdr e1
     (try unfold ptr at hc)
     clear e1 hl
     go_wp2_with fail
     refine hc.mono ?_
     intro e w4 hpost
     clear hc
     cases r1 with
     | inl q =>
      obtain ⟨hG, HP⟩ := HS.out.bad2 (V := VX) (op' := op) HL.out hpost
      unfold GUs at hG
      subst hG
      clear hpost
      go_wp2
      exact ⟨rfl, HP.out⟩
     | inr q =>
      obtain ⟨x4, j4⟩ := q
      obtain ⟨rfl, HS⟩ := HS.out.okT hpost
      obtain ⟨⟨x4a, x4b, x4c⟩, x4d⟩ := x4
      unfold ttV
      dsimp only
      have hl := HL.out
      rw [bnd_ok] at hl
      (try dsimp only at hl)
      have HL : Hid _ := hl
      clear hl hpost
      obtain ⟨y5a, y5b, y5c, y5d, y5e⟩ := HS.out.c5 List.mem_cons_self
      obtain ⟨⟨d0, d1, d2, d3, d4⟩, ⟨g0, g1, g2, g3, g4⟩, hz⟩ := St.fin5 [(w3.heap.size, (xL x3 s3 c3))] HS.out (v0 := .int .i64 (xk x3)) (v1 := .string (bsA (xt x3))) (v2 := .int .i64 (xn x3)) (v3 := .int .i64 (xa x3)) (v4 := .slice s3 (xl x3) c3) (c := c3) HL.out List.mem_cons_self (rfl)
      obtain ⟨⟨z0, z1, z2, z3, z4⟩, HP⟩ := hz _ rfl
      clear hz HS HL
      go_wp2
      refine bodyPost_ret (v := .agg #[.int .i64 (xk x3), .string (bsA (xt x3)), .int .i64 (xn x3), .int .i64 (xa x3), .slice s3 (xl x3) c3]) (by simp [results, Tryz.results128, go_sem, z0, z1, z2, z3, z4]) rfl HP.out
   | false =>
    have hl := HL.out
    simp only [if_true, if_false, Bool.false_eq_true] at hl
    have HL : Hid _ := hl
    clear hl
    obtain ⟨r1, e1, hl⟩ := bnd_some HL.out
    have HL : Hid _ := hl
    have hc := he j2 op _ r1 hop HS.out.rdr e1
    (try unfold ptr at hc)
    clear e1 hl
    go_wp2_with fail
    refine hc.mono ?_
    intro e w3 hpost
    clear hc
    cases r1 with
    | inl q =>
     obtain ⟨hG, HP⟩ := HS.out.bad2 (V := VX) (op' := op) HL.out hpost
     unfold GUs at hG
     subst hG
     clear hpost
     go_wp2
     exact ⟨rfl, HP.out⟩
    | inr q =>
     obtain ⟨x3, j3⟩ := q
     obtain ⟨s3, c3, rfl, HS⟩ := HS.out.okX hpost
     unfold xV nV
     have hl := HL.out
     rw [bnd_ok] at hl
     (try dsimp only at hl)
     have HL : Hid _ := hl
     clear hl hpost
     obtain ⟨⟨d0, d1, d2, d3, d4⟩, ⟨g0, g1, g2, g3, g4⟩, hz⟩ := St.fin5 [] HS.out (v0 := .int .i64 (xk x3)) (v1 := .string (bsA (xt x3))) (v2 := .int .i64 (xn x3)) (v3 := .int .i64 (xa x3)) (v4 := .slice s3 (xl x3) c3) (c := c3) HL.out List.mem_cons_self (rfl)
     obtain ⟨⟨z0, z1, z2, z3, z4⟩, HP⟩ := hz _ rfl
     clear hz HS HL
     go_wp2
     refine bodyPost_ret (v := .agg #[.int .i64 (xk x3), .string (bsA (xt x3)), .int .i64 (xn x3), .int .i64 (xa x3), .slice s3 (xl x3) c3]) (by simp [results, Tryz.results128, go_sem, z0, z1, z2, z3, z4]) rfl HP.out
end Go.Proofs.YtgdndahhledikaaGreatDoor
