/- Tst. -/
import Derived.Test.YtgdndahhledikaaGreatDoorK10
namespace Go.Proofs.YtgdndahhledikaaGreatDoor
open Go.ChangeShapes Go.WideShapes Go.ChangeAt Go.RowKit
set_option linter.unusedSimpArgs false
set_option maxRecDepth 20000
set_option maxHeartbeats 4000000
theorem test_any (rb : Nat) (ta : Option Addr) (cap : Nat) (T : List Tt) (g : Nat → Nat → Rz X) (gn gb gi gt : X → Nat → Nat → Rz X) (hg : Reads rb ta cap T 224 g) (hn : TReads rb ta cap T 225 gn) (hbt : TReads rb ta cap T 226 gb) (hin : TReads rb ta cap T 227 gi) (hna : TReads rb ta cap T 228 gt) : Reads rb ta cap T 219 (fun i op => bnd (g i op) fun x j => if isT (tkI T j) 6 [[61], [33, 61], [60], [60, 61], [62], [62, 61]] then bnd (g (j + 1) op) (fun y k => okR (mkX 8 (tkI T j).1.2.1 0 (tkI T j).2 [x, y]) k) else if isT (tkI T j) 2 [[105, 115]] then gn x j op else if isT (tkI T j) 2 [[98, 101, 116, 119, 101, 101, 110]] then gb x j op else if isT (tkI T j) 2 [[105, 110]] then gi x j op else if isT (tkI T j) 2 [[110, 111, 116]] then gt x j op else okR x j) := by
 intro i op w r hop hr h
 have hlt := cell_lt hr.c0
 have HG : Hid (Reads rb ta cap T 224 g) := hg
 have HN : Hid (TReads rb ta cap T 225 gn) := hn
 have HBT : Hid (TReads rb ta cap T 226 gb) := hbt
 have HIN : Hid (TReads rb ta cap T 227 gi) := hin
 have HNA : Hid (TReads rb ta cap T 228 gt) := hna
 have hA : Below w.heap.size w (w.alloc (Obj.cells #[Value.int IntKind.i64 0, Value.string { data := #[] }, Value.int IntKind.i64 0, Value.int IntKind.i64 0, Value.slice none 0 0] 34)) := (Below.refl _ _).alloc (Nat.le_refl _) _
 have HC0 : Hid (Cx rb ta cap T w w.heap.size i op (w.alloc (Obj.cells #[Value.int IntKind.i64 0, Value.string { data := #[] }, Value.int IntKind.i64 0, Value.int IntKind.i64 0, Value.slice none 0 0] 34))) := ⟨Fx.below hA, hr.below hA, Box5.new w _ _ _ _ _ 34⟩
 obtain ⟨r1, e1, hl1⟩ := bnd_some h
 have HL1 : Hid (bnd (some r1) (fun x j => if isT (tkI T j) 6 [[61], [33, 61], [60], [60, 61], [62], [62, 61]] then bnd (g (j + 1) op) (fun y k => okR (mkX 8 (tkI T j).1.2.1 0 (tkI T j).2 [x, y]) k) else if isT (tkI T j) 2 [[105, 115]] then gn x j op else if isT (tkI T j) 2 [[98, 101, 116, 119, 101, 101, 110]] then gb x j op else if isT (tkI T j) 2 [[105, 110]] then gi x j op else if isT (tkI T j) 2 [[110, 111, 116]] then gt x j op else okR x j) = some r) := hl1
 have h1 := hg i op (w.alloc (Obj.cells #[Value.int IntKind.i64 0, Value.string { data := #[] }, Value.int IntKind.i64 0, Value.int IntKind.i64 0, Value.slice none 0 0] 34)) r1 hop HC0.out.rdr e1
 unfold ptr at h1 ⊢
 clear hr h hg hn hbt hin hna hA hl1 e1
 go_enter Tryz.func219, Tryz.ntmps219
 go_wp2_with fail
 refine h1.mono ?_
 intro e w1 hpost
 clear h1
 cases r1 with
 | inl q =>
  obtain ⟨hG, hF⟩ := hpost.no
  unfold GUp at hG
  subst hG
  have HRR : Hid (r = .inl q) := (Option.some.inj HL1.out).symm
  have HF : Hid _ := HC0.out.fx.trans hF
  clear hpost hF
  go_wp2
  exact ⟨rfl, by rw [HRR.out]; exact ⟨rfl, HF.out⟩⟩
 | inr q =>
  obtain ⟨x, j⟩ := q
  obtain ⟨⟨⟨s1, c1, rfl, hx⟩, hr1⟩, hF1⟩ := hpost.ok
  dsimp only at hx hr1
  rw [World.size_alloc] at hx
  have hY : Below w1.heap.size w1 (w1.alloc (Obj.cells #[Value.int IntKind.i64 (xk x), Value.string (bsA (xt x)), Value.int IntKind.i64 (xn x), Value.int IntKind.i64 (xa x), Value.slice s1 (xl x) c1] 34)) := (Below.refl _ _).alloc (Nat.le_refl _) _
  have hs1 : w.heap.size < w1.heap.size := by have h := hF1.size; rw [World.size_alloc] at h; omega
  have HC : Hid (Cx rb ta cap T w w.heap.size j op (w1.alloc (Obj.cells #[Value.int IntKind.i64 (xk x), Value.string (bsA (xt x)), Value.int IntKind.i64 (xn x), Value.int IntKind.i64 (xa x), Value.slice s1 (xl x) c1] 34))) := (HC0.out.step hF1 hr1 hlt).alloc _
  have HS : Hid (Box5 (w1.alloc (Obj.cells #[Value.int IntKind.i64 (xk x), Value.string (bsA (xt x)), Value.int IntKind.i64 (xn x), Value.int IntKind.i64 (xa x), Value.slice s1 (xl x) c1] 34)) w1.heap.size (.int .i64 (xk x)) (.string (bsA (xt x))) (.int .i64 (xn x)) (.int .i64 (xa x)) (.slice s1 (xl x) c1)) := Box5.new w1 _ _ _ _ _ 34
  have HX : Hid (XAt (w.heap.size + 1) (w1.alloc (Obj.cells #[Value.int IntKind.i64 (xk x), Value.string (bsA (xt x)), Value.int IntKind.i64 (xn x), Value.int IntKind.i64 (xa x), Value.slice s1 (xl x) c1] 34)) x s1) := hx.below hY
  obtain ⟨q, hq⟩ : ∃ q, tkI T j = q := ⟨_, rfl⟩
  have HQ : Hid (tkI T j = q) := hq
  obtain ⟨⟨q1, q2, q3⟩, q4⟩ := q
  have HL : Hid ((if isT (tkI T j) 6 [[61], [33, 61], [60], [60, 61], [62], [62, 61]] then bnd (g (j + 1) op) (fun y k => okR (mkX 8 q2 0 q4 [x, y]) k) else if isT (tkI T j) 2 [[105, 115]] then gn x j op else if isT (tkI T j) 2 [[98, 101, 116, 119, 101, 101, 110]] then gb x j op else if isT (tkI T j) 2 [[105, 110]] then gi x j op else if isT (tkI T j) 2 [[110, 111, 116]] then gt x j op else okR x j) = some r) := by
   have h : (if isT (tkI T j) 6 [[61], [33, 61], [60], [60, 61], [62], [62, 61]] then bnd (g (j + 1) op) (fun y k => okR (mkX 8 (tkI T j).1.2.1 0 (tkI T j).2 [x, y]) k) else if isT (tkI T j) 2 [[105, 115]] then gn x j op else if isT (tkI T j) 2 [[98, 101, 116, 119, 101, 101, 110]] then gb x j op else if isT (tkI T j) 2 [[105, 110]] then gi x j op else if isT (tkI T j) 2 [[110, 111, 116]] then gt x j op else okR x j) = some r := HL1.out
   rw [show (tkI T j).1.2.1 = q2 by rw [hq], show (tkI T j).2 = q4 by rw [hq]] at h
   exact h
  have HBEL : Hid (∀ w3, Below (w1.heap.size + 1) (w1.alloc (Obj.cells #[Value.int IntKind.i64 (xk x), Value.string (bsA (xt x)), Value.int IntKind.i64 (xn x), Value.int IntKind.i64 (xa x), Value.slice s1 (xl x) c1] 34)) w3 → Below ((w1.alloc (Obj.cells #[Value.int IntKind.i64 (xk x), Value.string (bsA (xt x)), Value.int IntKind.i64 (xn x), Value.int IntKind.i64 (xa x), Value.slice s1 (xl x) c1] 34))).heap.size (w1.alloc (Obj.cells #[Value.int IntKind.i64 (xk x), Value.string (bsA (xt x)), Value.int IntKind.i64 (xn x), Value.int IntKind.i64 (xa x), Value.slice s1 (xl x) c1] 34)) w3) := fun w3 h => by rw [World.size_alloc]; exact h
  clear hpost hx hr1 hF1 hY hq HL1 HC0
  unfold xV nV
  have h2 := sees_new rb ta cap T j op 6 #[.string ⟨#[61]⟩, .string ⟨#[33, 61]⟩, .string ⟨#[60]⟩, .string ⟨#[60, 61]⟩, .string ⟨#[62]⟩, .string ⟨#[62, 61]⟩] [[61], [33, 61], [60], [60, 61], [62], [62, 61]] rfl (by decide) 6 6 rfl _ HC.out.rdr
  unfold ptr at h2
  (try rw [World.size_alloc] at h2)
  cases hb : isT (tkI T j) 6 [[61], [33, 61], [60], [60, 61], [62], [62, 61]] with
  | true =>
   rw [hb] at h2
   have HIT : Hid (j < T.length) := isT_lt (by decide) hb
   have HL : Hid (bnd (g (j + 1) op) (fun y k => okR (mkX 8 q2 0 q4 [x, y]) k) = some r) := by
    have h := HL.out
    rw [if_pos hb] at h
    exact h
   clear hb
   obtain ⟨r4, e4, hl4⟩ := bnd_some HL.out
   have HL4 : Hid (bnd (some r4) (fun y k => okR (mkX 8 q2 0 q4 [x, y]) k) = some r) := hl4
   have HE4 : Hid (g (j + 1) op = some r4) := e4
   clear hl4 e4 HL HN HBT HIN HNA
   go_wp2_with fail
   refine h2.mono ?_
   rintro e w2 ⟨rfl, hb2⟩
   clear h2
   have hb2' := HBEL.out w2 hb2
   have HC : Hid (Cx rb ta cap T w w.heap.size j op w2.drew) := (HC.out.below hb2').drew
   have HS : Hid (Box5 w2.drew w1.heap.size (.int .i64 (xk x)) (.string (bsA (xt x))) (.int .i64 (xn x)) (.int .i64 (xa x)) (.slice s1 (xl x) c1)) := (HS.out.below hb2').drew
   have HX : Hid (XAt (w.heap.size + 1) w2.drew x s1) := (HX.out.below hb2').below (Below.refl _ _).drew
   clear hb2 hb2' HBEL
   go_wp2_with fail
   refine wp_region_held_drew (S := (fun wS => Box5 wS w1.heap.size (.int .i64 (xk x)) (.string (bsA (xt x))) (.int .i64 (xn x)) (.int .i64 (xa x)) (.slice s1 (xl x) c1))) (by kernel_rfl) ?_ (fun hHeld => ?_)
   · (try dsimp only); exact HS.out
   refine tk 0 (some 10) (v := ?_) rfl ?_ ?_
   rotate_left
   · intro wS hSw; (try dsimp only at hSw); go_simp; (try with_reducible rfl)
   try simp only [Act.put, List.setIfInBounds_toArray, List.set_cons_zero, List.set_cons_succ]
   refine tk 2 (some 12) (v := ?_) rfl ?_ ?_
   rotate_left
   · intro wS hSw; (try dsimp only at hSw); have y0 := hSw.c0; have y1 := hSw.c1; have y2 := hSw.c2; have y3 := hSw.c3; have y4 := hSw.c4; go_simp; (try with_reducible rfl)
   try simp only [Act.put, List.setIfInBounds_toArray, List.set_cons_zero, List.set_cons_succ]
   refine tk 3 (some 13) (v := ?_) rfl ?_ ?_
   rotate_left
   · intro wS hSw; (try dsimp only at hSw); go_simp; (try with_reducible rfl)
   try simp only [Act.put, List.setIfInBounds_toArray, List.set_cons_zero, List.set_cons_succ]
   generalize w2.drew = v0 at HC HS HX ⊢
   refine wpAnyH_ready (rs := [1]) (by kernel_rfl) (by simp) ?_
   refine AllReadyH.cons rfl (fun K hK => ?_) AllReadyH.nil
   go_simp
   have h := take_any rb ta cap T j op _ HC.out.rdr HIT.out
   unfold ptr at h
   rw [HQ.out] at h
   unfold ttV at h
   dsimp only at h
   refine h.mono ?_
   rintro e v1 ⟨rfl, hr, hf⟩
   clear h
   have HC : Hid (Cx rb ta cap T w w.heap.size (j + 1) op v1) := HC.out.step hf hr hlt
   have HS : Hid (Box5 v1 w1.heap.size (.int .i64 (xk x)) (.string (bsA (xt x))) (.int .i64 (xn x)) (.int .i64 (xa x)) (.slice s1 (xl x) c1)) := HS.out.fx hf (by omega)
   have HX : Hid (XAt (w.heap.size + 1) v1 x s1) := NdF.keep (Nat.le_refl _) (fun b hb hl => hf.blk b hl (by omega)) HX.out
   clear hr hf
   refine hK.out _ _ ?_ (fun hHz => ?_)
   · (try dsimp only); exact HS.out
   clear hK K hHz
   try simp only [Act.put, List.setIfInBounds_toArray, List.set_cons_zero, List.set_cons_succ]
   refine wpAnyH_ready (rs := [4]) (by kernel_rfl) (by simp) ?_
   refine AllReadyH.cons rfl (fun K hK => ?_) AllReadyH.nil
   go_simp
   have h := HG.out (j + 1) op v1 r4 hop HC.out.rdr HE4.out
   have hv1 : w1.heap.size < v1.heap.size := cell_lt HS.out.c0
   unfold ptr at h
   refine h.mono ?_
   intro e w6 hpost
   clear h
   cases r4 with
   | inl q =>
    obtain ⟨hG, hF⟩ := hpost.no
    unfold GUp at hG
    subst hG
    have HRR : Hid (r = .inl q) := (Option.some.inj HL4.out).symm
    have HF : Hid _ := HC.out.fx.trans hF
    clear hpost hF
    exact ⟨rfl, by rw [HRR.out]; exact ⟨rfl, HF.out⟩⟩
   | inr q =>
    obtain ⟨y, j4⟩ := q
    obtain ⟨⟨⟨s2, c2, rfl, hy⟩, hr4⟩, hF4⟩ := hpost.ok
    dsimp only at hy hr4
    have HC4 : Hid (Cx rb ta cap T w w.heap.size j4 op w6) := HC.out.step hF4 hr4 hlt
    have HS4 : Hid (Box5 w6 w1.heap.size (.int .i64 (xk x)) (.string (bsA (xt x))) (.int .i64 (xn x)) (.int .i64 (xa x)) (.slice s1 (xl x) c1)) := HS.out.fx hF4 (by omega)
    have HX4 : Hid (XAt (w.heap.size + 1) w6 x s1) := NdF.keep (Nat.le_refl _) (fun b hb hl => hF4.blk b hl (by omega)) HX.out
    have HY4 : Hid (XAt v1.heap.size w6 y s2) := hy
    have hw6 := hF4.size
    have HRR : Hid (r = .inr (mkX 8 q2 0 q4 [x, y], j4)) := (Option.some.inj HL4.out).symm
    have hY : Below w6.heap.size w6 (w6.alloc (Obj.cells #[Value.int IntKind.i64 (xk x), Value.string (bsA (xt x)), Value.int IntKind.i64 (xn x), Value.int IntKind.i64 (xa x), Value.slice s1 (xl x) c1, Value.int IntKind.i64 (xk y), Value.string (bsA (xt y)), Value.int IntKind.i64 (xn y), Value.int IntKind.i64 (xa y), Value.slice s2 (xl y) c2] 34)) := (Below.refl _ _).alloc (Nat.le_refl _) _
    refine hK.out _ _ ?_ (fun hHz => ?_)
    · (try dsimp only); exact HS4.out
    clear hpost hK K hHz hy hr4 hF4 HS HC HX HL4
    try simp only [Act.put, List.setIfInBounds_toArray, List.set_cons_zero, List.set_cons_succ]
    unfold xV nV
    refine wpAnyH_ready (rs := [5]) (by kernel_rfl) (by simp) ?_
    refine AllReadyH.cons rfl (fun K hK => ?_) AllReadyH.nil
    go_simp
    refine hK.out _ _ ?_ (fun hHz => ?_)
    · (try dsimp only); exact HS4.out.below hY
    clear hK K hHz
    try simp only [Act.put, List.setIfInBounds_toArray, List.set_cons_zero, List.set_cons_succ]
    refine wpAnyH_ready (rs := [6]) (by kernel_rfl) (by simp) ?_
    refine AllReadyH.cons rfl (fun K hK => ?_) AllReadyH.nil
    go_simp
    have h6 := textNode_any 8 ((q1, q2, q3), q4) (some ⟨w6.heap.size, 0, none⟩) 2 2 (w6.alloc (Obj.cells #[Value.int IntKind.i64 (xk x), Value.string (bsA (xt x)), Value.int IntKind.i64 (xn x), Value.int IntKind.i64 (xa x), Value.slice s1 (xl x) c1, Value.int IntKind.i64 (xk y), Value.string (bsA (xt y)), Value.int IntKind.i64 (xn y), Value.int IntKind.i64 (xa y), Value.slice s2 (xl y) c2] 34))
    unfold ttV nV at h6
    dsimp only at h6
    refine h6.mono ?_
    rintro e w7 ⟨rfl, hb7⟩
    clear h6
    have hb67 : Below w6.heap.size w6 w7 := hY.trans (hb7.mono hY.size)
    have HS7 : Hid (Box5 w7 w1.heap.size (.int .i64 (xk x)) (.string (bsA (xt x))) (.int .i64 (xn x)) (.int .i64 (xa x)) (.slice s1 (xl x) c1)) := HS4.out.below hb67
    have hC7 := HC4.out.below hb67
    have hrow : w7.heap[w6.heap.size]? = some (Obj.cells #[Value.int IntKind.i64 (xk x), Value.string (bsA (xt x)), Value.int IntKind.i64 (xn x), Value.int IntKind.i64 (xa x), Value.slice s1 (xl x) c1, Value.int IntKind.i64 (xk y), Value.string (bsA (xt y)), Value.int IntKind.i64 (xn y), Value.int IntKind.i64 (xa y), Value.slice s2 (xl y) c2] 34) := (hb7.block _ (by simp)).trans (heap_alloc_new w6 _)
    have hO7 := own_of (lo := (w.heap.size + 1)) (A := [(x, s1, c1), (y, s2, c2)]) hrow (by omega) (by simp) rfl
    have hX7 : XD (fun b => (w.heap.size + 1) ≤ b) (w.heap.size + 1) w7 (mkX 8 q2 0 q4 [x, y]) (some ⟨w6.heap.size, 0, none⟩) := own_tree (A := [(x, s1, c1), (y, s2, c2)]) 8 q2 0 q4 hO7 (by omega) (fun p hp => by
     simp only [List.mem_cons, List.not_mem_nil, or_false] at hp
     rcases hp with rfl | rfl
     · exact XD.new (HX4.out.below hb67) (Nat.le_refl _) (fun b hb => hb)
     · exact XD.new (HY4.out.below hb67) (by omega) (fun b hb => by omega))
    have HFin : Hid (PPost rb ta cap T op w (.inr (mkX 8 q2 0 q4 [x, y], j4)) (.returned (nV 8 q2 0 q4 (.slice (some ⟨w6.heap.size, 0, none⟩) 2 2))) (set5 w7 w.heap.size 0 (.int .i64 8) (.string (bsA q2)) (.int .i64 0) (.int .i64 q4) (.slice (some ⟨w6.heap.size, 0, none⟩) 2 2))) := Cx.retn (k := 8) (t := q2) (m := 0) (a := q4) (n := 2) 2 rfl hC7 (XSt.new hX7.at (by omega) (by omega) (by omega)) (Nat.le_refl _) hlt
    have HZ7 : Hid (Box5 w7 w.heap.size (.int .i64 0) (.string ⟨#[]⟩) (.int .i64 0) (.int .i64 0) (.slice none 0 0)) := hC7.res
    refine hK.out _ _ ?_ (fun hHz => ?_)
    · (try dsimp only); exact HS7.out
    clear hK K hHz
    try simp only [Act.put, List.setIfInBounds_toArray, List.set_cons_zero, List.set_cons_succ]
    refine wpAnyH_ready (rs := [7]) (by kernel_rfl) (by simp) ?_
    refine AllReadyH.cons rfl (fun K hK => ?_) AllReadyH.nil
    obtain ⟨z0, z1, z2, z3, z4, f0, f1, f2, f3, f4⟩ := HZ7.out
    go_simp
    clear z0 z1 z2 z3 z4 f0 f1 f2 f3 f4
    refine hK.out _ _ ?_ (fun hHz => ?_)
    · (try dsimp only); exact HS7.out.set5 _ _ _ _ _ _ _ (by omega)
    clear hK K hHz
    try simp only [Act.put, List.setIfInBounds_toArray, List.set_cons_zero, List.set_cons_succ]
    refine wpAnyH_done (by kernel_rfl) ?_ _
    obtain ⟨z0, z1, z2, z3, z4, f0, f1, f2, f3, f4⟩ := own5 HZ7.out (.int .i64 8) (.string (bsA q2)) (.int .i64 0) (.int .i64 q4) (.slice (some ⟨w6.heap.size, 0, none⟩) 2 2)
    clear HC4 HS4 HX4 HY4 HS7 hC7 hrow hO7 hX7 hb67 hb7 hY HZ7
    go_wp2
    refine bodyPost_ret (v := .agg #[.int .i64 8, .string (bsA q2), .int .i64 0, .int .i64 q4, (.slice (some ⟨w6.heap.size, 0, none⟩) 2 2)]) (by unfold set5 at z0 z1 z2 z3 z4; simp [results, Tryz.results219, go_sem, z0, z1, z2, z3, z4]) rfl ?_
    rw [HRR.out]
    exact HFin.out
  | false =>
   rw [hb] at h2
   have HL : Hid ((if isT (tkI T j) 2 [[105, 115]] then gn x j op else if isT (tkI T j) 2 [[98, 101, 116, 119, 101, 101, 110]] then gb x j op else if isT (tkI T j) 2 [[105, 110]] then gi x j op else if isT (tkI T j) 2 [[110, 111, 116]] then gt x j op else okR x j) = some r) := by
    have h := HL.out
    rw [if_neg (by rw [hb]; decide)] at h
    exact h
   clear hb
   go_wp2_with fail
   refine h2.mono ?_
   rintro e w2 ⟨rfl, hb2⟩
   clear h2
   have hb2' := HBEL.out w2 hb2
   have HC : Hid (Cx rb ta cap T w w.heap.size j op w2) := (HC.out.below hb2')
   have HS : Hid (Box5 w2 w1.heap.size (.int .i64 (xk x)) (.string (bsA (xt x))) (.int .i64 (xn x)) (.int .i64 (xa x)) (.slice s1 (xl x) c1)) := (HS.out.below hb2')
   have HX : Hid (XAt (w.heap.size + 1) w2 x s1) := (HX.out.below hb2')
   clear hb2 hb2' HBEL
   have HBEL : Hid (∀ w3, Below w2.heap.size w2 w3 → Below w2.heap.size w2 w3) := fun _ h => h
   have h2 := sees_new rb ta cap T j op 2 #[.string ⟨#[105, 115]⟩] [[105, 115]] rfl (by decide) 1 1 rfl _ HC.out.rdr
   unfold ptr at h2
   (try rw [World.size_alloc] at h2)
   cases hb : isT (tkI T j) 2 [[105, 115]] with
   | true =>
    rw [hb] at h2
    have HIT : Hid (j < T.length) := isT_lt (by decide) hb
    have HL : Hid (gn x j op = some r) := by
     have h := HL.out
     rw [if_pos hb] at h
     exact h
    clear hb
    go_wp2_with fail
    refine h2.mono ?_
    rintro e w2 ⟨rfl, hb2⟩
    clear h2
    have hb2' := HBEL.out w2 hb2
    have HC : Hid (Cx rb ta cap T w w.heap.size j op w2) := (HC.out.below hb2')
    have HS : Hid (Box5 w2 w1.heap.size (.int .i64 (xk x)) (.string (bsA (xt x))) (.int .i64 (xn x)) (.int .i64 (xa x)) (.slice s1 (xl x) c1)) := (HS.out.below hb2')
    have HX : Hid (XAt (w.heap.size + 1) w2 x s1) := (HX.out.below hb2')
    clear hb2 hb2' HBEL
    have h := HN.out (w.heap.size + 1) w2.heap.size x s1 c1 j op w2 r hop HC.out.rdr HIT.out (XD.old HX.out (by omega) (Nat.le_refl _)) (by omega) (by have := HC.out.lt; omega) (Nat.le_refl _) HL.out
    unfold ptr xV nV at h
    obtain ⟨y0, y1, y2, y3, y4, _, _, _, _, _⟩ := HS.out
    clear HS HX
    go_wp2_with fail
    refine h.mono ?_
    intro e w4 hpost
    clear h y0 y1 y2 y3 y4
    cases r with
    | inl q =>
     obtain ⟨hG, hF⟩ := hpost.no
     unfold GUp at hG
     subst hG
     have HF : Hid _ := HC.out.fx.trans hF
     clear hpost hF
     go_wp2
     exact ⟨rfl, rfl, HF.out⟩
    | inr q =>
     obtain ⟨y, j4⟩ := q
     obtain ⟨⟨⟨s4, c4, rfl, hy⟩, hr4⟩, hF4⟩ := hpost.ok
     dsimp only at hy hr4
     have hC := HC.out.step hF4 hr4 hlt
     have HFin : Hid _ := Cx.ret c4 hC (XSt.new hy.at (by omega) (by omega) (by omega)) (Nat.le_refl _) hlt
     obtain ⟨z0, z1, z2, z3, z4, f0, f1, f2, f3, f4⟩ := own5 hC.res (.int .i64 (xk y)) (.string (bsA (xt y))) (.int .i64 (xn y)) (.int .i64 (xa y)) (.slice s4 (xl y) c4)
     obtain ⟨d0, d1, d2, d3, d4, g0, g1, g2, g3, g4⟩ := hC.res
     clear hC hpost hy hr4 hF4 HC
     unfold xV nV
     go_wp2
     refine bodyPost_ret (v := .agg #[.int .i64 (xk y), .string (bsA (xt y)), .int .i64 (xn y), .int .i64 (xa y), .slice s4 (xl y) c4]) (by unfold set5 at z0 z1 z2 z3 z4; simp [results, Tryz.results219, go_sem, z0, z1, z2, z3, z4]) rfl ?_
     exact HFin.out
   | false =>
    rw [hb] at h2
    have HL : Hid ((if isT (tkI T j) 2 [[98, 101, 116, 119, 101, 101, 110]] then gb x j op else if isT (tkI T j) 2 [[105, 110]] then gi x j op else if isT (tkI T j) 2 [[110, 111, 116]] then gt x j op else okR x j) = some r) := by
     have h := HL.out
     rw [if_neg (by rw [hb]; decide)] at h
     exact h
    clear hb
    go_wp2_with fail
    refine h2.mono ?_
    rintro e w2 ⟨rfl, hb2⟩
    clear h2
    have hb2' := HBEL.out w2 hb2
    have HC : Hid (Cx rb ta cap T w w.heap.size j op w2) := (HC.out.below hb2')
    have HS : Hid (Box5 w2 w1.heap.size (.int .i64 (xk x)) (.string (bsA (xt x))) (.int .i64 (xn x)) (.int .i64 (xa x)) (.slice s1 (xl x) c1)) := (HS.out.below hb2')
    have HX : Hid (XAt (w.heap.size + 1) w2 x s1) := (HX.out.below hb2')
    clear hb2 hb2' HBEL
    have HBEL : Hid (∀ w3, Below w2.heap.size w2 w3 → Below w2.heap.size w2 w3) := fun _ h => h
    have h2 := sees_new rb ta cap T j op 2 #[.string ⟨#[98, 101, 116, 119, 101, 101, 110]⟩] [[98, 101, 116, 119, 101, 101, 110]] rfl (by decide) 1 1 rfl _ HC.out.rdr
    unfold ptr at h2
    (try rw [World.size_alloc] at h2)
    cases hb : isT (tkI T j) 2 [[98, 101, 116, 119, 101, 101, 110]] with
    | true =>
     rw [hb] at h2
     have HIT : Hid (j < T.length) := isT_lt (by decide) hb
     have HL : Hid (gb x j op = some r) := by
      have h := HL.out
      rw [if_pos hb] at h
      exact h
     clear hb
     go_wp2_with fail
     refine h2.mono ?_
     rintro e w2 ⟨rfl, hb2⟩
     clear h2
     have hb2' := HBEL.out w2 hb2
     have HC : Hid (Cx rb ta cap T w w.heap.size j op w2) := (HC.out.below hb2')
     have HS : Hid (Box5 w2 w1.heap.size (.int .i64 (xk x)) (.string (bsA (xt x))) (.int .i64 (xn x)) (.int .i64 (xa x)) (.slice s1 (xl x) c1)) := (HS.out.below hb2')
     have HX : Hid (XAt (w.heap.size + 1) w2 x s1) := (HX.out.below hb2')
     clear hb2 hb2' HBEL
     have h := HBT.out (w.heap.size + 1) w2.heap.size x s1 c1 j op w2 r hop HC.out.rdr HIT.out (XD.old HX.out (by omega) (Nat.le_refl _)) (by omega) (by have := HC.out.lt; omega) (Nat.le_refl _) HL.out
     unfold ptr xV nV at h
     obtain ⟨y0, y1, y2, y3, y4, _, _, _, _, _⟩ := HS.out
     clear HS HX
     go_wp2_with fail
     refine h.mono ?_
     intro e w4 hpost
     clear h y0 y1 y2 y3 y4
     cases r with
     | inl q =>
      obtain ⟨hG, hF⟩ := hpost.no
      unfold GUp at hG
      subst hG
      have HF : Hid _ := HC.out.fx.trans hF
      clear hpost hF
      go_wp2
      exact ⟨rfl, rfl, HF.out⟩
     | inr q =>
      obtain ⟨y, j4⟩ := q
      obtain ⟨⟨⟨s4, c4, rfl, hy⟩, hr4⟩, hF4⟩ := hpost.ok
      dsimp only at hy hr4
      have hC := HC.out.step hF4 hr4 hlt
      have HFin : Hid _ := Cx.ret c4 hC (XSt.new hy.at (by omega) (by omega) (by omega)) (Nat.le_refl _) hlt
      obtain ⟨z0, z1, z2, z3, z4, f0, f1, f2, f3, f4⟩ := own5 hC.res (.int .i64 (xk y)) (.string (bsA (xt y))) (.int .i64 (xn y)) (.int .i64 (xa y)) (.slice s4 (xl y) c4)
      obtain ⟨d0, d1, d2, d3, d4, g0, g1, g2, g3, g4⟩ := hC.res
      clear hC hpost hy hr4 hF4 HC
      unfold xV nV
      go_wp2
      refine bodyPost_ret (v := .agg #[.int .i64 (xk y), .string (bsA (xt y)), .int .i64 (xn y), .int .i64 (xa y), .slice s4 (xl y) c4]) (by unfold set5 at z0 z1 z2 z3 z4; simp [results, Tryz.results219, go_sem, z0, z1, z2, z3, z4]) rfl ?_
      exact HFin.out
    | false =>
     rw [hb] at h2
     have HL : Hid ((if isT (tkI T j) 2 [[105, 110]] then gi x j op else if isT (tkI T j) 2 [[110, 111, 116]] then gt x j op else okR x j) = some r) := by
      have h := HL.out
      rw [if_neg (by rw [hb]; decide)] at h
      exact h
     clear hb
     go_wp2_with fail
     refine h2.mono ?_
     rintro e w2 ⟨rfl, hb2⟩
     clear h2
     have hb2' := HBEL.out w2 hb2
     have HC : Hid (Cx rb ta cap T w w.heap.size j op w2) := (HC.out.below hb2')
     have HS : Hid (Box5 w2 w1.heap.size (.int .i64 (xk x)) (.string (bsA (xt x))) (.int .i64 (xn x)) (.int .i64 (xa x)) (.slice s1 (xl x) c1)) := (HS.out.below hb2')
     have HX : Hid (XAt (w.heap.size + 1) w2 x s1) := (HX.out.below hb2')
     clear hb2 hb2' HBEL
     have HBEL : Hid (∀ w3, Below w2.heap.size w2 w3 → Below w2.heap.size w2 w3) := fun _ h => h
     have h2 := sees_new rb ta cap T j op 2 #[.string ⟨#[105, 110]⟩] [[105, 110]] rfl (by decide) 1 1 rfl _ HC.out.rdr
     unfold ptr at h2
     (try rw [World.size_alloc] at h2)
     cases hb : isT (tkI T j) 2 [[105, 110]] with
     | true =>
      rw [hb] at h2
      have HIT : Hid (j < T.length) := isT_lt (by decide) hb
      have HL : Hid (gi x j op = some r) := by
       have h := HL.out
       rw [if_pos hb] at h
       exact h
      clear hb
      go_wp2_with fail
      refine h2.mono ?_
      rintro e w2 ⟨rfl, hb2⟩
      clear h2
      have hb2' := HBEL.out w2 hb2
      have HC : Hid (Cx rb ta cap T w w.heap.size j op w2) := (HC.out.below hb2')
      have HS : Hid (Box5 w2 w1.heap.size (.int .i64 (xk x)) (.string (bsA (xt x))) (.int .i64 (xn x)) (.int .i64 (xa x)) (.slice s1 (xl x) c1)) := (HS.out.below hb2')
      have HX : Hid (XAt (w.heap.size + 1) w2 x s1) := (HX.out.below hb2')
      clear hb2 hb2' HBEL
      have h := HIN.out (w.heap.size + 1) w2.heap.size x s1 c1 j op w2 r hop HC.out.rdr HIT.out (XD.old HX.out (by omega) (Nat.le_refl _)) (by omega) (by have := HC.out.lt; omega) (Nat.le_refl _) HL.out
      unfold ptr xV nV at h
      obtain ⟨y0, y1, y2, y3, y4, _, _, _, _, _⟩ := HS.out
      clear HS HX
      go_wp2_with fail
      refine h.mono ?_
      intro e w4 hpost
      clear h y0 y1 y2 y3 y4
      cases r with
      | inl q =>
       obtain ⟨hG, hF⟩ := hpost.no
       unfold GUp at hG
       subst hG
       have HF : Hid _ := HC.out.fx.trans hF
       clear hpost hF
       go_wp2
       exact ⟨rfl, rfl, HF.out⟩
      | inr q =>
       obtain ⟨y, j4⟩ := q
       obtain ⟨⟨⟨s4, c4, rfl, hy⟩, hr4⟩, hF4⟩ := hpost.ok
       dsimp only at hy hr4
       have hC := HC.out.step hF4 hr4 hlt
       have HFin : Hid _ := Cx.ret c4 hC (XSt.new hy.at (by omega) (by omega) (by omega)) (Nat.le_refl _) hlt
       obtain ⟨z0, z1, z2, z3, z4, f0, f1, f2, f3, f4⟩ := own5 hC.res (.int .i64 (xk y)) (.string (bsA (xt y))) (.int .i64 (xn y)) (.int .i64 (xa y)) (.slice s4 (xl y) c4)
       obtain ⟨d0, d1, d2, d3, d4, g0, g1, g2, g3, g4⟩ := hC.res
       clear hC hpost hy hr4 hF4 HC
       unfold xV nV
       go_wp2
       refine bodyPost_ret (v := .agg #[.int .i64 (xk y), .string (bsA (xt y)), .int .i64 (xn y), .int .i64 (xa y), .slice s4 (xl y) c4]) (by unfold set5 at z0 z1 z2 z3 z4; simp [results, Tryz.results219, go_sem, z0, z1, z2, z3, z4]) rfl ?_
       exact HFin.out
     | false =>
      rw [hb] at h2
      have HL : Hid ((if isT (tkI T j) 2 [[110, 111, 116]] then gt x j op else okR x j) = some r) := by
       have h := HL.out
       rw [if_neg (by rw [hb]; decide)] at h
       exact h
      clear hb
      go_wp2_with fail
      refine h2.mono ?_
      rintro e w2 ⟨rfl, hb2⟩
      clear h2
      have hb2' := HBEL.out w2 hb2
      have HC : Hid (Cx rb ta cap T w w.heap.size j op w2) := (HC.out.below hb2')
      have HS : Hid (Box5 w2 w1.heap.size (.int .i64 (xk x)) (.string (bsA (xt x))) (.int .i64 (xn x)) (.int .i64 (xa x)) (.slice s1 (xl x) c1)) := (HS.out.below hb2')
      have HX : Hid (XAt (w.heap.size + 1) w2 x s1) := (HX.out.below hb2')
      clear hb2 hb2' HBEL
      have HBEL : Hid (∀ w3, Below w2.heap.size w2 w3 → Below w2.heap.size w2 w3) := fun _ h => h
      have h2 := sees_new rb ta cap T j op 2 #[.string ⟨#[110, 111, 116]⟩] [[110, 111, 116]] rfl (by decide) 1 1 rfl _ HC.out.rdr
      unfold ptr at h2
      (try rw [World.size_alloc] at h2)
      cases hb : isT (tkI T j) 2 [[110, 111, 116]] with
      | true =>
       rw [hb] at h2
       have HIT : Hid (j < T.length) := isT_lt (by decide) hb
       have HL : Hid (gt x j op = some r) := by
        have h := HL.out
        rw [if_pos hb] at h
        exact h
       clear hb
       go_wp2_with fail
       refine h2.mono ?_
       rintro e w2 ⟨rfl, hb2⟩
       clear h2
       have hb2' := HBEL.out w2 hb2
       have HC : Hid (Cx rb ta cap T w w.heap.size j op w2) := (HC.out.below hb2')
       have HS : Hid (Box5 w2 w1.heap.size (.int .i64 (xk x)) (.string (bsA (xt x))) (.int .i64 (xn x)) (.int .i64 (xa x)) (.slice s1 (xl x) c1)) := (HS.out.below hb2')
       have HX : Hid (XAt (w.heap.size + 1) w2 x s1) := (HX.out.below hb2')
       clear hb2 hb2' HBEL
       have h := HNA.out (w.heap.size + 1) w2.heap.size x s1 c1 j op w2 r hop HC.out.rdr HIT.out (XD.old HX.out (by omega) (Nat.le_refl _)) (by omega) (by have := HC.out.lt; omega) (Nat.le_refl _) HL.out
       unfold ptr xV nV at h
       obtain ⟨y0, y1, y2, y3, y4, _, _, _, _, _⟩ := HS.out
       clear HS HX
       go_wp2_with fail
       refine h.mono ?_
       intro e w4 hpost
       clear h y0 y1 y2 y3 y4
       cases r with
       | inl q =>
        obtain ⟨hG, hF⟩ := hpost.no
        unfold GUp at hG
        subst hG
        have HF : Hid _ := HC.out.fx.trans hF
        clear hpost hF
        go_wp2
        exact ⟨rfl, rfl, HF.out⟩
       | inr q =>
        obtain ⟨y, j4⟩ := q
        obtain ⟨⟨⟨s4, c4, rfl, hy⟩, hr4⟩, hF4⟩ := hpost.ok
        dsimp only at hy hr4
        have hC := HC.out.step hF4 hr4 hlt
        have HFin : Hid _ := Cx.ret c4 hC (XSt.new hy.at (by omega) (by omega) (by omega)) (Nat.le_refl _) hlt
        obtain ⟨z0, z1, z2, z3, z4, f0, f1, f2, f3, f4⟩ := own5 hC.res (.int .i64 (xk y)) (.string (bsA (xt y))) (.int .i64 (xn y)) (.int .i64 (xa y)) (.slice s4 (xl y) c4)
        obtain ⟨d0, d1, d2, d3, d4, g0, g1, g2, g3, g4⟩ := hC.res
        clear hC hpost hy hr4 hF4 HC
        unfold xV nV
        go_wp2
        refine bodyPost_ret (v := .agg #[.int .i64 (xk y), .string (bsA (xt y)), .int .i64 (xn y), .int .i64 (xa y), .slice s4 (xl y) c4]) (by unfold set5 at z0 z1 z2 z3 z4; simp [results, Tryz.results219, go_sem, z0, z1, z2, z3, z4]) rfl ?_
        exact HFin.out
      | false =>
       rw [hb] at h2
       have HL : Hid ((okR x j) = some r) := by
        have h := HL.out
        rw [if_neg (by rw [hb]; decide)] at h
        exact h
       clear hb
       go_wp2_with fail
       refine h2.mono ?_
       rintro e w2 ⟨rfl, hb2⟩
       clear h2
       have hb2' := HBEL.out w2 hb2
       have HC : Hid (Cx rb ta cap T w w.heap.size j op w2) := (HC.out.below hb2')
       have HS : Hid (Box5 w2 w1.heap.size (.int .i64 (xk x)) (.string (bsA (xt x))) (.int .i64 (xn x)) (.int .i64 (xa x)) (.slice s1 (xl x) c1)) := (HS.out.below hb2')
       have HX : Hid (XAt (w.heap.size + 1) w2 x s1) := (HX.out.below hb2')
       clear hb2 hb2' HBEL
       have HBEL : Hid (∀ w3, Below w2.heap.size w2 w3 → Below w2.heap.size w2 w3) := fun _ h => h
       have HRR : Hid (r = .inr (x, j)) := (Option.some.inj HL.out).symm
       have hC := HC.out
       have HFin : Hid _ := Cx.ret c1 hC (XSt.new HX.out (by omega) (by omega) (by omega)) (Nat.le_refl _) hlt
       obtain ⟨y0, y1, y2, y3, y4, _, _, _, _, _⟩ := HS.out
       obtain ⟨z0, z1, z2, z3, z4, f0, f1, f2, f3, f4⟩ := own5 hC.res (.int .i64 (xk x)) (.string (bsA (xt x))) (.int .i64 (xn x)) (.int .i64 (xa x)) (.slice s1 (xl x) c1)
       obtain ⟨d0, d1, d2, d3, d4, g0, g1, g2, g3, g4⟩ := hC.res
       clear hC HC HS HX
       go_wp2
       refine bodyPost_ret (v := .agg #[.int .i64 (xk x), .string (bsA (xt x)), .int .i64 (xn x), .int .i64 (xa x), .slice s1 (xl x) c1]) (by unfold set5 at z0 z1 z2 z3 z4; simp [results, Tryz.results219, go_sem, z0, z1, z2, z3, z4]) rfl ?_
       rw [HRR.out]
       exact HFin.out
end Go.Proofs.YtgdndahhledikaaGreatDoor
