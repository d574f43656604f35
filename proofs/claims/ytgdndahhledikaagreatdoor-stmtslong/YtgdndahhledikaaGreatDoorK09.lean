/- Nam. -/
import Derived.Test.YtgdndahhledikaaGreatDoorK08
namespace Go.Proofs.YtgdndahhledikaaGreatDoor
open Go.ChangeShapes Go.WideShapes Go.ChangeAt Go.RowKit
set_option linter.unusedSimpArgs false
set_option maxRecDepth 20000
set_option maxHeartbeats 4000000
def namedG (T : List Tt) (gl : Nat → Nat → Rz (List X)) (i op : Nat) : Rz X :=
 if i < T.length then
  if isT (tkI T (i + 1)) 6 [[40]] then callQ T gl (tkI T i) (i + 1) op
  else if isT (tkI T (i + 1)) 6 [[46]] = true ∧ (tkI T (i + 2)).1.1 = 1 then okR (mkX 6 (tkI T (i + 2)).1.2.1 0 (tkI T i).2 [tnd 15 (tkI T i) []]) (i + 3)
  else okR (tnd 6 (tkI T i) []) (i + 1)
 else none
theorem named_any (rb : Nat) (ta : Option Addr) (cap : Nat) (T : List Tt) (gl : Nat → Nat → Rz (List X)) (hgl : LReads rb ta cap T 234 gl) : Reads rb ta cap T 250 (namedG T gl) := by
 intro i op w r hop hr h
 have hlt := cell_lt hr.c0
 have hi : i < T.length := by
  rcases Nat.lt_or_ge i T.length with h1 | h1
  · exact h1
  ·
   unfold namedG at h
   rw [if_neg (by omega)] at h
   cases h
 have HG : Hid (LReads rb ta cap T 234 gl) := hgl
 have hA : Below w.heap.size w (w.alloc (Obj.cells #[Value.int IntKind.i64 0, Value.string { data := #[] }, Value.int IntKind.i64 0, Value.int IntKind.i64 0, Value.slice none 0 0] 34)) := (Below.refl _ _).alloc (Nat.le_refl _) _
 have HC0 : Hid (Cx rb ta cap T w w.heap.size i op (w.alloc (Obj.cells #[Value.int IntKind.i64 0, Value.string { data := #[] }, Value.int IntKind.i64 0, Value.int IntKind.i64 0, Value.slice none 0 0] 34))) := ⟨Fx.below hA, hr.below hA, Box5.new w _ _ _ _ _ 34⟩
 have h1 := take_any rb ta cap T i op _ HC0.out.rdr hi
 obtain ⟨q, hq⟩ : ∃ q, tkI T i = q := ⟨_, rfl⟩
 have HH : Hid ((if isT (tkI T (i + 1)) 6 [[40]] then callQ T gl q (i + 1) op else if isT (tkI T (i + 1)) 6 [[46]] = true ∧ (tkI T (i + 2)).1.1 = 1 then okR (mkX 6 (tkI T (i + 2)).1.2.1 0 q.2 [tnd 15 q []]) (i + 3) else okR (tnd 6 q []) (i + 1)) = some r) := by
  unfold namedG at h
  rw [if_pos hi, hq] at h
  exact h
 rw [hq] at h1
 obtain ⟨⟨q1, q2, q3⟩, q4⟩ := q
 unfold ptr ttV at h1
 unfold ptr
 dsimp only at h1
 have HI0 : Hid (i < T.length) := hi
 clear hr h hgl hq hA hi
 go_enter Tryz.func250, Tryz.ntmps250
 go_wp2_with fail
 refine h1.mono ?_
 rintro e w1 ⟨rfl, hr1, hf1⟩
 clear h1
 have HC1 : Hid (Cx rb ta cap T w w.heap.size (i + 1) op (w1.alloc (Obj.cells #[Value.int IntKind.i64 q1, Value.string (bsA q2), Value.int IntKind.i64 q3, Value.int IntKind.i64 q4] 26))) := (HC0.out.step hf1 hr1 hlt).alloc _
 have hs1 : w.heap.size < w1.heap.size := by have h := hf1.size; simp at h; omega
 have HT1 : Hid (B4 (w1.alloc (Obj.cells #[Value.int IntKind.i64 q1, Value.string (bsA q2), Value.int IntKind.i64 q3, Value.int IntKind.i64 q4] 26)) w1.heap.size (.int .i64 q1) (.string (bsA q2)) (.int .i64 q3) (.int .i64 q4)) := B4.new w1 _ _ _ _ 26
 have h2 := sees_new rb ta cap T (i + 1) op 6 #[.string ⟨#[40]⟩] [[40]] rfl (by decide) 1 1 rfl (w1.alloc (Obj.cells #[Value.int IntKind.i64 q1, Value.string (bsA q2), Value.int IntKind.i64 q3, Value.int IntKind.i64 q4] 26)) HC1.out.rdr
 unfold ptr at h2
 rw [World.size_alloc] at h2
 clear hr1 hf1 HC0
 cases hb : isT (tkI T (i + 1)) 6 [[40]] with
 | true =>
  rw [hb] at h2
  have HL : Hid (callQ T gl ((q1, q2, q3), q4) (i + 1) op = some r) := by
   have h := HH.out
   rw [if_pos hb] at h
   exact h
  have hi1 : i + 1 < T.length := isT_lt (by decide) hb
  clear HH hb
  go_wp2_with fail
  refine h2.mono ?_
  rintro e w2 ⟨rfl, hb2⟩
  clear h2
  have hb2' : Below ((w1.alloc (Obj.cells #[Value.int IntKind.i64 q1, Value.string (bsA q2), Value.int IntKind.i64 q3, Value.int IntKind.i64 q4] 26))).heap.size (w1.alloc (Obj.cells #[Value.int IntKind.i64 q1, Value.string (bsA q2), Value.int IntKind.i64 q3, Value.int IntKind.i64 q4] 26)) w2 := by rw [World.size_alloc]; exact hb2
  have HC : Hid (Cx rb ta cap T w w.heap.size (i + 1) op w2) := HC1.out.below hb2'
  obtain ⟨y0, y1, y2, y3⟩ := HT1.out.below hb2'
  have h3 := call_any rb ta cap T gl HG.out ((q1, q2, q3), q4) (i + 1) op w2 r hop HC.out.rdr hi1 HL.out
  unfold ptr ttV at h3
  dsimp only at h3
  have hs2 : w1.heap.size < w2.heap.size := cell_lt y0
  clear hb2 hb2' HC1 HT1 HG HL
  go_wp2_with fail
  refine h3.mono ?_
  intro e w3 hpost
  clear h3 y0 y1 y2 y3
  cases r with
  | inl q =>
   obtain ⟨hG, hF⟩ := hpost.no
   unfold GUp at hG
   subst hG
   have HF : Hid _ := HC.out.fx.trans hF
   clear hpost hF
   go_wp2
   exact ⟨rfl, rfl, HF.out⟩
  | inr q =>
   obtain ⟨x, j⟩ := q
   obtain ⟨⟨⟨s1, c1, rfl, hx⟩, hr3⟩, hF3⟩ := hpost.ok
   dsimp only at hx hr3
   have hC := HC.out.step hF3 hr3 hlt
   have HFin : Hid _ := Cx.ret c1 hC (XSt.new hx (by omega) (by omega) (by omega)) (Nat.le_refl _) hlt
   obtain ⟨z0, z1, z2, z3, z4, f0, f1, f2, f3, f4⟩ := own5 hC.res (.int .i64 (xk x)) (.string (bsA (xt x))) (.int .i64 (xn x)) (.int .i64 (xa x)) (.slice s1 (xl x) c1)
   obtain ⟨d0, d1, d2, d3, d4, g0, g1, g2, g3, g4⟩ := hC.res
   clear hpost hx hr3 hF3 hC HC
   unfold xV nV
   go_wp2
   refine bodyPost_ret (v := .agg #[.int .i64 (xk x), .string (bsA (xt x)), .int .i64 (xn x), .int .i64 (xa x), .slice s1 (xl x) c1]) (by unfold set5 at z0 z1 z2 z3 z4; simp [results, Tryz.results250, go_sem, z0, z1, z2, z3, z4]) rfl ?_
   exact HFin.out
 | false =>
  rw [hb] at h2
  have HL : Hid ((if isT (tkI T (i + 1)) 6 [[46]] = true ∧ (tkI T (i + 2)).1.1 = 1 then okR (mkX 6 (tkI T (i + 2)).1.2.1 0 q4 [mkX 15 q2 0 q4 []]) (i + 3) else okR (mkX 6 q2 0 q4 []) (i + 1)) = some r) := by
   have h := HH.out
   rw [if_neg (by rw [hb]; decide)] at h
   exact h
  clear HH hb HG
  go_wp2_with fail
  refine h2.mono ?_
  rintro e w2 ⟨rfl, hb2⟩
  clear h2
  have hb2' : Below ((w1.alloc (Obj.cells #[Value.int IntKind.i64 q1, Value.string (bsA q2), Value.int IntKind.i64 q3, Value.int IntKind.i64 q4] 26))).heap.size (w1.alloc (Obj.cells #[Value.int IntKind.i64 q1, Value.string (bsA q2), Value.int IntKind.i64 q3, Value.int IntKind.i64 q4] 26)) w2 := by rw [World.size_alloc]; exact hb2
  have HC2 : Hid (Cx rb ta cap T w w.heap.size (i + 1) op w2) := HC1.out.below hb2'
  have HT2 : Hid (B4 w2 w1.heap.size (.int .i64 q1) (.string (bsA q2)) (.int .i64 q3) (.int .i64 q4)) := HT1.out.below hb2'
  have h3 := sees_new rb ta cap T (i + 1) op 6 #[.string ⟨#[46]⟩] [[46]] rfl (by decide) 1 1 rfl w2 HC2.out.rdr
  unfold ptr at h3
  clear hb2 hb2' HC1 HT1
  cases hb : isT (tkI T (i + 1)) 6 [[46]] with
  | false =>
   rw [hb] at h3
   have HRR : Hid (r = .inr (mkX 6 q2 0 q4 [], i + 1)) := by
    have h := HL.out
    rw [if_neg (by rw [hb]; exact fun h => absurd h.1 (by decide))] at h
    exact (Option.some.inj h).symm
   clear HL hb
   go_wp2_with fail
   refine h3.mono ?_
   rintro e w3 ⟨rfl, hb3⟩
   clear h3
   have HC : Hid (Cx rb ta cap T w w.heap.size (i + 1) op w3) := HC2.out.below hb3
   have HT : Hid (B4 w3 w1.heap.size (.int .i64 q1) (.string (bsA q2)) (.int .i64 q3) (.int .i64 q4)) := HT2.out.below hb3
   clear hb3 HC2 HT2
   have h5 := textNode_any 6 ((q1, q2, q3), q4) none 0 0 w3
   unfold ttV nV at h5
   dsimp only at h5
   obtain ⟨y0, y1, y2, y3⟩ := HT.out
   go_wp2_with fail
   refine h5.mono ?_
   rintro e w5 ⟨rfl, hb5⟩
   clear h5
   have hC := HC.out.below hb5
   have HFin : Hid _ := Cx.retn (k := 6) (t := q2) (m := 0) (a := q4) (n := 0) 0 rfl hC (XSt.leaf 6 q2 0 q4 none) (by omega) hlt
   obtain ⟨z0, z1, z2, z3, z4, f0, f1, f2, f3, f4⟩ := own5 hC.res (.int .i64 6) (.string (bsA q2)) (.int .i64 0) (.int .i64 q4) (.slice none 0 0)
   obtain ⟨d0, d1, d2, d3, d4, g0, g1, g2, g3, g4⟩ := hC.res
   clear hC hb5 HC HT y0 y1 y2 y3
   go_wp2
   refine bodyPost_ret (v := .agg #[.int .i64 6, .string (bsA q2), .int .i64 0, .int .i64 q4, .slice none 0 0]) (by unfold set5 at z0 z1 z2 z3 z4; simp [results, Tryz.results250, go_sem, z0, z1, z2, z3, z4]) rfl ?_
   rw [HRR.out]
   exact HFin.out
  | true =>
   rw [hb] at h3
   have hi1 : i + 1 < T.length := isT_lt (by decide) hb
   obtain ⟨u, hu⟩ : ∃ u, tkI T (i + 2) = u := ⟨_, rfl⟩
   have HU : Hid (tkI T (i + 2) = u) := hu
   have HL2 : Hid ((if u.1.1 = 1 then okR (mkX 6 u.1.2.1 0 q4 [mkX 15 q2 0 q4 []]) (i + 3) else okR (mkX 6 q2 0 q4 []) (i + 1)) = some r) := by
    have h := HL.out
    rw [hu, hb] at h
    show _ = _
    rw [← h]
    by_cases h1 : u.1.1 = 1
    · rw [if_pos h1, if_pos ⟨rfl, h1⟩]
    · rw [if_neg h1, if_neg (fun h => h1 h.2)]
   clear HL hb hu
   obtain ⟨⟨u1, u2, u3⟩, u4⟩ := u
   go_wp2_with fail
   refine h3.mono ?_
   rintro e w3 ⟨rfl, hb3⟩
   clear h3
   have HC3 : Hid (Cx rb ta cap T w w.heap.size (i + 1) op w3) := HC2.out.below hb3
   have HT3 : Hid (B4 w3 w1.heap.size (.int .i64 q1) (.string (bsA q2)) (.int .i64 q3) (.int .i64 q4)) := HT2.out.below hb3
   have h4 := token_any rb ta cap T (i + 1) op 1 w3 HC3.out.rdr (by omega)
   rw [show i + 1 + 1 = i + 2 from rfl, HU.out] at h4
   unfold ptr ttV at h4
   dsimp only at h4
   have hfd := field51_0
   clear hb3 HC2 HT2
   by_cases hk : u1 = 1
   ·
    have hkb : (u1 == 1) = true := by rw [hk]; rfl
    have HRR : Hid (r = .inr (mkX 6 u2 0 q4 [mkX 15 q2 0 q4 []], i + 3)) := by
     have h := HL2.out
     (try dsimp only at h)
     rw [if_pos hk] at h
     exact (Option.some.inj h).symm
    have HI2 : Hid (i + 2 < T.length) := by
     rcases Nat.lt_or_ge (i + 2) T.length with h1 | h1
     · exact h1
     ·
      have h := HU.out
      rw [tkI_end h1] at h
      have h2 := congrArg (fun t : Tt => t.1.1) h
      dsimp only [tkE] at h2
      omega
    clear hk HL2
    go_wp2_with fail
    refine h4.mono ?_
    rintro e w4 ⟨rfl, hb4⟩
    clear h4
    have HC4 : Hid (Cx rb ta cap T w w.heap.size (i + 1) op w4) := HC3.out.below hb4
    have HT4 : Hid (B4 w4 w1.heap.size (.int .i64 q1) (.string (bsA q2)) (.int .i64 q3) (.int .i64 q4)) := HT3.out.below hb4
    have h5 := take_any rb ta cap T (i + 1) op w4 HC4.out.rdr hi1
    unfold ptr at h5
    clear hb4 HC3 HT3
    go_wp2_with fail
    refine h5.mono ?_
    rintro e w5 ⟨rfl, hr5, hf5⟩
    clear h5 hfd hkb
    have HC5 : Hid (Cx rb ta cap T w w.heap.size (i + 2) op w5) := HC4.out.step hf5 hr5 hlt
    have HT5 : Hid (B4 w5 w1.heap.size (.int .i64 q1) (.string (bsA q2)) (.int .i64 q3) (.int .i64 q4)) := HT4.out.fx hf5 (by omega)
    have hs5 : w1.heap.size < w5.heap.size := cell_lt HT5.out.c0
    clear hr5 hf5 HC4 HT4
    generalize tkI T (i + 1) = tq
    obtain ⟨⟨p1, p2, p3⟩, p4⟩ := tq
    unfold ttV
    dsimp only
    go_wp2_with fail
    go_cut [4] from 26 to 31 (fun s4 wx => ∃ nb gb, s4 = .pointer (some ⟨nb, 0, none⟩) ∧ RgO rb ta cap T w w.heap.size w5.heap.size (i + 3) op (Obj.cells #[Value.int IntKind.i64 15, Value.string (bsA q2), Value.int IntKind.i64 0, Value.int IntKind.i64 q4, Value.slice none 0 0] 34) nb gb (.int .i64 6) (.string (bsA u2)) (.int .i64 0) (.int .i64 u4) (.slice (some ⟨gb, 0, none⟩) 1 1) wx ∧ B4 wx w1.heap.size (.int .i64 q1) (.string (bsA q2)) (.int .i64 q3) (.int .i64 q4))
    case first =>
     have HI : Hid (RgI rb ta cap T w w.heap.size w5.heap.size (i + 2) op (Obj.cells #[Value.int IntKind.i64 15, Value.string (bsA q2), Value.int IntKind.i64 0, Value.int IntKind.i64 q4, Value.slice none 0 0] 34) none none w5.drew) := RgI.start HC5.out.drew (Nat.le_refl _)
     have HS : Hid (B4 w5.drew w1.heap.size (.int .i64 q1) (.string (bsA q2)) (.int .i64 q3) (.int .i64 q4)) := HT5.out.below (Below.refl _ _).drew
     clear HC5 HT5 HRR
     refine wp_region_held_drew (S := (fun wS => B4 wS w1.heap.size (.int .i64 q1) (.string (bsA q2)) (.int .i64 q3) (.int .i64 q4))) (by kernel_rfl) ?_ (fun hHeld => ?_)
     · (try dsimp only); exact HS.out
     refine tk 0 (some 26) (v := ?_) rfl ?_ ?_
     rotate_left
     · intro wS hSw; (try dsimp only at hSw); go_simp; (try with_reducible rfl)
     try simp only [Act.put, List.setIfInBounds_toArray, List.set_cons_zero, List.set_cons_succ]
     refine tk 2 (some 28) (v := ?_) rfl ?_ ?_
     rotate_left
     · intro wS hSw; (try dsimp only at hSw); have y0 := hSw.c0; have y1 := hSw.c1; have y2 := hSw.c2; have y3 := hSw.c3; go_simp; (try with_reducible rfl)
     try simp only [Act.put, List.setIfInBounds_toArray, List.set_cons_zero, List.set_cons_succ]
     generalize w5.drew = v0 at HI HS ⊢
     refine wpAnyH_ready (rs := [1, 6]) (by kernel_rfl) (by simp) ?_
     refine AllReadyH.cons rfl (fun K hK => ?_) (AllReadyH.cons rfl (fun K hK => ?_) AllReadyH.nil)
     ·
      go_simp
      have h := take_any rb ta cap T (i + 2) op _ HI.out.cx.rdr HI2.out
      unfold ptr at h
      rw [HU.out] at h
      unfold ttV at h
      dsimp only at h
      refine h.mono ?_
      rintro e v1 ⟨rfl, hr, hf⟩
      clear h
      have HI : Hid (RgI rb ta cap T w w.heap.size w5.heap.size (i + 3) op (Obj.cells #[Value.int IntKind.i64 15, Value.string (bsA q2), Value.int IntKind.i64 0, Value.int IntKind.i64 q4, Value.slice none 0 0] 34) none none v1) := HI.out.fx hf hr (by omega) (by omega)
      have HS : Hid (B4 v1 w1.heap.size (.int .i64 q1) (.string (bsA q2)) (.int .i64 q3) (.int .i64 q4)) := HS.out.fx hf (by omega)
      clear hr hf
      refine hK.out _ _ ?_ (fun hHz => ?_)
      · (try dsimp only); exact HS.out
      clear hK K hHz
      try simp only [Act.put, List.setIfInBounds_toArray, List.set_cons_zero, List.set_cons_succ]
      refine wpAnyH_ready (rs := [3, 6]) (by kernel_rfl) (by simp) ?_
      refine AllReadyH.cons rfl (fun K hK => ?_) (AllReadyH.cons rfl (fun K hK => ?_) AllReadyH.nil)
      ·
       go_simp
       have h := textNode_any 15 ((q1, q2, q3), q4) none 0 0 v1
       unfold ttV nV at h
       dsimp only at h
       refine h.mono ?_
       rintro e v2 ⟨rfl, hb⟩
       clear h
       have HI : Hid (RgI rb ta cap T w w.heap.size w5.heap.size (i + 3) op (Obj.cells #[Value.int IntKind.i64 15, Value.string (bsA q2), Value.int IntKind.i64 0, Value.int IntKind.i64 q4, Value.slice none 0 0] 34) none none v2) := HI.out.below hb (by omega) (by omega)
       have HS : Hid (B4 v2 w1.heap.size (.int .i64 q1) (.string (bsA q2)) (.int .i64 q3) (.int .i64 q4)) := HS.out.below hb
       clear hb
       refine hK.out _ _ ?_ (fun hHz => ?_)
       · (try dsimp only); exact HS.out
       clear hK K hHz
       try simp only [Act.put, List.setIfInBounds_toArray, List.set_cons_zero, List.set_cons_succ]
       refine wpAnyH_ready (rs := [4, 6]) (by kernel_rfl) (by simp) ?_
       refine AllReadyH.cons rfl (fun K hK => ?_) (AllReadyH.cons rfl (fun K hK => ?_) AllReadyH.nil)
       ·
        go_simp
        have HI : Hid (RgI rb ta cap T w w.heap.size w5.heap.size (i + 3) op (Obj.cells #[Value.int IntKind.i64 15, Value.string (bsA q2), Value.int IntKind.i64 0, Value.int IntKind.i64 q4, Value.slice none 0 0] 34) none (some (v2.heap.size)) (v2.alloc (Obj.cells #[Value.int IntKind.i64 15, Value.string (bsA q2), Value.int IntKind.i64 0, Value.int IntKind.i64 q4, Value.slice none 0 0] 34))) := HI.out.row (by simp) (by omega) (by omega)
        have HS : Hid (B4 (v2.alloc (Obj.cells #[Value.int IntKind.i64 15, Value.string (bsA q2), Value.int IntKind.i64 0, Value.int IntKind.i64 q4, Value.slice none 0 0] 34)) w1.heap.size (.int .i64 q1) (.string (bsA q2)) (.int .i64 q3) (.int .i64 q4)) := HS.out.below ((Below.refl _ _).alloc (Nat.le_refl _) _)
        refine hK.out _ _ ?_ (fun hHz => ?_)
        · (try dsimp only); exact HS.out
        clear hK K hHz
        try simp only [Act.put, List.setIfInBounds_toArray, List.set_cons_zero, List.set_cons_succ]
        generalize (v2.alloc (Obj.cells #[Value.int IntKind.i64 15, Value.string (bsA q2), Value.int IntKind.i64 0, Value.int IntKind.i64 q4, Value.slice none 0 0] 34)) = v3 at HI HS ⊢
        refine wpAnyH_ready (rs := [5, 6]) (by kernel_rfl) (by simp) ?_
        refine AllReadyH.cons rfl (fun K hK => ?_) (AllReadyH.cons rfl (fun K hK => ?_) AllReadyH.nil)
        ·
         go_simp
         have h := textNode_any 6 ((u1, u2, u3), u4) (some ⟨v2.heap.size, 0, none⟩) 1 1 v3
         unfold ttV nV at h
         dsimp only at h
         refine h.mono ?_
         rintro e v4 ⟨rfl, hb⟩
         clear h
         have HI : Hid (RgI rb ta cap T w w.heap.size w5.heap.size (i + 3) op (Obj.cells #[Value.int IntKind.i64 15, Value.string (bsA q2), Value.int IntKind.i64 0, Value.int IntKind.i64 q4, Value.slice none 0 0] 34) none (some (v2.heap.size)) v4) := HI.out.below hb (by omega) (by omega)
         have HS : Hid (B4 v4 w1.heap.size (.int .i64 q1) (.string (bsA q2)) (.int .i64 q3) (.int .i64 q4)) := HS.out.below hb
         clear hb
         refine hK.out _ _ ?_ (fun hHz => ?_)
         · (try dsimp only); exact HS.out
         clear hK K hHz
         try simp only [Act.put, List.setIfInBounds_toArray, List.set_cons_zero, List.set_cons_succ]
         refine wpAnyH_ready (rs := [6]) (by kernel_rfl) (by simp) ?_
         refine AllReadyH.cons rfl (fun K hK => ?_) AllReadyH.nil
         go_simp
         have HI : Hid (RgI rb ta cap T w w.heap.size w5.heap.size (i + 3) op (Obj.cells #[Value.int IntKind.i64 15, Value.string (bsA q2), Value.int IntKind.i64 0, Value.int IntKind.i64 q4, Value.slice none 0 0] 34) (some (v4.heap.size)) (some (v2.heap.size)) (v4.alloc (Obj.cells #[Value.int IntKind.i64 0, Value.string { data := #[] }, Value.int IntKind.i64 0, Value.int IntKind.i64 0, Value.slice none 0 0] 34))) := HI.out.new (by simp) (by omega) (by omega)
         have HS : Hid (B4 (v4.alloc (Obj.cells #[Value.int IntKind.i64 0, Value.string { data := #[] }, Value.int IntKind.i64 0, Value.int IntKind.i64 0, Value.slice none 0 0] 34)) w1.heap.size (.int .i64 q1) (.string (bsA q2)) (.int .i64 q3) (.int .i64 q4)) := HS.out.below ((Below.refl _ _).alloc (Nat.le_refl _) _)
         refine hK.out _ _ ?_ (fun hHz => ?_)
         · (try dsimp only); exact HS.out
         clear hK K hHz
         try simp only [Act.put, List.setIfInBounds_toArray, List.set_cons_zero, List.set_cons_succ]
         generalize (v4.alloc (Obj.cells #[Value.int IntKind.i64 0, Value.string { data := #[] }, Value.int IntKind.i64 0, Value.int IntKind.i64 0, Value.slice none 0 0] 34)) = v5 at HI HS ⊢
         refine wpAnyH_ready (rs := [7]) (by kernel_rfl) (by simp) ?_
         refine AllReadyH.cons rfl (fun K hK => ?_) AllReadyH.nil
         have hn := HI.out.nbx _ rfl
         obtain ⟨y0, y1, y2, y3, y4, z0, z1, z2, z3, z4⟩ := hn.1
         go_simp
         clear y0 y1 y2 y3 y4 z0 z1 z2 z3 z4
         have HI : Hid (RgO rb ta cap T w w.heap.size w5.heap.size (i + 3) op (Obj.cells #[Value.int IntKind.i64 15, Value.string (bsA q2), Value.int IntKind.i64 0, Value.int IntKind.i64 q4, Value.slice none 0 0] 34) (v4.heap.size) (v2.heap.size) (.int .i64 6) (.string (bsA u2)) (.int .i64 0) (.int .i64 u4) (.slice (some ⟨v2.heap.size, 0, none⟩) 1 1) (set5 v5 (v4.heap.size) 0 (.int .i64 6) (.string (bsA u2)) (.int .i64 0) (.int .i64 u4) (.slice (some ⟨v2.heap.size, 0, none⟩) 1 1))) := HI.out.put (.int .i64 6) (.string (bsA u2)) (.int .i64 0) (.int .i64 u4) (.slice (some ⟨v2.heap.size, 0, none⟩) 1 1) (by omega) (by omega) (by omega)
         have HS : Hid (B4 (set5 v5 (v4.heap.size) 0 (.int .i64 6) (.string (bsA u2)) (.int .i64 0) (.int .i64 u4) (.slice (some ⟨v2.heap.size, 0, none⟩) 1 1)) w1.heap.size (.int .i64 q1) (.string (bsA q2)) (.int .i64 q3) (.int .i64 q4)) := HS.out.set5 _ _ _ _ _ _ _ (by have := hn.2; omega)
         clear hn
         refine hK.out _ _ ?_ (fun hHz => ?_)
         · (try dsimp only); exact HS.out
         clear hK K hHz
         try simp only [Act.put, List.setIfInBounds_toArray, List.set_cons_zero, List.set_cons_succ]
         refine wpAnyH_done (by kernel_rfl) ?_ _
         go_wp2_with fail
         go_meet
         exact ⟨_, _, rfl, HI.out, HS.out⟩
        ·
         go_simp
         have HI : Hid (RgI rb ta cap T w w.heap.size w5.heap.size (i + 3) op (Obj.cells #[Value.int IntKind.i64 15, Value.string (bsA q2), Value.int IntKind.i64 0, Value.int IntKind.i64 q4, Value.slice none 0 0] 34) (some (v3.heap.size)) (some (v2.heap.size)) (v3.alloc (Obj.cells #[Value.int IntKind.i64 0, Value.string { data := #[] }, Value.int IntKind.i64 0, Value.int IntKind.i64 0, Value.slice none 0 0] 34))) := HI.out.new (by simp) (by omega) (by omega)
         have HS : Hid (B4 (v3.alloc (Obj.cells #[Value.int IntKind.i64 0, Value.string { data := #[] }, Value.int IntKind.i64 0, Value.int IntKind.i64 0, Value.slice none 0 0] 34)) w1.heap.size (.int .i64 q1) (.string (bsA q2)) (.int .i64 q3) (.int .i64 q4)) := HS.out.below ((Below.refl _ _).alloc (Nat.le_refl _) _)
         refine hK.out _ _ ?_ (fun hHz => ?_)
         · (try dsimp only); exact HS.out
         clear hK K hHz
         try simp only [Act.put, List.setIfInBounds_toArray, List.set_cons_zero, List.set_cons_succ]
         generalize (v3.alloc (Obj.cells #[Value.int IntKind.i64 0, Value.string { data := #[] }, Value.int IntKind.i64 0, Value.int IntKind.i64 0, Value.slice none 0 0] 34)) = v7 at HI HS ⊢
         refine wpAnyH_ready (rs := [5]) (by kernel_rfl) (by simp) ?_
         refine AllReadyH.cons rfl (fun K hK => ?_) AllReadyH.nil
         go_simp
         have h := textNode_any 6 ((u1, u2, u3), u4) (some ⟨v2.heap.size, 0, none⟩) 1 1 v7
         unfold ttV nV at h
         dsimp only at h
         refine h.mono ?_
         rintro e v8 ⟨rfl, hb⟩
         clear h
         have HI : Hid (RgI rb ta cap T w w.heap.size w5.heap.size (i + 3) op (Obj.cells #[Value.int IntKind.i64 15, Value.string (bsA q2), Value.int IntKind.i64 0, Value.int IntKind.i64 q4, Value.slice none 0 0] 34) (some (v3.heap.size)) (some (v2.heap.size)) v8) := HI.out.below hb (by omega) (by omega)
         have HS : Hid (B4 v8 w1.heap.size (.int .i64 q1) (.string (bsA q2)) (.int .i64 q3) (.int .i64 q4)) := HS.out.below hb
         clear hb
         refine hK.out _ _ ?_ (fun hHz => ?_)
         · (try dsimp only); exact HS.out
         clear hK K hHz
         try simp only [Act.put, List.setIfInBounds_toArray, List.set_cons_zero, List.set_cons_succ]
         refine wpAnyH_ready (rs := [7]) (by kernel_rfl) (by simp) ?_
         refine AllReadyH.cons rfl (fun K hK => ?_) AllReadyH.nil
         have hn := HI.out.nbx _ rfl
         obtain ⟨y0, y1, y2, y3, y4, z0, z1, z2, z3, z4⟩ := hn.1
         go_simp
         clear y0 y1 y2 y3 y4 z0 z1 z2 z3 z4
         have HI : Hid (RgO rb ta cap T w w.heap.size w5.heap.size (i + 3) op (Obj.cells #[Value.int IntKind.i64 15, Value.string (bsA q2), Value.int IntKind.i64 0, Value.int IntKind.i64 q4, Value.slice none 0 0] 34) (v3.heap.size) (v2.heap.size) (.int .i64 6) (.string (bsA u2)) (.int .i64 0) (.int .i64 u4) (.slice (some ⟨v2.heap.size, 0, none⟩) 1 1) (set5 v8 (v3.heap.size) 0 (.int .i64 6) (.string (bsA u2)) (.int .i64 0) (.int .i64 u4) (.slice (some ⟨v2.heap.size, 0, none⟩) 1 1))) := HI.out.put (.int .i64 6) (.string (bsA u2)) (.int .i64 0) (.int .i64 u4) (.slice (some ⟨v2.heap.size, 0, none⟩) 1 1) (by omega) (by omega) (by omega)
         have HS : Hid (B4 (set5 v8 (v3.heap.size) 0 (.int .i64 6) (.string (bsA u2)) (.int .i64 0) (.int .i64 u4) (.slice (some ⟨v2.heap.size, 0, none⟩) 1 1)) w1.heap.size (.int .i64 q1) (.string (bsA q2)) (.int .i64 q3) (.int .i64 q4)) := HS.out.set5 _ _ _ _ _ _ _ (by have := hn.2; omega)
         clear hn
         refine hK.out _ _ ?_ (fun hHz => ?_)
         · (try dsimp only); exact HS.out
         clear hK K hHz
         try simp only [Act.put, List.setIfInBounds_toArray, List.set_cons_zero, List.set_cons_succ]
         refine wpAnyH_done (by kernel_rfl) ?_ _
         go_wp2_with fail
         go_meet
         exact ⟨_, _, rfl, HI.out, HS.out⟩
       ·
        go_simp
        have HI : Hid (RgI rb ta cap T w w.heap.size w5.heap.size (i + 3) op (Obj.cells #[Value.int IntKind.i64 15, Value.string (bsA q2), Value.int IntKind.i64 0, Value.int IntKind.i64 q4, Value.slice none 0 0] 34) (some (v2.heap.size)) none (v2.alloc (Obj.cells #[Value.int IntKind.i64 0, Value.string { data := #[] }, Value.int IntKind.i64 0, Value.int IntKind.i64 0, Value.slice none 0 0] 34))) := HI.out.new (by simp) (by omega) (by omega)
        have HS : Hid (B4 (v2.alloc (Obj.cells #[Value.int IntKind.i64 0, Value.string { data := #[] }, Value.int IntKind.i64 0, Value.int IntKind.i64 0, Value.slice none 0 0] 34)) w1.heap.size (.int .i64 q1) (.string (bsA q2)) (.int .i64 q3) (.int .i64 q4)) := HS.out.below ((Below.refl _ _).alloc (Nat.le_refl _) _)
        refine hK.out _ _ ?_ (fun hHz => ?_)
        · (try dsimp only); exact HS.out
        clear hK K hHz
        try simp only [Act.put, List.setIfInBounds_toArray, List.set_cons_zero, List.set_cons_succ]
        generalize (v2.alloc (Obj.cells #[Value.int IntKind.i64 0, Value.string { data := #[] }, Value.int IntKind.i64 0, Value.int IntKind.i64 0, Value.slice none 0 0] 34)) = v10 at HI HS ⊢
        refine wpAnyH_ready (rs := [4]) (by kernel_rfl) (by simp) ?_
        refine AllReadyH.cons rfl (fun K hK => ?_) AllReadyH.nil
        go_simp
        have HI : Hid (RgI rb ta cap T w w.heap.size w5.heap.size (i + 3) op (Obj.cells #[Value.int IntKind.i64 15, Value.string (bsA q2), Value.int IntKind.i64 0, Value.int IntKind.i64 q4, Value.slice none 0 0] 34) (some (v2.heap.size)) (some (v10.heap.size)) (v10.alloc (Obj.cells #[Value.int IntKind.i64 15, Value.string (bsA q2), Value.int IntKind.i64 0, Value.int IntKind.i64 q4, Value.slice none 0 0] 34))) := HI.out.row (by simp) (by omega) (by omega)
        have HS : Hid (B4 (v10.alloc (Obj.cells #[Value.int IntKind.i64 15, Value.string (bsA q2), Value.int IntKind.i64 0, Value.int IntKind.i64 q4, Value.slice none 0 0] 34)) w1.heap.size (.int .i64 q1) (.string (bsA q2)) (.int .i64 q3) (.int .i64 q4)) := HS.out.below ((Below.refl _ _).alloc (Nat.le_refl _) _)
        refine hK.out _ _ ?_ (fun hHz => ?_)
        · (try dsimp only); exact HS.out
        clear hK K hHz
        try simp only [Act.put, List.setIfInBounds_toArray, List.set_cons_zero, List.set_cons_succ]
        generalize (v10.alloc (Obj.cells #[Value.int IntKind.i64 15, Value.string (bsA q2), Value.int IntKind.i64 0, Value.int IntKind.i64 q4, Value.slice none 0 0] 34)) = v11 at HI HS ⊢
        refine wpAnyH_ready (rs := [5]) (by kernel_rfl) (by simp) ?_
        refine AllReadyH.cons rfl (fun K hK => ?_) AllReadyH.nil
        go_simp
        have h := textNode_any 6 ((u1, u2, u3), u4) (some ⟨v10.heap.size, 0, none⟩) 1 1 v11
        unfold ttV nV at h
        dsimp only at h
        refine h.mono ?_
        rintro e v12 ⟨rfl, hb⟩
        clear h
        have HI : Hid (RgI rb ta cap T w w.heap.size w5.heap.size (i + 3) op (Obj.cells #[Value.int IntKind.i64 15, Value.string (bsA q2), Value.int IntKind.i64 0, Value.int IntKind.i64 q4, Value.slice none 0 0] 34) (some (v2.heap.size)) (some (v10.heap.size)) v12) := HI.out.below hb (by omega) (by omega)
        have HS : Hid (B4 v12 w1.heap.size (.int .i64 q1) (.string (bsA q2)) (.int .i64 q3) (.int .i64 q4)) := HS.out.below hb
        clear hb
        refine hK.out _ _ ?_ (fun hHz => ?_)
        · (try dsimp only); exact HS.out
        clear hK K hHz
        try simp only [Act.put, List.setIfInBounds_toArray, List.set_cons_zero, List.set_cons_succ]
        refine wpAnyH_ready (rs := [7]) (by kernel_rfl) (by simp) ?_
        refine AllReadyH.cons rfl (fun K hK => ?_) AllReadyH.nil
        have hn := HI.out.nbx _ rfl
        obtain ⟨y0, y1, y2, y3, y4, z0, z1, z2, z3, z4⟩ := hn.1
        go_simp
        clear y0 y1 y2 y3 y4 z0 z1 z2 z3 z4
        have HI : Hid (RgO rb ta cap T w w.heap.size w5.heap.size (i + 3) op (Obj.cells #[Value.int IntKind.i64 15, Value.string (bsA q2), Value.int IntKind.i64 0, Value.int IntKind.i64 q4, Value.slice none 0 0] 34) (v2.heap.size) (v10.heap.size) (.int .i64 6) (.string (bsA u2)) (.int .i64 0) (.int .i64 u4) (.slice (some ⟨v10.heap.size, 0, none⟩) 1 1) (set5 v12 (v2.heap.size) 0 (.int .i64 6) (.string (bsA u2)) (.int .i64 0) (.int .i64 u4) (.slice (some ⟨v10.heap.size, 0, none⟩) 1 1))) := HI.out.put (.int .i64 6) (.string (bsA u2)) (.int .i64 0) (.int .i64 u4) (.slice (some ⟨v10.heap.size, 0, none⟩) 1 1) (by omega) (by omega) (by omega)
        have HS : Hid (B4 (set5 v12 (v2.heap.size) 0 (.int .i64 6) (.string (bsA u2)) (.int .i64 0) (.int .i64 u4) (.slice (some ⟨v10.heap.size, 0, none⟩) 1 1)) w1.heap.size (.int .i64 q1) (.string (bsA q2)) (.int .i64 q3) (.int .i64 q4)) := HS.out.set5 _ _ _ _ _ _ _ (by have := hn.2; omega)
        clear hn
        refine hK.out _ _ ?_ (fun hHz => ?_)
        · (try dsimp only); exact HS.out
        clear hK K hHz
        try simp only [Act.put, List.setIfInBounds_toArray, List.set_cons_zero, List.set_cons_succ]
        refine wpAnyH_done (by kernel_rfl) ?_ _
        go_wp2_with fail
        go_meet
        exact ⟨_, _, rfl, HI.out, HS.out⟩
      ·
       go_simp
       have HI : Hid (RgI rb ta cap T w w.heap.size w5.heap.size (i + 3) op (Obj.cells #[Value.int IntKind.i64 15, Value.string (bsA q2), Value.int IntKind.i64 0, Value.int IntKind.i64 q4, Value.slice none 0 0] 34) (some (v1.heap.size)) none (v1.alloc (Obj.cells #[Value.int IntKind.i64 0, Value.string { data := #[] }, Value.int IntKind.i64 0, Value.int IntKind.i64 0, Value.slice none 0 0] 34))) := HI.out.new (by simp) (by omega) (by omega)
       have HS : Hid (B4 (v1.alloc (Obj.cells #[Value.int IntKind.i64 0, Value.string { data := #[] }, Value.int IntKind.i64 0, Value.int IntKind.i64 0, Value.slice none 0 0] 34)) w1.heap.size (.int .i64 q1) (.string (bsA q2)) (.int .i64 q3) (.int .i64 q4)) := HS.out.below ((Below.refl _ _).alloc (Nat.le_refl _) _)
       refine hK.out _ _ ?_ (fun hHz => ?_)
       · (try dsimp only); exact HS.out
       clear hK K hHz
       try simp only [Act.put, List.setIfInBounds_toArray, List.set_cons_zero, List.set_cons_succ]
       generalize (v1.alloc (Obj.cells #[Value.int IntKind.i64 0, Value.string { data := #[] }, Value.int IntKind.i64 0, Value.int IntKind.i64 0, Value.slice none 0 0] 34)) = v14 at HI HS ⊢
       refine wpAnyH_ready (rs := [3]) (by kernel_rfl) (by simp) ?_
       refine AllReadyH.cons rfl (fun K hK => ?_) AllReadyH.nil
       go_simp
       have h := textNode_any 15 ((q1, q2, q3), q4) none 0 0 v14
       unfold ttV nV at h
       dsimp only at h
       refine h.mono ?_
       rintro e v15 ⟨rfl, hb⟩
       clear h
       have HI : Hid (RgI rb ta cap T w w.heap.size w5.heap.size (i + 3) op (Obj.cells #[Value.int IntKind.i64 15, Value.string (bsA q2), Value.int IntKind.i64 0, Value.int IntKind.i64 q4, Value.slice none 0 0] 34) (some (v1.heap.size)) none v15) := HI.out.below hb (by omega) (by omega)
       have HS : Hid (B4 v15 w1.heap.size (.int .i64 q1) (.string (bsA q2)) (.int .i64 q3) (.int .i64 q4)) := HS.out.below hb
       clear hb
       refine hK.out _ _ ?_ (fun hHz => ?_)
       · (try dsimp only); exact HS.out
       clear hK K hHz
       try simp only [Act.put, List.setIfInBounds_toArray, List.set_cons_zero, List.set_cons_succ]
       refine wpAnyH_ready (rs := [4]) (by kernel_rfl) (by simp) ?_
       refine AllReadyH.cons rfl (fun K hK => ?_) AllReadyH.nil
       go_simp
       have HI : Hid (RgI rb ta cap T w w.heap.size w5.heap.size (i + 3) op (Obj.cells #[Value.int IntKind.i64 15, Value.string (bsA q2), Value.int IntKind.i64 0, Value.int IntKind.i64 q4, Value.slice none 0 0] 34) (some (v1.heap.size)) (some (v15.heap.size)) (v15.alloc (Obj.cells #[Value.int IntKind.i64 15, Value.string (bsA q2), Value.int IntKind.i64 0, Value.int IntKind.i64 q4, Value.slice none 0 0] 34))) := HI.out.row (by simp) (by omega) (by omega)
       have HS : Hid (B4 (v15.alloc (Obj.cells #[Value.int IntKind.i64 15, Value.string (bsA q2), Value.int IntKind.i64 0, Value.int IntKind.i64 q4, Value.slice none 0 0] 34)) w1.heap.size (.int .i64 q1) (.string (bsA q2)) (.int .i64 q3) (.int .i64 q4)) := HS.out.below ((Below.refl _ _).alloc (Nat.le_refl _) _)
       refine hK.out _ _ ?_ (fun hHz => ?_)
       · (try dsimp only); exact HS.out
       clear hK K hHz
       try simp only [Act.put, List.setIfInBounds_toArray, List.set_cons_zero, List.set_cons_succ]
       generalize (v15.alloc (Obj.cells #[Value.int IntKind.i64 15, Value.string (bsA q2), Value.int IntKind.i64 0, Value.int IntKind.i64 q4, Value.slice none 0 0] 34)) = v16 at HI HS ⊢
       refine wpAnyH_ready (rs := [5]) (by kernel_rfl) (by simp) ?_
       refine AllReadyH.cons rfl (fun K hK => ?_) AllReadyH.nil
       go_simp
       have h := textNode_any 6 ((u1, u2, u3), u4) (some ⟨v15.heap.size, 0, none⟩) 1 1 v16
       unfold ttV nV at h
       dsimp only at h
       refine h.mono ?_
       rintro e v17 ⟨rfl, hb⟩
       clear h
       have HI : Hid (RgI rb ta cap T w w.heap.size w5.heap.size (i + 3) op (Obj.cells #[Value.int IntKind.i64 15, Value.string (bsA q2), Value.int IntKind.i64 0, Value.int IntKind.i64 q4, Value.slice none 0 0] 34) (some (v1.heap.size)) (some (v15.heap.size)) v17) := HI.out.below hb (by omega) (by omega)
       have HS : Hid (B4 v17 w1.heap.size (.int .i64 q1) (.string (bsA q2)) (.int .i64 q3) (.int .i64 q4)) := HS.out.below hb
       clear hb
       refine hK.out _ _ ?_ (fun hHz => ?_)
       · (try dsimp only); exact HS.out
       clear hK K hHz
       try simp only [Act.put, List.setIfInBounds_toArray, List.set_cons_zero, List.set_cons_succ]
       refine wpAnyH_ready (rs := [7]) (by kernel_rfl) (by simp) ?_
       refine AllReadyH.cons rfl (fun K hK => ?_) AllReadyH.nil
       have hn := HI.out.nbx _ rfl
       obtain ⟨y0, y1, y2, y3, y4, z0, z1, z2, z3, z4⟩ := hn.1
       go_simp
       clear y0 y1 y2 y3 y4 z0 z1 z2 z3 z4
       have HI : Hid (RgO rb ta cap T w w.heap.size w5.heap.size (i + 3) op (Obj.cells #[Value.int IntKind.i64 15, Value.string (bsA q2), Value.int IntKind.i64 0, Value.int IntKind.i64 q4, Value.slice none 0 0] 34) (v1.heap.size) (v15.heap.size) (.int .i64 6) (.string (bsA u2)) (.int .i64 0) (.int .i64 u4) (.slice (some ⟨v15.heap.size, 0, none⟩) 1 1) (set5 v17 (v1.heap.size) 0 (.int .i64 6) (.string (bsA u2)) (.int .i64 0) (.int .i64 u4) (.slice (some ⟨v15.heap.size, 0, none⟩) 1 1))) := HI.out.put (.int .i64 6) (.string (bsA u2)) (.int .i64 0) (.int .i64 u4) (.slice (some ⟨v15.heap.size, 0, none⟩) 1 1) (by omega) (by omega) (by omega)
       have HS : Hid (B4 (set5 v17 (v1.heap.size) 0 (.int .i64 6) (.string (bsA u2)) (.int .i64 0) (.int .i64 u4) (.slice (some ⟨v15.heap.size, 0, none⟩) 1 1)) w1.heap.size (.int .i64 q1) (.string (bsA q2)) (.int .i64 q3) (.int .i64 q4)) := HS.out.set5 _ _ _ _ _ _ _ (by have := hn.2; omega)
       clear hn
       refine hK.out _ _ ?_ (fun hHz => ?_)
       · (try dsimp only); exact HS.out
       clear hK K hHz
       try simp only [Act.put, List.setIfInBounds_toArray, List.set_cons_zero, List.set_cons_succ]
       refine wpAnyH_done (by kernel_rfl) ?_ _
       go_wp2_with fail
       go_meet
       exact ⟨_, _, rfl, HI.out, HS.out⟩
     ·
      go_simp
      have HI : Hid (RgI rb ta cap T w w.heap.size w5.heap.size (i + 2) op (Obj.cells #[Value.int IntKind.i64 15, Value.string (bsA q2), Value.int IntKind.i64 0, Value.int IntKind.i64 q4, Value.slice none 0 0] 34) (some (v0.heap.size)) none (v0.alloc (Obj.cells #[Value.int IntKind.i64 0, Value.string { data := #[] }, Value.int IntKind.i64 0, Value.int IntKind.i64 0, Value.slice none 0 0] 34))) := HI.out.new (by simp) (by omega) (by omega)
      have HS : Hid (B4 (v0.alloc (Obj.cells #[Value.int IntKind.i64 0, Value.string { data := #[] }, Value.int IntKind.i64 0, Value.int IntKind.i64 0, Value.slice none 0 0] 34)) w1.heap.size (.int .i64 q1) (.string (bsA q2)) (.int .i64 q3) (.int .i64 q4)) := HS.out.below ((Below.refl _ _).alloc (Nat.le_refl _) _)
      refine hK.out _ _ ?_ (fun hHz => ?_)
      · (try dsimp only); exact HS.out
      clear hK K hHz
      try simp only [Act.put, List.setIfInBounds_toArray, List.set_cons_zero, List.set_cons_succ]
      generalize (v0.alloc (Obj.cells #[Value.int IntKind.i64 0, Value.string { data := #[] }, Value.int IntKind.i64 0, Value.int IntKind.i64 0, Value.slice none 0 0] 34)) = v19 at HI HS ⊢
      refine wpAnyH_ready (rs := [1]) (by kernel_rfl) (by simp) ?_
      refine AllReadyH.cons rfl (fun K hK => ?_) AllReadyH.nil
      go_simp
      have h := take_any rb ta cap T (i + 2) op _ HI.out.cx.rdr HI2.out
      unfold ptr at h
      rw [HU.out] at h
      unfold ttV at h
      dsimp only at h
      refine h.mono ?_
      rintro e v20 ⟨rfl, hr, hf⟩
      clear h
      have HI : Hid (RgI rb ta cap T w w.heap.size w5.heap.size (i + 3) op (Obj.cells #[Value.int IntKind.i64 15, Value.string (bsA q2), Value.int IntKind.i64 0, Value.int IntKind.i64 q4, Value.slice none 0 0] 34) (some (v0.heap.size)) none v20) := HI.out.fx hf hr (by omega) (by omega)
      have HS : Hid (B4 v20 w1.heap.size (.int .i64 q1) (.string (bsA q2)) (.int .i64 q3) (.int .i64 q4)) := HS.out.fx hf (by omega)
      clear hr hf
      refine hK.out _ _ ?_ (fun hHz => ?_)
      · (try dsimp only); exact HS.out
      clear hK K hHz
      try simp only [Act.put, List.setIfInBounds_toArray, List.set_cons_zero, List.set_cons_succ]
      refine wpAnyH_ready (rs := [3]) (by kernel_rfl) (by simp) ?_
      refine AllReadyH.cons rfl (fun K hK => ?_) AllReadyH.nil
      go_simp
      have h := textNode_any 15 ((q1, q2, q3), q4) none 0 0 v20
      unfold ttV nV at h
      dsimp only at h
      refine h.mono ?_
      rintro e v21 ⟨rfl, hb⟩
      clear h
      have HI : Hid (RgI rb ta cap T w w.heap.size w5.heap.size (i + 3) op (Obj.cells #[Value.int IntKind.i64 15, Value.string (bsA q2), Value.int IntKind.i64 0, Value.int IntKind.i64 q4, Value.slice none 0 0] 34) (some (v0.heap.size)) none v21) := HI.out.below hb (by omega) (by omega)
      have HS : Hid (B4 v21 w1.heap.size (.int .i64 q1) (.string (bsA q2)) (.int .i64 q3) (.int .i64 q4)) := HS.out.below hb
      clear hb
      refine hK.out _ _ ?_ (fun hHz => ?_)
      · (try dsimp only); exact HS.out
      clear hK K hHz
      try simp only [Act.put, List.setIfInBounds_toArray, List.set_cons_zero, List.set_cons_succ]
      refine wpAnyH_ready (rs := [4]) (by kernel_rfl) (by simp) ?_
      refine AllReadyH.cons rfl (fun K hK => ?_) AllReadyH.nil
      go_simp
      have HI : Hid (RgI rb ta cap T w w.heap.size w5.heap.size (i + 3) op (Obj.cells #[Value.int IntKind.i64 15, Value.string (bsA q2), Value.int IntKind.i64 0, Value.int IntKind.i64 q4, Value.slice none 0 0] 34) (some (v0.heap.size)) (some (v21.heap.size)) (v21.alloc (Obj.cells #[Value.int IntKind.i64 15, Value.string (bsA q2), Value.int IntKind.i64 0, Value.int IntKind.i64 q4, Value.slice none 0 0] 34))) := HI.out.row (by simp) (by omega) (by omega)
      have HS : Hid (B4 (v21.alloc (Obj.cells #[Value.int IntKind.i64 15, Value.string (bsA q2), Value.int IntKind.i64 0, Value.int IntKind.i64 q4, Value.slice none 0 0] 34)) w1.heap.size (.int .i64 q1) (.string (bsA q2)) (.int .i64 q3) (.int .i64 q4)) := HS.out.below ((Below.refl _ _).alloc (Nat.le_refl _) _)
      refine hK.out _ _ ?_ (fun hHz => ?_)
      · (try dsimp only); exact HS.out
      clear hK K hHz
      try simp only [Act.put, List.setIfInBounds_toArray, List.set_cons_zero, List.set_cons_succ]
      generalize (v21.alloc (Obj.cells #[Value.int IntKind.i64 15, Value.string (bsA q2), Value.int IntKind.i64 0, Value.int IntKind.i64 q4, Value.slice none 0 0] 34)) = v22 at HI HS ⊢
      refine wpAnyH_ready (rs := [5]) (by kernel_rfl) (by simp) ?_
      refine AllReadyH.cons rfl (fun K hK => ?_) AllReadyH.nil
      go_simp
      have h := textNode_any 6 ((u1, u2, u3), u4) (some ⟨v21.heap.size, 0, none⟩) 1 1 v22
      unfold ttV nV at h
      dsimp only at h
      refine h.mono ?_
      rintro e v23 ⟨rfl, hb⟩
      clear h
      have HI : Hid (RgI rb ta cap T w w.heap.size w5.heap.size (i + 3) op (Obj.cells #[Value.int IntKind.i64 15, Value.string (bsA q2), Value.int IntKind.i64 0, Value.int IntKind.i64 q4, Value.slice none 0 0] 34) (some (v0.heap.size)) (some (v21.heap.size)) v23) := HI.out.below hb (by omega) (by omega)
      have HS : Hid (B4 v23 w1.heap.size (.int .i64 q1) (.string (bsA q2)) (.int .i64 q3) (.int .i64 q4)) := HS.out.below hb
      clear hb
      refine hK.out _ _ ?_ (fun hHz => ?_)
      · (try dsimp only); exact HS.out
      clear hK K hHz
      try simp only [Act.put, List.setIfInBounds_toArray, List.set_cons_zero, List.set_cons_succ]
      refine wpAnyH_ready (rs := [7]) (by kernel_rfl) (by simp) ?_
      refine AllReadyH.cons rfl (fun K hK => ?_) AllReadyH.nil
      have hn := HI.out.nbx _ rfl
      obtain ⟨y0, y1, y2, y3, y4, z0, z1, z2, z3, z4⟩ := hn.1
      go_simp
      clear y0 y1 y2 y3 y4 z0 z1 z2 z3 z4
      have HI : Hid (RgO rb ta cap T w w.heap.size w5.heap.size (i + 3) op (Obj.cells #[Value.int IntKind.i64 15, Value.string (bsA q2), Value.int IntKind.i64 0, Value.int IntKind.i64 q4, Value.slice none 0 0] 34) (v0.heap.size) (v21.heap.size) (.int .i64 6) (.string (bsA u2)) (.int .i64 0) (.int .i64 u4) (.slice (some ⟨v21.heap.size, 0, none⟩) 1 1) (set5 v23 (v0.heap.size) 0 (.int .i64 6) (.string (bsA u2)) (.int .i64 0) (.int .i64 u4) (.slice (some ⟨v21.heap.size, 0, none⟩) 1 1))) := HI.out.put (.int .i64 6) (.string (bsA u2)) (.int .i64 0) (.int .i64 u4) (.slice (some ⟨v21.heap.size, 0, none⟩) 1 1) (by omega) (by omega) (by omega)
      have HS : Hid (B4 (set5 v23 (v0.heap.size) 0 (.int .i64 6) (.string (bsA u2)) (.int .i64 0) (.int .i64 u4) (.slice (some ⟨v21.heap.size, 0, none⟩) 1 1)) w1.heap.size (.int .i64 q1) (.string (bsA q2)) (.int .i64 q3) (.int .i64 q4)) := HS.out.set5 _ _ _ _ _ _ _ (by have := hn.2; omega)
      clear hn
      refine hK.out _ _ ?_ (fun hHz => ?_)
      · (try dsimp only); exact HS.out
      clear hK K hHz
      try simp only [Act.put, List.setIfInBounds_toArray, List.set_cons_zero, List.set_cons_succ]
      refine wpAnyH_done (by kernel_rfl) ?_ _
      go_wp2_with fail
      go_meet
      exact ⟨_, _, rfl, HI.out, HS.out⟩
    case rest =>
     obtain ⟨nb, gb, rfl, hO, hT6⟩ := hcut
     have hnl := hO.nl
     have hgl := hO.gl
     have hne := hO.ne
     have hC := hO.cx.set nb 3 (.int .i64 q4) (by omega) (by omega) (by omega)
     have hrow : (wc.setCell ⟨nb, 3, none⟩ (.int .i64 q4)).heap[gb]? = some (Obj.cells #[Value.int IntKind.i64 15, Value.string (bsA q2), Value.int IntKind.i64 0, Value.int IntKind.i64 q4, Value.slice none 0 0] 34) := (Below.heap_setCell _ _ _ _ (show gb ≠ nb by omega)).trans hO.row
     have hO2 : OwX rb w.heap.size (wc.setCell ⟨nb, 3, none⟩ (.int .i64 q4)) gb 1 [(mkX 15 q2 0 q4 [], none, 0)] := OwX.of (A := [(mkX 15 q2 0 q4 [], none, 0)]) hrow (by omega) (by simp) (fun p hp => by rw [List.mem_singleton.1 hp]; exact XSt.leaf 15 q2 0 q4 none) rfl
     have hX : XSt rb w.heap.size w.heap.size (wc.setCell ⟨nb, 3, none⟩ (.int .i64 q4)) (mkX 6 u2 0 q4 [mkX 15 q2 0 q4 []]) (some ⟨gb, 0, none⟩) := hO2.tree (zb := w.heap.size) 6 u2 0 q4 hlt (fun p hp => by rw [List.mem_singleton.1 hp]; exact XSt.leaf 15 q2 0 q4 none) (by omega)
     have HFin : Hid _ := Cx.retn (k := 6) (t := u2) (m := 0) (a := q4) (n := 1) 1 rfl hC hX (Nat.le_refl _) hlt
     obtain ⟨z0, z1, z2, z3, z4, f0, f1, f2, f3, f4⟩ := own5 hC.res (.int .i64 6) (.string (bsA u2)) (.int .i64 0) (.int .i64 q4) (.slice (some ⟨gb, 0, none⟩) 1 1)
     obtain ⟨d0, d1, d2, d3, d4, g0, g1, g2, g3, g4⟩ := hC.res
     obtain ⟨b0, b1, b2, b3, b4, k0, k1, k2, k3, k4⟩ := hO.box
     obtain ⟨y0, y1, y2, y3⟩ := hT6
     have hnz : nb ≠ w.heap.size := by omega
     have hzn : w.heap.size ≠ nb := by omega
     clear hC hO hrow hO2 hX HC5 HT5
     go_wp2
     refine bodyPost_ret (v := .agg #[.int .i64 6, .string (bsA u2), .int .i64 0, .int .i64 q4, .slice (some ⟨gb, 0, none⟩) 1 1]) (by unfold set5 at z0 z1 z2 z3 z4; simp [results, Tryz.results250, go_sem, z0, z1, z2, z3, z4]) rfl ?_
     rw [HRR.out]
     exact HFin.out
   ·
    have hkb : (u1 == 1) = false := by rw [beq_eq_false_iff_ne]; exact hk
    have HRR : Hid (r = .inr (mkX 6 q2 0 q4 [], i + 1)) := by
     have h := HL2.out
     (try dsimp only at h)
     rw [if_neg hk] at h
     exact (Option.some.inj h).symm
    clear hk HL2
    go_wp2_with fail
    refine h4.mono ?_
    rintro e w4 ⟨rfl, hb4⟩
    clear h4
    have HC : Hid (Cx rb ta cap T w w.heap.size (i + 1) op w4) := HC3.out.below hb4
    have HT : Hid (B4 w4 w1.heap.size (.int .i64 q1) (.string (bsA q2)) (.int .i64 q3) (.int .i64 q4)) := HT3.out.below hb4
    clear hb4 HC3 HT3
    have h5 := textNode_any 6 ((q1, q2, q3), q4) none 0 0 w4
    unfold ttV nV at h5
    dsimp only at h5
    obtain ⟨y0, y1, y2, y3⟩ := HT.out
    go_wp2_with fail
    refine h5.mono ?_
    rintro e w5 ⟨rfl, hb5⟩
    clear h5
    have hC := HC.out.below hb5
    have HFin : Hid _ := Cx.retn (k := 6) (t := q2) (m := 0) (a := q4) (n := 0) 0 rfl hC (XSt.leaf 6 q2 0 q4 none) (by omega) hlt
    obtain ⟨z0, z1, z2, z3, z4, f0, f1, f2, f3, f4⟩ := own5 hC.res (.int .i64 6) (.string (bsA q2)) (.int .i64 0) (.int .i64 q4) (.slice none 0 0)
    obtain ⟨d0, d1, d2, d3, d4, g0, g1, g2, g3, g4⟩ := hC.res
    clear hC hb5 HC HT y0 y1 y2 y3
    go_wp2
    refine bodyPost_ret (v := .agg #[.int .i64 6, .string (bsA q2), .int .i64 0, .int .i64 q4, .slice none 0 0]) (by unfold set5 at z0 z1 z2 z3 z4; simp [results, Tryz.results250, go_sem, z0, z1, z2, z3, z4]) rfl ?_
    rw [HRR.out]
    exact HFin.out
end Go.Proofs.YtgdndahhledikaaGreatDoor
