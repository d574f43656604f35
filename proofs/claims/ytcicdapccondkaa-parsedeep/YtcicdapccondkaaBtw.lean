/- Between two (between). -/
import Derived.Test.YtcicdapccondkaaInn
namespace Go.Proofs.Ytcicdapccondkaa
open Go.ChangeShapes Go.WideShapes Go.ChangeAt Go.RowKit
set_option linter.unusedSimpArgs false
set_option maxRecDepth 20000
set_option maxHeartbeats 4000000

theorem between_any (rb : Nat) (ta : Option Addr) (cap : Nat) (T : List Tt) (g : Nat → Nat → Rz X) (hg : Reads rb ta cap T 77 g) : TReads rb ta cap T 79 (fun x i op => betP T (fun k => g k op) x i) := by
  intro lo hi x s c i op w r hop hr hin hx hlo hlw hhi h
  have HG : Hid (Reads rb ta cap T 77 g) := hg
  have hlt := cell_lt hr.c0
  have HX : Hid (XD (fun b => b ≠ rb ∧ b < hi) lo w x s) := hx
  have hT : Below w.heap.size w (w.alloc (Obj.cells #[Value.int IntKind.i64 (xk x), Value.string (bsA (xt x)), Value.int IntKind.i64 (xn x), Value.int IntKind.i64 (xa x), Value.slice s (xl x) c] 26)) := (Below.refl _ _).alloc (Nat.le_refl _) _
  have HC0 : Hid (Cx rb ta cap T w (w.heap.size + 1) i op ((w.alloc (Obj.cells #[Value.int IntKind.i64 (xk x), Value.string (bsA (xt x)), Value.int IntKind.i64 (xn x), Value.int IntKind.i64 (xa x), Value.slice s (xl x) c] 26)).alloc (Obj.cells #[Value.int IntKind.i64 0, Value.string { data := #[] }, Value.int IntKind.i64 0, Value.int IntKind.i64 0, Value.slice none 0 0] 26))) := by
    have hb : Below w.heap.size w ((w.alloc (Obj.cells #[Value.int IntKind.i64 (xk x), Value.string (bsA (xt x)), Value.int IntKind.i64 (xn x), Value.int IntKind.i64 (xa x), Value.slice s (xl x) c] 26)).alloc (Obj.cells #[Value.int IntKind.i64 0, Value.string { data := #[] }, Value.int IntKind.i64 0, Value.int IntKind.i64 0, Value.slice none 0 0] 26)) := hT.alloc hT.size _
    refine ⟨Fx.below hb, hr.below hb, ?_⟩
    have h := Box5.new (w.alloc (Obj.cells #[Value.int IntKind.i64 (xk x), Value.string (bsA (xt x)), Value.int IntKind.i64 (xn x), Value.int IntKind.i64 (xa x), Value.slice s (xl x) c] 26)) (.int .i64 0) (.string ⟨#[]⟩) (.int .i64 0) (.int .i64 0) (.slice none 0 0) 26
    rw [World.size_alloc] at h
    exact h
  have HBX : Hid (Box5 ((w.alloc (Obj.cells #[Value.int IntKind.i64 (xk x), Value.string (bsA (xt x)), Value.int IntKind.i64 (xn x), Value.int IntKind.i64 (xa x), Value.slice s (xl x) c] 26)).alloc (Obj.cells #[Value.int IntKind.i64 0, Value.string { data := #[] }, Value.int IntKind.i64 0, Value.int IntKind.i64 0, Value.slice none 0 0] 26)) w.heap.size (.int .i64 (xk x)) (.string (bsA (xt x))) (.int .i64 (xn x)) (.int .i64 (xa x)) (.slice s (xl x) c)) := (Box5.new w _ _ _ _ _ 26).below ((Below.refl _ _).alloc (Nat.le_refl _) _)
  have HIT : Hid (i < T.length) := hin
  have HH : Hid _ := h
  obtain ⟨q, hq⟩ : ∃ q, tkI T i = q := ⟨_, rfl⟩
  have HQ : Hid (tkI T i = q) := hq
  obtain ⟨⟨q1, q2, q3⟩, q4⟩ := q
  unfold ptr xV nV
  clear hr h hx hT hin hq hg
  have h1 := take_any rb ta cap T i op _ HC0.out.rdr HIT.out
  rw [HQ.out] at h1
  unfold ptr ttV at h1
  dsimp only at h1
  go_enter Try.func79, Try.ntmps79
  go_wp2_with fail
  refine h1.mono ?_
  rintro e w1 ⟨rfl, hr1, hf1⟩
  clear h1
  have HC1 : Hid (Cx rb ta cap T w (w.heap.size + 1) (i + 1) op (w1.alloc (Obj.cells #[Value.int IntKind.i64 q1, Value.string (bsA q2), Value.int IntKind.i64 q3, Value.int IntKind.i64 q4] 51))) := (HC0.out.step hf1 hr1 (by omega)).alloc _
  have HBX1 : Hid (Box5 (w1.alloc (Obj.cells #[Value.int IntKind.i64 q1, Value.string (bsA q2), Value.int IntKind.i64 q3, Value.int IntKind.i64 q4] 51)) w.heap.size (.int .i64 (xk x)) (.string (bsA (xt x))) (.int .i64 (xn x)) (.int .i64 (xa x)) (.slice s (xl x) c)) := (HBX.out.fx hf1 (by omega)).below ((Below.refl _ _).alloc (Nat.le_refl _) _)
  have HT1 : Hid (B4 (w1.alloc (Obj.cells #[Value.int IntKind.i64 q1, Value.string (bsA q2), Value.int IntKind.i64 q3, Value.int IntKind.i64 q4] 51)) w1.heap.size (.int .i64 q1) (.string (bsA q2)) (.int .i64 q3) (.int .i64 q4)) := B4.new w1 _ _ _ _ 51
  have hs1 : w.heap.size + 2 ≤ w1.heap.size := by have h := hf1.size; simp at h; omega
  obtain ⟨r2, e2, hl2⟩ := bnd_some (show bnd (g (i + 1) op) (fun lo j => bnd (needP T 2 [97, 110, 100] j) fun _ j => bnd (g j op) fun hi j => okR (mkX 10 [] 0 q4 [x, lo, hi]) j) = some r by
    have h : betP T (fun k => g k op) x i = some r := HH.out
    unfold betP nd at h
    rw [HQ.out] at h
    exact h)
  have HL2 : Hid (bnd (some r2) (fun lo j => bnd (needP T 2 [97, 110, 100] j) fun _ j => bnd (g j op) fun hi j => okR (mkX 10 [] 0 q4 [x, lo, hi]) j) = some r) := hl2
  have h2 := HG.out (i + 1) op (w1.alloc (Obj.cells #[Value.int IntKind.i64 q1, Value.string (bsA q2), Value.int IntKind.i64 q3, Value.int IntKind.i64 q4] 51)) r2 hop HC1.out.rdr e2
  unfold ptr at h2
  clear hr1 hf1 HC0 HBX HH HQ hl2 e2
  go_wp2_with fail
  refine h2.mono ?_
  intro e w2 hpost
  clear h2
  cases r2 with
  | inl q =>
    obtain ⟨hG, hF⟩ := hpost.no
    unfold GUp at hG
    subst hG
    have HRR : Hid (r = .inl q) := (Option.some.inj HL2.out).symm
    have HF : Hid _ := HC1.out.fx.trans hF
    clear hpost hF
    go_wp2
    exact ⟨rfl, by rw [HRR.out]; exact ⟨rfl, HF.out⟩⟩
  | inr q =>
    obtain ⟨y, j2⟩ := q
    obtain ⟨⟨⟨s1, c1, rfl, hy⟩, hr2⟩, hF2⟩ := hpost.ok
    dsimp only at hy hr2
    have hY : Below w2.heap.size w2 (w2.alloc (Obj.cells #[Value.int IntKind.i64 (xk y), Value.string (bsA (xt y)), Value.int IntKind.i64 (xn y), Value.int IntKind.i64 (xa y), Value.slice s1 (xl y) c1] 26)) := (Below.refl _ _).alloc (Nat.le_refl _) _
    have hs2 : w1.heap.size + 1 ≤ w2.heap.size := by have h := hF2.size; rw [World.size_alloc] at h; exact h
    have HC2 : Hid (Cx rb ta cap T w (w.heap.size + 1) j2 op (w2.alloc (Obj.cells #[Value.int IntKind.i64 (xk y), Value.string (bsA (xt y)), Value.int IntKind.i64 (xn y), Value.int IntKind.i64 (xa y), Value.slice s1 (xl y) c1] 26))) := (HC1.out.step hF2 hr2 (by omega)).alloc _
    have HS2 : Hid (B4 (w2.alloc (Obj.cells #[Value.int IntKind.i64 (xk y), Value.string (bsA (xt y)), Value.int IntKind.i64 (xn y), Value.int IntKind.i64 (xa y), Value.slice s1 (xl y) c1] 26)) w1.heap.size (.int .i64 q1) (.string (bsA q2)) (.int .i64 q3) (.int .i64 q4) ∧ Box5 (w2.alloc (Obj.cells #[Value.int IntKind.i64 (xk y), Value.string (bsA (xt y)), Value.int IntKind.i64 (xn y), Value.int IntKind.i64 (xa y), Value.slice s1 (xl y) c1] 26)) w.heap.size (.int .i64 (xk x)) (.string (bsA (xt x))) (.int .i64 (xn x)) (.int .i64 (xa x)) (.slice s (xl x) c) ∧ Box5 (w2.alloc (Obj.cells #[Value.int IntKind.i64 (xk y), Value.string (bsA (xt y)), Value.int IntKind.i64 (xn y), Value.int IntKind.i64 (xa y), Value.slice s1 (xl y) c1] 26)) w2.heap.size (.int .i64 (xk y)) (.string (bsA (xt y))) (.int .i64 (xn y)) (.int .i64 (xa y)) (.slice s1 (xl y) c1)) := ⟨(HT1.out.fx hF2 (by omega)).below hY, (HBX1.out.fx hF2 (by omega)).below hY, Box5.new w2 _ _ _ _ _ 26⟩
    have HY2 : Hid (XAt (w1.heap.size + 1) (w2.alloc (Obj.cells #[Value.int IntKind.i64 (xk y), Value.string (bsA (xt y)), Value.int IntKind.i64 (xn y), Value.int IntKind.i64 (xa y), Value.slice s1 (xl y) c1] 26)) y s1) := by
      rw [World.size_alloc] at hy
      exact hy.below hY
    obtain ⟨r3, e3, h3⟩ := need_any rb ta cap T j2 op 2 [97, 110, 100] (by decide) _ HC2.out.rdr
    unfold ptr at h3
    have HL3 : Hid (bnd (some r3) (fun _ j => bnd (g j op) fun hi j => okR (mkX 10 [] 0 q4 [x, y, hi]) j) = some r) := by
      have h : bnd (needP T 2 [97, 110, 100] j2) (fun _ j => bnd (g j op) fun hi j => okR (mkX 10 [] 0 q4 [x, y, hi]) j) = some r := HL2.out
      rw [e3] at h
      exact h
    clear hpost hy hr2 hF2 hY e3 HL2 HC1 HT1 HBX1
    unfold xV nV
    go_wp2_with fail
    refine h3.mono ?_
    intro e w3 hpost
    clear h3
    cases r3 with
    | inl q =>
      obtain ⟨hG, hF⟩ := hpost.no
      unfold GUp at hG
      subst hG
      have HRR : Hid (r = .inl q) := (Option.some.inj HL3.out).symm
      have HF : Hid _ := HC2.out.fx.trans hF
      clear hpost hF
      go_wp2
      exact ⟨rfl, by rw [HRR.out]; exact ⟨rfl, HF.out⟩⟩
    | inr q =>
      obtain ⟨t3, j3⟩ := q
      obtain ⟨⟨rfl, hr3⟩, hF3⟩ := hpost.ok
      dsimp only at hr3
      obtain ⟨r4, e4, hl4⟩ := bnd_some (show bnd (g j3 op) (fun hi j => okR (mkX 10 [] 0 q4 [x, y, hi]) j) = some r from HL3.out)
      have HL4 : Hid (bnd (some r4) (fun hi j => okR (mkX 10 [] 0 q4 [x, y, hi]) j) = some r) := hl4
      have HC : Hid (Cx rb ta cap T w (w.heap.size + 1) j3 op w3.drew) := (HC2.out.step hF3 hr3 (by omega)).drew
      have HS : Hid (B4 w3.drew w1.heap.size (.int .i64 q1) (.string (bsA q2)) (.int .i64 q3) (.int .i64 q4) ∧ Box5 w3.drew w.heap.size (.int .i64 (xk x)) (.string (bsA (xt x))) (.int .i64 (xn x)) (.int .i64 (xa x)) (.slice s (xl x) c) ∧ Box5 w3.drew w2.heap.size (.int .i64 (xk y)) (.string (bsA (xt y))) (.int .i64 (xn y)) (.int .i64 (xa y)) (.slice s1 (xl y) c1)) := ⟨(HS2.out.1.fx hF3 (by omega)).below (Below.refl _ _).drew, (HS2.out.2.1.fx hF3 (by omega)).drew, (HS2.out.2.2.fx hF3 (by omega)).drew⟩
      have HY : Hid (XAt (w1.heap.size + 1) w3.drew y s1) := (show XAt (w1.heap.size + 1) w3 y s1 from NdF.keep (Nat.le_refl _) (fun b hb hl => hF3.blk b hl (by omega)) HY2.out).below (Below.refl _ _).drew
      have h4 := HG.out j3 op _ r4 hop HC.out.rdr e4
      unfold ptr at h4
      have H4 : Hid (Calls Try.prog 77 #[.pointer (some ⟨rb, 0, none⟩)] w3.drew (PPost rb ta cap T op w3.drew r4)) := h4
      clear hpost hr3 hF3 hl4 e4 h4 HL3 HC2 HS2 HY2 HG
      unfold ttV
      go_wp2_with fail
      refine wp_region_held_drew (S := (fun wS => B4 wS w1.heap.size (.int .i64 q1) (.string (bsA q2)) (.int .i64 q3) (.int .i64 q4) ∧ Box5 wS w.heap.size (.int .i64 (xk x)) (.string (bsA (xt x))) (.int .i64 (xn x)) (.int .i64 (xa x)) (.slice s (xl x) c) ∧ Box5 wS w2.heap.size (.int .i64 (xk y)) (.string (bsA (xt y))) (.int .i64 (xn y)) (.int .i64 (xa y)) (.slice s1 (xl y) c1))) (by kernel_rfl) ?_ (fun hHeld => ?_)
      · (try dsimp only); exact HS.out
      refine tk 0 (some 13) (v := ?_) rfl ?_ ?_
      rotate_left
      · intro wS hSw; (try dsimp only at hSw); have y0 := hSw.1.c0; have y1 := hSw.1.c1; have y2 := hSw.1.c2; have y3 := hSw.1.c3; go_simp; (try with_reducible rfl)
      try simp only [Act.put, List.setIfInBounds_toArray, List.set_cons_zero, List.set_cons_succ]
      refine tk 1 (some 14) (v := ?_) rfl ?_ ?_
      rotate_left
      · intro wS hSw; (try dsimp only at hSw); have y0 := hSw.2.1.c0; have y1 := hSw.2.1.c1; have y2 := hSw.2.1.c2; have y3 := hSw.2.1.c3; have y4 := hSw.2.1.c4; go_simp; (try with_reducible rfl)
      try simp only [Act.put, List.setIfInBounds_toArray, List.set_cons_zero, List.set_cons_succ]
      refine tk 2 (some 15) (v := ?_) rfl ?_ ?_
      rotate_left
      · intro wS hSw; (try dsimp only at hSw); have y0 := hSw.2.2.c0; have y1 := hSw.2.2.c1; have y2 := hSw.2.2.c2; have y3 := hSw.2.2.c3; have y4 := hSw.2.2.c4; go_simp; (try with_reducible rfl)
      try simp only [Act.put, List.setIfInBounds_toArray, List.set_cons_zero, List.set_cons_succ]
      refine tk 3 (some 16) (v := ?_) rfl ?_ ?_
      rotate_left
      · intro wS hSw; (try dsimp only at hSw); go_simp; (try with_reducible rfl)
      try simp only [Act.put, List.setIfInBounds_toArray, List.set_cons_zero, List.set_cons_succ]
      refine wpAnyH_ready (rs := [4]) (by kernel_rfl) (by simp) ?_
      refine AllReadyH.cons rfl (fun K hK => ?_) AllReadyH.nil
      go_simp
      refine H4.out.mono ?_
      intro e w4 hpost
      clear H4
      cases r4 with
      | inl q =>
        obtain ⟨hG, hF⟩ := hpost.no
        unfold GUp at hG
        subst hG
        have HRR : Hid (r = .inl q) := (Option.some.inj HL4.out).symm
        have HF : Hid _ := HC.out.fx.trans hF
        clear hpost hF
        exact ⟨rfl, by rw [HRR.out]; exact ⟨rfl, HF.out⟩⟩
      | inr q =>
        obtain ⟨z, j4⟩ := q
        obtain ⟨⟨⟨s2, c2, rfl, hz⟩, hr4⟩, hF4⟩ := hpost.ok
        dsimp only at hz hr4
        have hv3 := HS.out.2.2
        have hsz := hF4.size
        have hyl : w2.heap.size < w3.drew.heap.size := cell_lt hv3.c0
        have HS4 : Hid (B4 w4 w1.heap.size (.int .i64 q1) (.string (bsA q2)) (.int .i64 q3) (.int .i64 q4) ∧ Box5 w4 w.heap.size (.int .i64 (xk x)) (.string (bsA (xt x))) (.int .i64 (xn x)) (.int .i64 (xa x)) (.slice s (xl x) c) ∧ Box5 w4 w2.heap.size (.int .i64 (xk y)) (.string (bsA (xt y))) (.int .i64 (xn y)) (.int .i64 (xa y)) (.slice s1 (xl y) c1)) := ⟨HS.out.1.fx hF4 (by omega), HS.out.2.1.fx hF4 (by omega), HS.out.2.2.fx hF4 (by omega)⟩
        have HC4 : Hid (Cx rb ta cap T w (w.heap.size + 1) j4 op w4) := HC.out.step hF4 hr4 (by omega)
        have HY4 : Hid (XAt (w1.heap.size + 1) w4 y s1) := NdF.keep (Nat.le_refl _) (fun b hb hl => hF4.blk b hl (by omega)) HY.out
        have HZ4 : Hid (XAt w3.drew.heap.size w4 z s2) := hz
        have hw4 : w3.drew.heap.size ≤ w4.heap.size := hsz
        have HRR : Hid (r = .inr ((mkX 10 [] 0 q4 [x, y, z]), j4)) := (Option.some.inj HL4.out).symm
        have hY : Below w4.heap.size w4 (w4.alloc (Obj.cells #[Value.int IntKind.i64 (xk x), Value.string (bsA (xt x)), Value.int IntKind.i64 (xn x), Value.int IntKind.i64 (xa x), Value.slice s (xl x) c, Value.int IntKind.i64 (xk y), Value.string (bsA (xt y)), Value.int IntKind.i64 (xn y), Value.int IntKind.i64 (xa y), Value.slice s1 (xl y) c1, Value.int IntKind.i64 (xk z), Value.string (bsA (xt z)), Value.int IntKind.i64 (xn z), Value.int IntKind.i64 (xa z), Value.slice s2 (xl z) c2] 26)) := (Below.refl _ _).alloc (Nat.le_refl _) _
        refine hK.out _ _ ?_ (fun hHz => ?_)
        · (try dsimp only); exact HS4.out
        clear hpost hK K hHz hv3 hz hr4 hF4 HS HC HY HL4
        try simp only [Act.put, List.setIfInBounds_toArray, List.set_cons_zero, List.set_cons_succ]
        unfold xV nV
        refine wpAnyH_ready (rs := [5]) (by kernel_rfl) (by simp) ?_
        refine AllReadyH.cons rfl (fun K hK => ?_) AllReadyH.nil
        go_simp
        have HS5 : Hid (B4 (w4.alloc (Obj.cells #[Value.int IntKind.i64 (xk x), Value.string (bsA (xt x)), Value.int IntKind.i64 (xn x), Value.int IntKind.i64 (xa x), Value.slice s (xl x) c, Value.int IntKind.i64 (xk y), Value.string (bsA (xt y)), Value.int IntKind.i64 (xn y), Value.int IntKind.i64 (xa y), Value.slice s1 (xl y) c1, Value.int IntKind.i64 (xk z), Value.string (bsA (xt z)), Value.int IntKind.i64 (xn z), Value.int IntKind.i64 (xa z), Value.slice s2 (xl z) c2] 26)) w1.heap.size (.int .i64 q1) (.string (bsA q2)) (.int .i64 q3) (.int .i64 q4) ∧ Box5 (w4.alloc (Obj.cells #[Value.int IntKind.i64 (xk x), Value.string (bsA (xt x)), Value.int IntKind.i64 (xn x), Value.int IntKind.i64 (xa x), Value.slice s (xl x) c, Value.int IntKind.i64 (xk y), Value.string (bsA (xt y)), Value.int IntKind.i64 (xn y), Value.int IntKind.i64 (xa y), Value.slice s1 (xl y) c1, Value.int IntKind.i64 (xk z), Value.string (bsA (xt z)), Value.int IntKind.i64 (xn z), Value.int IntKind.i64 (xa z), Value.slice s2 (xl z) c2] 26)) w.heap.size (.int .i64 (xk x)) (.string (bsA (xt x))) (.int .i64 (xn x)) (.int .i64 (xa x)) (.slice s (xl x) c) ∧ Box5 (w4.alloc (Obj.cells #[Value.int IntKind.i64 (xk x), Value.string (bsA (xt x)), Value.int IntKind.i64 (xn x), Value.int IntKind.i64 (xa x), Value.slice s (xl x) c, Value.int IntKind.i64 (xk y), Value.string (bsA (xt y)), Value.int IntKind.i64 (xn y), Value.int IntKind.i64 (xa y), Value.slice s1 (xl y) c1, Value.int IntKind.i64 (xk z), Value.string (bsA (xt z)), Value.int IntKind.i64 (xn z), Value.int IntKind.i64 (xa z), Value.slice s2 (xl z) c2] 26)) w2.heap.size (.int .i64 (xk y)) (.string (bsA (xt y))) (.int .i64 (xn y)) (.int .i64 (xa y)) (.slice s1 (xl y) c1)) := ⟨HS4.out.1.below hY, HS4.out.2.1.below hY, HS4.out.2.2.below hY⟩
        refine hK.out _ _ ?_ (fun hHz => ?_)
        · (try dsimp only); exact HS5.out
        clear hK K hHz
        try simp only [Act.put, List.setIfInBounds_toArray, List.set_cons_zero, List.set_cons_succ]
        refine wpAnyH_ready (rs := [6]) (by kernel_rfl) (by simp) ?_
        refine AllReadyH.cons rfl (fun K hK => ?_) AllReadyH.nil
        go_simp
        have h6 := node_any 10 ((q1, q2, q3), q4) (some ⟨w4.heap.size, 0, none⟩) 3 3 (w4.alloc (Obj.cells #[Value.int IntKind.i64 (xk x), Value.string (bsA (xt x)), Value.int IntKind.i64 (xn x), Value.int IntKind.i64 (xa x), Value.slice s (xl x) c, Value.int IntKind.i64 (xk y), Value.string (bsA (xt y)), Value.int IntKind.i64 (xn y), Value.int IntKind.i64 (xa y), Value.slice s1 (xl y) c1, Value.int IntKind.i64 (xk z), Value.string (bsA (xt z)), Value.int IntKind.i64 (xn z), Value.int IntKind.i64 (xa z), Value.slice s2 (xl z) c2] 26))
        unfold ttV nV at h6
        dsimp only at h6
        refine h6.mono ?_
        rintro e w6 ⟨rfl, hb6⟩
        clear h6
        have hb46 : Below w4.heap.size w4 w6 := hY.trans (hb6.mono hY.size)
        have HS6 : Hid (B4 w6 w1.heap.size (.int .i64 q1) (.string (bsA q2)) (.int .i64 q3) (.int .i64 q4) ∧ Box5 w6 w.heap.size (.int .i64 (xk x)) (.string (bsA (xt x))) (.int .i64 (xn x)) (.int .i64 (xa x)) (.slice s (xl x) c) ∧ Box5 w6 w2.heap.size (.int .i64 (xk y)) (.string (bsA (xt y))) (.int .i64 (xn y)) (.int .i64 (xa y)) (.slice s1 (xl y) c1)) := ⟨HS5.out.1.below hb6, HS5.out.2.1.below hb6, HS5.out.2.2.below hb6⟩
        have hC6 := HC4.out.below hb46
        have hrow : w6.heap[w4.heap.size]? = some (Obj.cells #[Value.int IntKind.i64 (xk x), Value.string (bsA (xt x)), Value.int IntKind.i64 (xn x), Value.int IntKind.i64 (xa x), Value.slice s (xl x) c, Value.int IntKind.i64 (xk y), Value.string (bsA (xt y)), Value.int IntKind.i64 (xn y), Value.int IntKind.i64 (xa y), Value.slice s1 (xl y) c1, Value.int IntKind.i64 (xk z), Value.string (bsA (xt z)), Value.int IntKind.i64 (xn z), Value.int IntKind.i64 (xa z), Value.slice s2 (xl z) c2] 26) := (hb6.block _ (by simp)).trans (heap_alloc_new w4 _)
        have hlt6 : (w.heap.size + 1) < w4.heap.size := HC4.out.lt
        have hkids : ∀ p ∈ ([(x, s, c), (y, s1, c1), (z, s2, c2)] : List Xp), XD (fun b => b ≠ (w.heap.size + 1) ∧ b ≠ rb ∧ (b < hi ∨ w.heap.size ≤ b)) lo w6 p.1 p.2.1 := fun p hp => by
          simp only [List.mem_cons, List.not_mem_nil, or_false] at hp
          rcases hp with rfl | rfl | rfl
          · exact HX.out.was hC6.fx (fun b h1 h2 => ⟨by omega, h1, Or.inl h2⟩)
          · exact XD.new (HY4.out.below hb46) (by omega) (fun b hb => ⟨by omega, by omega, Or.inr (by omega)⟩)
          · exact XD.new (HZ4.out.below hb46) (by omega) (fun b hb => ⟨by omega, by omega, Or.inr (by omega)⟩)
        have hO6 := own_of (lo := lo) (A := [(x, s, c), (y, s1, c1), (z, s2, c2)]) hrow (by omega) (by simp) rfl
        have hX6 : XD (fun b => b ≠ (w.heap.size + 1) ∧ b ≠ rb ∧ (b < hi ∨ w.heap.size ≤ b)) lo w6 (mkX 10 [] 0 q4 [x, y, z]) (some ⟨w4.heap.size, 0, none⟩) := own_tree (A := [(x, s, c), (y, s1, c1), (z, s2, c2)]) 10 [] 0 q4 hO6 ⟨by omega, by omega, Or.inr (by omega)⟩ hkids
        have HFin : Hid _ := Cx.rett (k := 10) (t := []) (m := 0) (a := q4) (n := 3) 3 rfl hC6 hX6 (by omega) hlt
        have HZ6 : Hid (Box5 w6 (w.heap.size + 1) (.int .i64 0) (.string ⟨#[]⟩) (.int .i64 0) (.int .i64 0) (.slice none 0 0)) := hC6.res
        refine hK.out _ _ ?_ (fun hHz => ?_)
        · (try dsimp only); exact HS6.out
        clear hK K hHz
        try simp only [Act.put, List.setIfInBounds_toArray, List.set_cons_zero, List.set_cons_succ]
        refine wpAnyH_ready (rs := [7]) (by kernel_rfl) (by simp) ?_
        refine AllReadyH.cons rfl (fun K hK => ?_) AllReadyH.nil
        obtain ⟨z0, z1, z2, z3, z4, f0, f1, f2, f3, f4⟩ := HZ6.out
        go_simp
        clear z0 z1 z2 z3 z4 f0 f1 f2 f3 f4
        refine hK.out _ _ ?_ (fun hHz => ?_)
        · (try dsimp only); exact ⟨HS6.out.1.set5 _ _ _ _ _ _ _ (by omega), HS6.out.2.1.set5 _ _ _ _ _ _ _ (by omega), HS6.out.2.2.set5 _ _ _ _ _ _ _ (by omega)⟩
        clear hK K hHz
        try simp only [Act.put, List.setIfInBounds_toArray, List.set_cons_zero, List.set_cons_succ]
        refine wpAnyH_done (by kernel_rfl) ?_ _
        obtain ⟨z0, z1, z2, z3, z4, f0, f1, f2, f3, f4⟩ := own5 HZ6.out (.int .i64 10) (.string (bsA [])) (.int .i64 0) (.int .i64 q4) (.slice (some ⟨w4.heap.size, 0, none⟩) 3 3)
        clear HS4 HC4 HY4 HZ4 HS5 HS6 hC6 hrow hkids hO6 hX6 hb46 hb6 hY HZ6
        go_wp2
        refine bodyPost_ret (v := .agg #[.int .i64 10, .string (bsA []), .int .i64 0, .int .i64 q4, (.slice (some ⟨w4.heap.size, 0, none⟩) 3 3)]) (by unfold set5 at z0 z1 z2 z3 z4; simp [results, Try.results79, go_sem, z0, z1, z2, z3, z4]) rfl ?_
        rw [HRR.out]
        exact HFin.out
end Go.Proofs.Ytcicdapccondkaa
