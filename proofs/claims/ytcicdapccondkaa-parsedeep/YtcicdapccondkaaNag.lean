/- Not between, not among (notAmong). -/
import Derived.Test.YtcicdapccondkaaBtw
namespace Go.Proofs.Ytcicdapccondkaa
open Go.ChangeShapes Go.WideShapes Go.ChangeAt Go.RowKit
set_option linter.unusedSimpArgs false
set_option maxRecDepth 20000
set_option maxHeartbeats 4000000

theorem notAmong_any (rb : Nat) (ta : Option Addr) (cap : Nat) (T : List Tt) (gb gi : X → Nat → Nat → Rz X) (hbt : TReads rb ta cap T 79 gb) (hin2 : TReads rb ta cap T 80 gi) : TReads rb ta cap T 81 (fun x i op => if isT (tkI T (i + 1)) 2 [[98, 101, 116, 119, 101, 101, 110]] then bnd (gb x (i + 1) op) fun y k => okR (tnd 7 (tkI T i) [y]) k else if isT (tkI T (i + 1)) 2 [[105, 110]] then bnd (gi x (i + 1) op) fun y k => okR (tnd 7 (tkI T i) [y]) k else okR x i) := by
  intro lo hi x s c i op w r hop hr hin hx hlo hlw hhi h
  have HBT : Hid (TReads rb ta cap T 79 gb) := hbt
  have HIN : Hid (TReads rb ta cap T 80 gi) := hin2
  have hlt := cell_lt hr.c0
  have HX : Hid (XD (fun b => b ≠ rb ∧ b < hi) lo w x s) := hx
  have hT : Below w.heap.size w (w.alloc (Obj.cells #[Value.int IntKind.i64 (xk x), Value.string (bsA (xt x)), Value.int IntKind.i64 (xn x), Value.int IntKind.i64 (xa x), Value.slice s (xl x) c] 26)) := (Below.refl _ _).alloc (Nat.le_refl _) _
  have HC0 : Hid (Cx rb ta cap T w (w.heap.size + 1) i op ((w.alloc (Obj.cells #[Value.int IntKind.i64 (xk x), Value.string (bsA (xt x)), Value.int IntKind.i64 (xn x), Value.int IntKind.i64 (xa x), Value.slice s (xl x) c] 26)).alloc (Obj.cells #[Value.int IntKind.i64 0, Value.string { data := #[] }, Value.int IntKind.i64 0, Value.int IntKind.i64 0, Value.slice none 0 0] 26))) := by
    have hb : Below w.heap.size w ((w.alloc (Obj.cells #[Value.int IntKind.i64 (xk x), Value.string (bsA (xt x)), Value.int IntKind.i64 (xn x), Value.int IntKind.i64 (xa x), Value.slice s (xl x) c] 26)).alloc (Obj.cells #[Value.int IntKind.i64 0, Value.string { data := #[] }, Value.int IntKind.i64 0, Value.int IntKind.i64 0, Value.slice none 0 0] 26)) := hT.alloc hT.size _
    refine ⟨Fx.below hb, hr.below hb, ?_⟩
    have h := Box5.new (w.alloc (Obj.cells #[Value.int IntKind.i64 (xk x), Value.string (bsA (xt x)), Value.int IntKind.i64 (xn x), Value.int IntKind.i64 (xa x), Value.slice s (xl x) c] 26)) (.int .i64 0) (.string ⟨#[]⟩) (.int .i64 0) (.int .i64 0) (.slice none 0 0) 26
    rw [World.size_alloc] at h
    exact h
  have HBX : Hid (Box5 ((w.alloc (Obj.cells #[Value.int IntKind.i64 (xk x), Value.string (bsA (xt x)), Value.int IntKind.i64 (xn x), Value.int IntKind.i64 (xa x), Value.slice s (xl x) c] 26)).alloc (Obj.cells #[Value.int IntKind.i64 0, Value.string { data := #[] }, Value.int IntKind.i64 0, Value.int IntKind.i64 0, Value.slice none 0 0] 26)) w.heap.size (.int .i64 (xk x)) (.string (bsA (xt x))) (.int .i64 (xn x)) (.int .i64 (xa x)) (.slice s (xl x) c)) := (Box5.new w _ _ _ _ _ 26).below ((Below.refl _ _).alloc (Nat.le_refl _) _)
  have HIT : Hid (i < T.length) := hin
  have HH : Hid _ := h
  obtain ⟨q, hq⟩ : ∃ q, tkI T i = q := ⟨_, rfl⟩
  have HQ : Hid (tkI T i = q) := hq
  obtain ⟨⟨q1, q2, q3⟩, q4⟩ := q
  unfold ptr xV nV
  clear hr h hx hT hin hq hbt hin2
  have h1 := behind_new rb ta cap T i op 2 #[.string ⟨#[98, 101, 116, 119, 101, 101, 110]⟩] [[98, 101, 116, 119, 101, 101, 110]] rfl (by decide) 1 1 rfl _ HC0.out.rdr
  unfold ptr at h1
  simp only [World.size_alloc] at h1
  have hsA : (((w.alloc (Obj.cells #[Value.int IntKind.i64 (xk x), Value.string (bsA (xt x)), Value.int IntKind.i64 (xn x), Value.int IntKind.i64 (xa x), Value.slice s (xl x) c] 26)).alloc (Obj.cells #[Value.int IntKind.i64 0, Value.string { data := #[] }, Value.int IntKind.i64 0, Value.int IntKind.i64 0, Value.slice none 0 0] 26))).heap.size = w.heap.size + 2 := by simp
  go_enter Try.func81, Try.ntmps81
  cases hb : isT (tkI T (i + 1)) 2 [[98, 101, 116, 119, 101, 101, 110]] with
  | true =>
    rw [hb] at h1
    have HI1 : Hid (i + 1 < T.length) := isT_lt (by decide) hb
    obtain ⟨r4, e4, hl4⟩ := bnd_some (show bnd (gb x (i + 1) op) (fun y k => okR (mkX 7 q2 0 q4 [y]) k) = some r by
      have h := HH.out
      dsimp only at h
      rw [if_pos hb, HQ.out] at h
      exact h)
    have HL4 : Hid (bnd (some r4) (fun y k => okR (mkX 7 q2 0 q4 [y]) k) = some r) := hl4
    have HE4 : Hid (gb x (i + 1) op = some r4) := e4
    clear hb HH e4 hl4 HIN
    go_wp2_with fail
    refine h1.mono ?_
    rintro e w3 ⟨rfl, hb3⟩
    clear h1
    have hb3' : Below (((w.alloc (Obj.cells #[Value.int IntKind.i64 (xk x), Value.string (bsA (xt x)), Value.int IntKind.i64 (xn x), Value.int IntKind.i64 (xa x), Value.slice s (xl x) c] 26)).alloc (Obj.cells #[Value.int IntKind.i64 0, Value.string { data := #[] }, Value.int IntKind.i64 0, Value.int IntKind.i64 0, Value.slice none 0 0] 26))).heap.size ((w.alloc (Obj.cells #[Value.int IntKind.i64 (xk x), Value.string (bsA (xt x)), Value.int IntKind.i64 (xn x), Value.int IntKind.i64 (xa x), Value.slice s (xl x) c] 26)).alloc (Obj.cells #[Value.int IntKind.i64 0, Value.string { data := #[] }, Value.int IntKind.i64 0, Value.int IntKind.i64 0, Value.slice none 0 0] 26)) w3 := by rw [hsA]; exact hb3
    have HC : Hid (Cx rb ta cap T w (w.heap.size + 1) i op w3.drew) := (HC0.out.below hb3').drew
    have HS : Hid (Box5 w3.drew w.heap.size (.int .i64 (xk x)) (.string (bsA (xt x))) (.int .i64 (xn x)) (.int .i64 (xa x)) (.slice s (xl x) c)) := (HBX.out.below hb3').drew
    clear hb3 hb3' HC0 HBX
    go_wp2_with fail
    refine wp_region_held_drew (S := (fun wS => Box5 wS w.heap.size (.int .i64 (xk x)) (.string (bsA (xt x))) (.int .i64 (xn x)) (.int .i64 (xa x)) (.slice s (xl x) c))) (by kernel_rfl) ?_ (fun hHeld => ?_)
    · (try dsimp only); exact HS.out
    refine tk 0 (some 9) (v := ?_) rfl ?_ ?_
    rotate_left
    · intro wS hSw; (try dsimp only at hSw); go_simp; (try with_reducible rfl)
    try simp only [Act.put, List.setIfInBounds_toArray, List.set_cons_zero, List.set_cons_succ]
    refine tk 2 (some 11) (v := ?_) rfl ?_ ?_
    rotate_left
    · intro wS hSw; (try dsimp only at hSw); go_simp; (try with_reducible rfl)
    try simp only [Act.put, List.setIfInBounds_toArray, List.set_cons_zero, List.set_cons_succ]
    refine tk 3 (some 12) (v := ?_) rfl ?_ ?_
    rotate_left
    · intro wS hSw; (try dsimp only at hSw); have y0 := hSw.c0; have y1 := hSw.c1; have y2 := hSw.c2; have y3 := hSw.c3; have y4 := hSw.c4; go_simp; (try with_reducible rfl)
    try simp only [Act.put, List.setIfInBounds_toArray, List.set_cons_zero, List.set_cons_succ]
    generalize w3.drew = v0 at HC HS ⊢
    refine wpAnyH_ready (rs := [1]) (by kernel_rfl) (by simp) ?_
    refine AllReadyH.cons rfl (fun K hK => ?_) AllReadyH.nil
    go_simp
    have h := take_any rb ta cap T i op _ HC.out.rdr HIT.out
    unfold ptr at h
    rw [HQ.out] at h
    unfold ttV at h
    dsimp only at h
    refine h.mono ?_
    rintro e v1 ⟨rfl, hr, hf⟩
    clear h
    have HC : Hid (Cx rb ta cap T w (w.heap.size + 1) (i + 1) op v1) := HC.out.step hf hr (by omega)
    have HS : Hid (Box5 v1 w.heap.size (.int .i64 (xk x)) (.string (bsA (xt x))) (.int .i64 (xn x)) (.int .i64 (xa x)) (.slice s (xl x) c)) := HS.out.fx hf (by omega)
    clear hr hf
    refine hK.out _ _ ?_ (fun hHz => ?_)
    · (try dsimp only); exact HS.out
    clear hK K hHz
    try simp only [Act.put, List.setIfInBounds_toArray, List.set_cons_zero, List.set_cons_succ]
    refine wpAnyH_ready (rs := [4]) (by kernel_rfl) (by simp) ?_
    refine AllReadyH.cons rfl (fun K hK => ?_) AllReadyH.nil
    go_simp
    have hv1 := HC.out.fx.size
    have hv2 : (w.heap.size + 1) < v1.heap.size := HC.out.lt
    have h := HBT.out lo hi x s c (i + 1) op v1 r4 hop HC.out.rdr HI1.out (HX.out.was HC.out.fx (fun b h1 h2 => ⟨h1, h2⟩)) hlo (by omega) (by omega) HE4.out
    unfold ptr xV nV at h
    refine h.mono ?_
    intro e w4 hpost
    clear h
    cases r4 with
    | inl q =>
      obtain ⟨hG, hF⟩ := hpost.no
      unfold GUp at hG
      subst hG
      have HRR : Hid (r = .inl q) := (Option.some.inj HL4.out).symm
      have HF : Hid _ := HC.out.fx.trans hF
      clear hpost hF
      exact ⟨rfl, by rw [HRR.out]; exact ⟨rfl, HF.out⟩⟩
    | inr q =>
      obtain ⟨y, j4⟩ := q
      obtain ⟨⟨⟨s4, c4, rfl, hy⟩, hr4⟩, hF4⟩ := hpost.ok
      dsimp only at hy hr4
      have HC4 : Hid (Cx rb ta cap T w (w.heap.size + 1) j4 op w4) := HC.out.step hF4 hr4 (by omega)
      have HS4 : Hid (Box5 w4 w.heap.size (.int .i64 (xk x)) (.string (bsA (xt x))) (.int .i64 (xn x)) (.int .i64 (xa x)) (.slice s (xl x) c)) := HS.out.fx hF4 (by omega)
      have HY4 : Hid (XD (fun b => b ≠ rb ∧ (b < hi ∨ v1.heap.size ≤ b)) lo w4 y s4) := hy
      have hw4 := hF4.size
      have HRR : Hid (r = .inr (mkX 7 q2 0 q4 [y], j4)) := (Option.some.inj HL4.out).symm
      have hY : Below w4.heap.size w4 (w4.alloc (Obj.cells #[Value.int IntKind.i64 (xk y), Value.string (bsA (xt y)), Value.int IntKind.i64 (xn y), Value.int IntKind.i64 (xa y), Value.slice s4 (xl y) c4] 26)) := (Below.refl _ _).alloc (Nat.le_refl _) _
      refine hK.out _ _ ?_ (fun hHz => ?_)
      · (try dsimp only); exact HS4.out
      clear hpost hK K hHz hy hr4 hF4 HS HC HL4
      try simp only [Act.put, List.setIfInBounds_toArray, List.set_cons_zero, List.set_cons_succ]
      unfold xV nV
      refine wpAnyH_ready (rs := [5]) (by kernel_rfl) (by simp) ?_
      refine AllReadyH.cons rfl (fun K hK => ?_) AllReadyH.nil
      go_simp
      refine hK.out _ _ ?_ (fun hHz => ?_)
      · (try dsimp only); exact HS4.out.below hY
      clear hK K hHz
      try simp only [Act.put, List.setIfInBounds_toArray, List.set_cons_zero, List.set_cons_succ]
      refine wpAnyH_ready (rs := [6]) (by kernel_rfl) (by simp) ?_
      refine AllReadyH.cons rfl (fun K hK => ?_) AllReadyH.nil
      go_simp
      have h6 := textNode_any 7 ((q1, q2, q3), q4) (some ⟨w4.heap.size, 0, none⟩) 1 1 (w4.alloc (Obj.cells #[Value.int IntKind.i64 (xk y), Value.string (bsA (xt y)), Value.int IntKind.i64 (xn y), Value.int IntKind.i64 (xa y), Value.slice s4 (xl y) c4] 26))
      unfold ttV nV at h6
      dsimp only at h6
      refine h6.mono ?_
      rintro e w6 ⟨rfl, hb6⟩
      clear h6
      have hb46 : Below w4.heap.size w4 w6 := hY.trans (hb6.mono hY.size)
      have HS6 : Hid (Box5 w6 w.heap.size (.int .i64 (xk x)) (.string (bsA (xt x))) (.int .i64 (xn x)) (.int .i64 (xa x)) (.slice s (xl x) c)) := HS4.out.below hb46
      have hC6 := HC4.out.below hb46
      have hrow : w6.heap[w4.heap.size]? = some (Obj.cells #[Value.int IntKind.i64 (xk y), Value.string (bsA (xt y)), Value.int IntKind.i64 (xn y), Value.int IntKind.i64 (xa y), Value.slice s4 (xl y) c4] 26) := (hb6.block _ (by simp)).trans (heap_alloc_new w4 _)
      have hO6 := own_of (lo := lo) (A := [(y, s4, c4)]) hrow (by omega) (by simp) rfl
      have hX6 : XD (fun b => b ≠ (w.heap.size + 1) ∧ b ≠ rb ∧ (b < hi ∨ w.heap.size ≤ b)) lo w6 (mkX 7 q2 0 q4 [y]) (some ⟨w4.heap.size, 0, none⟩) := own_tree (A := [(y, s4, c4)]) 7 q2 0 q4 hO6 ⟨by omega, by omega, Or.inr (by omega)⟩ (fun p hp => by
        rw [List.mem_singleton.1 hp]
        intro w' hk
        exact HY4.out w' fun b hb hp => (hk b (Nat.lt_of_lt_of_le hb hb46.size) ⟨by omega, hp.1, by omega⟩).trans (hb46.block b hb))
      have HFin : Hid _ := Cx.rett (k := 7) (t := q2) (m := 0) (a := q4) (n := 1) 1 rfl hC6 hX6 (by omega) hlt
      have HZ6 : Hid (Box5 w6 (w.heap.size + 1) (.int .i64 0) (.string ⟨#[]⟩) (.int .i64 0) (.int .i64 0) (.slice none 0 0)) := hC6.res
      refine hK.out _ _ ?_ (fun hHz => ?_)
      · (try dsimp only); exact HS6.out
      clear hK K hHz
      try simp only [Act.put, List.setIfInBounds_toArray, List.set_cons_zero, List.set_cons_succ]
      refine wpAnyH_ready (rs := [7]) (by kernel_rfl) (by simp) ?_
      refine AllReadyH.cons rfl (fun K hK => ?_) AllReadyH.nil
      obtain ⟨z0, z1, z2, z3, z4, f0, f1, f2, f3, f4⟩ := HZ6.out
      go_simp
      clear z0 z1 z2 z3 z4 f0 f1 f2 f3 f4
      refine hK.out _ _ ?_ (fun hHz => ?_)
      · (try dsimp only); exact HS6.out.set5 _ _ _ _ _ _ _ (by omega)
      clear hK K hHz
      try simp only [Act.put, List.setIfInBounds_toArray, List.set_cons_zero, List.set_cons_succ]
      refine wpAnyH_done (by kernel_rfl) ?_ _
      obtain ⟨z0, z1, z2, z3, z4, f0, f1, f2, f3, f4⟩ := own5 HZ6.out (.int .i64 7) (.string (bsA q2)) (.int .i64 0) (.int .i64 q4) (.slice (some ⟨w4.heap.size, 0, none⟩) 1 1)
      clear HC4 HS4 HY4 HS6 hC6 hrow hO6 hX6 hb46 hb6 hY HZ6
      go_wp2
      refine bodyPost_ret (v := .agg #[.int .i64 7, .string (bsA q2), .int .i64 0, .int .i64 q4, (.slice (some ⟨w4.heap.size, 0, none⟩) 1 1)]) (by unfold set5 at z0 z1 z2 z3 z4; simp [results, Try.results81, go_sem, z0, z1, z2, z3, z4]) rfl ?_
      rw [HRR.out]
      exact HFin.out
  | false =>
    rw [hb] at h1
    have HH2 : Hid ((if isT (tkI T (i + 1)) 2 [[105, 110]] then bnd (gi x (i + 1) op) (fun y k => okR (mkX 7 q2 0 q4 [y]) k) else okR x i) = some r) := by
      have h := HH.out
      dsimp only at h
      rw [if_neg (by rw [hb]; decide), HQ.out] at h
      exact h
    clear hb HH HBT
    go_wp2_with fail
    refine h1.mono ?_
    rintro e w2 ⟨rfl, hb3⟩
    clear h1
    have hb3' : Below (((w.alloc (Obj.cells #[Value.int IntKind.i64 (xk x), Value.string (bsA (xt x)), Value.int IntKind.i64 (xn x), Value.int IntKind.i64 (xa x), Value.slice s (xl x) c] 26)).alloc (Obj.cells #[Value.int IntKind.i64 0, Value.string { data := #[] }, Value.int IntKind.i64 0, Value.int IntKind.i64 0, Value.slice none 0 0] 26))).heap.size ((w.alloc (Obj.cells #[Value.int IntKind.i64 (xk x), Value.string (bsA (xt x)), Value.int IntKind.i64 (xn x), Value.int IntKind.i64 (xa x), Value.slice s (xl x) c] 26)).alloc (Obj.cells #[Value.int IntKind.i64 0, Value.string { data := #[] }, Value.int IntKind.i64 0, Value.int IntKind.i64 0, Value.slice none 0 0] 26)) w2 := by rw [hsA]; exact hb3
    have HC2 : Hid (Cx rb ta cap T w (w.heap.size + 1) i op w2) := HC0.out.below hb3'
    have HS2 : Hid (Box5 w2 w.heap.size (.int .i64 (xk x)) (.string (bsA (xt x))) (.int .i64 (xn x)) (.int .i64 (xa x)) (.slice s (xl x) c)) := HBX.out.below hb3'
    have h2 := behind_new rb ta cap T i op 2 #[.string ⟨#[105, 110]⟩] [[105, 110]] rfl (by decide) 1 1 rfl w2 HC2.out.rdr
    unfold ptr at h2
    clear hb3 hb3' HC0 HBX
    cases hb : isT (tkI T (i + 1)) 2 [[105, 110]] with
    | true =>
      rw [hb] at h2
      have HI1 : Hid (i + 1 < T.length) := isT_lt (by decide) hb
      obtain ⟨r4, e4, hl4⟩ := bnd_some (show bnd (gi x (i + 1) op) (fun y k => okR (mkX 7 q2 0 q4 [y]) k) = some r by
        have h := HH2.out
        rw [if_pos hb] at h
        exact h)
      have HL4 : Hid (bnd (some r4) (fun y k => okR (mkX 7 q2 0 q4 [y]) k) = some r) := hl4
      have HE4 : Hid (gi x (i + 1) op = some r4) := e4
      clear hb HH2 e4 hl4
      go_wp2_with fail
      refine h2.mono ?_
      rintro e w3 ⟨rfl, hb3⟩
      clear h2
      have HC : Hid (Cx rb ta cap T w (w.heap.size + 1) i op w3.drew) := (HC2.out.below hb3).drew
      have HS : Hid (Box5 w3.drew w.heap.size (.int .i64 (xk x)) (.string (bsA (xt x))) (.int .i64 (xn x)) (.int .i64 (xa x)) (.slice s (xl x) c)) := (HS2.out.below hb3).drew
      clear hb3 HC2 HS2
      go_wp2_with fail
      refine wp_region_held_drew (S := (fun wS => Box5 wS w.heap.size (.int .i64 (xk x)) (.string (bsA (xt x))) (.int .i64 (xn x)) (.int .i64 (xa x)) (.slice s (xl x) c))) (by kernel_rfl) ?_ (fun hHeld => ?_)
      · (try dsimp only); exact HS.out
      refine tk 0 (some 20) (v := ?_) rfl ?_ ?_
      rotate_left
      · intro wS hSw; (try dsimp only at hSw); go_simp; (try with_reducible rfl)
      try simp only [Act.put, List.setIfInBounds_toArray, List.set_cons_zero, List.set_cons_succ]
      refine tk 2 (some 22) (v := ?_) rfl ?_ ?_
      rotate_left
      · intro wS hSw; (try dsimp only at hSw); go_simp; (try with_reducible rfl)
      try simp only [Act.put, List.setIfInBounds_toArray, List.set_cons_zero, List.set_cons_succ]
      refine tk 3 (some 23) (v := ?_) rfl ?_ ?_
      rotate_left
      · intro wS hSw; (try dsimp only at hSw); have y0 := hSw.c0; have y1 := hSw.c1; have y2 := hSw.c2; have y3 := hSw.c3; have y4 := hSw.c4; go_simp; (try with_reducible rfl)
      try simp only [Act.put, List.setIfInBounds_toArray, List.set_cons_zero, List.set_cons_succ]
      generalize w3.drew = v0 at HC HS ⊢
      refine wpAnyH_ready (rs := [1]) (by kernel_rfl) (by simp) ?_
      refine AllReadyH.cons rfl (fun K hK => ?_) AllReadyH.nil
      go_simp
      have h := take_any rb ta cap T i op _ HC.out.rdr HIT.out
      unfold ptr at h
      rw [HQ.out] at h
      unfold ttV at h
      dsimp only at h
      refine h.mono ?_
      rintro e v1 ⟨rfl, hr, hf⟩
      clear h
      have HC : Hid (Cx rb ta cap T w (w.heap.size + 1) (i + 1) op v1) := HC.out.step hf hr (by omega)
      have HS : Hid (Box5 v1 w.heap.size (.int .i64 (xk x)) (.string (bsA (xt x))) (.int .i64 (xn x)) (.int .i64 (xa x)) (.slice s (xl x) c)) := HS.out.fx hf (by omega)
      clear hr hf
      refine hK.out _ _ ?_ (fun hHz => ?_)
      · (try dsimp only); exact HS.out
      clear hK K hHz
      try simp only [Act.put, List.setIfInBounds_toArray, List.set_cons_zero, List.set_cons_succ]
      refine wpAnyH_ready (rs := [4]) (by kernel_rfl) (by simp) ?_
      refine AllReadyH.cons rfl (fun K hK => ?_) AllReadyH.nil
      go_simp
      have hv1 := HC.out.fx.size
      have hv2 : (w.heap.size + 1) < v1.heap.size := HC.out.lt
      have h := HIN.out lo hi x s c (i + 1) op v1 r4 hop HC.out.rdr HI1.out (HX.out.was HC.out.fx (fun b h1 h2 => ⟨h1, h2⟩)) hlo (by omega) (by omega) HE4.out
      unfold ptr xV nV at h
      refine h.mono ?_
      intro e w4 hpost
      clear h
      cases r4 with
      | inl q =>
        obtain ⟨hG, hF⟩ := hpost.no
        unfold GUp at hG
        subst hG
        have HRR : Hid (r = .inl q) := (Option.some.inj HL4.out).symm
        have HF : Hid _ := HC.out.fx.trans hF
        clear hpost hF
        exact ⟨rfl, by rw [HRR.out]; exact ⟨rfl, HF.out⟩⟩
      | inr q =>
        obtain ⟨y, j4⟩ := q
        obtain ⟨⟨⟨s4, c4, rfl, hy⟩, hr4⟩, hF4⟩ := hpost.ok
        dsimp only at hy hr4
        have HC4 : Hid (Cx rb ta cap T w (w.heap.size + 1) j4 op w4) := HC.out.step hF4 hr4 (by omega)
        have HS4 : Hid (Box5 w4 w.heap.size (.int .i64 (xk x)) (.string (bsA (xt x))) (.int .i64 (xn x)) (.int .i64 (xa x)) (.slice s (xl x) c)) := HS.out.fx hF4 (by omega)
        have HY4 : Hid (XD (fun b => b ≠ rb ∧ (b < hi ∨ v1.heap.size ≤ b)) lo w4 y s4) := hy
        have hw4 := hF4.size
        have HRR : Hid (r = .inr (mkX 7 q2 0 q4 [y], j4)) := (Option.some.inj HL4.out).symm
        have hY : Below w4.heap.size w4 (w4.alloc (Obj.cells #[Value.int IntKind.i64 (xk y), Value.string (bsA (xt y)), Value.int IntKind.i64 (xn y), Value.int IntKind.i64 (xa y), Value.slice s4 (xl y) c4] 26)) := (Below.refl _ _).alloc (Nat.le_refl _) _
        refine hK.out _ _ ?_ (fun hHz => ?_)
        · (try dsimp only); exact HS4.out
        clear hpost hK K hHz hy hr4 hF4 HS HC HL4
        try simp only [Act.put, List.setIfInBounds_toArray, List.set_cons_zero, List.set_cons_succ]
        unfold xV nV
        refine wpAnyH_ready (rs := [5]) (by kernel_rfl) (by simp) ?_
        refine AllReadyH.cons rfl (fun K hK => ?_) AllReadyH.nil
        go_simp
        refine hK.out _ _ ?_ (fun hHz => ?_)
        · (try dsimp only); exact HS4.out.below hY
        clear hK K hHz
        try simp only [Act.put, List.setIfInBounds_toArray, List.set_cons_zero, List.set_cons_succ]
        refine wpAnyH_ready (rs := [6]) (by kernel_rfl) (by simp) ?_
        refine AllReadyH.cons rfl (fun K hK => ?_) AllReadyH.nil
        go_simp
        have h6 := textNode_any 7 ((q1, q2, q3), q4) (some ⟨w4.heap.size, 0, none⟩) 1 1 (w4.alloc (Obj.cells #[Value.int IntKind.i64 (xk y), Value.string (bsA (xt y)), Value.int IntKind.i64 (xn y), Value.int IntKind.i64 (xa y), Value.slice s4 (xl y) c4] 26))
        unfold ttV nV at h6
        dsimp only at h6
        refine h6.mono ?_
        rintro e w6 ⟨rfl, hb6⟩
        clear h6
        have hb46 : Below w4.heap.size w4 w6 := hY.trans (hb6.mono hY.size)
        have HS6 : Hid (Box5 w6 w.heap.size (.int .i64 (xk x)) (.string (bsA (xt x))) (.int .i64 (xn x)) (.int .i64 (xa x)) (.slice s (xl x) c)) := HS4.out.below hb46
        have hC6 := HC4.out.below hb46
        have hrow : w6.heap[w4.heap.size]? = some (Obj.cells #[Value.int IntKind.i64 (xk y), Value.string (bsA (xt y)), Value.int IntKind.i64 (xn y), Value.int IntKind.i64 (xa y), Value.slice s4 (xl y) c4] 26) := (hb6.block _ (by simp)).trans (heap_alloc_new w4 _)
        have hO6 := own_of (lo := lo) (A := [(y, s4, c4)]) hrow (by omega) (by simp) rfl
        have hX6 : XD (fun b => b ≠ (w.heap.size + 1) ∧ b ≠ rb ∧ (b < hi ∨ w.heap.size ≤ b)) lo w6 (mkX 7 q2 0 q4 [y]) (some ⟨w4.heap.size, 0, none⟩) := own_tree (A := [(y, s4, c4)]) 7 q2 0 q4 hO6 ⟨by omega, by omega, Or.inr (by omega)⟩ (fun p hp => by
          rw [List.mem_singleton.1 hp]
          intro w' hk
          exact HY4.out w' fun b hb hp => (hk b (Nat.lt_of_lt_of_le hb hb46.size) ⟨by omega, hp.1, by omega⟩).trans (hb46.block b hb))
        have HFin : Hid _ := Cx.rett (k := 7) (t := q2) (m := 0) (a := q4) (n := 1) 1 rfl hC6 hX6 (by omega) hlt
        have HZ6 : Hid (Box5 w6 (w.heap.size + 1) (.int .i64 0) (.string ⟨#[]⟩) (.int .i64 0) (.int .i64 0) (.slice none 0 0)) := hC6.res
        refine hK.out _ _ ?_ (fun hHz => ?_)
        · (try dsimp only); exact HS6.out
        clear hK K hHz
        try simp only [Act.put, List.setIfInBounds_toArray, List.set_cons_zero, List.set_cons_succ]
        refine wpAnyH_ready (rs := [7]) (by kernel_rfl) (by simp) ?_
        refine AllReadyH.cons rfl (fun K hK => ?_) AllReadyH.nil
        obtain ⟨z0, z1, z2, z3, z4, f0, f1, f2, f3, f4⟩ := HZ6.out
        go_simp
        clear z0 z1 z2 z3 z4 f0 f1 f2 f3 f4
        refine hK.out _ _ ?_ (fun hHz => ?_)
        · (try dsimp only); exact HS6.out.set5 _ _ _ _ _ _ _ (by omega)
        clear hK K hHz
        try simp only [Act.put, List.setIfInBounds_toArray, List.set_cons_zero, List.set_cons_succ]
        refine wpAnyH_done (by kernel_rfl) ?_ _
        obtain ⟨z0, z1, z2, z3, z4, f0, f1, f2, f3, f4⟩ := own5 HZ6.out (.int .i64 7) (.string (bsA q2)) (.int .i64 0) (.int .i64 q4) (.slice (some ⟨w4.heap.size, 0, none⟩) 1 1)
        clear HC4 HS4 HY4 HS6 hC6 hrow hO6 hX6 hb46 hb6 hY HZ6
        go_wp2
        refine bodyPost_ret (v := .agg #[.int .i64 7, .string (bsA q2), .int .i64 0, .int .i64 q4, (.slice (some ⟨w4.heap.size, 0, none⟩) 1 1)]) (by unfold set5 at z0 z1 z2 z3 z4; simp [results, Try.results81, go_sem, z0, z1, z2, z3, z4]) rfl ?_
        rw [HRR.out]
        exact HFin.out
    | false =>
      rw [hb] at h2
      have HRR : Hid (r = .inr (x, i)) := by
        have h := HH2.out
        rw [if_neg (by rw [hb]; decide)] at h
        exact (Option.some.inj h).symm
      clear hb HH2 HIN
      go_wp2_with fail
      refine h2.mono ?_
      rintro e w3 ⟨rfl, hb3⟩
      clear h2
      have hC := HC2.out.below hb3
      have HFin : Hid _ := Cx.rety (hi := hi) c hC (HX.out.was hC.fx (fun b h1 h2 => ⟨by omega, h1, Or.inl h2⟩)) (by omega) hlt
      obtain ⟨y0, y1, y2, y3, y4, _, _, _, _, _⟩ := HS2.out.below hb3
      obtain ⟨z0, z1, z2, z3, z4, f0, f1, f2, f3, f4⟩ := own5 hC.res (.int .i64 (xk x)) (.string (bsA (xt x))) (.int .i64 (xn x)) (.int .i64 (xa x)) (.slice s (xl x) c)
      obtain ⟨d0, d1, d2, d3, d4, g0, g1, g2, g3, g4⟩ := hC.res
      clear hC hb3 HC2 HS2 HX
      go_wp2
      refine bodyPost_ret (v := .agg #[.int .i64 (xk x), .string (bsA (xt x)), .int .i64 (xn x), .int .i64 (xa x), .slice s (xl x) c]) (by unfold set5 at z0 z1 z2 z3 z4; simp [results, Try.results81, go_sem, z0, z1, z2, z3, z4]) rfl ?_
      rw [HRR.out]
      exact HFin.out
end Go.Proofs.Ytcicdapccondkaa
