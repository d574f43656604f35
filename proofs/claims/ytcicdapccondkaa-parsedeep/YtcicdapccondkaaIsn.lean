/- Nothing, or not (isNull). -/
import Derived.Test.YtcicdapccondkaaXdd
namespace Go.Proofs.Ytcicdapccondkaa
open Go.ChangeShapes Go.WideShapes Go.ChangeAt Go.RowKit
set_option linter.unusedSimpArgs false
set_option maxRecDepth 20000
set_option maxHeartbeats 4000000

theorem isNull_any (rb : Nat) (ta : Option Addr) (cap : Nat) (T : List Tt) : TReads rb ta cap T 78 (fun x i _ => isNP T x i) := by
  intro lo hi x s c i op w r _ hr hin hx hlo hlw hhi h
  have hlt := cell_lt hr.c0
  have HX : Hid (XD (fun b => b ≠ rb ∧ b < hi) lo w x s) := hx
  have hT : Below w.heap.size w (w.alloc (Obj.cells #[Value.int IntKind.i64 (xk x), Value.string (bsA (xt x)), Value.int IntKind.i64 (xn x), Value.int IntKind.i64 (xa x), Value.slice s (xl x) c] 26)) := (Below.refl _ _).alloc (Nat.le_refl _) _
  have HC0 : Hid (Cx rb ta cap T w (w.heap.size + 1) i op ((w.alloc (Obj.cells #[Value.int IntKind.i64 (xk x), Value.string (bsA (xt x)), Value.int IntKind.i64 (xn x), Value.int IntKind.i64 (xa x), Value.slice s (xl x) c] 26)).alloc (Obj.cells #[Value.int IntKind.i64 0, Value.string { data := #[] }, Value.int IntKind.i64 0, Value.int IntKind.i64 0, Value.slice none 0 0] 26))) := by
    have hb : Below w.heap.size w ((w.alloc (Obj.cells #[Value.int IntKind.i64 (xk x), Value.string (bsA (xt x)), Value.int IntKind.i64 (xn x), Value.int IntKind.i64 (xa x), Value.slice s (xl x) c] 26)).alloc (Obj.cells #[Value.int IntKind.i64 0, Value.string { data := #[] }, Value.int IntKind.i64 0, Value.int IntKind.i64 0, Value.slice none 0 0] 26)) := hT.alloc hT.size _
    refine ⟨Fx.below hb, hr.below hb, ?_⟩
    have h := Box5.new (w.alloc (Obj.cells #[Value.int IntKind.i64 (xk x), Value.string (bsA (xt x)), Value.int IntKind.i64 (xn x), Value.int IntKind.i64 (xa x), Value.slice s (xl x) c] 26)) (.int .i64 0) (.string ⟨#[]⟩) (.int .i64 0) (.int .i64 0) (.slice none 0 0) 26
    rw [World.size_alloc] at h
    exact h
  have HBX : Hid (Box5 ((w.alloc (Obj.cells #[Value.int IntKind.i64 (xk x), Value.string (bsA (xt x)), Value.int IntKind.i64 (xn x), Value.int IntKind.i64 (xa x), Value.slice s (xl x) c] 26)).alloc (Obj.cells #[Value.int IntKind.i64 0, Value.string { data := #[] }, Value.int IntKind.i64 0, Value.int IntKind.i64 0, Value.slice none 0 0] 26)) w.heap.size (.int .i64 (xk x)) (.string (bsA (xt x))) (.int .i64 (xn x)) (.int .i64 (xa x)) (.slice s (xl x) c)) := (Box5.new w _ _ _ _ _ 26).below ((Below.refl _ _).alloc (Nat.le_refl _) _)
  have HIT : Hid (i < T.length) := hin
  have HH : Hid _ := h
  obtain ⟨q, hq⟩ : ∃ q, tkI T i = q := ⟨_, rfl⟩
  have HQ : Hid (tkI T i = q) := hq
  obtain ⟨⟨q1, q2, q3⟩, q4⟩ := q
  unfold ptr xV nV
  clear hr h hx hT hin hq 
  go_enter Try.func78, Try.ntmps78
  go_wp2_with fail
  go_cut [5] from 6 to 10 (fun s5 wx => ∃ nb gb, s5 = .pointer (some ⟨nb, 0, none⟩) ∧ RgO rb ta cap T w (w.heap.size + 1) (w.heap.size + 2) (i + 1) op (Obj.cells #[Value.int IntKind.i64 (xk x), Value.string (bsA (xt x)), Value.int IntKind.i64 (xn x), Value.int IntKind.i64 (xa x), Value.slice s (xl x) c] 26) nb gb (.int .i64 9) (.string (bsA [])) (.int .i64 0) (.int .i64 q4) (.slice (some ⟨gb, 0, none⟩) 1 1) wx)
  case first =>
    have HI : Hid (RgI rb ta cap T w (w.heap.size + 1) (w.heap.size + 2) i op (Obj.cells #[Value.int IntKind.i64 (xk x), Value.string (bsA (xt x)), Value.int IntKind.i64 (xn x), Value.int IntKind.i64 (xa x), Value.slice s (xl x) c] 26) none none ((w.alloc (Obj.cells #[Value.int IntKind.i64 (xk x), Value.string (bsA (xt x)), Value.int IntKind.i64 (xn x), Value.int IntKind.i64 (xa x), Value.slice s (xl x) c] 26)).alloc (Obj.cells #[Value.int IntKind.i64 0, Value.string { data := #[] }, Value.int IntKind.i64 0, Value.int IntKind.i64 0, Value.slice none 0 0] 26)).drew) := RgI.start HC0.out.drew (by simp)
    have HS : Hid (Box5 ((w.alloc (Obj.cells #[Value.int IntKind.i64 (xk x), Value.string (bsA (xt x)), Value.int IntKind.i64 (xn x), Value.int IntKind.i64 (xa x), Value.slice s (xl x) c] 26)).alloc (Obj.cells #[Value.int IntKind.i64 0, Value.string { data := #[] }, Value.int IntKind.i64 0, Value.int IntKind.i64 0, Value.slice none 0 0] 26)).drew w.heap.size (.int .i64 (xk x)) (.string (bsA (xt x))) (.int .i64 (xn x)) (.int .i64 (xa x)) (.slice s (xl x) c)) := HBX.out.drew
    clear HC0 HBX
    refine wp_region_held_drew (S := (fun wS => Box5 wS w.heap.size (.int .i64 (xk x)) (.string (bsA (xt x))) (.int .i64 (xn x)) (.int .i64 (xa x)) (.slice s (xl x) c))) (by kernel_rfl) ?_ (fun hHeld => ?_)
    · (try dsimp only); exact HS.out
    refine tk 0 (some 6) (v := ?_) rfl ?_ ?_
    rotate_left
    · intro wS hSw; (try dsimp only at hSw); go_simp; (try with_reducible rfl)
    try simp only [Act.put, List.setIfInBounds_toArray, List.set_cons_zero, List.set_cons_succ]
    refine tk 2 (some 8) (v := ?_) rfl ?_ ?_
    rotate_left
    · intro wS hSw; (try dsimp only at hSw); have y0 := hSw.c0; have y1 := hSw.c1; have y2 := hSw.c2; have y3 := hSw.c3; have y4 := hSw.c4; go_simp; (try with_reducible rfl)
    try simp only [Act.put, List.setIfInBounds_toArray, List.set_cons_zero, List.set_cons_succ]
    generalize ((w.alloc (Obj.cells #[Value.int IntKind.i64 (xk x), Value.string (bsA (xt x)), Value.int IntKind.i64 (xn x), Value.int IntKind.i64 (xa x), Value.slice s (xl x) c] 26)).alloc (Obj.cells #[Value.int IntKind.i64 0, Value.string { data := #[] }, Value.int IntKind.i64 0, Value.int IntKind.i64 0, Value.slice none 0 0] 26)).drew = v0 at HI HS ⊢
    refine wpAnyH_ready (rs := [1, 3, 5]) (by kernel_rfl) (by simp) ?_
    refine AllReadyH.cons rfl (fun K hK => ?_) (AllReadyH.cons rfl (fun K hK => ?_) (AllReadyH.cons rfl (fun K hK => ?_) AllReadyH.nil))
    · skip
      go_simp
      have h := take_any rb ta cap T i op _ HI.out.cx.rdr HIT.out
      unfold ptr at h
      rw [HQ.out] at h
      unfold ttV at h
      dsimp only at h
      refine h.mono ?_
      rintro e v1 ⟨rfl, hr, hf⟩
      clear h
      have HI : Hid (RgI rb ta cap T w (w.heap.size + 1) (w.heap.size + 2) (i + 1) op (Obj.cells #[Value.int IntKind.i64 (xk x), Value.string (bsA (xt x)), Value.int IntKind.i64 (xn x), Value.int IntKind.i64 (xa x), Value.slice s (xl x) c] 26) none none v1) := HI.out.fx hf hr (by omega) (by omega)
      have HS : Hid (Box5 v1 w.heap.size (.int .i64 (xk x)) (.string (bsA (xt x))) (.int .i64 (xn x)) (.int .i64 (xa x)) (.slice s (xl x) c)) := HS.out.fx hf (by omega)
      clear hr hf
      refine hK.out _ _ ?_ (fun hHz => ?_)
      · (try dsimp only); exact HS.out
      clear hK K hHz
      try simp only [Act.put, List.setIfInBounds_toArray, List.set_cons_zero, List.set_cons_succ]
      refine wpAnyH_ready (rs := [3, 5]) (by kernel_rfl) (by simp) ?_
      refine AllReadyH.cons rfl (fun K hK => ?_) (AllReadyH.cons rfl (fun K hK => ?_) AllReadyH.nil)
      · skip
        go_simp
        have HI : Hid (RgI rb ta cap T w (w.heap.size + 1) (w.heap.size + 2) (i + 1) op (Obj.cells #[Value.int IntKind.i64 (xk x), Value.string (bsA (xt x)), Value.int IntKind.i64 (xn x), Value.int IntKind.i64 (xa x), Value.slice s (xl x) c] 26) none (some (v1.heap.size)) (v1.alloc (Obj.cells #[Value.int IntKind.i64 (xk x), Value.string (bsA (xt x)), Value.int IntKind.i64 (xn x), Value.int IntKind.i64 (xa x), Value.slice s (xl x) c] 26))) := HI.out.row (by simp) (by omega) (by omega)
        have HS : Hid (Box5 (v1.alloc (Obj.cells #[Value.int IntKind.i64 (xk x), Value.string (bsA (xt x)), Value.int IntKind.i64 (xn x), Value.int IntKind.i64 (xa x), Value.slice s (xl x) c] 26)) w.heap.size (.int .i64 (xk x)) (.string (bsA (xt x))) (.int .i64 (xn x)) (.int .i64 (xa x)) (.slice s (xl x) c)) := HS.out.below ((Below.refl _ _).alloc (Nat.le_refl _) _)
        refine hK.out _ _ ?_ (fun hHz => ?_)
        · (try dsimp only); exact HS.out
        clear hK K hHz
        try simp only [Act.put, List.setIfInBounds_toArray, List.set_cons_zero, List.set_cons_succ]
        generalize (v1.alloc (Obj.cells #[Value.int IntKind.i64 (xk x), Value.string (bsA (xt x)), Value.int IntKind.i64 (xn x), Value.int IntKind.i64 (xa x), Value.slice s (xl x) c] 26)) = v2 at HI HS ⊢
        refine wpAnyH_ready (rs := [4, 5]) (by kernel_rfl) (by simp) ?_
        refine AllReadyH.cons rfl (fun K hK => ?_) (AllReadyH.cons rfl (fun K hK => ?_) AllReadyH.nil)
        · skip
          go_simp
          have h := node_any 9 ((q1, q2, q3), q4) (some ⟨v1.heap.size, 0, none⟩) 1 1 v2
          unfold ttV nV at h
          dsimp only at h
          refine h.mono ?_
          rintro e v3 ⟨rfl, hb⟩
          clear h
          have HI : Hid (RgI rb ta cap T w (w.heap.size + 1) (w.heap.size + 2) (i + 1) op (Obj.cells #[Value.int IntKind.i64 (xk x), Value.string (bsA (xt x)), Value.int IntKind.i64 (xn x), Value.int IntKind.i64 (xa x), Value.slice s (xl x) c] 26) none (some (v1.heap.size)) v3) := HI.out.below hb (by omega) (by omega)
          have HS : Hid (Box5 v3 w.heap.size (.int .i64 (xk x)) (.string (bsA (xt x))) (.int .i64 (xn x)) (.int .i64 (xa x)) (.slice s (xl x) c)) := HS.out.below hb
          clear hb
          refine hK.out _ _ ?_ (fun hHz => ?_)
          · (try dsimp only); exact HS.out
          clear hK K hHz
          try simp only [Act.put, List.setIfInBounds_toArray, List.set_cons_zero, List.set_cons_succ]
          refine wpAnyH_ready (rs := [5]) (by kernel_rfl) (by simp) ?_
          refine AllReadyH.cons rfl (fun K hK => ?_) AllReadyH.nil
          go_simp
          have HI : Hid (RgI rb ta cap T w (w.heap.size + 1) (w.heap.size + 2) (i + 1) op (Obj.cells #[Value.int IntKind.i64 (xk x), Value.string (bsA (xt x)), Value.int IntKind.i64 (xn x), Value.int IntKind.i64 (xa x), Value.slice s (xl x) c] 26) (some (v3.heap.size)) (some (v1.heap.size)) (v3.alloc (Obj.cells #[Value.int IntKind.i64 0, Value.string { data := #[] }, Value.int IntKind.i64 0, Value.int IntKind.i64 0, Value.slice none 0 0] 26))) := HI.out.new (by simp) (by omega) (by omega)
          have HS : Hid (Box5 (v3.alloc (Obj.cells #[Value.int IntKind.i64 0, Value.string { data := #[] }, Value.int IntKind.i64 0, Value.int IntKind.i64 0, Value.slice none 0 0] 26)) w.heap.size (.int .i64 (xk x)) (.string (bsA (xt x))) (.int .i64 (xn x)) (.int .i64 (xa x)) (.slice s (xl x) c)) := HS.out.below ((Below.refl _ _).alloc (Nat.le_refl _) _)
          refine hK.out _ _ ?_ (fun hHz => ?_)
          · (try dsimp only); exact HS.out
          clear hK K hHz
          try simp only [Act.put, List.setIfInBounds_toArray, List.set_cons_zero, List.set_cons_succ]
          generalize (v3.alloc (Obj.cells #[Value.int IntKind.i64 0, Value.string { data := #[] }, Value.int IntKind.i64 0, Value.int IntKind.i64 0, Value.slice none 0 0] 26)) = v4 at HI HS ⊢
          refine wpAnyH_ready (rs := [6]) (by kernel_rfl) (by simp) ?_
          refine AllReadyH.cons rfl (fun K hK => ?_) AllReadyH.nil
          have hn := HI.out.nbx _ rfl
          obtain ⟨y0, y1, y2, y3, y4, z0, z1, z2, z3, z4⟩ := hn.1
          go_simp
          clear y0 y1 y2 y3 y4 z0 z1 z2 z3 z4
          have HI : Hid (RgO rb ta cap T w (w.heap.size + 1) (w.heap.size + 2) (i + 1) op (Obj.cells #[Value.int IntKind.i64 (xk x), Value.string (bsA (xt x)), Value.int IntKind.i64 (xn x), Value.int IntKind.i64 (xa x), Value.slice s (xl x) c] 26) (v3.heap.size) (v1.heap.size) (.int .i64 9) (.string (bsA [])) (.int .i64 0) (.int .i64 q4) (.slice (some ⟨v1.heap.size, 0, none⟩) 1 1) (set5 v4 (v3.heap.size) 0 (.int .i64 9) (.string (bsA [])) (.int .i64 0) (.int .i64 q4) (.slice (some ⟨v1.heap.size, 0, none⟩) 1 1))) := HI.out.put (.int .i64 9) (.string (bsA [])) (.int .i64 0) (.int .i64 q4) (.slice (some ⟨v1.heap.size, 0, none⟩) 1 1) (by omega) (by omega) (by omega)
          have HS : Hid (Box5 (set5 v4 (v3.heap.size) 0 (.int .i64 9) (.string (bsA [])) (.int .i64 0) (.int .i64 q4) (.slice (some ⟨v1.heap.size, 0, none⟩) 1 1)) w.heap.size (.int .i64 (xk x)) (.string (bsA (xt x))) (.int .i64 (xn x)) (.int .i64 (xa x)) (.slice s (xl x) c)) := HS.out.set5 _ _ _ _ _ _ _ (by have := hn.2; omega)
          clear hn
          refine hK.out _ _ ?_ (fun hHz => ?_)
          · (try dsimp only); exact HS.out
          clear hK K hHz
          try simp only [Act.put, List.setIfInBounds_toArray, List.set_cons_zero, List.set_cons_succ]
          refine wpAnyH_done (by kernel_rfl) ?_ _
          go_wp2_with fail
          go_meet
          exact ⟨_, _, rfl, HI.out⟩
        · skip
          go_simp
          have HI : Hid (RgI rb ta cap T w (w.heap.size + 1) (w.heap.size + 2) (i + 1) op (Obj.cells #[Value.int IntKind.i64 (xk x), Value.string (bsA (xt x)), Value.int IntKind.i64 (xn x), Value.int IntKind.i64 (xa x), Value.slice s (xl x) c] 26) (some (v2.heap.size)) (some (v1.heap.size)) (v2.alloc (Obj.cells #[Value.int IntKind.i64 0, Value.string { data := #[] }, Value.int IntKind.i64 0, Value.int IntKind.i64 0, Value.slice none 0 0] 26))) := HI.out.new (by simp) (by omega) (by omega)
          have HS : Hid (Box5 (v2.alloc (Obj.cells #[Value.int IntKind.i64 0, Value.string { data := #[] }, Value.int IntKind.i64 0, Value.int IntKind.i64 0, Value.slice none 0 0] 26)) w.heap.size (.int .i64 (xk x)) (.string (bsA (xt x))) (.int .i64 (xn x)) (.int .i64 (xa x)) (.slice s (xl x) c)) := HS.out.below ((Below.refl _ _).alloc (Nat.le_refl _) _)
          refine hK.out _ _ ?_ (fun hHz => ?_)
          · (try dsimp only); exact HS.out
          clear hK K hHz
          try simp only [Act.put, List.setIfInBounds_toArray, List.set_cons_zero, List.set_cons_succ]
          generalize (v2.alloc (Obj.cells #[Value.int IntKind.i64 0, Value.string { data := #[] }, Value.int IntKind.i64 0, Value.int IntKind.i64 0, Value.slice none 0 0] 26)) = v6 at HI HS ⊢
          refine wpAnyH_ready (rs := [4]) (by kernel_rfl) (by simp) ?_
          refine AllReadyH.cons rfl (fun K hK => ?_) AllReadyH.nil
          go_simp
          have h := node_any 9 ((q1, q2, q3), q4) (some ⟨v1.heap.size, 0, none⟩) 1 1 v6
          unfold ttV nV at h
          dsimp only at h
          refine h.mono ?_
          rintro e v7 ⟨rfl, hb⟩
          clear h
          have HI : Hid (RgI rb ta cap T w (w.heap.size + 1) (w.heap.size + 2) (i + 1) op (Obj.cells #[Value.int IntKind.i64 (xk x), Value.string (bsA (xt x)), Value.int IntKind.i64 (xn x), Value.int IntKind.i64 (xa x), Value.slice s (xl x) c] 26) (some (v2.heap.size)) (some (v1.heap.size)) v7) := HI.out.below hb (by omega) (by omega)
          have HS : Hid (Box5 v7 w.heap.size (.int .i64 (xk x)) (.string (bsA (xt x))) (.int .i64 (xn x)) (.int .i64 (xa x)) (.slice s (xl x) c)) := HS.out.below hb
          clear hb
          refine hK.out _ _ ?_ (fun hHz => ?_)
          · (try dsimp only); exact HS.out
          clear hK K hHz
          try simp only [Act.put, List.setIfInBounds_toArray, List.set_cons_zero, List.set_cons_succ]
          refine wpAnyH_ready (rs := [6]) (by kernel_rfl) (by simp) ?_
          refine AllReadyH.cons rfl (fun K hK => ?_) AllReadyH.nil
          have hn := HI.out.nbx _ rfl
          obtain ⟨y0, y1, y2, y3, y4, z0, z1, z2, z3, z4⟩ := hn.1
          go_simp
          clear y0 y1 y2 y3 y4 z0 z1 z2 z3 z4
          have HI : Hid (RgO rb ta cap T w (w.heap.size + 1) (w.heap.size + 2) (i + 1) op (Obj.cells #[Value.int IntKind.i64 (xk x), Value.string (bsA (xt x)), Value.int IntKind.i64 (xn x), Value.int IntKind.i64 (xa x), Value.slice s (xl x) c] 26) (v2.heap.size) (v1.heap.size) (.int .i64 9) (.string (bsA [])) (.int .i64 0) (.int .i64 q4) (.slice (some ⟨v1.heap.size, 0, none⟩) 1 1) (set5 v7 (v2.heap.size) 0 (.int .i64 9) (.string (bsA [])) (.int .i64 0) (.int .i64 q4) (.slice (some ⟨v1.heap.size, 0, none⟩) 1 1))) := HI.out.put (.int .i64 9) (.string (bsA [])) (.int .i64 0) (.int .i64 q4) (.slice (some ⟨v1.heap.size, 0, none⟩) 1 1) (by omega) (by omega) (by omega)
          have HS : Hid (Box5 (set5 v7 (v2.heap.size) 0 (.int .i64 9) (.string (bsA [])) (.int .i64 0) (.int .i64 q4) (.slice (some ⟨v1.heap.size, 0, none⟩) 1 1)) w.heap.size (.int .i64 (xk x)) (.string (bsA (xt x))) (.int .i64 (xn x)) (.int .i64 (xa x)) (.slice s (xl x) c)) := HS.out.set5 _ _ _ _ _ _ _ (by have := hn.2; omega)
          clear hn
          refine hK.out _ _ ?_ (fun hHz => ?_)
          · (try dsimp only); exact HS.out
          clear hK K hHz
          try simp only [Act.put, List.setIfInBounds_toArray, List.set_cons_zero, List.set_cons_succ]
          refine wpAnyH_done (by kernel_rfl) ?_ _
          go_wp2_with fail
          go_meet
          exact ⟨_, _, rfl, HI.out⟩
      · skip
        go_simp
        have HI : Hid (RgI rb ta cap T w (w.heap.size + 1) (w.heap.size + 2) (i + 1) op (Obj.cells #[Value.int IntKind.i64 (xk x), Value.string (bsA (xt x)), Value.int IntKind.i64 (xn x), Value.int IntKind.i64 (xa x), Value.slice s (xl x) c] 26) (some (v1.heap.size)) none (v1.alloc (Obj.cells #[Value.int IntKind.i64 0, Value.string { data := #[] }, Value.int IntKind.i64 0, Value.int IntKind.i64 0, Value.slice none 0 0] 26))) := HI.out.new (by simp) (by omega) (by omega)
        have HS : Hid (Box5 (v1.alloc (Obj.cells #[Value.int IntKind.i64 0, Value.string { data := #[] }, Value.int IntKind.i64 0, Value.int IntKind.i64 0, Value.slice none 0 0] 26)) w.heap.size (.int .i64 (xk x)) (.string (bsA (xt x))) (.int .i64 (xn x)) (.int .i64 (xa x)) (.slice s (xl x) c)) := HS.out.below ((Below.refl _ _).alloc (Nat.le_refl _) _)
        refine hK.out _ _ ?_ (fun hHz => ?_)
        · (try dsimp only); exact HS.out
        clear hK K hHz
        try simp only [Act.put, List.setIfInBounds_toArray, List.set_cons_zero, List.set_cons_succ]
        generalize (v1.alloc (Obj.cells #[Value.int IntKind.i64 0, Value.string { data := #[] }, Value.int IntKind.i64 0, Value.int IntKind.i64 0, Value.slice none 0 0] 26)) = v9 at HI HS ⊢
        refine wpAnyH_ready (rs := [3]) (by kernel_rfl) (by simp) ?_
        refine AllReadyH.cons rfl (fun K hK => ?_) AllReadyH.nil
        go_simp
        have HI : Hid (RgI rb ta cap T w (w.heap.size + 1) (w.heap.size + 2) (i + 1) op (Obj.cells #[Value.int IntKind.i64 (xk x), Value.string (bsA (xt x)), Value.int IntKind.i64 (xn x), Value.int IntKind.i64 (xa x), Value.slice s (xl x) c] 26) (some (v1.heap.size)) (some (v9.heap.size)) (v9.alloc (Obj.cells #[Value.int IntKind.i64 (xk x), Value.string (bsA (xt x)), Value.int IntKind.i64 (xn x), Value.int IntKind.i64 (xa x), Value.slice s (xl x) c] 26))) := HI.out.row (by simp) (by omega) (by omega)
        have HS : Hid (Box5 (v9.alloc (Obj.cells #[Value.int IntKind.i64 (xk x), Value.string (bsA (xt x)), Value.int IntKind.i64 (xn x), Value.int IntKind.i64 (xa x), Value.slice s (xl x) c] 26)) w.heap.size (.int .i64 (xk x)) (.string (bsA (xt x))) (.int .i64 (xn x)) (.int .i64 (xa x)) (.slice s (xl x) c)) := HS.out.below ((Below.refl _ _).alloc (Nat.le_refl _) _)
        refine hK.out _ _ ?_ (fun hHz => ?_)
        · (try dsimp only); exact HS.out
        clear hK K hHz
        try simp only [Act.put, List.setIfInBounds_toArray, List.set_cons_zero, List.set_cons_succ]
        generalize (v9.alloc (Obj.cells #[Value.int IntKind.i64 (xk x), Value.string (bsA (xt x)), Value.int IntKind.i64 (xn x), Value.int IntKind.i64 (xa x), Value.slice s (xl x) c] 26)) = v10 at HI HS ⊢
        refine wpAnyH_ready (rs := [4]) (by kernel_rfl) (by simp) ?_
        refine AllReadyH.cons rfl (fun K hK => ?_) AllReadyH.nil
        go_simp
        have h := node_any 9 ((q1, q2, q3), q4) (some ⟨v9.heap.size, 0, none⟩) 1 1 v10
        unfold ttV nV at h
        dsimp only at h
        refine h.mono ?_
        rintro e v11 ⟨rfl, hb⟩
        clear h
        have HI : Hid (RgI rb ta cap T w (w.heap.size + 1) (w.heap.size + 2) (i + 1) op (Obj.cells #[Value.int IntKind.i64 (xk x), Value.string (bsA (xt x)), Value.int IntKind.i64 (xn x), Value.int IntKind.i64 (xa x), Value.slice s (xl x) c] 26) (some (v1.heap.size)) (some (v9.heap.size)) v11) := HI.out.below hb (by omega) (by omega)
        have HS : Hid (Box5 v11 w.heap.size (.int .i64 (xk x)) (.string (bsA (xt x))) (.int .i64 (xn x)) (.int .i64 (xa x)) (.slice s (xl x) c)) := HS.out.below hb
        clear hb
        refine hK.out _ _ ?_ (fun hHz => ?_)
        · (try dsimp only); exact HS.out
        clear hK K hHz
        try simp only [Act.put, List.setIfInBounds_toArray, List.set_cons_zero, List.set_cons_succ]
        refine wpAnyH_ready (rs := [6]) (by kernel_rfl) (by simp) ?_
        refine AllReadyH.cons rfl (fun K hK => ?_) AllReadyH.nil
        have hn := HI.out.nbx _ rfl
        obtain ⟨y0, y1, y2, y3, y4, z0, z1, z2, z3, z4⟩ := hn.1
        go_simp
        clear y0 y1 y2 y3 y4 z0 z1 z2 z3 z4
        have HI : Hid (RgO rb ta cap T w (w.heap.size + 1) (w.heap.size + 2) (i + 1) op (Obj.cells #[Value.int IntKind.i64 (xk x), Value.string (bsA (xt x)), Value.int IntKind.i64 (xn x), Value.int IntKind.i64 (xa x), Value.slice s (xl x) c] 26) (v1.heap.size) (v9.heap.size) (.int .i64 9) (.string (bsA [])) (.int .i64 0) (.int .i64 q4) (.slice (some ⟨v9.heap.size, 0, none⟩) 1 1) (set5 v11 (v1.heap.size) 0 (.int .i64 9) (.string (bsA [])) (.int .i64 0) (.int .i64 q4) (.slice (some ⟨v9.heap.size, 0, none⟩) 1 1))) := HI.out.put (.int .i64 9) (.string (bsA [])) (.int .i64 0) (.int .i64 q4) (.slice (some ⟨v9.heap.size, 0, none⟩) 1 1) (by omega) (by omega) (by omega)
        have HS : Hid (Box5 (set5 v11 (v1.heap.size) 0 (.int .i64 9) (.string (bsA [])) (.int .i64 0) (.int .i64 q4) (.slice (some ⟨v9.heap.size, 0, none⟩) 1 1)) w.heap.size (.int .i64 (xk x)) (.string (bsA (xt x))) (.int .i64 (xn x)) (.int .i64 (xa x)) (.slice s (xl x) c)) := HS.out.set5 _ _ _ _ _ _ _ (by have := hn.2; omega)
        clear hn
        refine hK.out _ _ ?_ (fun hHz => ?_)
        · (try dsimp only); exact HS.out
        clear hK K hHz
        try simp only [Act.put, List.setIfInBounds_toArray, List.set_cons_zero, List.set_cons_succ]
        refine wpAnyH_done (by kernel_rfl) ?_ _
        go_wp2_with fail
        go_meet
        exact ⟨_, _, rfl, HI.out⟩
    · skip
      go_simp
      have HI : Hid (RgI rb ta cap T w (w.heap.size + 1) (w.heap.size + 2) i op (Obj.cells #[Value.int IntKind.i64 (xk x), Value.string (bsA (xt x)), Value.int IntKind.i64 (xn x), Value.int IntKind.i64 (xa x), Value.slice s (xl x) c] 26) none (some (v0.heap.size)) (v0.alloc (Obj.cells #[Value.int IntKind.i64 (xk x), Value.string (bsA (xt x)), Value.int IntKind.i64 (xn x), Value.int IntKind.i64 (xa x), Value.slice s (xl x) c] 26))) := HI.out.row (by simp) (by omega) (by omega)
      have HS : Hid (Box5 (v0.alloc (Obj.cells #[Value.int IntKind.i64 (xk x), Value.string (bsA (xt x)), Value.int IntKind.i64 (xn x), Value.int IntKind.i64 (xa x), Value.slice s (xl x) c] 26)) w.heap.size (.int .i64 (xk x)) (.string (bsA (xt x))) (.int .i64 (xn x)) (.int .i64 (xa x)) (.slice s (xl x) c)) := HS.out.below ((Below.refl _ _).alloc (Nat.le_refl _) _)
      refine hK.out _ _ ?_ (fun hHz => ?_)
      · (try dsimp only); exact HS.out
      clear hK K hHz
      try simp only [Act.put, List.setIfInBounds_toArray, List.set_cons_zero, List.set_cons_succ]
      generalize (v0.alloc (Obj.cells #[Value.int IntKind.i64 (xk x), Value.string (bsA (xt x)), Value.int IntKind.i64 (xn x), Value.int IntKind.i64 (xa x), Value.slice s (xl x) c] 26)) = v13 at HI HS ⊢
      refine wpAnyH_ready (rs := [1, 5]) (by kernel_rfl) (by simp) ?_
      refine AllReadyH.cons rfl (fun K hK => ?_) (AllReadyH.cons rfl (fun K hK => ?_) AllReadyH.nil)
      · skip
        go_simp
        have h := take_any rb ta cap T i op _ HI.out.cx.rdr HIT.out
        unfold ptr at h
        rw [HQ.out] at h
        unfold ttV at h
        dsimp only at h
        refine h.mono ?_
        rintro e v14 ⟨rfl, hr, hf⟩
        clear h
        have HI : Hid (RgI rb ta cap T w (w.heap.size + 1) (w.heap.size + 2) (i + 1) op (Obj.cells #[Value.int IntKind.i64 (xk x), Value.string (bsA (xt x)), Value.int IntKind.i64 (xn x), Value.int IntKind.i64 (xa x), Value.slice s (xl x) c] 26) none (some (v0.heap.size)) v14) := HI.out.fx hf hr (by omega) (by omega)
        have HS : Hid (Box5 v14 w.heap.size (.int .i64 (xk x)) (.string (bsA (xt x))) (.int .i64 (xn x)) (.int .i64 (xa x)) (.slice s (xl x) c)) := HS.out.fx hf (by omega)
        clear hr hf
        refine hK.out _ _ ?_ (fun hHz => ?_)
        · (try dsimp only); exact HS.out
        clear hK K hHz
        try simp only [Act.put, List.setIfInBounds_toArray, List.set_cons_zero, List.set_cons_succ]
        refine wpAnyH_ready (rs := [4, 5]) (by kernel_rfl) (by simp) ?_
        refine AllReadyH.cons rfl (fun K hK => ?_) (AllReadyH.cons rfl (fun K hK => ?_) AllReadyH.nil)
        · skip
          go_simp
          have h := node_any 9 ((q1, q2, q3), q4) (some ⟨v0.heap.size, 0, none⟩) 1 1 v14
          unfold ttV nV at h
          dsimp only at h
          refine h.mono ?_
          rintro e v15 ⟨rfl, hb⟩
          clear h
          have HI : Hid (RgI rb ta cap T w (w.heap.size + 1) (w.heap.size + 2) (i + 1) op (Obj.cells #[Value.int IntKind.i64 (xk x), Value.string (bsA (xt x)), Value.int IntKind.i64 (xn x), Value.int IntKind.i64 (xa x), Value.slice s (xl x) c] 26) none (some (v0.heap.size)) v15) := HI.out.below hb (by omega) (by omega)
          have HS : Hid (Box5 v15 w.heap.size (.int .i64 (xk x)) (.string (bsA (xt x))) (.int .i64 (xn x)) (.int .i64 (xa x)) (.slice s (xl x) c)) := HS.out.below hb
          clear hb
          refine hK.out _ _ ?_ (fun hHz => ?_)
          · (try dsimp only); exact HS.out
          clear hK K hHz
          try simp only [Act.put, List.setIfInBounds_toArray, List.set_cons_zero, List.set_cons_succ]
          refine wpAnyH_ready (rs := [5]) (by kernel_rfl) (by simp) ?_
          refine AllReadyH.cons rfl (fun K hK => ?_) AllReadyH.nil
          go_simp
          have HI : Hid (RgI rb ta cap T w (w.heap.size + 1) (w.heap.size + 2) (i + 1) op (Obj.cells #[Value.int IntKind.i64 (xk x), Value.string (bsA (xt x)), Value.int IntKind.i64 (xn x), Value.int IntKind.i64 (xa x), Value.slice s (xl x) c] 26) (some (v15.heap.size)) (some (v0.heap.size)) (v15.alloc (Obj.cells #[Value.int IntKind.i64 0, Value.string { data := #[] }, Value.int IntKind.i64 0, Value.int IntKind.i64 0, Value.slice none 0 0] 26))) := HI.out.new (by simp) (by omega) (by omega)
          have HS : Hid (Box5 (v15.alloc (Obj.cells #[Value.int IntKind.i64 0, Value.string { data := #[] }, Value.int IntKind.i64 0, Value.int IntKind.i64 0, Value.slice none 0 0] 26)) w.heap.size (.int .i64 (xk x)) (.string (bsA (xt x))) (.int .i64 (xn x)) (.int .i64 (xa x)) (.slice s (xl x) c)) := HS.out.below ((Below.refl _ _).alloc (Nat.le_refl _) _)
          refine hK.out _ _ ?_ (fun hHz => ?_)
          · (try dsimp only); exact HS.out
          clear hK K hHz
          try simp only [Act.put, List.setIfInBounds_toArray, List.set_cons_zero, List.set_cons_succ]
          generalize (v15.alloc (Obj.cells #[Value.int IntKind.i64 0, Value.string { data := #[] }, Value.int IntKind.i64 0, Value.int IntKind.i64 0, Value.slice none 0 0] 26)) = v16 at HI HS ⊢
          refine wpAnyH_ready (rs := [6]) (by kernel_rfl) (by simp) ?_
          refine AllReadyH.cons rfl (fun K hK => ?_) AllReadyH.nil
          have hn := HI.out.nbx _ rfl
          obtain ⟨y0, y1, y2, y3, y4, z0, z1, z2, z3, z4⟩ := hn.1
          go_simp
          clear y0 y1 y2 y3 y4 z0 z1 z2 z3 z4
          have HI : Hid (RgO rb ta cap T w (w.heap.size + 1) (w.heap.size + 2) (i + 1) op (Obj.cells #[Value.int IntKind.i64 (xk x), Value.string (bsA (xt x)), Value.int IntKind.i64 (xn x), Value.int IntKind.i64 (xa x), Value.slice s (xl x) c] 26) (v15.heap.size) (v0.heap.size) (.int .i64 9) (.string (bsA [])) (.int .i64 0) (.int .i64 q4) (.slice (some ⟨v0.heap.size, 0, none⟩) 1 1) (set5 v16 (v15.heap.size) 0 (.int .i64 9) (.string (bsA [])) (.int .i64 0) (.int .i64 q4) (.slice (some ⟨v0.heap.size, 0, none⟩) 1 1))) := HI.out.put (.int .i64 9) (.string (bsA [])) (.int .i64 0) (.int .i64 q4) (.slice (some ⟨v0.heap.size, 0, none⟩) 1 1) (by omega) (by omega) (by omega)
          have HS : Hid (Box5 (set5 v16 (v15.heap.size) 0 (.int .i64 9) (.string (bsA [])) (.int .i64 0) (.int .i64 q4) (.slice (some ⟨v0.heap.size, 0, none⟩) 1 1)) w.heap.size (.int .i64 (xk x)) (.string (bsA (xt x))) (.int .i64 (xn x)) (.int .i64 (xa x)) (.slice s (xl x) c)) := HS.out.set5 _ _ _ _ _ _ _ (by have := hn.2; omega)
          clear hn
          refine hK.out _ _ ?_ (fun hHz => ?_)
          · (try dsimp only); exact HS.out
          clear hK K hHz
          try simp only [Act.put, List.setIfInBounds_toArray, List.set_cons_zero, List.set_cons_succ]
          refine wpAnyH_done (by kernel_rfl) ?_ _
          go_wp2_with fail
          go_meet
          exact ⟨_, _, rfl, HI.out⟩
        · skip
          go_simp
          have HI : Hid (RgI rb ta cap T w (w.heap.size + 1) (w.heap.size + 2) (i + 1) op (Obj.cells #[Value.int IntKind.i64 (xk x), Value.string (bsA (xt x)), Value.int IntKind.i64 (xn x), Value.int IntKind.i64 (xa x), Value.slice s (xl x) c] 26) (some (v14.heap.size)) (some (v0.heap.size)) (v14.alloc (Obj.cells #[Value.int IntKind.i64 0, Value.string { data := #[] }, Value.int IntKind.i64 0, Value.int IntKind.i64 0, Value.slice none 0 0] 26))) := HI.out.new (by simp) (by omega) (by omega)
          have HS : Hid (Box5 (v14.alloc (Obj.cells #[Value.int IntKind.i64 0, Value.string { data := #[] }, Value.int IntKind.i64 0, Value.int IntKind.i64 0, Value.slice none 0 0] 26)) w.heap.size (.int .i64 (xk x)) (.string (bsA (xt x))) (.int .i64 (xn x)) (.int .i64 (xa x)) (.slice s (xl x) c)) := HS.out.below ((Below.refl _ _).alloc (Nat.le_refl _) _)
          refine hK.out _ _ ?_ (fun hHz => ?_)
          · (try dsimp only); exact HS.out
          clear hK K hHz
          try simp only [Act.put, List.setIfInBounds_toArray, List.set_cons_zero, List.set_cons_succ]
          generalize (v14.alloc (Obj.cells #[Value.int IntKind.i64 0, Value.string { data := #[] }, Value.int IntKind.i64 0, Value.int IntKind.i64 0, Value.slice none 0 0] 26)) = v18 at HI HS ⊢
          refine wpAnyH_ready (rs := [4]) (by kernel_rfl) (by simp) ?_
          refine AllReadyH.cons rfl (fun K hK => ?_) AllReadyH.nil
          go_simp
          have h := node_any 9 ((q1, q2, q3), q4) (some ⟨v0.heap.size, 0, none⟩) 1 1 v18
          unfold ttV nV at h
          dsimp only at h
          refine h.mono ?_
          rintro e v19 ⟨rfl, hb⟩
          clear h
          have HI : Hid (RgI rb ta cap T w (w.heap.size + 1) (w.heap.size + 2) (i + 1) op (Obj.cells #[Value.int IntKind.i64 (xk x), Value.string (bsA (xt x)), Value.int IntKind.i64 (xn x), Value.int IntKind.i64 (xa x), Value.slice s (xl x) c] 26) (some (v14.heap.size)) (some (v0.heap.size)) v19) := HI.out.below hb (by omega) (by omega)
          have HS : Hid (Box5 v19 w.heap.size (.int .i64 (xk x)) (.string (bsA (xt x))) (.int .i64 (xn x)) (.int .i64 (xa x)) (.slice s (xl x) c)) := HS.out.below hb
          clear hb
          refine hK.out _ _ ?_ (fun hHz => ?_)
          · (try dsimp only); exact HS.out
          clear hK K hHz
          try simp only [Act.put, List.setIfInBounds_toArray, List.set_cons_zero, List.set_cons_succ]
          refine wpAnyH_ready (rs := [6]) (by kernel_rfl) (by simp) ?_
          refine AllReadyH.cons rfl (fun K hK => ?_) AllReadyH.nil
          have hn := HI.out.nbx _ rfl
          obtain ⟨y0, y1, y2, y3, y4, z0, z1, z2, z3, z4⟩ := hn.1
          go_simp
          clear y0 y1 y2 y3 y4 z0 z1 z2 z3 z4
          have HI : Hid (RgO rb ta cap T w (w.heap.size + 1) (w.heap.size + 2) (i + 1) op (Obj.cells #[Value.int IntKind.i64 (xk x), Value.string (bsA (xt x)), Value.int IntKind.i64 (xn x), Value.int IntKind.i64 (xa x), Value.slice s (xl x) c] 26) (v14.heap.size) (v0.heap.size) (.int .i64 9) (.string (bsA [])) (.int .i64 0) (.int .i64 q4) (.slice (some ⟨v0.heap.size, 0, none⟩) 1 1) (set5 v19 (v14.heap.size) 0 (.int .i64 9) (.string (bsA [])) (.int .i64 0) (.int .i64 q4) (.slice (some ⟨v0.heap.size, 0, none⟩) 1 1))) := HI.out.put (.int .i64 9) (.string (bsA [])) (.int .i64 0) (.int .i64 q4) (.slice (some ⟨v0.heap.size, 0, none⟩) 1 1) (by omega) (by omega) (by omega)
          have HS : Hid (Box5 (set5 v19 (v14.heap.size) 0 (.int .i64 9) (.string (bsA [])) (.int .i64 0) (.int .i64 q4) (.slice (some ⟨v0.heap.size, 0, none⟩) 1 1)) w.heap.size (.int .i64 (xk x)) (.string (bsA (xt x))) (.int .i64 (xn x)) (.int .i64 (xa x)) (.slice s (xl x) c)) := HS.out.set5 _ _ _ _ _ _ _ (by have := hn.2; omega)
          clear hn
          refine hK.out _ _ ?_ (fun hHz => ?_)
          · (try dsimp only); exact HS.out
          clear hK K hHz
          try simp only [Act.put, List.setIfInBounds_toArray, List.set_cons_zero, List.set_cons_succ]
          refine wpAnyH_done (by kernel_rfl) ?_ _
          go_wp2_with fail
          go_meet
          exact ⟨_, _, rfl, HI.out⟩
      · skip
        go_simp
        have HI : Hid (RgI rb ta cap T w (w.heap.size + 1) (w.heap.size + 2) i op (Obj.cells #[Value.int IntKind.i64 (xk x), Value.string (bsA (xt x)), Value.int IntKind.i64 (xn x), Value.int IntKind.i64 (xa x), Value.slice s (xl x) c] 26) (some (v13.heap.size)) (some (v0.heap.size)) (v13.alloc (Obj.cells #[Value.int IntKind.i64 0, Value.string { data := #[] }, Value.int IntKind.i64 0, Value.int IntKind.i64 0, Value.slice none 0 0] 26))) := HI.out.new (by simp) (by omega) (by omega)
        have HS : Hid (Box5 (v13.alloc (Obj.cells #[Value.int IntKind.i64 0, Value.string { data := #[] }, Value.int IntKind.i64 0, Value.int IntKind.i64 0, Value.slice none 0 0] 26)) w.heap.size (.int .i64 (xk x)) (.string (bsA (xt x))) (.int .i64 (xn x)) (.int .i64 (xa x)) (.slice s (xl x) c)) := HS.out.below ((Below.refl _ _).alloc (Nat.le_refl _) _)
        refine hK.out _ _ ?_ (fun hHz => ?_)
        · (try dsimp only); exact HS.out
        clear hK K hHz
        try simp only [Act.put, List.setIfInBounds_toArray, List.set_cons_zero, List.set_cons_succ]
        generalize (v13.alloc (Obj.cells #[Value.int IntKind.i64 0, Value.string { data := #[] }, Value.int IntKind.i64 0, Value.int IntKind.i64 0, Value.slice none 0 0] 26)) = v21 at HI HS ⊢
        refine wpAnyH_ready (rs := [1]) (by kernel_rfl) (by simp) ?_
        refine AllReadyH.cons rfl (fun K hK => ?_) AllReadyH.nil
        go_simp
        have h := take_any rb ta cap T i op _ HI.out.cx.rdr HIT.out
        unfold ptr at h
        rw [HQ.out] at h
        unfold ttV at h
        dsimp only at h
        refine h.mono ?_
        rintro e v22 ⟨rfl, hr, hf⟩
        clear h
        have HI : Hid (RgI rb ta cap T w (w.heap.size + 1) (w.heap.size + 2) (i + 1) op (Obj.cells #[Value.int IntKind.i64 (xk x), Value.string (bsA (xt x)), Value.int IntKind.i64 (xn x), Value.int IntKind.i64 (xa x), Value.slice s (xl x) c] 26) (some (v13.heap.size)) (some (v0.heap.size)) v22) := HI.out.fx hf hr (by omega) (by omega)
        have HS : Hid (Box5 v22 w.heap.size (.int .i64 (xk x)) (.string (bsA (xt x))) (.int .i64 (xn x)) (.int .i64 (xa x)) (.slice s (xl x) c)) := HS.out.fx hf (by omega)
        clear hr hf
        refine hK.out _ _ ?_ (fun hHz => ?_)
        · (try dsimp only); exact HS.out
        clear hK K hHz
        try simp only [Act.put, List.setIfInBounds_toArray, List.set_cons_zero, List.set_cons_succ]
        refine wpAnyH_ready (rs := [4]) (by kernel_rfl) (by simp) ?_
        refine AllReadyH.cons rfl (fun K hK => ?_) AllReadyH.nil
        go_simp
        have h := node_any 9 ((q1, q2, q3), q4) (some ⟨v0.heap.size, 0, none⟩) 1 1 v22
        unfold ttV nV at h
        dsimp only at h
        refine h.mono ?_
        rintro e v23 ⟨rfl, hb⟩
        clear h
        have HI : Hid (RgI rb ta cap T w (w.heap.size + 1) (w.heap.size + 2) (i + 1) op (Obj.cells #[Value.int IntKind.i64 (xk x), Value.string (bsA (xt x)), Value.int IntKind.i64 (xn x), Value.int IntKind.i64 (xa x), Value.slice s (xl x) c] 26) (some (v13.heap.size)) (some (v0.heap.size)) v23) := HI.out.below hb (by omega) (by omega)
        have HS : Hid (Box5 v23 w.heap.size (.int .i64 (xk x)) (.string (bsA (xt x))) (.int .i64 (xn x)) (.int .i64 (xa x)) (.slice s (xl x) c)) := HS.out.below hb
        clear hb
        refine hK.out _ _ ?_ (fun hHz => ?_)
        · (try dsimp only); exact HS.out
        clear hK K hHz
        try simp only [Act.put, List.setIfInBounds_toArray, List.set_cons_zero, List.set_cons_succ]
        refine wpAnyH_ready (rs := [6]) (by kernel_rfl) (by simp) ?_
        refine AllReadyH.cons rfl (fun K hK => ?_) AllReadyH.nil
        have hn := HI.out.nbx _ rfl
        obtain ⟨y0, y1, y2, y3, y4, z0, z1, z2, z3, z4⟩ := hn.1
        go_simp
        clear y0 y1 y2 y3 y4 z0 z1 z2 z3 z4
        have HI : Hid (RgO rb ta cap T w (w.heap.size + 1) (w.heap.size + 2) (i + 1) op (Obj.cells #[Value.int IntKind.i64 (xk x), Value.string (bsA (xt x)), Value.int IntKind.i64 (xn x), Value.int IntKind.i64 (xa x), Value.slice s (xl x) c] 26) (v13.heap.size) (v0.heap.size) (.int .i64 9) (.string (bsA [])) (.int .i64 0) (.int .i64 q4) (.slice (some ⟨v0.heap.size, 0, none⟩) 1 1) (set5 v23 (v13.heap.size) 0 (.int .i64 9) (.string (bsA [])) (.int .i64 0) (.int .i64 q4) (.slice (some ⟨v0.heap.size, 0, none⟩) 1 1))) := HI.out.put (.int .i64 9) (.string (bsA [])) (.int .i64 0) (.int .i64 q4) (.slice (some ⟨v0.heap.size, 0, none⟩) 1 1) (by omega) (by omega) (by omega)
        have HS : Hid (Box5 (set5 v23 (v13.heap.size) 0 (.int .i64 9) (.string (bsA [])) (.int .i64 0) (.int .i64 q4) (.slice (some ⟨v0.heap.size, 0, none⟩) 1 1)) w.heap.size (.int .i64 (xk x)) (.string (bsA (xt x))) (.int .i64 (xn x)) (.int .i64 (xa x)) (.slice s (xl x) c)) := HS.out.set5 _ _ _ _ _ _ _ (by have := hn.2; omega)
        clear hn
        refine hK.out _ _ ?_ (fun hHz => ?_)
        · (try dsimp only); exact HS.out
        clear hK K hHz
        try simp only [Act.put, List.setIfInBounds_toArray, List.set_cons_zero, List.set_cons_succ]
        refine wpAnyH_done (by kernel_rfl) ?_ _
        go_wp2_with fail
        go_meet
        exact ⟨_, _, rfl, HI.out⟩
    · skip
      go_simp
      have HI : Hid (RgI rb ta cap T w (w.heap.size + 1) (w.heap.size + 2) i op (Obj.cells #[Value.int IntKind.i64 (xk x), Value.string (bsA (xt x)), Value.int IntKind.i64 (xn x), Value.int IntKind.i64 (xa x), Value.slice s (xl x) c] 26) (some (v0.heap.size)) none (v0.alloc (Obj.cells #[Value.int IntKind.i64 0, Value.string { data := #[] }, Value.int IntKind.i64 0, Value.int IntKind.i64 0, Value.slice none 0 0] 26))) := HI.out.new (by simp) (by omega) (by omega)
      have HS : Hid (Box5 (v0.alloc (Obj.cells #[Value.int IntKind.i64 0, Value.string { data := #[] }, Value.int IntKind.i64 0, Value.int IntKind.i64 0, Value.slice none 0 0] 26)) w.heap.size (.int .i64 (xk x)) (.string (bsA (xt x))) (.int .i64 (xn x)) (.int .i64 (xa x)) (.slice s (xl x) c)) := HS.out.below ((Below.refl _ _).alloc (Nat.le_refl _) _)
      refine hK.out _ _ ?_ (fun hHz => ?_)
      · (try dsimp only); exact HS.out
      clear hK K hHz
      try simp only [Act.put, List.setIfInBounds_toArray, List.set_cons_zero, List.set_cons_succ]
      generalize (v0.alloc (Obj.cells #[Value.int IntKind.i64 0, Value.string { data := #[] }, Value.int IntKind.i64 0, Value.int IntKind.i64 0, Value.slice none 0 0] 26)) = v25 at HI HS ⊢
      refine wpAnyH_ready (rs := [1, 3]) (by kernel_rfl) (by simp) ?_
      refine AllReadyH.cons rfl (fun K hK => ?_) (AllReadyH.cons rfl (fun K hK => ?_) AllReadyH.nil)
      · skip
        go_simp
        have h := take_any rb ta cap T i op _ HI.out.cx.rdr HIT.out
        unfold ptr at h
        rw [HQ.out] at h
        unfold ttV at h
        dsimp only at h
        refine h.mono ?_
        rintro e v26 ⟨rfl, hr, hf⟩
        clear h
        have HI : Hid (RgI rb ta cap T w (w.heap.size + 1) (w.heap.size + 2) (i + 1) op (Obj.cells #[Value.int IntKind.i64 (xk x), Value.string (bsA (xt x)), Value.int IntKind.i64 (xn x), Value.int IntKind.i64 (xa x), Value.slice s (xl x) c] 26) (some (v0.heap.size)) none v26) := HI.out.fx hf hr (by omega) (by omega)
        have HS : Hid (Box5 v26 w.heap.size (.int .i64 (xk x)) (.string (bsA (xt x))) (.int .i64 (xn x)) (.int .i64 (xa x)) (.slice s (xl x) c)) := HS.out.fx hf (by omega)
        clear hr hf
        refine hK.out _ _ ?_ (fun hHz => ?_)
        · (try dsimp only); exact HS.out
        clear hK K hHz
        try simp only [Act.put, List.setIfInBounds_toArray, List.set_cons_zero, List.set_cons_succ]
        refine wpAnyH_ready (rs := [3]) (by kernel_rfl) (by simp) ?_
        refine AllReadyH.cons rfl (fun K hK => ?_) AllReadyH.nil
        go_simp
        have HI : Hid (RgI rb ta cap T w (w.heap.size + 1) (w.heap.size + 2) (i + 1) op (Obj.cells #[Value.int IntKind.i64 (xk x), Value.string (bsA (xt x)), Value.int IntKind.i64 (xn x), Value.int IntKind.i64 (xa x), Value.slice s (xl x) c] 26) (some (v0.heap.size)) (some (v26.heap.size)) (v26.alloc (Obj.cells #[Value.int IntKind.i64 (xk x), Value.string (bsA (xt x)), Value.int IntKind.i64 (xn x), Value.int IntKind.i64 (xa x), Value.slice s (xl x) c] 26))) := HI.out.row (by simp) (by omega) (by omega)
        have HS : Hid (Box5 (v26.alloc (Obj.cells #[Value.int IntKind.i64 (xk x), Value.string (bsA (xt x)), Value.int IntKind.i64 (xn x), Value.int IntKind.i64 (xa x), Value.slice s (xl x) c] 26)) w.heap.size (.int .i64 (xk x)) (.string (bsA (xt x))) (.int .i64 (xn x)) (.int .i64 (xa x)) (.slice s (xl x) c)) := HS.out.below ((Below.refl _ _).alloc (Nat.le_refl _) _)
        refine hK.out _ _ ?_ (fun hHz => ?_)
        · (try dsimp only); exact HS.out
        clear hK K hHz
        try simp only [Act.put, List.setIfInBounds_toArray, List.set_cons_zero, List.set_cons_succ]
        generalize (v26.alloc (Obj.cells #[Value.int IntKind.i64 (xk x), Value.string (bsA (xt x)), Value.int IntKind.i64 (xn x), Value.int IntKind.i64 (xa x), Value.slice s (xl x) c] 26)) = v27 at HI HS ⊢
        refine wpAnyH_ready (rs := [4]) (by kernel_rfl) (by simp) ?_
        refine AllReadyH.cons rfl (fun K hK => ?_) AllReadyH.nil
        go_simp
        have h := node_any 9 ((q1, q2, q3), q4) (some ⟨v26.heap.size, 0, none⟩) 1 1 v27
        unfold ttV nV at h
        dsimp only at h
        refine h.mono ?_
        rintro e v28 ⟨rfl, hb⟩
        clear h
        have HI : Hid (RgI rb ta cap T w (w.heap.size + 1) (w.heap.size + 2) (i + 1) op (Obj.cells #[Value.int IntKind.i64 (xk x), Value.string (bsA (xt x)), Value.int IntKind.i64 (xn x), Value.int IntKind.i64 (xa x), Value.slice s (xl x) c] 26) (some (v0.heap.size)) (some (v26.heap.size)) v28) := HI.out.below hb (by omega) (by omega)
        have HS : Hid (Box5 v28 w.heap.size (.int .i64 (xk x)) (.string (bsA (xt x))) (.int .i64 (xn x)) (.int .i64 (xa x)) (.slice s (xl x) c)) := HS.out.below hb
        clear hb
        refine hK.out _ _ ?_ (fun hHz => ?_)
        · (try dsimp only); exact HS.out
        clear hK K hHz
        try simp only [Act.put, List.setIfInBounds_toArray, List.set_cons_zero, List.set_cons_succ]
        refine wpAnyH_ready (rs := [6]) (by kernel_rfl) (by simp) ?_
        refine AllReadyH.cons rfl (fun K hK => ?_) AllReadyH.nil
        have hn := HI.out.nbx _ rfl
        obtain ⟨y0, y1, y2, y3, y4, z0, z1, z2, z3, z4⟩ := hn.1
        go_simp
        clear y0 y1 y2 y3 y4 z0 z1 z2 z3 z4
        have HI : Hid (RgO rb ta cap T w (w.heap.size + 1) (w.heap.size + 2) (i + 1) op (Obj.cells #[Value.int IntKind.i64 (xk x), Value.string (bsA (xt x)), Value.int IntKind.i64 (xn x), Value.int IntKind.i64 (xa x), Value.slice s (xl x) c] 26) (v0.heap.size) (v26.heap.size) (.int .i64 9) (.string (bsA [])) (.int .i64 0) (.int .i64 q4) (.slice (some ⟨v26.heap.size, 0, none⟩) 1 1) (set5 v28 (v0.heap.size) 0 (.int .i64 9) (.string (bsA [])) (.int .i64 0) (.int .i64 q4) (.slice (some ⟨v26.heap.size, 0, none⟩) 1 1))) := HI.out.put (.int .i64 9) (.string (bsA [])) (.int .i64 0) (.int .i64 q4) (.slice (some ⟨v26.heap.size, 0, none⟩) 1 1) (by omega) (by omega) (by omega)
        have HS : Hid (Box5 (set5 v28 (v0.heap.size) 0 (.int .i64 9) (.string (bsA [])) (.int .i64 0) (.int .i64 q4) (.slice (some ⟨v26.heap.size, 0, none⟩) 1 1)) w.heap.size (.int .i64 (xk x)) (.string (bsA (xt x))) (.int .i64 (xn x)) (.int .i64 (xa x)) (.slice s (xl x) c)) := HS.out.set5 _ _ _ _ _ _ _ (by have := hn.2; omega)
        clear hn
        refine hK.out _ _ ?_ (fun hHz => ?_)
        · (try dsimp only); exact HS.out
        clear hK K hHz
        try simp only [Act.put, List.setIfInBounds_toArray, List.set_cons_zero, List.set_cons_succ]
        refine wpAnyH_done (by kernel_rfl) ?_ _
        go_wp2_with fail
        go_meet
        exact ⟨_, _, rfl, HI.out⟩
      · skip
        go_simp
        have HI : Hid (RgI rb ta cap T w (w.heap.size + 1) (w.heap.size + 2) i op (Obj.cells #[Value.int IntKind.i64 (xk x), Value.string (bsA (xt x)), Value.int IntKind.i64 (xn x), Value.int IntKind.i64 (xa x), Value.slice s (xl x) c] 26) (some (v0.heap.size)) (some (v25.heap.size)) (v25.alloc (Obj.cells #[Value.int IntKind.i64 (xk x), Value.string (bsA (xt x)), Value.int IntKind.i64 (xn x), Value.int IntKind.i64 (xa x), Value.slice s (xl x) c] 26))) := HI.out.row (by simp) (by omega) (by omega)
        have HS : Hid (Box5 (v25.alloc (Obj.cells #[Value.int IntKind.i64 (xk x), Value.string (bsA (xt x)), Value.int IntKind.i64 (xn x), Value.int IntKind.i64 (xa x), Value.slice s (xl x) c] 26)) w.heap.size (.int .i64 (xk x)) (.string (bsA (xt x))) (.int .i64 (xn x)) (.int .i64 (xa x)) (.slice s (xl x) c)) := HS.out.below ((Below.refl _ _).alloc (Nat.le_refl _) _)
        refine hK.out _ _ ?_ (fun hHz => ?_)
        · (try dsimp only); exact HS.out
        clear hK K hHz
        try simp only [Act.put, List.setIfInBounds_toArray, List.set_cons_zero, List.set_cons_succ]
        generalize (v25.alloc (Obj.cells #[Value.int IntKind.i64 (xk x), Value.string (bsA (xt x)), Value.int IntKind.i64 (xn x), Value.int IntKind.i64 (xa x), Value.slice s (xl x) c] 26)) = v30 at HI HS ⊢
        refine wpAnyH_ready (rs := [1]) (by kernel_rfl) (by simp) ?_
        refine AllReadyH.cons rfl (fun K hK => ?_) AllReadyH.nil
        go_simp
        have h := take_any rb ta cap T i op _ HI.out.cx.rdr HIT.out
        unfold ptr at h
        rw [HQ.out] at h
        unfold ttV at h
        dsimp only at h
        refine h.mono ?_
        rintro e v31 ⟨rfl, hr, hf⟩
        clear h
        have HI : Hid (RgI rb ta cap T w (w.heap.size + 1) (w.heap.size + 2) (i + 1) op (Obj.cells #[Value.int IntKind.i64 (xk x), Value.string (bsA (xt x)), Value.int IntKind.i64 (xn x), Value.int IntKind.i64 (xa x), Value.slice s (xl x) c] 26) (some (v0.heap.size)) (some (v25.heap.size)) v31) := HI.out.fx hf hr (by omega) (by omega)
        have HS : Hid (Box5 v31 w.heap.size (.int .i64 (xk x)) (.string (bsA (xt x))) (.int .i64 (xn x)) (.int .i64 (xa x)) (.slice s (xl x) c)) := HS.out.fx hf (by omega)
        clear hr hf
        refine hK.out _ _ ?_ (fun hHz => ?_)
        · (try dsimp only); exact HS.out
        clear hK K hHz
        try simp only [Act.put, List.setIfInBounds_toArray, List.set_cons_zero, List.set_cons_succ]
        refine wpAnyH_ready (rs := [4]) (by kernel_rfl) (by simp) ?_
        refine AllReadyH.cons rfl (fun K hK => ?_) AllReadyH.nil
        go_simp
        have h := node_any 9 ((q1, q2, q3), q4) (some ⟨v25.heap.size, 0, none⟩) 1 1 v31
        unfold ttV nV at h
        dsimp only at h
        refine h.mono ?_
        rintro e v32 ⟨rfl, hb⟩
        clear h
        have HI : Hid (RgI rb ta cap T w (w.heap.size + 1) (w.heap.size + 2) (i + 1) op (Obj.cells #[Value.int IntKind.i64 (xk x), Value.string (bsA (xt x)), Value.int IntKind.i64 (xn x), Value.int IntKind.i64 (xa x), Value.slice s (xl x) c] 26) (some (v0.heap.size)) (some (v25.heap.size)) v32) := HI.out.below hb (by omega) (by omega)
        have HS : Hid (Box5 v32 w.heap.size (.int .i64 (xk x)) (.string (bsA (xt x))) (.int .i64 (xn x)) (.int .i64 (xa x)) (.slice s (xl x) c)) := HS.out.below hb
        clear hb
        refine hK.out _ _ ?_ (fun hHz => ?_)
        · (try dsimp only); exact HS.out
        clear hK K hHz
        try simp only [Act.put, List.setIfInBounds_toArray, List.set_cons_zero, List.set_cons_succ]
        refine wpAnyH_ready (rs := [6]) (by kernel_rfl) (by simp) ?_
        refine AllReadyH.cons rfl (fun K hK => ?_) AllReadyH.nil
        have hn := HI.out.nbx _ rfl
        obtain ⟨y0, y1, y2, y3, y4, z0, z1, z2, z3, z4⟩ := hn.1
        go_simp
        clear y0 y1 y2 y3 y4 z0 z1 z2 z3 z4
        have HI : Hid (RgO rb ta cap T w (w.heap.size + 1) (w.heap.size + 2) (i + 1) op (Obj.cells #[Value.int IntKind.i64 (xk x), Value.string (bsA (xt x)), Value.int IntKind.i64 (xn x), Value.int IntKind.i64 (xa x), Value.slice s (xl x) c] 26) (v0.heap.size) (v25.heap.size) (.int .i64 9) (.string (bsA [])) (.int .i64 0) (.int .i64 q4) (.slice (some ⟨v25.heap.size, 0, none⟩) 1 1) (set5 v32 (v0.heap.size) 0 (.int .i64 9) (.string (bsA [])) (.int .i64 0) (.int .i64 q4) (.slice (some ⟨v25.heap.size, 0, none⟩) 1 1))) := HI.out.put (.int .i64 9) (.string (bsA [])) (.int .i64 0) (.int .i64 q4) (.slice (some ⟨v25.heap.size, 0, none⟩) 1 1) (by omega) (by omega) (by omega)
        have HS : Hid (Box5 (set5 v32 (v0.heap.size) 0 (.int .i64 9) (.string (bsA [])) (.int .i64 0) (.int .i64 q4) (.slice (some ⟨v25.heap.size, 0, none⟩) 1 1)) w.heap.size (.int .i64 (xk x)) (.string (bsA (xt x))) (.int .i64 (xn x)) (.int .i64 (xa x)) (.slice s (xl x) c)) := HS.out.set5 _ _ _ _ _ _ _ (by have := hn.2; omega)
        clear hn
        refine hK.out _ _ ?_ (fun hHz => ?_)
        · (try dsimp only); exact HS.out
        clear hK K hHz
        try simp only [Act.put, List.setIfInBounds_toArray, List.set_cons_zero, List.set_cons_succ]
        refine wpAnyH_done (by kernel_rfl) ?_ _
        go_wp2_with fail
        go_meet
        exact ⟨_, _, rfl, HI.out⟩
  case rest =>
    obtain ⟨nb, gb, rfl, hO⟩ := hcut
    have hnl := hO.nl
    have hgl := hO.gl
    have hne := hO.ne
    have HC1 : Hid (Cx rb ta cap T w (w.heap.size + 1) (i + 1) op wc) := hO.cx
    have HB1 : Hid (Box5 wc nb (.int .i64 9) (.string (bsA [])) (.int .i64 0) (.int .i64 q4) (.slice (some ⟨gb, 0, none⟩) 1 1)) := hO.box
    have HRW1 : Hid (wc.heap[gb]? = some (Obj.cells #[Value.int IntKind.i64 (xk x), Value.string (bsA (xt x)), Value.int IntKind.i64 (xn x), Value.int IntKind.i64 (xa x), Value.slice s (xl x) c] 26)) := hO.row
    have HL1 : Hid ((if isT (tkI T (i + 1)) 2 [[110, 111, 116]] then bnd (needP T 2 [110, 117, 108, 108] (i + 2)) (fun _ j => okR (mkX 9 [] 1 q4 [x]) j) else bnd (needP T 2 [110, 117, 108, 108] (i + 1)) (fun _ j => okR (mkX 9 [] 0 q4 [x]) j)) = some r) := by
      have h : isNP T x i = some r := HH.out
      unfold isNP nd at h
      rw [HQ.out] at h
      exact h
    clear hO HC0 HBX HH HQ HIT
    cases hb : isT (tkI T (i + 1)) 2 [[110, 111, 116]] with
    | true =>
      have h5 := passes_ok rb ta cap T (i + 1) op 2 [110, 111, 116] wc HC1.out.rdr (by decide) hb
      unfold ptr at h5
      have HL : Hid (bnd (needP T 2 [110, 117, 108, 108] (i + 2)) (fun _ j => okR (mkX 9 [] 1 q4 [x]) j) = some r) := by
        have h := HL1.out
        rw [hb] at h
        exact h
      clear hb HL1
      go_wp2_with fail
      refine h5.mono ?_
      rintro e w5 ⟨rfl, hr5, hf5⟩
      clear h5
      have hB5 := HB1.out.fx hf5 (by omega)
      have HC : Hid (Cx rb ta cap T w (w.heap.size + 1) (i + 2) op (w5.setCell ⟨nb, 2, none⟩ (.int .i64 1))) := (HC1.out.step hf5 hr5 (by omega)).set nb 2 _ (by omega) (by omega) (by omega)
      have HB : Hid (Box5 (w5.setCell ⟨nb, 2, none⟩ (.int .i64 1)) nb (.int .i64 9) (.string (bsA [])) (.int .i64 1) (.int .i64 q4) (.slice (some ⟨gb, 0, none⟩) 1 1)) := hB5.put2 _
      have HRW : Hid (((w5.setCell ⟨nb, 2, none⟩ (.int .i64 1))).heap[gb]? = some (Obj.cells #[Value.int IntKind.i64 (xk x), Value.string (bsA (xt x)), Value.int IntKind.i64 (xn x), Value.int IntKind.i64 (xa x), Value.slice s (xl x) c] 26)) := (Below.heap_setCell _ _ _ _ (show gb ≠ nb by omega)).trans ((hf5.blk gb (heap_lt HRW1.out) (by omega)).trans HRW1.out)
      obtain ⟨y0, y1, y2, y3, y4, k0, k1, k2, k3, k4⟩ := hB5
      clear hr5 hf5 HC1 HB1 HRW1
      clear y0 y1 y3 y4 k0 k1 k3 k4
      obtain ⟨r9, e9, h9⟩ := need_any rb ta cap T (i + 2) op 2 [110, 117, 108, 108] (by decide) _ HC.out.rdr
      unfold ptr at h9
      have HL9 : Hid (bnd (some r9) (fun _ j => okR (mkX 9 [] 1 q4 [x]) j) = some r) := by
        have h := HL.out
        rw [e9] at h
        exact h
      clear e9 HL
      go_wp2_with fail
      refine h9.mono ?_
      intro e w9 hpost
      clear h9
      cases r9 with
      | inl q =>
        obtain ⟨hG, hF⟩ := hpost.no
        unfold GUp at hG
        subst hG
        have HRR : Hid (r = .inl q) := (Option.some.inj HL9.out).symm
        have HF : Hid _ := HC.out.fx.trans hF
        clear hpost hF
        go_wp2
        exact ⟨rfl, by rw [HRR.out]; exact ⟨rfl, HF.out⟩⟩
      | inr q =>
        obtain ⟨t9, j9⟩ := q
        obtain ⟨⟨rfl, hr9⟩, hF9⟩ := hpost.ok
        dsimp only at hr9
        have HRR : Hid (r = .inr ((mkX 9 [] 1 q4 [x]), j9)) := (Option.some.inj HL9.out).symm
        have hC := HC.out.step hF9 hr9 (by omega)
        have hrow := (hF9.blk gb (heap_lt HRW.out) (by omega)).trans HRW.out
        have hO9 := own_of (lo := lo) (A := [(x, s, c)]) hrow (by omega) (by simp) rfl
        have hX9 : XD (fun b => b ≠ (w.heap.size + 1) ∧ b ≠ rb ∧ (b < hi ∨ w.heap.size ≤ b)) lo w9 (mkX 9 [] 1 q4 [x]) (some ⟨gb, 0, none⟩) := own_tree (A := [(x, s, c)]) 9 [] 1 q4 hO9 ⟨by omega, by omega, Or.inr (by omega)⟩ (fun p hp => by rw [List.mem_singleton.1 hp]; exact HX.out.was hC.fx (fun b h1 h2 => ⟨by omega, h1, Or.inl h2⟩))
        have HFin : Hid _ := Cx.rett (k := 9) (t := []) (m := 1) (a := q4) (n := 1) 1 rfl hC hX9 (by omega) hlt
        obtain ⟨b0, b1, b2, b3, b4, _, _, _, _, _⟩ := HB.out.fx hF9 (by omega)
        obtain ⟨z0, z1, z2, z3, z4, f0, f1, f2, f3, f4⟩ := own5 hC.res (.int .i64 9) (.string (bsA [])) (.int .i64 1) (.int .i64 q4) (.slice (some ⟨gb, 0, none⟩) 1 1)
        obtain ⟨d0, d1, d2, d3, d4, g0, g1, g2, g3, g4⟩ := hC.res
        clear hC hrow hO9 hX9 hpost hr9 hF9 HC HB HL9 HRW HX
        unfold ttV
        go_wp2
        refine bodyPost_ret (v := .agg #[.int .i64 9, .string (bsA []), .int .i64 1, .int .i64 q4, .slice (some ⟨gb, 0, none⟩) 1 1]) (by unfold set5 at z0 z1 z2 z3 z4; simp [results, Try.results78, go_sem, z0, z1, z2, z3, z4]) rfl ?_
        rw [HRR.out]
        exact HFin.out
    | false =>
      have h5 := passes_no rb ta cap T (i + 1) op 2 [110, 111, 116] wc HC1.out.rdr hb
      unfold ptr at h5
      have HL : Hid (bnd (needP T 2 [110, 117, 108, 108] (i + 1)) (fun _ j => okR (mkX 9 [] 0 q4 [x]) j) = some r) := by
        have h := HL1.out
        rw [hb] at h
        exact h
      clear hb HL1
      go_wp2_with fail
      refine h5.mono ?_
      rintro e w5 ⟨rfl, hb5⟩
      clear h5
      have HC : Hid (Cx rb ta cap T w (w.heap.size + 1) (i + 1) op w5) := HC1.out.below hb5
      have HB : Hid (Box5 w5 nb (.int .i64 9) (.string (bsA [])) (.int .i64 0) (.int .i64 q4) (.slice (some ⟨gb, 0, none⟩) 1 1)) := HB1.out.below hb5
      have HRW : Hid (w5.heap[gb]? = some (Obj.cells #[Value.int IntKind.i64 (xk x), Value.string (bsA (xt x)), Value.int IntKind.i64 (xn x), Value.int IntKind.i64 (xa x), Value.slice s (xl x) c] 26)) := (hb5.block gb (heap_lt HRW1.out)).trans HRW1.out
      clear hb5 HC1 HB1 HRW1
      obtain ⟨r9, e9, h9⟩ := need_any rb ta cap T (i + 1) op 2 [110, 117, 108, 108] (by decide) _ HC.out.rdr
      unfold ptr at h9
      have HL9 : Hid (bnd (some r9) (fun _ j => okR (mkX 9 [] 0 q4 [x]) j) = some r) := by
        have h := HL.out
        rw [e9] at h
        exact h
      clear e9 HL
      go_wp2_with fail
      refine h9.mono ?_
      intro e w9 hpost
      clear h9
      cases r9 with
      | inl q =>
        obtain ⟨hG, hF⟩ := hpost.no
        unfold GUp at hG
        subst hG
        have HRR : Hid (r = .inl q) := (Option.some.inj HL9.out).symm
        have HF : Hid _ := HC.out.fx.trans hF
        clear hpost hF
        go_wp2
        exact ⟨rfl, by rw [HRR.out]; exact ⟨rfl, HF.out⟩⟩
      | inr q =>
        obtain ⟨t9, j9⟩ := q
        obtain ⟨⟨rfl, hr9⟩, hF9⟩ := hpost.ok
        dsimp only at hr9
        have HRR : Hid (r = .inr ((mkX 9 [] 0 q4 [x]), j9)) := (Option.some.inj HL9.out).symm
        have hC := HC.out.step hF9 hr9 (by omega)
        have hrow := (hF9.blk gb (heap_lt HRW.out) (by omega)).trans HRW.out
        have hO9 := own_of (lo := lo) (A := [(x, s, c)]) hrow (by omega) (by simp) rfl
        have hX9 : XD (fun b => b ≠ (w.heap.size + 1) ∧ b ≠ rb ∧ (b < hi ∨ w.heap.size ≤ b)) lo w9 (mkX 9 [] 0 q4 [x]) (some ⟨gb, 0, none⟩) := own_tree (A := [(x, s, c)]) 9 [] 0 q4 hO9 ⟨by omega, by omega, Or.inr (by omega)⟩ (fun p hp => by rw [List.mem_singleton.1 hp]; exact HX.out.was hC.fx (fun b h1 h2 => ⟨by omega, h1, Or.inl h2⟩))
        have HFin : Hid _ := Cx.rett (k := 9) (t := []) (m := 0) (a := q4) (n := 1) 1 rfl hC hX9 (by omega) hlt
        obtain ⟨b0, b1, b2, b3, b4, _, _, _, _, _⟩ := HB.out.fx hF9 (by omega)
        obtain ⟨z0, z1, z2, z3, z4, f0, f1, f2, f3, f4⟩ := own5 hC.res (.int .i64 9) (.string (bsA [])) (.int .i64 0) (.int .i64 q4) (.slice (some ⟨gb, 0, none⟩) 1 1)
        obtain ⟨d0, d1, d2, d3, d4, g0, g1, g2, g3, g4⟩ := hC.res
        clear hC hrow hO9 hX9 hpost hr9 hF9 HC HB HL9 HRW HX
        unfold ttV
        go_wp2
        refine bodyPost_ret (v := .agg #[.int .i64 9, .string (bsA []), .int .i64 0, .int .i64 q4, .slice (some ⟨gb, 0, none⟩) 1 1]) (by unfold set5 at z0 z1 z2 z3 z4; simp [results, Try.results78, go_sem, z0, z1, z2, z3, z4]) rfl ?_
        rw [HRR.out]
        exact HFin.out
end Go.Proofs.Ytcicdapccondkaa
