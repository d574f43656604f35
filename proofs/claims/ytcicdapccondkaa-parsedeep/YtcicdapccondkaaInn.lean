/- Among these (in). -/
import Derived.Test.YtcicdapccondkaaIsn
namespace Go.Proofs.Ytcicdapccondkaa
open Go.ChangeShapes Go.WideShapes Go.ChangeAt Go.RowKit
set_option linter.unusedSimpArgs false
set_option maxRecDepth 20000
set_option maxHeartbeats 4000000

theorem in_any (rb : Nat) (ta : Option Addr) (cap : Nat) (T : List Tt) (E : Nat → Nat → Rz X) (f : Nat) (hgl : LReads rb ta cap T 86 (fun i op => listE T (fun j => E j op) f i)) (hup : Ups E) : TReads rb ta cap T 80 (fun x i op => inP T (fun j => E j op) f x i) := by
  intro lo hi x s c i op w r hop hr hin hx hlo hlw hhi h
  have HG : Hid (LReads rb ta cap T 86 (fun i op => listE T (fun j => E j op) f i)) := hgl
  have HU : Hid (Ups E) := hup
  have hlen := hr.len
  obtain ⟨i0, hi0, hz0⟩ := Option.map_eq_some_iff.1 info26
  simp only [Prod.mk.injEq] at hz0
  obtain ⟨hz1, hzs, hz3⟩ := hz0
  have hlt := cell_lt hr.c0
  have HX : Hid (XD (fun b => b ≠ rb ∧ b < hi) lo w x s) := hx
  have hT : Below w.heap.size w (w.alloc (Obj.cells #[Value.int IntKind.i64 (xk x), Value.string (bsA (xt x)), Value.int IntKind.i64 (xn x), Value.int IntKind.i64 (xa x), Value.slice s (xl x) c] 26)) := (Below.refl _ _).alloc (Nat.le_refl _) _
  have HC0 : Hid (Cx rb ta cap T w (w.heap.size + 1) i op ((w.alloc (Obj.cells #[Value.int IntKind.i64 (xk x), Value.string (bsA (xt x)), Value.int IntKind.i64 (xn x), Value.int IntKind.i64 (xa x), Value.slice s (xl x) c] 26)).alloc (Obj.cells #[Value.int IntKind.i64 0, Value.string { data := #[] }, Value.int IntKind.i64 0, Value.int IntKind.i64 0, Value.slice none 0 0] 26))) := by
    have hb : Below w.heap.size w ((w.alloc (Obj.cells #[Value.int IntKind.i64 (xk x), Value.string (bsA (xt x)), Value.int IntKind.i64 (xn x), Value.int IntKind.i64 (xa x), Value.slice s (xl x) c] 26)).alloc (Obj.cells #[Value.int IntKind.i64 0, Value.string { data := #[] }, Value.int IntKind.i64 0, Value.int IntKind.i64 0, Value.slice none 0 0] 26)) := hT.alloc hT.size _
    refine ⟨Fx.below hb, hr.below hb, ?_⟩
    have h := Box5.new (w.alloc (Obj.cells #[Value.int IntKind.i64 (xk x), Value.string (bsA (xt x)), Value.int IntKind.i64 (xn x), Value.int IntKind.i64 (xa x), Value.slice s (xl x) c] 26)) (.int .i64 0) (.string ⟨#[]⟩) (.int .i64 0) (.int .i64 0) (.slice none 0 0) 26
    rw [World.size_alloc] at h
    exact h
  have HBX : Hid (Box5 ((w.alloc (Obj.cells #[Value.int IntKind.i64 (xk x), Value.string (bsA (xt x)), Value.int IntKind.i64 (xn x), Value.int IntKind.i64 (xa x), Value.slice s (xl x) c] 26)).alloc (Obj.cells #[Value.int IntKind.i64 0, Value.string { data := #[] }, Value.int IntKind.i64 0, Value.int IntKind.i64 0, Value.slice none 0 0] 26)) w.heap.size (.int .i64 (xk x)) (.string (bsA (xt x))) (.int .i64 (xn x)) (.int .i64 (xa x)) (.slice s (xl x) c)) := (Box5.new w _ _ _ _ _ 26).below ((Below.refl _ _).alloc (Nat.le_refl _) _)
  have HIT : Hid (i < T.length) := hin
  have HH : Hid _ := h
  obtain ⟨q, hq⟩ : ∃ q, tkI T i = q := ⟨_, rfl⟩
  have HQ : Hid (tkI T i = q) := hq
  obtain ⟨⟨q1, q2, q3⟩, q4⟩ := q
  unfold ptr xV nV
  clear hr h hx hT hin hq hgl hup
  go_enter Try.func80, Try.ntmps80
  go_wp2_with fail
  go_cut [5] from 6 to 10 (fun s5 wx => ∃ nb gb, s5 = .pointer (some ⟨nb, 0, none⟩) ∧ RgO rb ta cap T w (w.heap.size + 1) (w.heap.size + 2) (i + 1) op (Obj.cells #[Value.int IntKind.i64 (xk x), Value.string (bsA (xt x)), Value.int IntKind.i64 (xn x), Value.int IntKind.i64 (xa x), Value.slice s (xl x) c] 26) nb gb (.int .i64 11) (.string (bsA [])) (.int .i64 0) (.int .i64 q4) (.slice (some ⟨gb, 0, none⟩) 1 1) wx)
  case first =>
    have HI : Hid (RgI rb ta cap T w (w.heap.size + 1) (w.heap.size + 2) i op (Obj.cells #[Value.int IntKind.i64 (xk x), Value.string (bsA (xt x)), Value.int IntKind.i64 (xn x), Value.int IntKind.i64 (xa x), Value.slice s (xl x) c] 26) none none ((w.alloc (Obj.cells #[Value.int IntKind.i64 (xk x), Value.string (bsA (xt x)), Value.int IntKind.i64 (xn x), Value.int IntKind.i64 (xa x), Value.slice s (xl x) c] 26)).alloc (Obj.cells #[Value.int IntKind.i64 0, Value.string { data := #[] }, Value.int IntKind.i64 0, Value.int IntKind.i64 0, Value.slice none 0 0] 26)).drew) := RgI.start HC0.out.drew (by simp)
    have HS : Hid (Box5 ((w.alloc (Obj.cells #[Value.int IntKind.i64 (xk x), Value.string (bsA (xt x)), Value.int IntKind.i64 (xn x), Value.int IntKind.i64 (xa x), Value.slice s (xl x) c] 26)).alloc (Obj.cells #[Value.int IntKind.i64 0, Value.string { data := #[] }, Value.int IntKind.i64 0, Value.int IntKind.i64 0, Value.slice none 0 0] 26)).drew w.heap.size (.int .i64 (xk x)) (.string (bsA (xt x))) (.int .i64 (xn x)) (.int .i64 (xa x)) (.slice s (xl x) c)) := HBX.out.drew
    clear HC0 HBX
    refine wp_region_held_drew (S := (fun wS => Box5 wS w.heap.size (.int .i64 (xk x)) (.string (bsA (xt x))) (.int .i64 (xn x)) (.int .i64 (xa x)) (.slice s (xl x) c))) (by kernel_rfl) ?_ (fun hHeld => ?_)
    · (try dsimp only); exact HS.out
    refine tk 0 (some 6) (v := ?_) rfl ?_ ?_
    rotate_left
    · intro wS hSw; (try dsimp only at hSw); go_simp; (try with_reducible rfl)
    try simp only [Act.put, List.setIfInBounds_toArray, List.set_cons_zero, List.set_cons_succ]
    refine tk 2 (some 8) (v := ?_) rfl ?_ ?_
    rotate_left
    · intro wS hSw; (try dsimp only at hSw); have y0 := hSw.c0; have y1 := hSw.c1; have y2 := hSw.c2; have y3 := hSw.c3; have y4 := hSw.c4; go_simp; (try with_reducible rfl)
    try simp only [Act.put, List.setIfInBounds_toArray, List.set_cons_zero, List.set_cons_succ]
    generalize ((w.alloc (Obj.cells #[Value.int IntKind.i64 (xk x), Value.string (bsA (xt x)), Value.int IntKind.i64 (xn x), Value.int IntKind.i64 (xa x), Value.slice s (xl x) c] 26)).alloc (Obj.cells #[Value.int IntKind.i64 0, Value.string { data := #[] }, Value.int IntKind.i64 0, Value.int IntKind.i64 0, Value.slice none 0 0] 26)).drew = v0 at HI HS ⊢
    refine wpAnyH_ready (rs := [1, 3, 5]) (by kernel_rfl) (by simp) ?_
    refine AllReadyH.cons rfl (fun K hK => ?_) (AllReadyH.cons rfl (fun K hK => ?_) (AllReadyH.cons rfl (fun K hK => ?_) AllReadyH.nil))
    · skip
      go_simp
      have h := take_any rb ta cap T i op _ HI.out.cx.rdr HIT.out
      unfold ptr at h
      rw [HQ.out] at h
      unfold ttV at h
      dsimp only at h
      refine h.mono ?_
      rintro e v1 ⟨rfl, hr, hf⟩
      clear h
      have HI : Hid (RgI rb ta cap T w (w.heap.size + 1) (w.heap.size + 2) (i + 1) op (Obj.cells #[Value.int IntKind.i64 (xk x), Value.string (bsA (xt x)), Value.int IntKind.i64 (xn x), Value.int IntKind.i64 (xa x), Value.slice s (xl x) c] 26) none none v1) := HI.out.fx hf hr (by omega) (by omega)
      have HS : Hid (Box5 v1 w.heap.size (.int .i64 (xk x)) (.string (bsA (xt x))) (.int .i64 (xn x)) (.int .i64 (xa x)) (.slice s (xl x) c)) := HS.out.fx hf (by omega)
      clear hr hf
      refine hK.out _ _ ?_ (fun hHz => ?_)
      · (try dsimp only); exact HS.out
      clear hK K hHz
      try simp only [Act.put, List.setIfInBounds_toArray, List.set_cons_zero, List.set_cons_succ]
      refine wpAnyH_ready (rs := [3, 5]) (by kernel_rfl) (by simp) ?_
      refine AllReadyH.cons rfl (fun K hK => ?_) (AllReadyH.cons rfl (fun K hK => ?_) AllReadyH.nil)
      · skip
        go_simp
        have HI : Hid (RgI rb ta cap T w (w.heap.size + 1) (w.heap.size + 2) (i + 1) op (Obj.cells #[Value.int IntKind.i64 (xk x), Value.string (bsA (xt x)), Value.int IntKind.i64 (xn x), Value.int IntKind.i64 (xa x), Value.slice s (xl x) c] 26) none (some (v1.heap.size)) (v1.alloc (Obj.cells #[Value.int IntKind.i64 (xk x), Value.string (bsA (xt x)), Value.int IntKind.i64 (xn x), Value.int IntKind.i64 (xa x), Value.slice s (xl x) c] 26))) := HI.out.row (by simp) (by omega) (by omega)
        have HS : Hid (Box5 (v1.alloc (Obj.cells #[Value.int IntKind.i64 (xk x), Value.string (bsA (xt x)), Value.int IntKind.i64 (xn x), Value.int IntKind.i64 (xa x), Value.slice s (xl x) c] 26)) w.heap.size (.int .i64 (xk x)) (.string (bsA (xt x))) (.int .i64 (xn x)) (.int .i64 (xa x)) (.slice s (xl x) c)) := HS.out.below ((Below.refl _ _).alloc (Nat.le_refl _) _)
        refine hK.out _ _ ?_ (fun hHz => ?_)
        · (try dsimp only); exact HS.out
        clear hK K hHz
        try simp only [Act.put, List.setIfInBounds_toArray, List.set_cons_zero, List.set_cons_succ]
        generalize (v1.alloc (Obj.cells #[Value.int IntKind.i64 (xk x), Value.string (bsA (xt x)), Value.int IntKind.i64 (xn x), Value.int IntKind.i64 (xa x), Value.slice s (xl x) c] 26)) = v2 at HI HS ⊢
        refine wpAnyH_ready (rs := [4, 5]) (by kernel_rfl) (by simp) ?_
        refine AllReadyH.cons rfl (fun K hK => ?_) (AllReadyH.cons rfl (fun K hK => ?_) AllReadyH.nil)
        · skip
          go_simp
          have h := node_any 11 ((q1, q2, q3), q4) (some ⟨v1.heap.size, 0, none⟩) 1 1 v2
          unfold ttV nV at h
          dsimp only at h
          refine h.mono ?_
          rintro e v3 ⟨rfl, hb⟩
          clear h
          have HI : Hid (RgI rb ta cap T w (w.heap.size + 1) (w.heap.size + 2) (i + 1) op (Obj.cells #[Value.int IntKind.i64 (xk x), Value.string (bsA (xt x)), Value.int IntKind.i64 (xn x), Value.int IntKind.i64 (xa x), Value.slice s (xl x) c] 26) none (some (v1.heap.size)) v3) := HI.out.below hb (by omega) (by omega)
          have HS : Hid (Box5 v3 w.heap.size (.int .i64 (xk x)) (.string (bsA (xt x))) (.int .i64 (xn x)) (.int .i64 (xa x)) (.slice s (xl x) c)) := HS.out.below hb
          clear hb
          refine hK.out _ _ ?_ (fun hHz => ?_)
          · (try dsimp only); exact HS.out
          clear hK K hHz
          try simp only [Act.put, List.setIfInBounds_toArray, List.set_cons_zero, List.set_cons_succ]
          refine wpAnyH_ready (rs := [5]) (by kernel_rfl) (by simp) ?_
          refine AllReadyH.cons rfl (fun K hK => ?_) AllReadyH.nil
          go_simp
          have HI : Hid (RgI rb ta cap T w (w.heap.size + 1) (w.heap.size + 2) (i + 1) op (Obj.cells #[Value.int IntKind.i64 (xk x), Value.string (bsA (xt x)), Value.int IntKind.i64 (xn x), Value.int IntKind.i64 (xa x), Value.slice s (xl x) c] 26) (some (v3.heap.size)) (some (v1.heap.size)) (v3.alloc (Obj.cells #[Value.int IntKind.i64 0, Value.string { data := #[] }, Value.int IntKind.i64 0, Value.int IntKind.i64 0, Value.slice none 0 0] 26))) := HI.out.new (by simp) (by omega) (by omega)
          have HS : Hid (Box5 (v3.alloc (Obj.cells #[Value.int IntKind.i64 0, Value.string { data := #[] }, Value.int IntKind.i64 0, Value.int IntKind.i64 0, Value.slice none 0 0] 26)) w.heap.size (.int .i64 (xk x)) (.string (bsA (xt x))) (.int .i64 (xn x)) (.int .i64 (xa x)) (.slice s (xl x) c)) := HS.out.below ((Below.refl _ _).alloc (Nat.le_refl _) _)
          refine hK.out _ _ ?_ (fun hHz => ?_)
          · (try dsimp only); exact HS.out
          clear hK K hHz
          try simp only [Act.put, List.setIfInBounds_toArray, List.set_cons_zero, List.set_cons_succ]
          generalize (v3.alloc (Obj.cells #[Value.int IntKind.i64 0, Value.string { data := #[] }, Value.int IntKind.i64 0, Value.int IntKind.i64 0, Value.slice none 0 0] 26)) = v4 at HI HS ⊢
          refine wpAnyH_ready (rs := [6]) (by kernel_rfl) (by simp) ?_
          refine AllReadyH.cons rfl (fun K hK => ?_) AllReadyH.nil
          have hn := HI.out.nbx _ rfl
          obtain ⟨y0, y1, y2, y3, y4, z0, z1, z2, z3, z4⟩ := hn.1
          go_simp
          clear y0 y1 y2 y3 y4 z0 z1 z2 z3 z4
          have HI : Hid (RgO rb ta cap T w (w.heap.size + 1) (w.heap.size + 2) (i + 1) op (Obj.cells #[Value.int IntKind.i64 (xk x), Value.string (bsA (xt x)), Value.int IntKind.i64 (xn x), Value.int IntKind.i64 (xa x), Value.slice s (xl x) c] 26) (v3.heap.size) (v1.heap.size) (.int .i64 11) (.string (bsA [])) (.int .i64 0) (.int .i64 q4) (.slice (some ⟨v1.heap.size, 0, none⟩) 1 1) (set5 v4 (v3.heap.size) 0 (.int .i64 11) (.string (bsA [])) (.int .i64 0) (.int .i64 q4) (.slice (some ⟨v1.heap.size, 0, none⟩) 1 1))) := HI.out.put (.int .i64 11) (.string (bsA [])) (.int .i64 0) (.int .i64 q4) (.slice (some ⟨v1.heap.size, 0, none⟩) 1 1) (by omega) (by omega) (by omega)
          have HS : Hid (Box5 (set5 v4 (v3.heap.size) 0 (.int .i64 11) (.string (bsA [])) (.int .i64 0) (.int .i64 q4) (.slice (some ⟨v1.heap.size, 0, none⟩) 1 1)) w.heap.size (.int .i64 (xk x)) (.string (bsA (xt x))) (.int .i64 (xn x)) (.int .i64 (xa x)) (.slice s (xl x) c)) := HS.out.set5 _ _ _ _ _ _ _ (by have := hn.2; omega)
          clear hn
          refine hK.out _ _ ?_ (fun hHz => ?_)
          · (try dsimp only); exact HS.out
          clear hK K hHz
          try simp only [Act.put, List.setIfInBounds_toArray, List.set_cons_zero, List.set_cons_succ]
          refine wpAnyH_done (by kernel_rfl) ?_ _
          go_wp2_with fail
          go_meet
          exact ⟨_, _, rfl, HI.out⟩
        · skip
          go_simp
          have HI : Hid (RgI rb ta cap T w (w.heap.size + 1) (w.heap.size + 2) (i + 1) op (Obj.cells #[Value.int IntKind.i64 (xk x), Value.string (bsA (xt x)), Value.int IntKind.i64 (xn x), Value.int IntKind.i64 (xa x), Value.slice s (xl x) c] 26) (some (v2.heap.size)) (some (v1.heap.size)) (v2.alloc (Obj.cells #[Value.int IntKind.i64 0, Value.string { data := #[] }, Value.int IntKind.i64 0, Value.int IntKind.i64 0, Value.slice none 0 0] 26))) := HI.out.new (by simp) (by omega) (by omega)
          have HS : Hid (Box5 (v2.alloc (Obj.cells #[Value.int IntKind.i64 0, Value.string { data := #[] }, Value.int IntKind.i64 0, Value.int IntKind.i64 0, Value.slice none 0 0] 26)) w.heap.size (.int .i64 (xk x)) (.string (bsA (xt x))) (.int .i64 (xn x)) (.int .i64 (xa x)) (.slice s (xl x) c)) := HS.out.below ((Below.refl _ _).alloc (Nat.le_refl _) _)
          refine hK.out _ _ ?_ (fun hHz => ?_)
          · (try dsimp only); exact HS.out
          clear hK K hHz
          try simp only [Act.put, List.setIfInBounds_toArray, List.set_cons_zero, List.set_cons_succ]
          generalize (v2.alloc (Obj.cells #[Value.int IntKind.i64 0, Value.string { data := #[] }, Value.int IntKind.i64 0, Value.int IntKind.i64 0, Value.slice none 0 0] 26)) = v6 at HI HS ⊢
          refine wpAnyH_ready (rs := [4]) (by kernel_rfl) (by simp) ?_
          refine AllReadyH.cons rfl (fun K hK => ?_) AllReadyH.nil
          go_simp
          have h := node_any 11 ((q1, q2, q3), q4) (some ⟨v1.heap.size, 0, none⟩) 1 1 v6
          unfold ttV nV at h
          dsimp only at h
          refine h.mono ?_
          rintro e v7 ⟨rfl, hb⟩
          clear h
          have HI : Hid (RgI rb ta cap T w (w.heap.size + 1) (w.heap.size + 2) (i + 1) op (Obj.cells #[Value.int IntKind.i64 (xk x), Value.string (bsA (xt x)), Value.int IntKind.i64 (xn x), Value.int IntKind.i64 (xa x), Value.slice s (xl x) c] 26) (some (v2.heap.size)) (some (v1.heap.size)) v7) := HI.out.below hb (by omega) (by omega)
          have HS : Hid (Box5 v7 w.heap.size (.int .i64 (xk x)) (.string (bsA (xt x))) (.int .i64 (xn x)) (.int .i64 (xa x)) (.slice s (xl x) c)) := HS.out.below hb
          clear hb
          refine hK.out _ _ ?_ (fun hHz => ?_)
          · (try dsimp only); exact HS.out
          clear hK K hHz
          try simp only [Act.put, List.setIfInBounds_toArray, List.set_cons_zero, List.set_cons_succ]
          refine wpAnyH_ready (rs := [6]) (by kernel_rfl) (by simp) ?_
          refine AllReadyH.cons rfl (fun K hK => ?_) AllReadyH.nil
          have hn := HI.out.nbx _ rfl
          obtain ⟨y0, y1, y2, y3, y4, z0, z1, z2, z3, z4⟩ := hn.1
          go_simp
          clear y0 y1 y2 y3 y4 z0 z1 z2 z3 z4
          have HI : Hid (RgO rb ta cap T w (w.heap.size + 1) (w.heap.size + 2) (i + 1) op (Obj.cells #[Value.int IntKind.i64 (xk x), Value.string (bsA (xt x)), Value.int IntKind.i64 (xn x), Value.int IntKind.i64 (xa x), Value.slice s (xl x) c] 26) (v2.heap.size) (v1.heap.size) (.int .i64 11) (.string (bsA [])) (.int .i64 0) (.int .i64 q4) (.slice (some ⟨v1.heap.size, 0, none⟩) 1 1) (set5 v7 (v2.heap.size) 0 (.int .i64 11) (.string (bsA [])) (.int .i64 0) (.int .i64 q4) (.slice (some ⟨v1.heap.size, 0, none⟩) 1 1))) := HI.out.put (.int .i64 11) (.string (bsA [])) (.int .i64 0) (.int .i64 q4) (.slice (some ⟨v1.heap.size, 0, none⟩) 1 1) (by omega) (by omega) (by omega)
          have HS : Hid (Box5 (set5 v7 (v2.heap.size) 0 (.int .i64 11) (.string (bsA [])) (.int .i64 0) (.int .i64 q4) (.slice (some ⟨v1.heap.size, 0, none⟩) 1 1)) w.heap.size (.int .i64 (xk x)) (.string (bsA (xt x))) (.int .i64 (xn x)) (.int .i64 (xa x)) (.slice s (xl x) c)) := HS.out.set5 _ _ _ _ _ _ _ (by have := hn.2; omega)
          clear hn
          refine hK.out _ _ ?_ (fun hHz => ?_)
          · (try dsimp only); exact HS.out
          clear hK K hHz
          try simp only [Act.put, List.setIfInBounds_toArray, List.set_cons_zero, List.set_cons_succ]
          refine wpAnyH_done (by kernel_rfl) ?_ _
          go_wp2_with fail
          go_meet
          exact ⟨_, _, rfl, HI.out⟩
      · skip
        go_simp
        have HI : Hid (RgI rb ta cap T w (w.heap.size + 1) (w.heap.size + 2) (i + 1) op (Obj.cells #[Value.int IntKind.i64 (xk x), Value.string (bsA (xt x)), Value.int IntKind.i64 (xn x), Value.int IntKind.i64 (xa x), Value.slice s (xl x) c] 26) (some (v1.heap.size)) none (v1.alloc (Obj.cells #[Value.int IntKind.i64 0, Value.string { data := #[] }, Value.int IntKind.i64 0, Value.int IntKind.i64 0, Value.slice none 0 0] 26))) := HI.out.new (by simp) (by omega) (by omega)
        have HS : Hid (Box5 (v1.alloc (Obj.cells #[Value.int IntKind.i64 0, Value.string { data := #[] }, Value.int IntKind.i64 0, Value.int IntKind.i64 0, Value.slice none 0 0] 26)) w.heap.size (.int .i64 (xk x)) (.string (bsA (xt x))) (.int .i64 (xn x)) (.int .i64 (xa x)) (.slice s (xl x) c)) := HS.out.below ((Below.refl _ _).alloc (Nat.le_refl _) _)
        refine hK.out _ _ ?_ (fun hHz => ?_)
        · (try dsimp only); exact HS.out
        clear hK K hHz
        try simp only [Act.put, List.setIfInBounds_toArray, List.set_cons_zero, List.set_cons_succ]
        generalize (v1.alloc (Obj.cells #[Value.int IntKind.i64 0, Value.string { data := #[] }, Value.int IntKind.i64 0, Value.int IntKind.i64 0, Value.slice none 0 0] 26)) = v9 at HI HS ⊢
        refine wpAnyH_ready (rs := [3]) (by kernel_rfl) (by simp) ?_
        refine AllReadyH.cons rfl (fun K hK => ?_) AllReadyH.nil
        go_simp
        have HI : Hid (RgI rb ta cap T w (w.heap.size + 1) (w.heap.size + 2) (i + 1) op (Obj.cells #[Value.int IntKind.i64 (xk x), Value.string (bsA (xt x)), Value.int IntKind.i64 (xn x), Value.int IntKind.i64 (xa x), Value.slice s (xl x) c] 26) (some (v1.heap.size)) (some (v9.heap.size)) (v9.alloc (Obj.cells #[Value.int IntKind.i64 (xk x), Value.string (bsA (xt x)), Value.int IntKind.i64 (xn x), Value.int IntKind.i64 (xa x), Value.slice s (xl x) c] 26))) := HI.out.row (by simp) (by omega) (by omega)
        have HS : Hid (Box5 (v9.alloc (Obj.cells #[Value.int IntKind.i64 (xk x), Value.string (bsA (xt x)), Value.int IntKind.i64 (xn x), Value.int IntKind.i64 (xa x), Value.slice s (xl x) c] 26)) w.heap.size (.int .i64 (xk x)) (.string (bsA (xt x))) (.int .i64 (xn x)) (.int .i64 (xa x)) (.slice s (xl x) c)) := HS.out.below ((Below.refl _ _).alloc (Nat.le_refl _) _)
        refine hK.out _ _ ?_ (fun hHz => ?_)
        · (try dsimp only); exact HS.out
        clear hK K hHz
        try simp only [Act.put, List.setIfInBounds_toArray, List.set_cons_zero, List.set_cons_succ]
        generalize (v9.alloc (Obj.cells #[Value.int IntKind.i64 (xk x), Value.string (bsA (xt x)), Value.int IntKind.i64 (xn x), Value.int IntKind.i64 (xa x), Value.slice s (xl x) c] 26)) = v10 at HI HS ⊢
        refine wpAnyH_ready (rs := [4]) (by kernel_rfl) (by simp) ?_
        refine AllReadyH.cons rfl (fun K hK => ?_) AllReadyH.nil
        go_simp
        have h := node_any 11 ((q1, q2, q3), q4) (some ⟨v9.heap.size, 0, none⟩) 1 1 v10
        unfold ttV nV at h
        dsimp only at h
        refine h.mono ?_
        rintro e v11 ⟨rfl, hb⟩
        clear h
        have HI : Hid (RgI rb ta cap T w (w.heap.size + 1) (w.heap.size + 2) (i + 1) op (Obj.cells #[Value.int IntKind.i64 (xk x), Value.string (bsA (xt x)), Value.int IntKind.i64 (xn x), Value.int IntKind.i64 (xa x), Value.slice s (xl x) c] 26) (some (v1.heap.size)) (some (v9.heap.size)) v11) := HI.out.below hb (by omega) (by omega)
        have HS : Hid (Box5 v11 w.heap.size (.int .i64 (xk x)) (.string (bsA (xt x))) (.int .i64 (xn x)) (.int .i64 (xa x)) (.slice s (xl x) c)) := HS.out.below hb
        clear hb
        refine hK.out _ _ ?_ (fun hHz => ?_)
        · (try dsimp only); exact HS.out
        clear hK K hHz
        try simp only [Act.put, List.setIfInBounds_toArray, List.set_cons_zero, List.set_cons_succ]
        refine wpAnyH_ready (rs := [6]) (by kernel_rfl) (by simp) ?_
        refine AllReadyH.cons rfl (fun K hK => ?_) AllReadyH.nil
        have hn := HI.out.nbx _ rfl
        obtain ⟨y0, y1, y2, y3, y4, z0, z1, z2, z3, z4⟩ := hn.1
        go_simp
        clear y0 y1 y2 y3 y4 z0 z1 z2 z3 z4
        have HI : Hid (RgO rb ta cap T w (w.heap.size + 1) (w.heap.size + 2) (i + 1) op (Obj.cells #[Value.int IntKind.i64 (xk x), Value.string (bsA (xt x)), Value.int IntKind.i64 (xn x), Value.int IntKind.i64 (xa x), Value.slice s (xl x) c] 26) (v1.heap.size) (v9.heap.size) (.int .i64 11) (.string (bsA [])) (.int .i64 0) (.int .i64 q4) (.slice (some ⟨v9.heap.size, 0, none⟩) 1 1) (set5 v11 (v1.heap.size) 0 (.int .i64 11) (.string (bsA [])) (.int .i64 0) (.int .i64 q4) (.slice (some ⟨v9.heap.size, 0, none⟩) 1 1))) := HI.out.put (.int .i64 11) (.string (bsA [])) (.int .i64 0) (.int .i64 q4) (.slice (some ⟨v9.heap.size, 0, none⟩) 1 1) (by omega) (by omega) (by omega)
        have HS : Hid (Box5 (set5 v11 (v1.heap.size) 0 (.int .i64 11) (.string (bsA [])) (.int .i64 0) (.int .i64 q4) (.slice (some ⟨v9.heap.size, 0, none⟩) 1 1)) w.heap.size (.int .i64 (xk x)) (.string (bsA (xt x))) (.int .i64 (xn x)) (.int .i64 (xa x)) (.slice s (xl x) c)) := HS.out.set5 _ _ _ _ _ _ _ (by have := hn.2; omega)
        clear hn
        refine hK.out _ _ ?_ (fun hHz => ?_)
        · (try dsimp only); exact HS.out
        clear hK K hHz
        try simp only [Act.put, List.setIfInBounds_toArray, List.set_cons_zero, List.set_cons_succ]
        refine wpAnyH_done (by kernel_rfl) ?_ _
        go_wp2_with fail
        go_meet
        exact ⟨_, _, rfl, HI.out⟩
    · skip
      go_simp
      have HI : Hid (RgI rb ta cap T w (w.heap.size + 1) (w.heap.size + 2) i op (Obj.cells #[Value.int IntKind.i64 (xk x), Value.string (bsA (xt x)), Value.int IntKind.i64 (xn x), Value.int IntKind.i64 (xa x), Value.slice s (xl x) c] 26) none (some (v0.heap.size)) (v0.alloc (Obj.cells #[Value.int IntKind.i64 (xk x), Value.string (bsA (xt x)), Value.int IntKind.i64 (xn x), Value.int IntKind.i64 (xa x), Value.slice s (xl x) c] 26))) := HI.out.row (by simp) (by omega) (by omega)
      have HS : Hid (Box5 (v0.alloc (Obj.cells #[Value.int IntKind.i64 (xk x), Value.string (bsA (xt x)), Value.int IntKind.i64 (xn x), Value.int IntKind.i64 (xa x), Value.slice s (xl x) c] 26)) w.heap.size (.int .i64 (xk x)) (.string (bsA (xt x))) (.int .i64 (xn x)) (.int .i64 (xa x)) (.slice s (xl x) c)) := HS.out.below ((Below.refl _ _).alloc (Nat.le_refl _) _)
      refine hK.out _ _ ?_ (fun hHz => ?_)
      · (try dsimp only); exact HS.out
      clear hK K hHz
      try simp only [Act.put, List.setIfInBounds_toArray, List.set_cons_zero, List.set_cons_succ]
      generalize (v0.alloc (Obj.cells #[Value.int IntKind.i64 (xk x), Value.string (bsA (xt x)), Value.int IntKind.i64 (xn x), Value.int IntKind.i64 (xa x), Value.slice s (xl x) c] 26)) = v13 at HI HS ⊢
      refine wpAnyH_ready (rs := [1, 5]) (by kernel_rfl) (by simp) ?_
      refine AllReadyH.cons rfl (fun K hK => ?_) (AllReadyH.cons rfl (fun K hK => ?_) AllReadyH.nil)
      · skip
        go_simp
        have h := take_any rb ta cap T i op _ HI.out.cx.rdr HIT.out
        unfold ptr at h
        rw [HQ.out] at h
        unfold ttV at h
        dsimp only at h
        refine h.mono ?_
        rintro e v14 ⟨rfl, hr, hf⟩
        clear h
        have HI : Hid (RgI rb ta cap T w (w.heap.size + 1) (w.heap.size + 2) (i + 1) op (Obj.cells #[Value.int IntKind.i64 (xk x), Value.string (bsA (xt x)), Value.int IntKind.i64 (xn x), Value.int IntKind.i64 (xa x), Value.slice s (xl x) c] 26) none (some (v0.heap.size)) v14) := HI.out.fx hf hr (by omega) (by omega)
        have HS : Hid (Box5 v14 w.heap.size (.int .i64 (xk x)) (.string (bsA (xt x))) (.int .i64 (xn x)) (.int .i64 (xa x)) (.slice s (xl x) c)) := HS.out.fx hf (by omega)
        clear hr hf
        refine hK.out _ _ ?_ (fun hHz => ?_)
        · (try dsimp only); exact HS.out
        clear hK K hHz
        try simp only [Act.put, List.setIfInBounds_toArray, List.set_cons_zero, List.set_cons_succ]
        refine wpAnyH_ready (rs := [4, 5]) (by kernel_rfl) (by simp) ?_
        refine AllReadyH.cons rfl (fun K hK => ?_) (AllReadyH.cons rfl (fun K hK => ?_) AllReadyH.nil)
        · skip
          go_simp
          have h := node_any 11 ((q1, q2, q3), q4) (some ⟨v0.heap.size, 0, none⟩) 1 1 v14
          unfold ttV nV at h
          dsimp only at h
          refine h.mono ?_
          rintro e v15 ⟨rfl, hb⟩
          clear h
          have HI : Hid (RgI rb ta cap T w (w.heap.size + 1) (w.heap.size + 2) (i + 1) op (Obj.cells #[Value.int IntKind.i64 (xk x), Value.string (bsA (xt x)), Value.int IntKind.i64 (xn x), Value.int IntKind.i64 (xa x), Value.slice s (xl x) c] 26) none (some (v0.heap.size)) v15) := HI.out.below hb (by omega) (by omega)
          have HS : Hid (Box5 v15 w.heap.size (.int .i64 (xk x)) (.string (bsA (xt x))) (.int .i64 (xn x)) (.int .i64 (xa x)) (.slice s (xl x) c)) := HS.out.below hb
          clear hb
          refine hK.out _ _ ?_ (fun hHz => ?_)
          · (try dsimp only); exact HS.out
          clear hK K hHz
          try simp only [Act.put, List.setIfInBounds_toArray, List.set_cons_zero, List.set_cons_succ]
          refine wpAnyH_ready (rs := [5]) (by kernel_rfl) (by simp) ?_
          refine AllReadyH.cons rfl (fun K hK => ?_) AllReadyH.nil
          go_simp
          have HI : Hid (RgI rb ta cap T w (w.heap.size + 1) (w.heap.size + 2) (i + 1) op (Obj.cells #[Value.int IntKind.i64 (xk x), Value.string (bsA (xt x)), Value.int IntKind.i64 (xn x), Value.int IntKind.i64 (xa x), Value.slice s (xl x) c] 26) (some (v15.heap.size)) (some (v0.heap.size)) (v15.alloc (Obj.cells #[Value.int IntKind.i64 0, Value.string { data := #[] }, Value.int IntKind.i64 0, Value.int IntKind.i64 0, Value.slice none 0 0] 26))) := HI.out.new (by simp) (by omega) (by omega)
          have HS : Hid (Box5 (v15.alloc (Obj.cells #[Value.int IntKind.i64 0, Value.string { data := #[] }, Value.int IntKind.i64 0, Value.int IntKind.i64 0, Value.slice none 0 0] 26)) w.heap.size (.int .i64 (xk x)) (.string (bsA (xt x))) (.int .i64 (xn x)) (.int .i64 (xa x)) (.slice s (xl x) c)) := HS.out.below ((Below.refl _ _).alloc (Nat.le_refl _) _)
          refine hK.out _ _ ?_ (fun hHz => ?_)
          · (try dsimp only); exact HS.out
          clear hK K hHz
          try simp only [Act.put, List.setIfInBounds_toArray, List.set_cons_zero, List.set_cons_succ]
          generalize (v15.alloc (Obj.cells #[Value.int IntKind.i64 0, Value.string { data := #[] }, Value.int IntKind.i64 0, Value.int IntKind.i64 0, Value.slice none 0 0] 26)) = v16 at HI HS ⊢
          refine wpAnyH_ready (rs := [6]) (by kernel_rfl) (by simp) ?_
          refine AllReadyH.cons rfl (fun K hK => ?_) AllReadyH.nil
          have hn := HI.out.nbx _ rfl
          obtain ⟨y0, y1, y2, y3, y4, z0, z1, z2, z3, z4⟩ := hn.1
          go_simp
          clear y0 y1 y2 y3 y4 z0 z1 z2 z3 z4
          have HI : Hid (RgO rb ta cap T w (w.heap.size + 1) (w.heap.size + 2) (i + 1) op (Obj.cells #[Value.int IntKind.i64 (xk x), Value.string (bsA (xt x)), Value.int IntKind.i64 (xn x), Value.int IntKind.i64 (xa x), Value.slice s (xl x) c] 26) (v15.heap.size) (v0.heap.size) (.int .i64 11) (.string (bsA [])) (.int .i64 0) (.int .i64 q4) (.slice (some ⟨v0.heap.size, 0, none⟩) 1 1) (set5 v16 (v15.heap.size) 0 (.int .i64 11) (.string (bsA [])) (.int .i64 0) (.int .i64 q4) (.slice (some ⟨v0.heap.size, 0, none⟩) 1 1))) := HI.out.put (.int .i64 11) (.string (bsA [])) (.int .i64 0) (.int .i64 q4) (.slice (some ⟨v0.heap.size, 0, none⟩) 1 1) (by omega) (by omega) (by omega)
          have HS : Hid (Box5 (set5 v16 (v15.heap.size) 0 (.int .i64 11) (.string (bsA [])) (.int .i64 0) (.int .i64 q4) (.slice (some ⟨v0.heap.size, 0, none⟩) 1 1)) w.heap.size (.int .i64 (xk x)) (.string (bsA (xt x))) (.int .i64 (xn x)) (.int .i64 (xa x)) (.slice s (xl x) c)) := HS.out.set5 _ _ _ _ _ _ _ (by have := hn.2; omega)
          clear hn
          refine hK.out _ _ ?_ (fun hHz => ?_)
          · (try dsimp only); exact HS.out
          clear hK K hHz
          try simp only [Act.put, List.setIfInBounds_toArray, List.set_cons_zero, List.set_cons_succ]
          refine wpAnyH_done (by kernel_rfl) ?_ _
          go_wp2_with fail
          go_meet
          exact ⟨_, _, rfl, HI.out⟩
        · skip
          go_simp
          have HI : Hid (RgI rb ta cap T w (w.heap.size + 1) (w.heap.size + 2) (i + 1) op (Obj.cells #[Value.int IntKind.i64 (xk x), Value.string (bsA (xt x)), Value.int IntKind.i64 (xn x), Value.int IntKind.i64 (xa x), Value.slice s (xl x) c] 26) (some (v14.heap.size)) (some (v0.heap.size)) (v14.alloc (Obj.cells #[Value.int IntKind.i64 0, Value.string { data := #[] }, Value.int IntKind.i64 0, Value.int IntKind.i64 0, Value.slice none 0 0] 26))) := HI.out.new (by simp) (by omega) (by omega)
          have HS : Hid (Box5 (v14.alloc (Obj.cells #[Value.int IntKind.i64 0, Value.string { data := #[] }, Value.int IntKind.i64 0, Value.int IntKind.i64 0, Value.slice none 0 0] 26)) w.heap.size (.int .i64 (xk x)) (.string (bsA (xt x))) (.int .i64 (xn x)) (.int .i64 (xa x)) (.slice s (xl x) c)) := HS.out.below ((Below.refl _ _).alloc (Nat.le_refl _) _)
          refine hK.out _ _ ?_ (fun hHz => ?_)
          · (try dsimp only); exact HS.out
          clear hK K hHz
          try simp only [Act.put, List.setIfInBounds_toArray, List.set_cons_zero, List.set_cons_succ]
          generalize (v14.alloc (Obj.cells #[Value.int IntKind.i64 0, Value.string { data := #[] }, Value.int IntKind.i64 0, Value.int IntKind.i64 0, Value.slice none 0 0] 26)) = v18 at HI HS ⊢
          refine wpAnyH_ready (rs := [4]) (by kernel_rfl) (by simp) ?_
          refine AllReadyH.cons rfl (fun K hK => ?_) AllReadyH.nil
          go_simp
          have h := node_any 11 ((q1, q2, q3), q4) (some ⟨v0.heap.size, 0, none⟩) 1 1 v18
          unfold ttV nV at h
          dsimp only at h
          refine h.mono ?_
          rintro e v19 ⟨rfl, hb⟩
          clear h
          have HI : Hid (RgI rb ta cap T w (w.heap.size + 1) (w.heap.size + 2) (i + 1) op (Obj.cells #[Value.int IntKind.i64 (xk x), Value.string (bsA (xt x)), Value.int IntKind.i64 (xn x), Value.int IntKind.i64 (xa x), Value.slice s (xl x) c] 26) (some (v14.heap.size)) (some (v0.heap.size)) v19) := HI.out.below hb (by omega) (by omega)
          have HS : Hid (Box5 v19 w.heap.size (.int .i64 (xk x)) (.string (bsA (xt x))) (.int .i64 (xn x)) (.int .i64 (xa x)) (.slice s (xl x) c)) := HS.out.below hb
          clear hb
          refine hK.out _ _ ?_ (fun hHz => ?_)
          · (try dsimp only); exact HS.out
          clear hK K hHz
          try simp only [Act.put, List.setIfInBounds_toArray, List.set_cons_zero, List.set_cons_succ]
          refine wpAnyH_ready (rs := [6]) (by kernel_rfl) (by simp) ?_
          refine AllReadyH.cons rfl (fun K hK => ?_) AllReadyH.nil
          have hn := HI.out.nbx _ rfl
          obtain ⟨y0, y1, y2, y3, y4, z0, z1, z2, z3, z4⟩ := hn.1
          go_simp
          clear y0 y1 y2 y3 y4 z0 z1 z2 z3 z4
          have HI : Hid (RgO rb ta cap T w (w.heap.size + 1) (w.heap.size + 2) (i + 1) op (Obj.cells #[Value.int IntKind.i64 (xk x), Value.string (bsA (xt x)), Value.int IntKind.i64 (xn x), Value.int IntKind.i64 (xa x), Value.slice s (xl x) c] 26) (v14.heap.size) (v0.heap.size) (.int .i64 11) (.string (bsA [])) (.int .i64 0) (.int .i64 q4) (.slice (some ⟨v0.heap.size, 0, none⟩) 1 1) (set5 v19 (v14.heap.size) 0 (.int .i64 11) (.string (bsA [])) (.int .i64 0) (.int .i64 q4) (.slice (some ⟨v0.heap.size, 0, none⟩) 1 1))) := HI.out.put (.int .i64 11) (.string (bsA [])) (.int .i64 0) (.int .i64 q4) (.slice (some ⟨v0.heap.size, 0, none⟩) 1 1) (by omega) (by omega) (by omega)
          have HS : Hid (Box5 (set5 v19 (v14.heap.size) 0 (.int .i64 11) (.string (bsA [])) (.int .i64 0) (.int .i64 q4) (.slice (some ⟨v0.heap.size, 0, none⟩) 1 1)) w.heap.size (.int .i64 (xk x)) (.string (bsA (xt x))) (.int .i64 (xn x)) (.int .i64 (xa x)) (.slice s (xl x) c)) := HS.out.set5 _ _ _ _ _ _ _ (by have := hn.2; omega)
          clear hn
          refine hK.out _ _ ?_ (fun hHz => ?_)
          · (try dsimp only); exact HS.out
          clear hK K hHz
          try simp only [Act.put, List.setIfInBounds_toArray, List.set_cons_zero, List.set_cons_succ]
          refine wpAnyH_done (by kernel_rfl) ?_ _
          go_wp2_with fail
          go_meet
          exact ⟨_, _, rfl, HI.out⟩
      · skip
        go_simp
        have HI : Hid (RgI rb ta cap T w (w.heap.size + 1) (w.heap.size + 2) i op (Obj.cells #[Value.int IntKind.i64 (xk x), Value.string (bsA (xt x)), Value.int IntKind.i64 (xn x), Value.int IntKind.i64 (xa x), Value.slice s (xl x) c] 26) (some (v13.heap.size)) (some (v0.heap.size)) (v13.alloc (Obj.cells #[Value.int IntKind.i64 0, Value.string { data := #[] }, Value.int IntKind.i64 0, Value.int IntKind.i64 0, Value.slice none 0 0] 26))) := HI.out.new (by simp) (by omega) (by omega)
        have HS : Hid (Box5 (v13.alloc (Obj.cells #[Value.int IntKind.i64 0, Value.string { data := #[] }, Value.int IntKind.i64 0, Value.int IntKind.i64 0, Value.slice none 0 0] 26)) w.heap.size (.int .i64 (xk x)) (.string (bsA (xt x))) (.int .i64 (xn x)) (.int .i64 (xa x)) (.slice s (xl x) c)) := HS.out.below ((Below.refl _ _).alloc (Nat.le_refl _) _)
        refine hK.out _ _ ?_ (fun hHz => ?_)
        · (try dsimp only); exact HS.out
        clear hK K hHz
        try simp only [Act.put, List.setIfInBounds_toArray, List.set_cons_zero, List.set_cons_succ]
        generalize (v13.alloc (Obj.cells #[Value.int IntKind.i64 0, Value.string { data := #[] }, Value.int IntKind.i64 0, Value.int IntKind.i64 0, Value.slice none 0 0] 26)) = v21 at HI HS ⊢
        refine wpAnyH_ready (rs := [1]) (by kernel_rfl) (by simp) ?_
        refine AllReadyH.cons rfl (fun K hK => ?_) AllReadyH.nil
        go_simp
        have h := take_any rb ta cap T i op _ HI.out.cx.rdr HIT.out
        unfold ptr at h
        rw [HQ.out] at h
        unfold ttV at h
        dsimp only at h
        refine h.mono ?_
        rintro e v22 ⟨rfl, hr, hf⟩
        clear h
        have HI : Hid (RgI rb ta cap T w (w.heap.size + 1) (w.heap.size + 2) (i + 1) op (Obj.cells #[Value.int IntKind.i64 (xk x), Value.string (bsA (xt x)), Value.int IntKind.i64 (xn x), Value.int IntKind.i64 (xa x), Value.slice s (xl x) c] 26) (some (v13.heap.size)) (some (v0.heap.size)) v22) := HI.out.fx hf hr (by omega) (by omega)
        have HS : Hid (Box5 v22 w.heap.size (.int .i64 (xk x)) (.string (bsA (xt x))) (.int .i64 (xn x)) (.int .i64 (xa x)) (.slice s (xl x) c)) := HS.out.fx hf (by omega)
        clear hr hf
        refine hK.out _ _ ?_ (fun hHz => ?_)
        · (try dsimp only); exact HS.out
        clear hK K hHz
        try simp only [Act.put, List.setIfInBounds_toArray, List.set_cons_zero, List.set_cons_succ]
        refine wpAnyH_ready (rs := [4]) (by kernel_rfl) (by simp) ?_
        refine AllReadyH.cons rfl (fun K hK => ?_) AllReadyH.nil
        go_simp
        have h := node_any 11 ((q1, q2, q3), q4) (some ⟨v0.heap.size, 0, none⟩) 1 1 v22
        unfold ttV nV at h
        dsimp only at h
        refine h.mono ?_
        rintro e v23 ⟨rfl, hb⟩
        clear h
        have HI : Hid (RgI rb ta cap T w (w.heap.size + 1) (w.heap.size + 2) (i + 1) op (Obj.cells #[Value.int IntKind.i64 (xk x), Value.string (bsA (xt x)), Value.int IntKind.i64 (xn x), Value.int IntKind.i64 (xa x), Value.slice s (xl x) c] 26) (some (v13.heap.size)) (some (v0.heap.size)) v23) := HI.out.below hb (by omega) (by omega)
        have HS : Hid (Box5 v23 w.heap.size (.int .i64 (xk x)) (.string (bsA (xt x))) (.int .i64 (xn x)) (.int .i64 (xa x)) (.slice s (xl x) c)) := HS.out.below hb
        clear hb
        refine hK.out _ _ ?_ (fun hHz => ?_)
        · (try dsimp only); exact HS.out
        clear hK K hHz
        try simp only [Act.put, List.setIfInBounds_toArray, List.set_cons_zero, List.set_cons_succ]
        refine wpAnyH_ready (rs := [6]) (by kernel_rfl) (by simp) ?_
        refine AllReadyH.cons rfl (fun K hK => ?_) AllReadyH.nil
        have hn := HI.out.nbx _ rfl
        obtain ⟨y0, y1, y2, y3, y4, z0, z1, z2, z3, z4⟩ := hn.1
        go_simp
        clear y0 y1 y2 y3 y4 z0 z1 z2 z3 z4
        have HI : Hid (RgO rb ta cap T w (w.heap.size + 1) (w.heap.size + 2) (i + 1) op (Obj.cells #[Value.int IntKind.i64 (xk x), Value.string (bsA (xt x)), Value.int IntKind.i64 (xn x), Value.int IntKind.i64 (xa x), Value.slice s (xl x) c] 26) (v13.heap.size) (v0.heap.size) (.int .i64 11) (.string (bsA [])) (.int .i64 0) (.int .i64 q4) (.slice (some ⟨v0.heap.size, 0, none⟩) 1 1) (set5 v23 (v13.heap.size) 0 (.int .i64 11) (.string (bsA [])) (.int .i64 0) (.int .i64 q4) (.slice (some ⟨v0.heap.size, 0, none⟩) 1 1))) := HI.out.put (.int .i64 11) (.string (bsA [])) (.int .i64 0) (.int .i64 q4) (.slice (some ⟨v0.heap.size, 0, none⟩) 1 1) (by omega) (by omega) (by omega)
        have HS : Hid (Box5 (set5 v23 (v13.heap.size) 0 (.int .i64 11) (.string (bsA [])) (.int .i64 0) (.int .i64 q4) (.slice (some ⟨v0.heap.size, 0, none⟩) 1 1)) w.heap.size (.int .i64 (xk x)) (.string (bsA (xt x))) (.int .i64 (xn x)) (.int .i64 (xa x)) (.slice s (xl x) c)) := HS.out.set5 _ _ _ _ _ _ _ (by have := hn.2; omega)
        clear hn
        refine hK.out _ _ ?_ (fun hHz => ?_)
        · (try dsimp only); exact HS.out
        clear hK K hHz
        try simp only [Act.put, List.setIfInBounds_toArray, List.set_cons_zero, List.set_cons_succ]
        refine wpAnyH_done (by kernel_rfl) ?_ _
        go_wp2_with fail
        go_meet
        exact ⟨_, _, rfl, HI.out⟩
    · skip
      go_simp
      have HI : Hid (RgI rb ta cap T w (w.heap.size + 1) (w.heap.size + 2) i op (Obj.cells #[Value.int IntKind.i64 (xk x), Value.string (bsA (xt x)), Value.int IntKind.i64 (xn x), Value.int IntKind.i64 (xa x), Value.slice s (xl x) c] 26) (some (v0.heap.size)) none (v0.alloc (Obj.cells #[Value.int IntKind.i64 0, Value.string { data := #[] }, Value.int IntKind.i64 0, Value.int IntKind.i64 0, Value.slice none 0 0] 26))) := HI.out.new (by simp) (by omega) (by omega)
      have HS : Hid (Box5 (v0.alloc (Obj.cells #[Value.int IntKind.i64 0, Value.string { data := #[] }, Value.int IntKind.i64 0, Value.int IntKind.i64 0, Value.slice none 0 0] 26)) w.heap.size (.int .i64 (xk x)) (.string (bsA (xt x))) (.int .i64 (xn x)) (.int .i64 (xa x)) (.slice s (xl x) c)) := HS.out.below ((Below.refl _ _).alloc (Nat.le_refl _) _)
      refine hK.out _ _ ?_ (fun hHz => ?_)
      · (try dsimp only); exact HS.out
      clear hK K hHz
      try simp only [Act.put, List.setIfInBounds_toArray, List.set_cons_zero, List.set_cons_succ]
      generalize (v0.alloc (Obj.cells #[Value.int IntKind.i64 0, Value.string { data := #[] }, Value.int IntKind.i64 0, Value.int IntKind.i64 0, Value.slice none 0 0] 26)) = v25 at HI HS ⊢
      refine wpAnyH_ready (rs := [1, 3]) (by kernel_rfl) (by simp) ?_
      refine AllReadyH.cons rfl (fun K hK => ?_) (AllReadyH.cons rfl (fun K hK => ?_) AllReadyH.nil)
      · skip
        go_simp
        have h := take_any rb ta cap T i op _ HI.out.cx.rdr HIT.out
        unfold ptr at h
        rw [HQ.out] at h
        unfold ttV at h
        dsimp only at h
        refine h.mono ?_
        rintro e v26 ⟨rfl, hr, hf⟩
        clear h
        have HI : Hid (RgI rb ta cap T w (w.heap.size + 1) (w.heap.size + 2) (i + 1) op (Obj.cells #[Value.int IntKind.i64 (xk x), Value.string (bsA (xt x)), Value.int IntKind.i64 (xn x), Value.int IntKind.i64 (xa x), Value.slice s (xl x) c] 26) (some (v0.heap.size)) none v26) := HI.out.fx hf hr (by omega) (by omega)
        have HS : Hid (Box5 v26 w.heap.size (.int .i64 (xk x)) (.string (bsA (xt x))) (.int .i64 (xn x)) (.int .i64 (xa x)) (.slice s (xl x) c)) := HS.out.fx hf (by omega)
        clear hr hf
        refine hK.out _ _ ?_ (fun hHz => ?_)
        · (try dsimp only); exact HS.out
        clear hK K hHz
        try simp only [Act.put, List.setIfInBounds_toArray, List.set_cons_zero, List.set_cons_succ]
        refine wpAnyH_ready (rs := [3]) (by kernel_rfl) (by simp) ?_
        refine AllReadyH.cons rfl (fun K hK => ?_) AllReadyH.nil
        go_simp
        have HI : Hid (RgI rb ta cap T w (w.heap.size + 1) (w.heap.size + 2) (i + 1) op (Obj.cells #[Value.int IntKind.i64 (xk x), Value.string (bsA (xt x)), Value.int IntKind.i64 (xn x), Value.int IntKind.i64 (xa x), Value.slice s (xl x) c] 26) (some (v0.heap.size)) (some (v26.heap.size)) (v26.alloc (Obj.cells #[Value.int IntKind.i64 (xk x), Value.string (bsA (xt x)), Value.int IntKind.i64 (xn x), Value.int IntKind.i64 (xa x), Value.slice s (xl x) c] 26))) := HI.out.row (by simp) (by omega) (by omega)
        have HS : Hid (Box5 (v26.alloc (Obj.cells #[Value.int IntKind.i64 (xk x), Value.string (bsA (xt x)), Value.int IntKind.i64 (xn x), Value.int IntKind.i64 (xa x), Value.slice s (xl x) c] 26)) w.heap.size (.int .i64 (xk x)) (.string (bsA (xt x))) (.int .i64 (xn x)) (.int .i64 (xa x)) (.slice s (xl x) c)) := HS.out.below ((Below.refl _ _).alloc (Nat.le_refl _) _)
        refine hK.out _ _ ?_ (fun hHz => ?_)
        · (try dsimp only); exact HS.out
        clear hK K hHz
        try simp only [Act.put, List.setIfInBounds_toArray, List.set_cons_zero, List.set_cons_succ]
        generalize (v26.alloc (Obj.cells #[Value.int IntKind.i64 (xk x), Value.string (bsA (xt x)), Value.int IntKind.i64 (xn x), Value.int IntKind.i64 (xa x), Value.slice s (xl x) c] 26)) = v27 at HI HS ⊢
        refine wpAnyH_ready (rs := [4]) (by kernel_rfl) (by simp) ?_
        refine AllReadyH.cons rfl (fun K hK => ?_) AllReadyH.nil
        go_simp
        have h := node_any 11 ((q1, q2, q3), q4) (some ⟨v26.heap.size, 0, none⟩) 1 1 v27
        unfold ttV nV at h
        dsimp only at h
        refine h.mono ?_
        rintro e v28 ⟨rfl, hb⟩
        clear h
        have HI : Hid (RgI rb ta cap T w (w.heap.size + 1) (w.heap.size + 2) (i + 1) op (Obj.cells #[Value.int IntKind.i64 (xk x), Value.string (bsA (xt x)), Value.int IntKind.i64 (xn x), Value.int IntKind.i64 (xa x), Value.slice s (xl x) c] 26) (some (v0.heap.size)) (some (v26.heap.size)) v28) := HI.out.below hb (by omega) (by omega)
        have HS : Hid (Box5 v28 w.heap.size (.int .i64 (xk x)) (.string (bsA (xt x))) (.int .i64 (xn x)) (.int .i64 (xa x)) (.slice s (xl x) c)) := HS.out.below hb
        clear hb
        refine hK.out _ _ ?_ (fun hHz => ?_)
        · (try dsimp only); exact HS.out
        clear hK K hHz
        try simp only [Act.put, List.setIfInBounds_toArray, List.set_cons_zero, List.set_cons_succ]
        refine wpAnyH_ready (rs := [6]) (by kernel_rfl) (by simp) ?_
        refine AllReadyH.cons rfl (fun K hK => ?_) AllReadyH.nil
        have hn := HI.out.nbx _ rfl
        obtain ⟨y0, y1, y2, y3, y4, z0, z1, z2, z3, z4⟩ := hn.1
        go_simp
        clear y0 y1 y2 y3 y4 z0 z1 z2 z3 z4
        have HI : Hid (RgO rb ta cap T w (w.heap.size + 1) (w.heap.size + 2) (i + 1) op (Obj.cells #[Value.int IntKind.i64 (xk x), Value.string (bsA (xt x)), Value.int IntKind.i64 (xn x), Value.int IntKind.i64 (xa x), Value.slice s (xl x) c] 26) (v0.heap.size) (v26.heap.size) (.int .i64 11) (.string (bsA [])) (.int .i64 0) (.int .i64 q4) (.slice (some ⟨v26.heap.size, 0, none⟩) 1 1) (set5 v28 (v0.heap.size) 0 (.int .i64 11) (.string (bsA [])) (.int .i64 0) (.int .i64 q4) (.slice (some ⟨v26.heap.size, 0, none⟩) 1 1))) := HI.out.put (.int .i64 11) (.string (bsA [])) (.int .i64 0) (.int .i64 q4) (.slice (some ⟨v26.heap.size, 0, none⟩) 1 1) (by omega) (by omega) (by omega)
        have HS : Hid (Box5 (set5 v28 (v0.heap.size) 0 (.int .i64 11) (.string (bsA [])) (.int .i64 0) (.int .i64 q4) (.slice (some ⟨v26.heap.size, 0, none⟩) 1 1)) w.heap.size (.int .i64 (xk x)) (.string (bsA (xt x))) (.int .i64 (xn x)) (.int .i64 (xa x)) (.slice s (xl x) c)) := HS.out.set5 _ _ _ _ _ _ _ (by have := hn.2; omega)
        clear hn
        refine hK.out _ _ ?_ (fun hHz => ?_)
        · (try dsimp only); exact HS.out
        clear hK K hHz
        try simp only [Act.put, List.setIfInBounds_toArray, List.set_cons_zero, List.set_cons_succ]
        refine wpAnyH_done (by kernel_rfl) ?_ _
        go_wp2_with fail
        go_meet
        exact ⟨_, _, rfl, HI.out⟩
      · skip
        go_simp
        have HI : Hid (RgI rb ta cap T w (w.heap.size + 1) (w.heap.size + 2) i op (Obj.cells #[Value.int IntKind.i64 (xk x), Value.string (bsA (xt x)), Value.int IntKind.i64 (xn x), Value.int IntKind.i64 (xa x), Value.slice s (xl x) c] 26) (some (v0.heap.size)) (some (v25.heap.size)) (v25.alloc (Obj.cells #[Value.int IntKind.i64 (xk x), Value.string (bsA (xt x)), Value.int IntKind.i64 (xn x), Value.int IntKind.i64 (xa x), Value.slice s (xl x) c] 26))) := HI.out.row (by simp) (by omega) (by omega)
        have HS : Hid (Box5 (v25.alloc (Obj.cells #[Value.int IntKind.i64 (xk x), Value.string (bsA (xt x)), Value.int IntKind.i64 (xn x), Value.int IntKind.i64 (xa x), Value.slice s (xl x) c] 26)) w.heap.size (.int .i64 (xk x)) (.string (bsA (xt x))) (.int .i64 (xn x)) (.int .i64 (xa x)) (.slice s (xl x) c)) := HS.out.below ((Below.refl _ _).alloc (Nat.le_refl _) _)
        refine hK.out _ _ ?_ (fun hHz => ?_)
        · (try dsimp only); exact HS.out
        clear hK K hHz
        try simp only [Act.put, List.setIfInBounds_toArray, List.set_cons_zero, List.set_cons_succ]
        generalize (v25.alloc (Obj.cells #[Value.int IntKind.i64 (xk x), Value.string (bsA (xt x)), Value.int IntKind.i64 (xn x), Value.int IntKind.i64 (xa x), Value.slice s (xl x) c] 26)) = v30 at HI HS ⊢
        refine wpAnyH_ready (rs := [1]) (by kernel_rfl) (by simp) ?_
        refine AllReadyH.cons rfl (fun K hK => ?_) AllReadyH.nil
        go_simp
        have h := take_any rb ta cap T i op _ HI.out.cx.rdr HIT.out
        unfold ptr at h
        rw [HQ.out] at h
        unfold ttV at h
        dsimp only at h
        refine h.mono ?_
        rintro e v31 ⟨rfl, hr, hf⟩
        clear h
        have HI : Hid (RgI rb ta cap T w (w.heap.size + 1) (w.heap.size + 2) (i + 1) op (Obj.cells #[Value.int IntKind.i64 (xk x), Value.string (bsA (xt x)), Value.int IntKind.i64 (xn x), Value.int IntKind.i64 (xa x), Value.slice s (xl x) c] 26) (some (v0.heap.size)) (some (v25.heap.size)) v31) := HI.out.fx hf hr (by omega) (by omega)
        have HS : Hid (Box5 v31 w.heap.size (.int .i64 (xk x)) (.string (bsA (xt x))) (.int .i64 (xn x)) (.int .i64 (xa x)) (.slice s (xl x) c)) := HS.out.fx hf (by omega)
        clear hr hf
        refine hK.out _ _ ?_ (fun hHz => ?_)
        · (try dsimp only); exact HS.out
        clear hK K hHz
        try simp only [Act.put, List.setIfInBounds_toArray, List.set_cons_zero, List.set_cons_succ]
        refine wpAnyH_ready (rs := [4]) (by kernel_rfl) (by simp) ?_
        refine AllReadyH.cons rfl (fun K hK => ?_) AllReadyH.nil
        go_simp
        have h := node_any 11 ((q1, q2, q3), q4) (some ⟨v25.heap.size, 0, none⟩) 1 1 v31
        unfold ttV nV at h
        dsimp only at h
        refine h.mono ?_
        rintro e v32 ⟨rfl, hb⟩
        clear h
        have HI : Hid (RgI rb ta cap T w (w.heap.size + 1) (w.heap.size + 2) (i + 1) op (Obj.cells #[Value.int IntKind.i64 (xk x), Value.string (bsA (xt x)), Value.int IntKind.i64 (xn x), Value.int IntKind.i64 (xa x), Value.slice s (xl x) c] 26) (some (v0.heap.size)) (some (v25.heap.size)) v32) := HI.out.below hb (by omega) (by omega)
        have HS : Hid (Box5 v32 w.heap.size (.int .i64 (xk x)) (.string (bsA (xt x))) (.int .i64 (xn x)) (.int .i64 (xa x)) (.slice s (xl x) c)) := HS.out.below hb
        clear hb
        refine hK.out _ _ ?_ (fun hHz => ?_)
        · (try dsimp only); exact HS.out
        clear hK K hHz
        try simp only [Act.put, List.setIfInBounds_toArray, List.set_cons_zero, List.set_cons_succ]
        refine wpAnyH_ready (rs := [6]) (by kernel_rfl) (by simp) ?_
        refine AllReadyH.cons rfl (fun K hK => ?_) AllReadyH.nil
        have hn := HI.out.nbx _ rfl
        obtain ⟨y0, y1, y2, y3, y4, z0, z1, z2, z3, z4⟩ := hn.1
        go_simp
        clear y0 y1 y2 y3 y4 z0 z1 z2 z3 z4
        have HI : Hid (RgO rb ta cap T w (w.heap.size + 1) (w.heap.size + 2) (i + 1) op (Obj.cells #[Value.int IntKind.i64 (xk x), Value.string (bsA (xt x)), Value.int IntKind.i64 (xn x), Value.int IntKind.i64 (xa x), Value.slice s (xl x) c] 26) (v0.heap.size) (v25.heap.size) (.int .i64 11) (.string (bsA [])) (.int .i64 0) (.int .i64 q4) (.slice (some ⟨v25.heap.size, 0, none⟩) 1 1) (set5 v32 (v0.heap.size) 0 (.int .i64 11) (.string (bsA [])) (.int .i64 0) (.int .i64 q4) (.slice (some ⟨v25.heap.size, 0, none⟩) 1 1))) := HI.out.put (.int .i64 11) (.string (bsA [])) (.int .i64 0) (.int .i64 q4) (.slice (some ⟨v25.heap.size, 0, none⟩) 1 1) (by omega) (by omega) (by omega)
        have HS : Hid (Box5 (set5 v32 (v0.heap.size) 0 (.int .i64 11) (.string (bsA [])) (.int .i64 0) (.int .i64 q4) (.slice (some ⟨v25.heap.size, 0, none⟩) 1 1)) w.heap.size (.int .i64 (xk x)) (.string (bsA (xt x))) (.int .i64 (xn x)) (.int .i64 (xa x)) (.slice s (xl x) c)) := HS.out.set5 _ _ _ _ _ _ _ (by have := hn.2; omega)
        clear hn
        refine hK.out _ _ ?_ (fun hHz => ?_)
        · (try dsimp only); exact HS.out
        clear hK K hHz
        try simp only [Act.put, List.setIfInBounds_toArray, List.set_cons_zero, List.set_cons_succ]
        refine wpAnyH_done (by kernel_rfl) ?_ _
        go_wp2_with fail
        go_meet
        exact ⟨_, _, rfl, HI.out⟩
  case rest =>
    obtain ⟨nb, gb, rfl, hO⟩ := hcut
    have hnl := hO.nl
    have hgl := hO.gl
    have hne := hO.ne
    have HC1 : Hid (Cx rb ta cap T w (w.heap.size + 1) (i + 1) op wc) := hO.cx
    have HB1 : Hid (Box5 wc nb (.int .i64 11) (.string (bsA [])) (.int .i64 0) (.int .i64 q4) (.slice (some ⟨gb, 0, none⟩) 1 1)) := hO.box
    have HRW1 : Hid (wc.heap[gb]? = some (Obj.cells #[Value.int IntKind.i64 (xk x), Value.string (bsA (xt x)), Value.int IntKind.i64 (xn x), Value.int IntKind.i64 (xa x), Value.slice s (xl x) c] 26)) := hO.row
    have HL1 : Hid (bnd (needP T 6 [40] (i + 1)) (fun _ j => bnd (listE T (fun j => E j op) f j) fun l j => bnd (needP T 6 [41] j) fun _ j => okR (mkX 11 [] 0 q4 (x :: l)) j) = some r) := by
      have h : inP T (fun j => E j op) f x i = some r := HH.out
      unfold inP nd at h
      rw [HQ.out] at h
      exact h
    clear hO HC0 HBX HH HQ HIT
    obtain ⟨r2, e2, h2⟩ := need_any rb ta cap T (i + 1) op 6 [40] (by decide) wc HC1.out.rdr
    unfold ptr at h2
    have HL2 : Hid (bnd (some r2) (fun _ j => bnd (listE T (fun j => E j op) f j) fun l j => bnd (needP T 6 [41] j) fun _ j => okR (mkX 11 [] 0 q4 (x :: l)) j) = some r) := by
      have h := HL1.out
      rw [e2] at h
      exact h
    clear e2 HL1
    go_wp2_with fail
    refine h2.mono ?_
    intro e w5 hpost
    clear h2
    cases r2 with
    | inl q =>
      obtain ⟨hG, hF⟩ := hpost.no
      unfold GUp at hG
      subst hG
      have HRR : Hid (r = .inl q) := (Option.some.inj HL2.out).symm
      have HF : Hid _ := HC1.out.fx.trans hF
      clear hpost hF
      go_wp2
      exact ⟨rfl, by rw [HRR.out]; exact ⟨rfl, HF.out⟩⟩
    | inr q =>
      obtain ⟨t5, j⟩ := q
      obtain ⟨⟨rfl, hr5⟩, hF5⟩ := hpost.ok
      dsimp only at hr5
      obtain ⟨r3, e3, hl3⟩ := bnd_some (show bnd (listE T (fun j => E j op) f j) (fun l j => bnd (needP T 6 [41] j) fun _ j => okR (mkX 11 [] 0 q4 (x :: l)) j) = some r from HL2.out)
      have HL3 : Hid (bnd (some r3) (fun l j => bnd (needP T 6 [41] j) fun _ j => okR (mkX 11 [] 0 q4 (x :: l)) j) = some r) := hl3
      have HE3 : Hid (listE T (fun j => E j op) f j = some r3) := e3
      have HC : Hid (Cx rb ta cap T w (w.heap.size + 1) j op w5.drew) := (HC1.out.step hF5 hr5 (by omega)).drew
      have HB : Hid (Box5 w5.drew nb (.int .i64 11) (.string (bsA [])) (.int .i64 0) (.int .i64 q4) (.slice (some ⟨gb, 0, none⟩) 1 1)) := (HB1.out.fx hF5 (by omega)).drew
      have HRW : Hid (w5.drew.heap[gb]? = some (Obj.cells #[Value.int IntKind.i64 (xk x), Value.string (bsA (xt x)), Value.int IntKind.i64 (xn x), Value.int IntKind.i64 (xa x), Value.slice s (xl x) c] 26)) := (hF5.blk gb (heap_lt HRW1.out) (by omega)).trans HRW1.out
      have h3 := HG.out j op _ r3 hop HC.out.rdr e3
      unfold ptr at h3
      have H3 : Hid (Calls Try.prog 86 #[.pointer (some ⟨rb, 0, none⟩)] w5.drew (LPost rb ta cap T op w5.drew r3)) := h3
      clear hpost hr5 hF5 hl3 e3 h3 HL2 HC1 HB1 HRW1 HG
      unfold ttV
      go_wp2_with fail
      refine wp_region_held_drew (S := (fun _ => True)) (by kernel_rfl) ?_ (fun hHeld => ?_)
      · (try dsimp only); (all_goals exact True.intro)
      refine tk 0 (some 13) (v := ?_) rfl ?_ ?_
      rotate_left
      · intro wS hSw; (try dsimp only at hSw); go_simp; (try with_reducible rfl)
      try simp only [Act.put, List.setIfInBounds_toArray, List.set_cons_zero, List.set_cons_succ]
      refine tk 2 (some 15) (v := ?_) rfl ?_ ?_
      rotate_left
      · intro wS hSw; (try dsimp only at hSw); go_simp; (try with_reducible rfl)
      try simp only [Act.put, List.setIfInBounds_toArray, List.set_cons_zero, List.set_cons_succ]
      have hgb0 : gb < w5.drew.heap.size := heap_lt HRW.out
      have hnb0 : nb < w5.drew.heap.size := cell_lt HB.out.c0
      have hzb0 : (w.heap.size + 1) < w5.drew.heap.size := HC.out.lt
      generalize w5.drew = v0 at HC HB HRW H3 hgb0 hnb0 hzb0 ⊢
      refine wpAnyH_ready (rs := [1, 3]) (by kernel_rfl) (by simp) ?_
      refine AllReadyH.cons rfl (fun K hK => ?_) (AllReadyH.cons rfl (fun K hK => ?_) AllReadyH.nil)
      · skip
        obtain ⟨y0, y1, y2, y3, y4, k0, k1, k2, k3, k4⟩ := HB.out
        go_simp
        clear y0 y1 y2 y3 y4 k0 k1 k2 k3 k4
        refine hK.out _ _ ?_ (fun hHz => ?_)
        · (try dsimp only); (all_goals exact True.intro)
        clear hK K hHz
        try simp only [Act.put, List.setIfInBounds_toArray, List.set_cons_zero, List.set_cons_succ]
        refine wpAnyH_ready (rs := [3]) (by kernel_rfl) (by simp) ?_
        refine AllReadyH.cons rfl (fun K hK => ?_) AllReadyH.nil
        go_simp
        refine H3.out.mono ?_
        intro e u1 hpost
        clear H3
        cases r3 with
        | inl q =>
          obtain ⟨hG, hF⟩ := hpost.no
          unfold GUp at hG
          subst hG
          have HRR : Hid (r = .inl q) := (Option.some.inj HL3.out).symm
          have HF : Hid _ := HC.out.fx.trans hF
          clear hpost hF
          exact ⟨rfl, by rw [HRR.out]; exact ⟨rfl, HF.out⟩⟩
        | inr q =>
          obtain ⟨l, j5⟩ := q
          obtain ⟨⟨⟨g2, c2, B, rfl, hBm, hOB⟩, hr1⟩, hF1⟩ := hpost.ok
          dsimp only at hBm hr1
          subst hBm
          have hW := listE_ok (fun i x j => HU.out i op x j) HE3.out
          rw [List.length_map] at hW
          have hj5 := hr1.le
          have hg0 := heap_lt HRW.out
          obtain ⟨lb, hlb⟩ : ∃ lb, B.length = lb := ⟨_, rfl⟩
          have HLB : Hid (B.length = lb) := hlb
          rw [hlb] at hW ⊢
          have HKB : Hid (∀ p ∈ B, XAt v0.heap.size u1 p.1 p.2.1) := fun p hp => hOB.kids p hp u1 (fun _ _ _ _ => rfl)
          have HCB : Hid (∀ j u, (xC B)[j]? = some u → u1.cell? ((⟨g2, 0, none⟩ : Addr).add j) = some u) := hOB.own.cells rfl
          have hsz := hF1.size
          have hvz := HC.out.fx.size
          have HB : Hid (Box5 u1 nb (.int .i64 11) (.string (bsA [])) (.int .i64 0) (.int .i64 q4) (.slice (some ⟨gb, 0, none⟩) 1 1)) := HB.out.fx hF1 (by omega)
          have HRW : Hid (u1.heap[gb]? = some (Obj.cells #[Value.int IntKind.i64 (xk x), Value.string (bsA (xt x)), Value.int IntKind.i64 (xn x), Value.int IntKind.i64 (xa x), Value.slice s (xl x) c] 26)) := (hF1.blk gb hg0 (by omega)).trans HRW.out
          have HC : Hid (Cx rb ta cap T w (w.heap.size + 1) j5 op u1) := HC.out.step hF1 hr1 (by omega)
          have HL5 : Hid (bnd (needP T 6 [41] j5) (fun _ j => okR (mkX 11 [] 0 q4 (x :: B.map (·.1))) j) = some r) := HL3.out
          have HXL : Hid ((xC B).length = lb * 5) := by show _ = _; rw [xC_len, HLB.out]
          refine hK.out _ _ ?_ (fun hHz => ?_)
          · (try dsimp only); (all_goals exact True.intro)
          clear hpost hK K hHz hOB hr1 hF1 HL3 HE3 hlb
          try simp only [Act.put, List.setIfInBounds_toArray, List.set_cons_zero, List.set_cons_succ]
          refine wpAnyH_ready (rs := [4]) (by kernel_rfl) (by simp) ?_
          refine AllReadyH.cons rfl (fun K hK => ?_) AllReadyH.nil
          have HOW : Hid (u1.ownsRow lo 26 5 (.slice (some ⟨gb, 0, none⟩) 1 1) 1 (xC [(x, s, c)])) := own_of (lo := lo) (A := [(x, s, c)]) HRW.out (by omega) (by simp) rfl
          refine step_append_lies u1 rfl _ _ 24 rfl lo 26 i0 (.agg #[.int .i64 0, .string ⟨#[]⟩, .int .i64 0, .int .i64 0, .slice none 0 0]) 5 64 Try.underlying24 hi0 hz1 hzs hz3 rfl (by decide) (.slice (some ⟨gb, 0, none⟩) 1 1) 1 (xC [(x, s, c)]) rfl HOW.out ⟨g2, 0, none⟩ lb c2 (xC B) rfl HXL.out HCB.out (xC_one _) (by omega) (by unfold maxLen; omega) (by omega) (by omega) _ rfl ?_
          intro g5 c5 u5 hown hgrow hlies hg5
          have hlies2 : gb = g5 ∨ g5 = u1.heap.size := by simpa [Value.ownBlock] using hlies
          have hg1 := heap_lt HRW.out
          have hn1 : nb < u1.heap.size := cell_lt HB.out.c0
          have hzu : (w.heap.size + 1) < u1.heap.size := HC.out.lt
          have hgn : g5 ≠ nb := by omega
          have hgw : w.heap.size ≤ g5 := by omega
          have hgz : g5 ≠ (w.heap.size + 1) := by omega
          have e := hgrow.block nb hn1 (by simp [Value.ownBlock]; omega)
          have hb := HB.out
          have hbx5 : Box5 u5 nb (.int .i64 11) (.string (bsA [])) (.int .i64 0) (.int .i64 q4) (.slice (some ⟨gb, 0, none⟩) 1 1) := ⟨cell_same hb.c0 e, cell_same hb.c1 e, cell_same hb.c2 e, cell_same hb.c3 e, cell_same hb.c4 e, (World.frozen?_of_block (a := ⟨nb, 0, none⟩) e).trans hb.f0, (World.frozen?_of_block (a := ⟨nb, 1, none⟩) e).trans hb.f1, (World.frozen?_of_block (a := ⟨nb, 2, none⟩) e).trans hb.f2, (World.frozen?_of_block (a := ⟨nb, 3, none⟩) e).trans hb.f3, (World.frozen?_of_block (a := ⟨nb, 4, none⟩) e).trans hb.f4⟩
          have HC5 : Hid (Cx rb ta cap T w (w.heap.size + 1) j5 op (u5.setCell ⟨nb, 4, none⟩ (.slice (some ⟨g5, 0, none⟩) (1 + lb) c5))) := (HC.out.grown (g := gb) hgrow (by omega) (by omega) (by omega)).set nb 4 _ (by omega) (by omega) (by omega)
          have HB5 : Hid (Box5 (u5.setCell ⟨nb, 4, none⟩ (.slice (some ⟨g5, 0, none⟩) (1 + lb) c5)) nb (.int .i64 11) (.string (bsA [])) (.int .i64 0) (.int .i64 q4) (.slice (some ⟨g5, 0, none⟩) (1 + lb) c5)) := hbx5.put4 _
          have HO5 : Hid (((u5.setCell ⟨nb, 4, none⟩ (.slice (some ⟨g5, 0, none⟩) (1 + lb) c5))).ownsRow lo 26 5 (.slice (some ⟨g5, 0, none⟩) (1 + lb) c5) (1 + lb) (xC [(x, s, c)] ++ xC B)) := own_keep hown (Below.heap_setCell _ _ _ _ hgn)
          have HK5 : Hid (∀ p ∈ B, XAt v0.heap.size (u5.setCell ⟨nb, 4, none⟩ (.slice (some ⟨g5, 0, none⟩) (1 + lb) c5)) p.1 p.2.1) := fun p hp => NdF.keep (Nat.le_refl _) (fun b hb hl => (Below.heap_setCell _ _ _ _ (show b ≠ nb by omega)).trans (hgrow.block b hl (by simp [Value.ownBlock]; omega))) (HKB.out p hp)
          obtain ⟨y0, y1, y2, y3, y4, k0, k1, k2, k3, k4⟩ := hbx5
          clear hb e hown hgrow hlies hlies2 HOW HC HB HRW HKB HCB HXL
          refine hK.out _ _ ?_ (fun hHz => ?_)
          · (try dsimp only); (all_goals exact True.intro)
          clear hK K hHz
          try simp only [Act.put, List.setIfInBounds_toArray, List.set_cons_zero, List.set_cons_succ]
          refine tk 5 (some 18) (v := ?_) rfl ?_ ?_
          rotate_left
          · intro wS hSw; (try dsimp only at hSw); go_simp; (try with_reducible rfl)
          try simp only [Act.put, List.setIfInBounds_toArray, List.set_cons_zero, List.set_cons_succ]
          refine wpAnyH_ready (rs := [6]) (by kernel_rfl) (by simp) ?_
          refine AllReadyH.cons rfl (fun K hK => ?_) AllReadyH.nil
          go_simp
          clear y0 y1 y2 y3 y4 k0 k1 k2 k3 k4
          refine hK.out _ _ ?_ (fun hHz => ?_)
          · (try dsimp only); (all_goals exact True.intro)
          clear hK K hHz
          try simp only [Act.put, List.setIfInBounds_toArray, List.set_cons_zero, List.set_cons_succ]
          refine wpAnyH_done (by kernel_rfl) ?_ _
          obtain ⟨r9, e9, h9⟩ := need_any rb ta cap T j5 op 6 [41] (by decide) _ HC5.out.rdr
          unfold ptr at h9
          have HL9 : Hid (bnd (some r9) (fun _ j => okR (mkX 11 [] 0 q4 (x :: B.map (·.1))) j) = some r) := by
            have h := HL5.out
            rw [e9] at h
            exact h
          clear e9 HL5
          go_wp2_with fail
          refine h9.mono ?_
          intro e w9 hpost
          clear h9
          cases r9 with
          | inl q =>
            obtain ⟨hG, hF⟩ := hpost.no
            unfold GUp at hG
            subst hG
            have HRR : Hid (r = .inl q) := (Option.some.inj HL9.out).symm
            have HF : Hid _ := HC5.out.fx.trans hF
            clear hpost hF
            go_wp2
            exact ⟨rfl, by rw [HRR.out]; exact ⟨rfl, HF.out⟩⟩
          | inr q =>
            obtain ⟨t9, j9⟩ := q
            obtain ⟨⟨rfl, hr9⟩, hF9⟩ := hpost.ok
            dsimp only at hr9
            have HRR : Hid (r = .inr ((mkX 11 [] 0 q4 (x :: B.map (·.1))), j9)) := (Option.some.inj HL9.out).symm
            have hC := HC5.out.step hF9 hr9 (by omega)
            have hlen9 : ([(x, s, c)] ++ B).length = 1 + lb := by rw [List.length_append, HLB.out]; rfl
            have hg5r : g5 ≠ rb := by
              have := HO5.out.lt g5 rfl
              omega
            have hO9 : w9.ownsRow lo 26 5 (.slice (some ⟨g5, 0, none⟩) ([(x, s, c)] ++ B).length c5) ([(x, s, c)] ++ B).length (xC ([(x, s, c)] ++ B)) := by
              rw [hlen9, xC_app]
              exact own_keep HO5.out (hF9.blk g5 (HO5.out.lt g5 rfl).2 hg5r)
            have hX9 : XD (fun b => b ≠ (w.heap.size + 1) ∧ b ≠ rb ∧ (b < hi ∨ w.heap.size ≤ b)) lo w9 (mkX 11 [] 0 q4 (x :: B.map (·.1))) (some ⟨g5, 0, none⟩) := own_tree (A := [(x, s, c)] ++ B) 11 [] 0 q4 hO9 ⟨hgz, hg5r, Or.inr (by omega)⟩ (fun p hp => by
              rcases List.mem_append.1 hp with hp | hp
              · rw [List.mem_singleton.1 hp]
                exact HX.out.was hC.fx (fun b h1 h2 => ⟨by omega, h1, Or.inl h2⟩)
              · exact XD.new (NdF.keep (Nat.le_refl _) (fun b hb hl => hF9.blk b hl (by omega)) (HK5.out p hp)) (by omega) (fun b hb => ⟨by omega, by omega, Or.inr (by omega)⟩))
            have HFin : Hid _ := Cx.rett (k := 11) (t := []) (m := 0) (a := q4) (n := 1 + lb) c5 (by rw [List.length_cons, List.length_map, HLB.out]; omega) hC hX9 (by omega) hlt
            obtain ⟨b0, b1, b2, b3, b4, _, _, _, _, _⟩ := HB5.out.fx hF9 (by omega)
            obtain ⟨z0, z1, z2, z3, z4, f0, f1, f2, f3, f4⟩ := own5 hC.res (.int .i64 11) (.string (bsA [])) (.int .i64 0) (.int .i64 q4) (.slice (some ⟨g5, 0, none⟩) (1 + lb) c5)
            obtain ⟨d0, d1, d2, d3, d4, g0, g1, g2', g3, g4⟩ := hC.res
            clear hC hO9 hX9 hpost hr9 hF9 HC5 HB5 HL9 HO5 HK5 HX
            unfold ttV
            go_wp2
            refine bodyPost_ret (v := .agg #[.int .i64 11, .string (bsA []), .int .i64 0, .int .i64 q4, (.slice (some ⟨g5, 0, none⟩) (1 + lb) c5)]) (by unfold set5 at z0 z1 z2 z3 z4; simp [results, Try.results80, go_sem, z0, z1, z2, z3, z4]) rfl ?_
            rw [HRR.out]
            exact HFin.out
      · skip
        go_simp
        refine H3.out.mono ?_
        intro e u1 hpost
        clear H3
        cases r3 with
        | inl q =>
          obtain ⟨hG, hF⟩ := hpost.no
          unfold GUp at hG
          subst hG
          have HRR : Hid (r = .inl q) := (Option.some.inj HL3.out).symm
          have HF : Hid _ := HC.out.fx.trans hF
          clear hpost hF
          exact ⟨rfl, by rw [HRR.out]; exact ⟨rfl, HF.out⟩⟩
        | inr q =>
          obtain ⟨l, j5⟩ := q
          obtain ⟨⟨⟨g2, c2, B, rfl, hBm, hOB⟩, hr1⟩, hF1⟩ := hpost.ok
          dsimp only at hBm hr1
          subst hBm
          have hW := listE_ok (fun i x j => HU.out i op x j) HE3.out
          rw [List.length_map] at hW
          have hj5 := hr1.le
          have hg0 := heap_lt HRW.out
          obtain ⟨lb, hlb⟩ : ∃ lb, B.length = lb := ⟨_, rfl⟩
          have HLB : Hid (B.length = lb) := hlb
          rw [hlb] at hW ⊢
          have HKB : Hid (∀ p ∈ B, XAt v0.heap.size u1 p.1 p.2.1) := fun p hp => hOB.kids p hp u1 (fun _ _ _ _ => rfl)
          have HCB : Hid (∀ j u, (xC B)[j]? = some u → u1.cell? ((⟨g2, 0, none⟩ : Addr).add j) = some u) := hOB.own.cells rfl
          have hsz := hF1.size
          have hvz := HC.out.fx.size
          have HB : Hid (Box5 u1 nb (.int .i64 11) (.string (bsA [])) (.int .i64 0) (.int .i64 q4) (.slice (some ⟨gb, 0, none⟩) 1 1)) := HB.out.fx hF1 (by omega)
          have HRW : Hid (u1.heap[gb]? = some (Obj.cells #[Value.int IntKind.i64 (xk x), Value.string (bsA (xt x)), Value.int IntKind.i64 (xn x), Value.int IntKind.i64 (xa x), Value.slice s (xl x) c] 26)) := (hF1.blk gb hg0 (by omega)).trans HRW.out
          have HC : Hid (Cx rb ta cap T w (w.heap.size + 1) j5 op u1) := HC.out.step hF1 hr1 (by omega)
          have HL5 : Hid (bnd (needP T 6 [41] j5) (fun _ j => okR (mkX 11 [] 0 q4 (x :: B.map (·.1))) j) = some r) := HL3.out
          have HXL : Hid ((xC B).length = lb * 5) := by show _ = _; rw [xC_len, HLB.out]
          refine hK.out _ _ ?_ (fun hHz => ?_)
          · (try dsimp only); (all_goals exact True.intro)
          clear hpost hK K hHz hOB hr1 hF1 HL3 HE3 hlb
          try simp only [Act.put, List.setIfInBounds_toArray, List.set_cons_zero, List.set_cons_succ]
          refine wpAnyH_ready (rs := [1]) (by kernel_rfl) (by simp) ?_
          refine AllReadyH.cons rfl (fun K hK => ?_) AllReadyH.nil
          obtain ⟨y0, y1, y2, y3, y4, k0, k1, k2, k3, k4⟩ := HB.out
          go_simp
          clear y0 y1 y2 y3 y4 k0 k1 k2 k3 k4
          refine hK.out _ _ ?_ (fun hHz => ?_)
          · (try dsimp only); (all_goals exact True.intro)
          clear hK K hHz
          try simp only [Act.put, List.setIfInBounds_toArray, List.set_cons_zero, List.set_cons_succ]
          refine wpAnyH_ready (rs := [4]) (by kernel_rfl) (by simp) ?_
          refine AllReadyH.cons rfl (fun K hK => ?_) AllReadyH.nil
          have HOW : Hid (u1.ownsRow lo 26 5 (.slice (some ⟨gb, 0, none⟩) 1 1) 1 (xC [(x, s, c)])) := own_of (lo := lo) (A := [(x, s, c)]) HRW.out (by omega) (by simp) rfl
          refine step_append_lies u1 rfl _ _ 24 rfl lo 26 i0 (.agg #[.int .i64 0, .string ⟨#[]⟩, .int .i64 0, .int .i64 0, .slice none 0 0]) 5 64 Try.underlying24 hi0 hz1 hzs hz3 rfl (by decide) (.slice (some ⟨gb, 0, none⟩) 1 1) 1 (xC [(x, s, c)]) rfl HOW.out ⟨g2, 0, none⟩ lb c2 (xC B) rfl HXL.out HCB.out (xC_one _) (by omega) (by unfold maxLen; omega) (by omega) (by omega) _ rfl ?_
          intro g5 c5 u5 hown hgrow hlies hg5
          have hlies2 : gb = g5 ∨ g5 = u1.heap.size := by simpa [Value.ownBlock] using hlies
          have hg1 := heap_lt HRW.out
          have hn1 : nb < u1.heap.size := cell_lt HB.out.c0
          have hzu : (w.heap.size + 1) < u1.heap.size := HC.out.lt
          have hgn : g5 ≠ nb := by omega
          have hgw : w.heap.size ≤ g5 := by omega
          have hgz : g5 ≠ (w.heap.size + 1) := by omega
          have e := hgrow.block nb hn1 (by simp [Value.ownBlock]; omega)
          have hb := HB.out
          have hbx5 : Box5 u5 nb (.int .i64 11) (.string (bsA [])) (.int .i64 0) (.int .i64 q4) (.slice (some ⟨gb, 0, none⟩) 1 1) := ⟨cell_same hb.c0 e, cell_same hb.c1 e, cell_same hb.c2 e, cell_same hb.c3 e, cell_same hb.c4 e, (World.frozen?_of_block (a := ⟨nb, 0, none⟩) e).trans hb.f0, (World.frozen?_of_block (a := ⟨nb, 1, none⟩) e).trans hb.f1, (World.frozen?_of_block (a := ⟨nb, 2, none⟩) e).trans hb.f2, (World.frozen?_of_block (a := ⟨nb, 3, none⟩) e).trans hb.f3, (World.frozen?_of_block (a := ⟨nb, 4, none⟩) e).trans hb.f4⟩
          have HC5 : Hid (Cx rb ta cap T w (w.heap.size + 1) j5 op (u5.setCell ⟨nb, 4, none⟩ (.slice (some ⟨g5, 0, none⟩) (1 + lb) c5))) := (HC.out.grown (g := gb) hgrow (by omega) (by omega) (by omega)).set nb 4 _ (by omega) (by omega) (by omega)
          have HB5 : Hid (Box5 (u5.setCell ⟨nb, 4, none⟩ (.slice (some ⟨g5, 0, none⟩) (1 + lb) c5)) nb (.int .i64 11) (.string (bsA [])) (.int .i64 0) (.int .i64 q4) (.slice (some ⟨g5, 0, none⟩) (1 + lb) c5)) := hbx5.put4 _
          have HO5 : Hid (((u5.setCell ⟨nb, 4, none⟩ (.slice (some ⟨g5, 0, none⟩) (1 + lb) c5))).ownsRow lo 26 5 (.slice (some ⟨g5, 0, none⟩) (1 + lb) c5) (1 + lb) (xC [(x, s, c)] ++ xC B)) := own_keep hown (Below.heap_setCell _ _ _ _ hgn)
          have HK5 : Hid (∀ p ∈ B, XAt v0.heap.size (u5.setCell ⟨nb, 4, none⟩ (.slice (some ⟨g5, 0, none⟩) (1 + lb) c5)) p.1 p.2.1) := fun p hp => NdF.keep (Nat.le_refl _) (fun b hb hl => (Below.heap_setCell _ _ _ _ (show b ≠ nb by omega)).trans (hgrow.block b hl (by simp [Value.ownBlock]; omega))) (HKB.out p hp)
          obtain ⟨y0, y1, y2, y3, y4, k0, k1, k2, k3, k4⟩ := hbx5
          clear hb e hown hgrow hlies hlies2 HOW HC HB HRW HKB HCB HXL
          refine hK.out _ _ ?_ (fun hHz => ?_)
          · (try dsimp only); (all_goals exact True.intro)
          clear hK K hHz
          try simp only [Act.put, List.setIfInBounds_toArray, List.set_cons_zero, List.set_cons_succ]
          refine tk 5 (some 18) (v := ?_) rfl ?_ ?_
          rotate_left
          · intro wS hSw; (try dsimp only at hSw); go_simp; (try with_reducible rfl)
          try simp only [Act.put, List.setIfInBounds_toArray, List.set_cons_zero, List.set_cons_succ]
          refine wpAnyH_ready (rs := [6]) (by kernel_rfl) (by simp) ?_
          refine AllReadyH.cons rfl (fun K hK => ?_) AllReadyH.nil
          go_simp
          clear y0 y1 y2 y3 y4 k0 k1 k2 k3 k4
          refine hK.out _ _ ?_ (fun hHz => ?_)
          · (try dsimp only); (all_goals exact True.intro)
          clear hK K hHz
          try simp only [Act.put, List.setIfInBounds_toArray, List.set_cons_zero, List.set_cons_succ]
          refine wpAnyH_done (by kernel_rfl) ?_ _
          obtain ⟨r9, e9, h9⟩ := need_any rb ta cap T j5 op 6 [41] (by decide) _ HC5.out.rdr
          unfold ptr at h9
          have HL9 : Hid (bnd (some r9) (fun _ j => okR (mkX 11 [] 0 q4 (x :: B.map (·.1))) j) = some r) := by
            have h := HL5.out
            rw [e9] at h
            exact h
          clear e9 HL5
          go_wp2_with fail
          refine h9.mono ?_
          intro e w9 hpost
          clear h9
          cases r9 with
          | inl q =>
            obtain ⟨hG, hF⟩ := hpost.no
            unfold GUp at hG
            subst hG
            have HRR : Hid (r = .inl q) := (Option.some.inj HL9.out).symm
            have HF : Hid _ := HC5.out.fx.trans hF
            clear hpost hF
            go_wp2
            exact ⟨rfl, by rw [HRR.out]; exact ⟨rfl, HF.out⟩⟩
          | inr q =>
            obtain ⟨t9, j9⟩ := q
            obtain ⟨⟨rfl, hr9⟩, hF9⟩ := hpost.ok
            dsimp only at hr9
            have HRR : Hid (r = .inr ((mkX 11 [] 0 q4 (x :: B.map (·.1))), j9)) := (Option.some.inj HL9.out).symm
            have hC := HC5.out.step hF9 hr9 (by omega)
            have hlen9 : ([(x, s, c)] ++ B).length = 1 + lb := by rw [List.length_append, HLB.out]; rfl
            have hg5r : g5 ≠ rb := by
              have := HO5.out.lt g5 rfl
              omega
            have hO9 : w9.ownsRow lo 26 5 (.slice (some ⟨g5, 0, none⟩) ([(x, s, c)] ++ B).length c5) ([(x, s, c)] ++ B).length (xC ([(x, s, c)] ++ B)) := by
              rw [hlen9, xC_app]
              exact own_keep HO5.out (hF9.blk g5 (HO5.out.lt g5 rfl).2 hg5r)
            have hX9 : XD (fun b => b ≠ (w.heap.size + 1) ∧ b ≠ rb ∧ (b < hi ∨ w.heap.size ≤ b)) lo w9 (mkX 11 [] 0 q4 (x :: B.map (·.1))) (some ⟨g5, 0, none⟩) := own_tree (A := [(x, s, c)] ++ B) 11 [] 0 q4 hO9 ⟨hgz, hg5r, Or.inr (by omega)⟩ (fun p hp => by
              rcases List.mem_append.1 hp with hp | hp
              · rw [List.mem_singleton.1 hp]
                exact HX.out.was hC.fx (fun b h1 h2 => ⟨by omega, h1, Or.inl h2⟩)
              · exact XD.new (NdF.keep (Nat.le_refl _) (fun b hb hl => hF9.blk b hl (by omega)) (HK5.out p hp)) (by omega) (fun b hb => ⟨by omega, by omega, Or.inr (by omega)⟩))
            have HFin : Hid _ := Cx.rett (k := 11) (t := []) (m := 0) (a := q4) (n := 1 + lb) c5 (by rw [List.length_cons, List.length_map, HLB.out]; omega) hC hX9 (by omega) hlt
            obtain ⟨b0, b1, b2, b3, b4, _, _, _, _, _⟩ := HB5.out.fx hF9 (by omega)
            obtain ⟨z0, z1, z2, z3, z4, f0, f1, f2, f3, f4⟩ := own5 hC.res (.int .i64 11) (.string (bsA [])) (.int .i64 0) (.int .i64 q4) (.slice (some ⟨g5, 0, none⟩) (1 + lb) c5)
            obtain ⟨d0, d1, d2, d3, d4, g0, g1, g2', g3, g4⟩ := hC.res
            clear hC hO9 hX9 hpost hr9 hF9 HC5 HB5 HL9 HO5 HK5 HX
            unfold ttV
            go_wp2
            refine bodyPost_ret (v := .agg #[.int .i64 11, .string (bsA []), .int .i64 0, .int .i64 q4, (.slice (some ⟨g5, 0, none⟩) (1 + lb) c5)]) (by unfold set5 at z0 z1 z2 z3 z4; simp [results, Try.results80, go_sem, z0, z1, z2, z3, z4]) rfl ?_
            rw [HRR.out]
            exact HFin.out
end Go.Proofs.Ytcicdapccondkaa
