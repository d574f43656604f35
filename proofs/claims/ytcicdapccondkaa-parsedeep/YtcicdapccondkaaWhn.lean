/- A condition and what it gives (when). -/
import Derived.Test.YtcicdapccondkaaLst
namespace Go.Proofs.Ytcicdapccondkaa
open Go.ChangeShapes Go.WideShapes Go.ChangeAt Go.RowKit
set_option linter.unusedSimpArgs false
set_option maxRecDepth 20000
set_option maxHeartbeats 4000000

theorem when_any (rb : Nat) (ta : Option Addr) (cap : Nat) (T : List Tt) (E : Nat → Nat → Rz X) (hp : Reads rb ta cap T 16 E) : LReads rb ta cap T 97 (fun i op => whenP T (fun j => E j op) i) := by
  intro i op w r hop hr h
  have hlt := cell_lt hr.c0
  have HP : Hid (Reads rb ta cap T 16 E) := hp
  obtain ⟨r1, e1, h1⟩ := need_any rb ta cap T i op 2 [119, 104, 101, 110] (by decide) w hr
  have HL1 : Hid (bnd (some r1) (fun _ i => bnd (E i op) fun c i => bnd (needP T 2 [116, 104, 101, 110] i) fun _ i => bnd (E i op) fun x i => okR [c, x] i) = some r) := by
    have h : bnd (needP T 2 [119, 104, 101, 110] i) (fun _ i => bnd (E i op) fun c i => bnd (needP T 2 [116, 104, 101, 110] i) fun _ i => bnd (E i op) fun x i => okR [c, x] i) = some r := h
    rw [e1] at h
    exact h
  unfold ptr at h1 ⊢
  clear hr h hp e1
  go_enter Try.func97, Try.ntmps97
  go_wp2_with fail
  refine h1.mono ?_
  intro e w1 hpost
  clear h1
  cases r1 with
  | inl q =>
    obtain ⟨hG, hF⟩ := hpost.no
    unfold GUp at hG
    subst hG
    have HRR : Hid (r = .inl q) := (Option.some.inj HL1.out).symm
    have HF : Hid _ := hF
    clear hpost hF
    go_wp2
    exact ⟨rfl, by rw [HRR.out]; exact ⟨rfl, HF.out⟩⟩
  | inr q =>
    obtain ⟨t1, j1⟩ := q
    obtain ⟨⟨rfl, hr1⟩, hF1⟩ := hpost.ok
    dsimp only at hr1
    obtain ⟨r2, e2, hl2⟩ := bnd_some (show bnd (E j1 op) (fun c i => bnd (needP T 2 [116, 104, 101, 110] i) fun _ i => bnd (E i op) fun x i => okR [c, x] i) = some r from HL1.out)
    have HL2 : Hid (bnd (some r2) (fun c i => bnd (needP T 2 [116, 104, 101, 110] i) fun _ i => bnd (E i op) fun x i => okR [c, x] i) = some r) := hl2
    have h2 := HP.out j1 op w1 r2 hop hr1 e2
    unfold ptr at h2
    have HF1 : Hid (Fx rb w w1) := hF1
    clear hpost hF1 hr1 hl2 e2 HL1
    unfold ttV
    go_wp2_with fail
    refine h2.mono ?_
    intro e w2 hpost
    clear h2
    cases r2 with
    | inl q =>
      obtain ⟨hG, hF⟩ := hpost.no
      unfold GUp at hG
      subst hG
      have HRR : Hid (r = .inl q) := (Option.some.inj HL2.out).symm
      have HF : Hid _ := HF1.out.trans hF
      clear hpost hF
      go_wp2
      exact ⟨rfl, by rw [HRR.out]; exact ⟨rfl, HF.out⟩⟩
    | inr q =>
      obtain ⟨x, j2⟩ := q
      obtain ⟨⟨⟨s1, c1, rfl, hx⟩, hr2⟩, hF2⟩ := hpost.ok
      dsimp only at hx hr2
      have hY : Below w2.heap.size w2 (w2.alloc (Obj.cells #[Value.int IntKind.i64 (xk x), Value.string (bsA (xt x)), Value.int IntKind.i64 (xn x), Value.int IntKind.i64 (xa x), Value.slice s1 (xl x) c1] 26)) := (Below.refl _ _).alloc (Nat.le_refl _) _
      obtain ⟨r3, e3, h3⟩ := need_any rb ta cap T j2 op 2 [116, 104, 101, 110] (by decide) _ (hr2.below hY)
      unfold ptr at h3
      have HL3 : Hid (bnd (some r3) (fun _ i => bnd (E i op) fun y i => okR [x, y] i) = some r) := by
        have h : bnd (needP T 2 [116, 104, 101, 110] j2) (fun _ i => bnd (E i op) fun y i => okR [x, y] i) = some r := HL2.out
        rw [e3] at h
        exact h
      have HX : Hid (XAt w.heap.size (w2.alloc (Obj.cells #[Value.int IntKind.i64 (xk x), Value.string (bsA (xt x)), Value.int IntKind.i64 (xn x), Value.int IntKind.i64 (xa x), Value.slice s1 (xl x) c1] 26)) x s1) := NdF.keep HF1.out.size (fun b _ hb => hY.block b hb) hx
      have HB : Hid (Box5 (w2.alloc (Obj.cells #[Value.int IntKind.i64 (xk x), Value.string (bsA (xt x)), Value.int IntKind.i64 (xn x), Value.int IntKind.i64 (xa x), Value.slice s1 (xl x) c1] 26)) w2.heap.size (.int .i64 (xk x)) (.string (bsA (xt x))) (.int .i64 (xn x)) (.int .i64 (xa x)) (.slice s1 (xl x) c1)) := Box5.new w2 _ _ _ _ _ 26
      have HF2 : Hid (Fx rb w (w2.alloc (Obj.cells #[Value.int IntKind.i64 (xk x), Value.string (bsA (xt x)), Value.int IntKind.i64 (xn x), Value.int IntKind.i64 (xa x), Value.slice s1 (xl x) c1] 26))) := HF1.out.trans (hF2.trans (Fx.below hY))
      have hn2 : w2.heap.size ≠ rb := by have h := HF1.out.size; have h2 := hF2.size; omega
      have hs2 : w.heap.size ≤ w2.heap.size := by have h := HF1.out.size; have h2 := hF2.size; omega
      clear hpost hx hr2 hF2 hY e3 HL2 HF1
      unfold xV nV
      go_wp2_with fail
      refine h3.mono ?_
      intro e w3 hpost
      clear h3
      cases r3 with
      | inl q =>
        obtain ⟨hG, hF⟩ := hpost.no
        unfold GUp at hG
        subst hG
        have HRR : Hid (r = .inl q) := (Option.some.inj HL3.out).symm
        have HF : Hid _ := HF2.out.trans hF
        clear hpost hF
        go_wp2
        exact ⟨rfl, by rw [HRR.out]; exact ⟨rfl, HF.out⟩⟩
      | inr q =>
        obtain ⟨t3, j3⟩ := q
        obtain ⟨⟨rfl, hr3⟩, hF3⟩ := hpost.ok
        dsimp only at hr3
        obtain ⟨r4, e4, hl4⟩ := bnd_some (show bnd (E j3 op) (fun y i => okR [x, y] i) = some r from HL3.out)
        have HL4 : Hid (bnd (some r4) (fun y i => okR [x, y] i) = some r) := hl4
        have h4 := HP.out j3 op _ r4 hop (hr3.below (Below.refl _ _).drew) e4
        unfold ptr at h4
        have H4 : Hid (Calls Try.prog 16 #[.pointer (some ⟨rb, 0, none⟩)] w3.drew (PPost rb ta cap T op w3.drew r4)) := h4
        have HX3 : Hid (XAt w.heap.size w3 x s1) := NdF.keep (Nat.le_refl _) (fun b hb hl => hF3.blk b hl (by omega)) HX.out
        have HB3 : Hid (Box5 w3.drew w2.heap.size (.int .i64 (xk x)) (.string (bsA (xt x))) (.int .i64 (xn x)) (.int .i64 (xa x)) (.slice s1 (xl x) c1)) := (HB.out.fx hF3 hn2).drew
        have HF3 : Hid (Fx rb w w3) := HF2.out.trans hF3
        clear hpost hr3 hF3 e4 h4 hl4 HX HB HF2 HL3
        unfold ttV
        go_wp2_with fail
        refine wp_region_held_drew (S := (fun wS => Box5 wS w2.heap.size (.int .i64 (xk x)) (.string (bsA (xt x))) (.int .i64 (xn x)) (.int .i64 (xa x)) (.slice s1 (xl x) c1))) (by kernel_rfl) ?_ (fun hHeld => ?_)
        · (try dsimp only); exact HB3.out
        refine tk 0 (some 10) (v := ?_) rfl ?_ ?_
        rotate_left
        · intro wS hSw; (try dsimp only at hSw); have y0 := hSw.c0; have y1 := hSw.c1; have y2 := hSw.c2; have y3 := hSw.c3; have y4 := hSw.c4; go_simp; (try with_reducible rfl)
        try simp only [Act.put, List.setIfInBounds_toArray, List.set_cons_zero, List.set_cons_succ]
        refine tk 1 (some 11) (v := ?_) rfl ?_ ?_
        rotate_left
        · intro wS hSw; (try dsimp only at hSw); go_simp; (try with_reducible rfl)
        try simp only [Act.put, List.setIfInBounds_toArray, List.set_cons_zero, List.set_cons_succ]
        refine wpAnyH_ready (rs := [2]) (by kernel_rfl) (by simp) ?_
        refine AllReadyH.cons rfl (fun K hK => ?_) AllReadyH.nil
        go_simp
        refine H4.out.mono ?_
        intro e w4 hpost
        clear H4
        cases r4 with
        | inl q =>
          obtain ⟨hG, hF⟩ := hpost.no
          unfold GUp at hG
          subst hG
          have HRR : Hid (r = .inl q) := (Option.some.inj HL4.out).symm
          have HF : Hid _ := HF3.out.trans ((Fx.below (Below.refl _ _).drew).trans hF)
          clear hpost hF
          exact ⟨rfl, by rw [HRR.out]; exact ⟨rfl, HF.out⟩⟩
        | inr q =>
          obtain ⟨y, j4⟩ := q
          obtain ⟨⟨⟨s2, c2, rfl, hy⟩, hr4⟩, hF4⟩ := hpost.ok
          dsimp only at hy hr4
          have hB4 := HB3.out.fx hF4 hn2
          have hY : Below w4.heap.size w4 (w4.alloc (Obj.cells #[Value.int IntKind.i64 (xk x), Value.string (bsA (xt x)), Value.int IntKind.i64 (xn x), Value.int IntKind.i64 (xa x), Value.slice s1 (xl x) c1, Value.int IntKind.i64 (xk y), Value.string (bsA (xt y)), Value.int IntKind.i64 (xn y), Value.int IntKind.i64 (xa y), Value.slice s2 (xl y) c2] 26)) := (Below.refl _ _).alloc (Nat.le_refl _) _
          have hFw : Fx rb w w4 := HF3.out.trans ((Fx.below (Below.refl _ _).drew).trans hF4)
          have HRR : Hid (r = .inr ([x, y], j4)) := (Option.some.inj HL4.out).symm
          have HFin : Hid (LPost rb ta cap T op w (.inr ([x, y], j4)) (.returned (.slice (some ⟨w4.heap.size, 0, none⟩) 2 2)) (w4.alloc (Obj.cells #[Value.int IntKind.i64 (xk x), Value.string (bsA (xt x)), Value.int IntKind.i64 (xn x), Value.int IntKind.i64 (xa x), Value.slice s1 (xl x) c1, Value.int IntKind.i64 (xk y), Value.string (bsA (xt y)), Value.int IntKind.i64 (xn y), Value.int IntKind.i64 (xa y), Value.slice s2 (xl y) c2] 26))) := by
            refine ⟨⟨⟨w4.heap.size, 2, [(x, s1, c1), (y, s2, c2)], rfl, rfl, OwX.new w4 [(x, s1, c1), (y, s2, c2)] hFw.size (by simp) (fun p hp => ?_) hlt _ rfl⟩, hr4.below hY⟩, hFw.trans (Fx.below hY)⟩
            simp only [List.mem_cons, List.not_mem_nil, or_false] at hp
            rcases hp with rfl | rfl
            · exact NdF.keep (Nat.le_refl _) (fun b hb hl => ((Fx.below (Below.refl _ _).drew).trans hF4).blk b hl (by omega)) HX3.out
            · exact NdF.keep HF3.out.size (fun _ _ _ => rfl) hy
          refine hK.out _ _ ?_ (fun hHz => ?_)
          · (try dsimp only); exact hB4
          clear hpost hK K hHz
          try simp only [Act.put, List.setIfInBounds_toArray, List.set_cons_zero, List.set_cons_succ]
          unfold xV nV
          refine wpAnyH_ready (rs := [3]) (by kernel_rfl) (by simp) ?_
          refine AllReadyH.cons rfl (fun K hK => ?_) AllReadyH.nil
          go_simp
          refine hK.out _ _ ?_ (fun hHz => ?_)
          · (try dsimp only); exact hB4.below hY
          clear hK K hHz
          try simp only [Act.put, List.setIfInBounds_toArray, List.set_cons_zero, List.set_cons_succ]
          refine wpAnyH_ready (rs := [4]) (by kernel_rfl) (by simp) ?_
          refine AllReadyH.cons rfl (fun K hK => ?_) AllReadyH.nil
          go_simp
          refine hK.out _ _ ?_ (fun hHz => ?_)
          · (try dsimp only); exact hB4.below hY
          clear hK K hHz
          try simp only [Act.put, List.setIfInBounds_toArray, List.set_cons_zero, List.set_cons_succ]
          refine wpAnyH_done (by kernel_rfl) ?_ _
          clear hB4 hY hFw hy hr4 hF4 HB3 HX3 HF3 HL4
          go_wp2
          refine bodyPost_ret (v := .slice (some ⟨w4.heap.size, 0, none⟩) 2 2) (by simp [results, Try.results97, go_sem]) rfl ?_
          rw [HRR.out]
          exact HFin.out
end Go.Proofs.Ytcicdapccondkaa
