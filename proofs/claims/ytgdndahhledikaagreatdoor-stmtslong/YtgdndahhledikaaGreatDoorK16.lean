/- Exw. -/
import Derived.Test.YtgdndahhledikaaGreatDoorK13
import Derived.Test.YtgdndahhledikaaGreatDoorK15
namespace Go.Proofs.YtgdndahhledikaaGreatDoor
open Go.ChangeShapes Go.WideShapes Go.ChangeAt Go.RowKit
set_option linter.unusedSimpArgs false
set_option maxRecDepth 20000
set_option maxHeartbeats 4000000
theorem f13_put (k : Nat) (hk : 9 ≤ k) (v : Value) (a : Act) (w : World) : (results Tryz.f13 (a.put (some k) v).tmps).run Tryz.prog w = (results Tryz.f13 a.tmps).run Tryz.prog w := by
 have h : ∀ i, i < 9 → (a.tmps.setIfInBounds k v)[i]? = a.tmps[i]? := fun i hi => by
  rw [Array.getElem?_setIfInBounds_ne (by omega)]
 have h4 := h 6 (by omega)
 have h5 := h 7 (by omega)
 have h6 := h 8 (by omega)
 simp [results, Tryz.results13, go_sem, h4, h5, h6]
theorem read_any (ta : Option Addr) (cap : Nat) (T : List Tt) (g : Nat → Nat → Rz X) (k : FuncId) (hent : Ent k) (hg : ∀ rb, RdX rb ta cap T k g) (i0 : Nat) (hi0 : i0 ≤ T.length) (w : World) (hT : TksAt w ta T) (hl : T.length ≤ 1000000000) (ht : ∀ b o, ta = some ⟨b, o, none⟩ → b < w.heap.size) (r : Sum Er (X × Nat)) (h : g i0 0 = some r) :
  Calls Tryz.prog 13 #[.slice ta T.length cap, .int .i64 (i0 : Nat), .func (.func k) #[] #[]] w (EPost w r) := by
 have hmf : ∀ (fn : Fn) (first cap : Array Value) (w : World), (Instr.makeFunc fn first cap).run Tryz.prog w = .ok (.func fn first cap) w := fun _ _ _ _ => rfl
 have hb1 : Below w.heap.size w (w.alloc (Obj.cells #[Value.int IntKind.i64 0, Value.string { data := #[] }, Value.int IntKind.i64 0, Value.int IntKind.i64 0, Value.slice none 0 0] 34)) := (Below.refl _ _).alloc (Nat.le_refl _) _
 have hb3 : Below w.heap.size w (((w.alloc (Obj.cells #[Value.int IntKind.i64 0, Value.string { data := #[] }, Value.int IntKind.i64 0, Value.int IntKind.i64 0, Value.slice none 0 0] 34)).alloc (Obj.cells #[Value.int IntKind.i64 0] 3)).alloc (Obj.cells #[Value.int IntKind.i64 0] 28)) := (hb1.alloc hb1.size _).alloc (by simp; omega) _
 have hb4 : Below w.heap.size w ((((w.alloc (Obj.cells #[Value.int IntKind.i64 0, Value.string { data := #[] }, Value.int IntKind.i64 0, Value.int IntKind.i64 0, Value.slice none 0 0] 34)).alloc (Obj.cells #[Value.int IntKind.i64 0] 3)).alloc (Obj.cells #[Value.int IntKind.i64 0] 28)).alloc (Obj.cells #[Value.slice ta T.length cap, Value.int IntKind.i64 (i0 : Nat), Value.int IntKind.i64 0] 58)) := hb3.alloc (by simp; omega) _
 have hrd : Rdr ((((w.alloc (Obj.cells #[Value.int IntKind.i64 0, Value.string { data := #[] }, Value.int IntKind.i64 0, Value.int IntKind.i64 0, Value.slice none 0 0] 34)).alloc (Obj.cells #[Value.int IntKind.i64 0] 3)).alloc (Obj.cells #[Value.int IntKind.i64 0] 28)).alloc (Obj.cells #[Value.slice ta T.length cap, Value.int IntKind.i64 (i0 : Nat), Value.int IntKind.i64 0] 58)) (w.heap.size + 1 + 1 + 1) ta cap T i0 0 := by
  refine ⟨by simp [go_sem], by simp [go_sem], by simp [go_sem], by simp [go_sem], by simp [go_sem], hT.below hb4, fun b o e => ?_, hl, hi0⟩
  have := ht b o e
  omega
 have h1 := hg (w.heap.size + 1 + 1 + 1) i0 0 ((((w.alloc (Obj.cells #[Value.int IntKind.i64 0, Value.string { data := #[] }, Value.int IntKind.i64 0, Value.int IntKind.i64 0, Value.slice none 0 0] 34)).alloc (Obj.cells #[Value.int IntKind.i64 0] 3)).alloc (Obj.cells #[Value.int IntKind.i64 0] 28)).alloc (Obj.cells #[Value.slice ta T.length cap, Value.int IntKind.i64 (i0 : Nat), Value.int IntKind.i64 0] 58)) r (by omega) hrd h
 have HB4 : Hid (Below w.heap.size w ((((w.alloc (Obj.cells #[Value.int IntKind.i64 0, Value.string { data := #[] }, Value.int IntKind.i64 0, Value.int IntKind.i64 0, Value.slice none 0 0] 34)).alloc (Obj.cells #[Value.int IntKind.i64 0] 3)).alloc (Obj.cells #[Value.int IntKind.i64 0] 28)).alloc (Obj.cells #[Value.slice ta T.length cap, Value.int IntKind.i64 (i0 : Nat), Value.int IntKind.i64 0] 58))) := hb4
 have HBX : Hid (Box5 ((((w.alloc (Obj.cells #[Value.int IntKind.i64 0, Value.string { data := #[] }, Value.int IntKind.i64 0, Value.int IntKind.i64 0, Value.slice none 0 0] 34)).alloc (Obj.cells #[Value.int IntKind.i64 0] 3)).alloc (Obj.cells #[Value.int IntKind.i64 0] 28)).alloc (Obj.cells #[Value.slice ta T.length cap, Value.int IntKind.i64 (i0 : Nat), Value.int IntKind.i64 0] 58)) w.heap.size (.int .i64 0) (.string ⟨#[]⟩) (.int .i64 0) (.int .i64 0) (.slice none 0 0)) := ((((Box5.new w _ _ _ _ _ 34).below ((Below.refl _ _).alloc (Nat.le_refl _) _)).below ((Below.refl _ _).alloc (Nat.le_refl _) _)).below ((Below.refl _ _).alloc (Nat.le_refl _) _))
 have HE : Hid (((((w.alloc (Obj.cells #[Value.int IntKind.i64 0, Value.string { data := #[] }, Value.int IntKind.i64 0, Value.int IntKind.i64 0, Value.slice none 0 0] 34)).alloc (Obj.cells #[Value.int IntKind.i64 0] 3)).alloc (Obj.cells #[Value.int IntKind.i64 0] 28)).alloc (Obj.cells #[Value.slice ta T.length cap, Value.int IntKind.i64 (i0 : Nat), Value.int IntKind.i64 0] 58)).cell? ⟨(w.heap.size + 1), 0, none⟩ = some (.int .i64 0) ∧ ((((w.alloc (Obj.cells #[Value.int IntKind.i64 0, Value.string { data := #[] }, Value.int IntKind.i64 0, Value.int IntKind.i64 0, Value.slice none 0 0] 34)).alloc (Obj.cells #[Value.int IntKind.i64 0] 3)).alloc (Obj.cells #[Value.int IntKind.i64 0] 28)).alloc (Obj.cells #[Value.slice ta T.length cap, Value.int IntKind.i64 (i0 : Nat), Value.int IntKind.i64 0] 58)).frozen? ⟨(w.heap.size + 1), 0, none⟩ = false) := by constructor <;> simp [go_sem]
 have HFB : Hid (((((w.alloc (Obj.cells #[Value.int IntKind.i64 0, Value.string { data := #[] }, Value.int IntKind.i64 0, Value.int IntKind.i64 0, Value.slice none 0 0] 34)).alloc (Obj.cells #[Value.int IntKind.i64 0] 3)).alloc (Obj.cells #[Value.int IntKind.i64 0] 28)).alloc (Obj.cells #[Value.slice ta T.length cap, Value.int IntKind.i64 (i0 : Nat), Value.int IntKind.i64 0] 58)).cell? ⟨(w.heap.size + 1 + 1), 0, none⟩ = some (.int .i64 0) ∧ ((((w.alloc (Obj.cells #[Value.int IntKind.i64 0, Value.string { data := #[] }, Value.int IntKind.i64 0, Value.int IntKind.i64 0, Value.slice none 0 0] 34)).alloc (Obj.cells #[Value.int IntKind.i64 0] 3)).alloc (Obj.cells #[Value.int IntKind.i64 0] 28)).alloc (Obj.cells #[Value.slice ta T.length cap, Value.int IntKind.i64 (i0 : Nat), Value.int IntKind.i64 0] 58)).frozen? ⟨(w.heap.size + 1 + 1), 0, none⟩ = false) := by constructor <;> simp [go_sem]
 have hs4 : (((((w.alloc (Obj.cells #[Value.int IntKind.i64 0, Value.string { data := #[] }, Value.int IntKind.i64 0, Value.int IntKind.i64 0, Value.slice none 0 0] 34)).alloc (Obj.cells #[Value.int IntKind.i64 0] 3)).alloc (Obj.cells #[Value.int IntKind.i64 0] 28)).alloc (Obj.cells #[Value.slice ta T.length cap, Value.int IntKind.i64 (i0 : Nat), Value.int IntKind.i64 0] 58))).heap.size = w.heap.size + 4 := by simp
 unfold ptr at h1
 have hmin : min (i0 : Int) (T.length : Int) = i0 := by omega
 have hmax : max (i0 : Int) 0 = i0 := by omega
 clear hT h hb1 hb3 hb4 hg
 unfold Ent at hent
 go_enter_defers Tryz.func13, Tryz.ntmps13
 have hm := must_ok (w.heap.size + 1 + 1 + 1) ((((w.alloc (Obj.cells #[Value.int IntKind.i64 0, Value.string { data := #[] }, Value.int IntKind.i64 0, Value.int IntKind.i64 0, Value.slice none 0 0] 34)).alloc (Obj.cells #[Value.int IntKind.i64 0] 3)).alloc (Obj.cells #[Value.int IntKind.i64 0] 28)).alloc (Obj.cells #[Value.slice ta T.length cap, Value.int IntKind.i64 (i0 : Nat), Value.int IntKind.i64 0] 58))
 unfold ptr at hm
 clear hrd
 go_wp2_with fail
 refine hm.mono ?_
 rintro e wN ⟨rfl, rfl⟩
 clear hm
 go_wp2_with fail
 refine h1.mono ?_
 intro e w1 hpost
 clear h1
 cases r with
 | inl q =>
  obtain ⟨q1, q2⟩ := q
  obtain ⟨hG, hF⟩ := hpost.no
  unfold GUs fsV at hG
  dsimp only at hG
  subst hG
  have hE1 := hF.cell (b := (w.heap.size + 1)) (by omega) HE.out.1
  have hE2 := (World.frozen?_of_block (a := ⟨(w.heap.size + 1), 0, none⟩) (hF.blk (w.heap.size + 1) (by omega) (by omega))).trans HE.out.2
  have hE3 := hF.cell (b := (w.heap.size + 1 + 1)) (by omega) HFB.out.1
  have hE4 := (World.frozen?_of_block (a := ⟨(w.heap.size + 1 + 1), 0, none⟩) (hF.blk (w.heap.size + 1 + 1) (by omega) (by omega))).trans HFB.out.2
  have hN := HBX.out.fx hF (by omega)
  have hcp := catchS_panicking w.heap.size (w.heap.size + 1) (w.heap.size + 1 + 1) q1 q2 w1 _ _ _ _ _ _ _ hN hE1 hE2 hE3 hE4 (by omega) (by omega) (by omega)
  have HBW : Hid (Below w.heap.size w w1) := below_fx HB4.out hF (by omega) (by omega)
  have HN : Hid (Box5 w1 w.heap.size (.int .i64 0) (.string ⟨#[]⟩) (.int .i64 0) (.int .i64 0) (.slice none 0 0)) := hN
  have HE1 : Hid _ := hE1
  have HE3 : Hid _ := hE3
  clear hpost hE1 hE2 hE3 hE4 hN HBX HE HFB hF HB4 hs4
  go_wp2
  refine leaves_cons (f := 21) (args := #[.pointer (some ⟨w.heap.size, 0, none⟩), .pointer (some ⟨(w.heap.size + 1), 0, none⟩), .pointer (some ⟨(w.heap.size + 1 + 1), 0, none⟩)]) (by simp) (by simp [go_sem]) ?_
  refine hcp.mono ?_
  rintro e u' w'' ⟨rfl, rfl, w2, hb2, rfl⟩
  clear hcp
  obtain ⟨z0, z1, z2, z3, z4, _, _, _, _, _⟩ := ((own5 (HN.out.below hb2) (.int .i64 0) (.string ⟨#[]⟩) (.int .i64 0) (.int .i64 0) (.slice none 0 0)).far (w.heap.size + 1) 0 (.int .i64 (q1 : Nat)) (by omega)).far (w.heap.size + 1 + 1) 0 (.int .i64 q2) (by omega)
  have y1 : (((set5 w2 w.heap.size 0 (.int .i64 0) (.string ⟨#[]⟩) (.int .i64 0) (.int .i64 0) (.slice none 0 0)).setCell ⟨(w.heap.size + 1), 0, none⟩ (.int .i64 (q1 : Nat))).setCell ⟨(w.heap.size + 1 + 1), 0, none⟩ (.int .i64 q2)).cell? ⟨(w.heap.size + 1), 0, none⟩ = some (.int .i64 (q1 : Nat)) := by
   rw [World.cell?_setCell_far _ _ _ _ (show ((w.heap.size + 1 + 1) : Nat) ≠ (w.heap.size + 1) by omega)]
   refine sc_eq (u := .int .i64 0) ?_
   rw [set5_far _ _ _ _ _ _ _ _ _ _ (by omega)]
   exact cell_below hb2 HE1.out
  have y2 : (((set5 w2 w.heap.size 0 (.int .i64 0) (.string ⟨#[]⟩) (.int .i64 0) (.int .i64 0) (.slice none 0 0)).setCell ⟨(w.heap.size + 1), 0, none⟩ (.int .i64 (q1 : Nat))).setCell ⟨(w.heap.size + 1 + 1), 0, none⟩ (.int .i64 q2)).cell? ⟨(w.heap.size + 1 + 1), 0, none⟩ = some (.int .i64 q2) := by
   refine sc_eq (u := .int .i64 0) ?_
   rw [World.cell?_setCell_far _ _ _ _ (show ((w.heap.size + 1) : Nat) ≠ (w.heap.size + 1 + 1) by omega), set5_far _ _ _ _ _ _ _ _ _ _ (by omega)]
   exact cell_below hb2 HE3.out
  have HFin : Hid (Below w.heap.size w (((set5 w2 w.heap.size 0 (.int .i64 0) (.string ⟨#[]⟩) (.int .i64 0) (.int .i64 0) (.slice none 0 0)).setCell ⟨(w.heap.size + 1), 0, none⟩ (.int .i64 (q1 : Nat))).setCell ⟨(w.heap.size + 1 + 1), 0, none⟩ (.int .i64 q2))) := ((set5_below (HBW.out.trans (hb2.mono HBW.out.size)) w.heap.size 0 _ _ _ _ _ (Nat.le_refl _)).setCell (p := ⟨(w.heap.size + 1), 0, none⟩) (by show _ ≤ (w.heap.size + 1); omega) _).setCell (p := ⟨(w.heap.size + 1 + 1), 0, none⟩) (by show _ ≤ (w.heap.size + 1 + 1); omega) _
  show ∃ v, _ ∧ _
  clear hb2 HN HE1 HE3 HBW
  generalize (((set5 w2 w.heap.size 0 (.int .i64 0) (.string ⟨#[]⟩) (.int .i64 0) (.int .i64 0) (.slice none 0 0)).setCell ⟨(w.heap.size + 1), 0, none⟩ (.int .i64 (q1 : Nat))).setCell ⟨(w.heap.size + 1 + 1), 0, none⟩ (.int .i64 q2)) = wf at z0 z1 z2 z3 z4 y1 y2 HFin ⊢
  refine ⟨.tuple #[.agg #[.int .i64 0, .string ⟨#[]⟩, .int .i64 0, .int .i64 0, .slice none 0 0], .int .i64 (q1 : Nat), .int .i64 q2], by simp [results, Tryz.results13, go_sem, z0, z1, z2, z3, z4, y1, y2], ?_⟩
  exact ⟨rfl, HFin.out⟩
 | inr q =>
  obtain ⟨x, j⟩ := q
  obtain ⟨⟨⟨v, rfl, s1, c1, rfl, hx⟩, hr1⟩, hF⟩ := hpost.ok
  dsimp only at hx hr1
  rw [hs4] at hx
  have hN := HBX.out.fx hF (by omega)
  have HV : Hid (Box5 (set5 w1 w.heap.size 0 (.int .i64 (xk x)) (.string (bsA (xt x))) (.int .i64 (xn x)) (.int .i64 (xa x)) (.slice s1 (xl x) c1)).drew w.heap.size (.int .i64 (xk x)) (.string (bsA (xt x))) (.int .i64 (xn x)) (.int .i64 (xa x)) (.slice s1 (xl x) c1)) := (own5 hN (.int .i64 (xk x)) (.string (bsA (xt x))) (.int .i64 (xn x)) (.int .i64 (xa x)) (.slice s1 (xl x) c1)).drew
  have HRJ : Hid ((set5 w1 w.heap.size 0 (.int .i64 (xk x)) (.string (bsA (xt x))) (.int .i64 (xn x)) (.int .i64 (xa x)) (.slice s1 (xl x) c1)).drew.cell? ⟨(w.heap.size + 1 + 1 + 1), 1, none⟩ = some (.int .i64 (j : Nat))) := cell_below (Below.refl _ _).drew ((set5_far w1 w.heap.size 0 _ _ _ _ _ (w.heap.size + 1 + 1 + 1) 1 (by omega)).trans hr1.c1)
  have HE1 : Hid ((set5 w1 w.heap.size 0 (.int .i64 (xk x)) (.string (bsA (xt x))) (.int .i64 (xn x)) (.int .i64 (xa x)) (.slice s1 (xl x) c1)).drew.cell? ⟨(w.heap.size + 1), 0, none⟩ = some (.int .i64 0)) := cell_below (Below.refl _ _).drew ((set5_far w1 w.heap.size 0 _ _ _ _ _ (w.heap.size + 1) 0 (by omega)).trans (hF.cell (by omega) HE.out.1))
  have HE2 : Hid ((set5 w1 w.heap.size 0 (.int .i64 (xk x)) (.string (bsA (xt x))) (.int .i64 (xn x)) (.int .i64 (xa x)) (.slice s1 (xl x) c1)).drew.frozen? ⟨(w.heap.size + 1), 0, none⟩ = false) := fz_drew ((set5_frozen w1 w.heap.size 0 _ _ _ _ _ _).trans ((World.frozen?_of_block (a := ⟨(w.heap.size + 1), 0, none⟩) (hF.blk (w.heap.size + 1) (by omega) (by omega))).trans HE.out.2))
  have HE3 : Hid ((set5 w1 w.heap.size 0 (.int .i64 (xk x)) (.string (bsA (xt x))) (.int .i64 (xn x)) (.int .i64 (xa x)) (.slice s1 (xl x) c1)).drew.cell? ⟨(w.heap.size + 1 + 1), 0, none⟩ = some (.int .i64 0)) := cell_below (Below.refl _ _).drew ((set5_far w1 w.heap.size 0 _ _ _ _ _ (w.heap.size + 1 + 1) 0 (by omega)).trans (hF.cell (by omega) HFB.out.1))
  have HE4 : Hid ((set5 w1 w.heap.size 0 (.int .i64 (xk x)) (.string (bsA (xt x))) (.int .i64 (xn x)) (.int .i64 (xa x)) (.slice s1 (xl x) c1)).drew.frozen? ⟨(w.heap.size + 1 + 1), 0, none⟩ = false) := fz_drew ((set5_frozen w1 w.heap.size 0 _ _ _ _ _ _).trans ((World.frozen?_of_block (a := ⟨(w.heap.size + 1 + 1), 0, none⟩) (hF.blk (w.heap.size + 1 + 1) (by omega) (by omega))).trans HFB.out.2))
  have HX : Hid (XAt (w.heap.size + 4) (set5 w1 w.heap.size 0 (.int .i64 (xk x)) (.string (bsA (xt x))) (.int .i64 (xn x)) (.int .i64 (xa x)) (.slice s1 (xl x) c1)).drew x s1) := XAt.below (NdF.keep (Nat.le_refl _) (fun b hb _ => set5_heap _ _ _ _ _ _ _ _ _ (show b ≠ w.heap.size by omega)) hx) (Below.refl _ _).drew
  have HBV : Hid (Below w.heap.size w (set5 w1 w.heap.size 0 (.int .i64 (xk x)) (.string (bsA (xt x))) (.int .i64 (xn x)) (.int .i64 (xa x)) (.slice s1 (xl x) c1)).drew) := (set5_below (below_fx HB4.out hF (by omega) (by omega)) w.heap.size 0 _ _ _ _ _ (Nat.le_refl _)).drew
  obtain ⟨d0, d1, d2, d3, d4, g0, g1, g2, g3, g4⟩ := hN
  clear hpost hx hr1 hF HBX HE HFB HB4 hs4
  unfold xV nV
  go_wp2_with fail
  clear d0 d1 d2 d3 d4 g0 g1 g2 g3 g4
  refine wp_region_held_drew (S := (fun wS => Box5 wS w.heap.size (.int .i64 (xk x)) (.string (bsA (xt x))) (.int .i64 (xn x)) (.int .i64 (xa x)) (.slice s1 (xl x) c1) ∧ wS.cell? ⟨(w.heap.size + 1 + 1 + 1), 1, none⟩ = some (.int .i64 (j : Nat)))) (by kernel_rfl) ?_ (fun hHeld => ?_)
  · (try dsimp only); exact ⟨HV.out, HRJ.out⟩
  refine tk 0 (some 30) (v := ?_) rfl ?_ ?_ (hQ := fun c a w h => leaves_cong (f13_put 30 (by decide) _ a) _ _ _ h)
  rotate_left
  · intro wS hSw; (try dsimp only at hSw); have y0 := hSw.1.c0; have y1 := hSw.1.c1; have y2 := hSw.1.c2; have y3 := hSw.1.c3; have y4 := hSw.1.c4; go_simp; (try with_reducible rfl)
  try simp only [Act.put, List.setIfInBounds_toArray, List.set_cons_zero, List.set_cons_succ]
  refine tk 1 (some 31) (v := ?_) rfl ?_ ?_ (hQ := fun c a w h => leaves_cong (f13_put 31 (by decide) _ a) _ _ _ h)
  rotate_left
  · intro wS hSw; (try dsimp only at hSw); go_simp; (try with_reducible rfl)
  try simp only [Act.put, List.setIfInBounds_toArray, List.set_cons_zero, List.set_cons_succ]
  refine tk 2 (some 32) (v := ?_) rfl ?_ ?_ (hQ := fun c a w h => leaves_cong (f13_put 32 (by decide) _ a) _ _ _ h)
  rotate_left
  · intro wS hSw; (try dsimp only at hSw); go_simp; (try with_reducible rfl)
  try simp only [Act.put, List.setIfInBounds_toArray, List.set_cons_zero, List.set_cons_succ]
  refine tk 3 (some 33) (v := ?_) rfl ?_ ?_ (hQ := fun c a w h => leaves_cong (f13_put 33 (by decide) _ a) _ _ _ h)
  rotate_left
  · intro wS hSw; (try dsimp only at hSw); go_simp; (try with_reducible rfl)
  try simp only [Act.put, List.setIfInBounds_toArray, List.set_cons_zero, List.set_cons_succ]
  refine tk 4 (some 34) (v := ?_) rfl ?_ ?_ (hQ := fun c a w h => leaves_cong (f13_put 34 (by decide) _ a) _ _ _ h)
  rotate_left
  · intro wS hSw; (try dsimp only at hSw); have y0 := hSw.2; go_simp; (try with_reducible rfl)
  try simp only [Act.put, List.setIfInBounds_toArray, List.set_cons_zero, List.set_cons_succ]
  have hfold : ∀ v0 v1 v2 v3 v4 : Value, ((((w1.setCell ⟨w.heap.size, 0, none⟩ v0).setCell ⟨w.heap.size, 1, none⟩ v1).setCell ⟨w.heap.size, 2, none⟩ v2).setCell ⟨w.heap.size, 3, none⟩ v3).setCell ⟨w.heap.size, 4, none⟩ v4 = set5 w1 w.heap.size 0 v0 v1 v2 v3 v4 := fun _ _ _ _ _ => rfl
  rw [hfold]
  clear hfold
  generalize (set5 w1 w.heap.size 0 (.int .i64 (xk x)) (.string (bsA (xt x))) (.int .i64 (xn x)) (.int .i64 (xa x)) (.slice s1 (xl x) c1)).drew = v0 at HV HRJ HE1 HE2 HE3 HE4 HX HBV ⊢
  refine wpAnyH_ready (rs := [5]) (by kernel_rfl) (by simp) ?_
  refine AllReadyH.cons rfl (fun K hK => ?_) AllReadyH.nil
  obtain ⟨z0, z1, z2, z3, z4, f0, f1, f2, f3, f4⟩ := HV.out
  go_simp
  clear z0 z1 z2 z3 z4 f0 f1 f2 f3 f4
  have HV1 : Hid (Box5 (set5 v0 w.heap.size 0 (.int .i64 (xk x)) (.string (bsA (xt x))) (.int .i64 (xn x)) (.int .i64 (xa x)) (.slice s1 (xl x) c1)) w.heap.size (.int .i64 (xk x)) (.string (bsA (xt x))) (.int .i64 (xn x)) (.int .i64 (xa x)) (.slice s1 (xl x) c1)) := own5 HV.out (.int .i64 (xk x)) (.string (bsA (xt x))) (.int .i64 (xn x)) (.int .i64 (xa x)) (.slice s1 (xl x) c1)
  have HRJ1 : Hid ((set5 v0 w.heap.size 0 (.int .i64 (xk x)) (.string (bsA (xt x))) (.int .i64 (xn x)) (.int .i64 (xa x)) (.slice s1 (xl x) c1)).cell? ⟨(w.heap.size + 1 + 1 + 1), 1, none⟩ = some (.int .i64 (j : Nat))) := (set5_far _ _ _ _ _ _ _ _ _ _ (by omega)).trans HRJ.out
  have HE11 : Hid ((set5 v0 w.heap.size 0 (.int .i64 (xk x)) (.string (bsA (xt x))) (.int .i64 (xn x)) (.int .i64 (xa x)) (.slice s1 (xl x) c1)).cell? ⟨(w.heap.size + 1), 0, none⟩ = some (.int .i64 0)) := (set5_far _ _ _ _ _ _ _ _ _ _ (by omega)).trans HE1.out
  have HE12 : Hid ((set5 v0 w.heap.size 0 (.int .i64 (xk x)) (.string (bsA (xt x))) (.int .i64 (xn x)) (.int .i64 (xa x)) (.slice s1 (xl x) c1)).frozen? ⟨(w.heap.size + 1), 0, none⟩ = false) := (set5_frozen _ _ _ _ _ _ _ _ _).trans HE2.out
  have HE13 : Hid ((set5 v0 w.heap.size 0 (.int .i64 (xk x)) (.string (bsA (xt x))) (.int .i64 (xn x)) (.int .i64 (xa x)) (.slice s1 (xl x) c1)).cell? ⟨(w.heap.size + 1 + 1), 0, none⟩ = some (.int .i64 0)) := (set5_far _ _ _ _ _ _ _ _ _ _ (by omega)).trans HE3.out
  have HE14 : Hid ((set5 v0 w.heap.size 0 (.int .i64 (xk x)) (.string (bsA (xt x))) (.int .i64 (xn x)) (.int .i64 (xa x)) (.slice s1 (xl x) c1)).frozen? ⟨(w.heap.size + 1 + 1), 0, none⟩ = false) := (set5_frozen _ _ _ _ _ _ _ _ _).trans HE4.out
  have HX1 : Hid (XAt (w.heap.size + 4) (set5 v0 w.heap.size 0 (.int .i64 (xk x)) (.string (bsA (xt x))) (.int .i64 (xn x)) (.int .i64 (xa x)) (.slice s1 (xl x) c1)) x s1) := NdF.keep (Nat.le_refl _) (fun b hb _ => set5_heap _ _ _ _ _ _ _ _ _ (show b ≠ w.heap.size by omega)) HX.out
  have HB1 : Hid (Below w.heap.size w (set5 v0 w.heap.size 0 (.int .i64 (xk x)) (.string (bsA (xt x))) (.int .i64 (xn x)) (.int .i64 (xa x)) (.slice s1 (xl x) c1))) := set5_below HBV.out w.heap.size 0 _ _ _ _ _ (Nat.le_refl _)
  clear HRJ HE1 HE2 HE3 HE4 HX HBV
  refine hK.out _ _ ?_ (fun hHz => ?_)
  · (try dsimp only); exact ⟨HV1.out, HRJ1.out⟩
  clear hK K hHz
  try simp only [Act.put, List.setIfInBounds_toArray, List.set_cons_zero, List.set_cons_succ]
  clear HV
  have hfold : ∀ v0' v1 v2 v3 v4 : Value, ((((v0.setCell ⟨w.heap.size, 0, none⟩ v0').setCell ⟨w.heap.size, 1, none⟩ v1).setCell ⟨w.heap.size, 2, none⟩ v2).setCell ⟨w.heap.size, 3, none⟩ v3).setCell ⟨w.heap.size, 4, none⟩ v4 = set5 v0 w.heap.size 0 v0' v1 v2 v3 v4 := fun _ _ _ _ _ => rfl
  rw [hfold]
  clear hfold
  generalize (set5 v0 w.heap.size 0 (.int .i64 (xk x)) (.string (bsA (xt x))) (.int .i64 (xn x)) (.int .i64 (xa x)) (.slice s1 (xl x) c1)) = v1 at HV1 HRJ1 HE11 HE12 HE13 HE14 HX1 HB1 ⊢
  refine wpAnyH_ready (rs := [6]) (by kernel_rfl) (by simp) ?_
  refine AllReadyH.cons rfl (fun K hK => ?_) AllReadyH.nil
  have a1 := HE11.out
  have a2 := HE12.out
  go_simp
  clear a1 a2
  have HS6 : Hid (Box5 (v1.setCell ⟨(w.heap.size + 1), 0, none⟩ (.int .i64 (j : Nat))) w.heap.size (.int .i64 (xk x)) (.string (bsA (xt x))) (.int .i64 (xn x)) (.int .i64 (xa x)) (.slice s1 (xl x) c1) ∧ (v1.setCell ⟨(w.heap.size + 1), 0, none⟩ (.int .i64 (j : Nat))).cell? ⟨(w.heap.size + 1 + 1 + 1), 1, none⟩ = some (.int .i64 (j : Nat))) := ⟨HV1.out.far (w.heap.size + 1) 0 _ (by omega), (World.cell?_setCell_far _ _ _ _ (show ((w.heap.size + 1) : Nat) ≠ (w.heap.size + 1 + 1 + 1) by omega)).trans HRJ1.out⟩
  refine hK.out _ _ ?_ (fun hHz => ?_)
  · (try dsimp only); exact HS6.out
  clear hK K hHz
  try simp only [Act.put, List.setIfInBounds_toArray, List.set_cons_zero, List.set_cons_succ]
  refine wpAnyH_ready (rs := [7]) (by kernel_rfl) (by simp) ?_
  refine AllReadyH.cons rfl (fun K hK => ?_) AllReadyH.nil
  have a1 : (v1.setCell ⟨(w.heap.size + 1), 0, none⟩ (.int .i64 (j : Nat))).cell? ⟨(w.heap.size + 1 + 1), 0, none⟩ = some (.int .i64 0) := by rw [World.cell?_setCell_far _ _ _ _ (show ((w.heap.size + 1) : Nat) ≠ (w.heap.size + 1 + 1) by omega)]; exact HE13.out
  have a2 : (v1.setCell ⟨(w.heap.size + 1), 0, none⟩ (.int .i64 (j : Nat))).frozen? ⟨(w.heap.size + 1 + 1), 0, none⟩ = false := by rw [World.frozen?_setCell]; exact HE14.out
  go_simp
  clear a1 a2
  have HS7 : Hid (Box5 ((v1.setCell ⟨(w.heap.size + 1), 0, none⟩ (.int .i64 (j : Nat))).setCell ⟨(w.heap.size + 1 + 1), 0, none⟩ (.int .i64 0)) w.heap.size (.int .i64 (xk x)) (.string (bsA (xt x))) (.int .i64 (xn x)) (.int .i64 (xa x)) (.slice s1 (xl x) c1) ∧ ((v1.setCell ⟨(w.heap.size + 1), 0, none⟩ (.int .i64 (j : Nat))).setCell ⟨(w.heap.size + 1 + 1), 0, none⟩ (.int .i64 0)).cell? ⟨(w.heap.size + 1 + 1 + 1), 1, none⟩ = some (.int .i64 (j : Nat))) := ⟨HS6.out.1.far (w.heap.size + 1 + 1) 0 _ (by omega), (World.cell?_setCell_far _ _ _ _ (show ((w.heap.size + 1 + 1) : Nat) ≠ (w.heap.size + 1 + 1 + 1) by omega)).trans HS6.out.2⟩
  refine hK.out _ _ ?_ (fun hHz => ?_)
  · (try dsimp only); exact HS7.out
  clear hK K hHz
  try simp only [Act.put, List.setIfInBounds_toArray, List.set_cons_zero, List.set_cons_succ]
  refine wpAnyH_done (by kernel_rfl) ?_ _
  have hS7 := HS7.out.1
  have y1 : ((v1.setCell ⟨(w.heap.size + 1), 0, none⟩ (.int .i64 (j : Nat))).setCell ⟨(w.heap.size + 1 + 1), 0, none⟩ (.int .i64 0)).cell? ⟨(w.heap.size + 1), 0, none⟩ = some (.int .i64 (j : Nat)) := by
   rw [World.cell?_setCell_far _ _ _ _ (show ((w.heap.size + 1 + 1) : Nat) ≠ (w.heap.size + 1) by omega)]
   exact sc_eq HE11.out
  have y2 : ((v1.setCell ⟨(w.heap.size + 1), 0, none⟩ (.int .i64 (j : Nat))).setCell ⟨(w.heap.size + 1 + 1), 0, none⟩ (.int .i64 0)).cell? ⟨(w.heap.size + 1 + 1), 0, none⟩ = some (.int .i64 0) := by
   refine sc_eq (u := .int .i64 0) ?_
   rw [World.cell?_setCell_far _ _ _ _ (show ((w.heap.size + 1) : Nat) ≠ (w.heap.size + 1 + 1) by omega)]
   exact HE13.out
  have HX8 : Hid (XAt w.heap.size ((v1.setCell ⟨(w.heap.size + 1), 0, none⟩ (.int .i64 (j : Nat))).setCell ⟨(w.heap.size + 1 + 1), 0, none⟩ (.int .i64 0)) x s1) := NdF.keep (by omega) (fun b hb _ => (Below.heap_setCell _ _ _ _ (show b ≠ (w.heap.size + 1 + 1) by omega)).trans (Below.heap_setCell _ _ _ _ (show b ≠ (w.heap.size + 1) by omega))) HX1.out
  have HB8 : Hid (Below w.heap.size w ((v1.setCell ⟨(w.heap.size + 1), 0, none⟩ (.int .i64 (j : Nat))).setCell ⟨(w.heap.size + 1 + 1), 0, none⟩ (.int .i64 0))) := (HB1.out.setCell (p := ⟨(w.heap.size + 1), 0, none⟩) (by show _ ≤ (w.heap.size + 1); omega) _).setCell (p := ⟨(w.heap.size + 1 + 1), 0, none⟩) (by show _ ≤ (w.heap.size + 1 + 1); omega) _
  obtain ⟨z0, z1, z2, z3, z4, _, _, _, _, _⟩ := hS7
  clear HS6 HS7 HV1 HRJ1 HE11 HE12 HE13 HE14 HX1 HB1
  generalize ((v1.setCell ⟨(w.heap.size + 1), 0, none⟩ (.int .i64 (j : Nat))).setCell ⟨(w.heap.size + 1 + 1), 0, none⟩ (.int .i64 0)) = wf at z0 z1 z2 z3 z4 y1 y2 HX8 HB8 ⊢
  go_wp2
  refine leaves_cons (f := 21) (args := #[.pointer (some ⟨w.heap.size, 0, none⟩), .pointer (some ⟨(w.heap.size + 1), 0, none⟩), .pointer (some ⟨(w.heap.size + 1 + 1), 0, none⟩)]) (by simp) (by simp [go_sem]) ?_
  refine (catchS_idle _ _ _ wf).mono ?_
  rintro e u' w'' ⟨rfl, rfl, rfl⟩
  show ∃ v, _ ∧ _
  refine ⟨.tuple #[.agg #[.int .i64 (xk x), .string (bsA (xt x)), .int .i64 (xn x), .int .i64 (xa x), .slice s1 (xl x) c1], .int .i64 (j : Nat), .int .i64 0], by simp [results, Tryz.results13, go_sem, z0, z1, z2, z3, z4, y1, y2], ?_⟩
  exact ⟨⟨s1, c1, rfl, HX8.out⟩, HB8.out⟩
end Go.Proofs.YtgdndahhledikaaGreatDoor
