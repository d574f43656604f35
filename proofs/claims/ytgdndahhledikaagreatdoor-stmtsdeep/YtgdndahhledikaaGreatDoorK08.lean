/- Cal, Rgi. -/
import Derived.Test.YtgdndahhledikaaGreatDoorK07
namespace Go.Proofs.YtgdndahhledikaaGreatDoor
open Go.ChangeShapes Go.WideShapes Go.ChangeAt Go.RowKit
set_option linter.unusedSimpArgs false
set_option maxRecDepth 20000
set_option maxHeartbeats 4000000
def callQ (T : List Tt) (gl : Nat → Nat → Rz (List X)) (q : Tt) (i op : Nat) : Rz X :=
 if isT (tkI T (i + 1)) 6 [[41]] then bnd (needP T 6 [41] (i + 1)) fun _ j => okR (tnd 13 q []) j
 else bnd (gl (i + 1) op) fun l j => bnd (needP T 6 [41] j) fun _ j => okR (tnd 13 q l) j
theorem call_any (rb : Nat) (ta : Option Addr) (cap : Nat) (T : List Tt) (gl : Nat → Nat → Rz (List X)) (hgl : LReads rb ta cap T 234 gl) (q : Tt) (i op : Nat) (w : World) (r : Sum Er (X × Nat)) (hop : op ≤ 100) (hr : Rdr w rb ta cap T i op) (hi : i < T.length) (h : callQ T gl q i op = some r) : Calls Tryz.prog 253 #[ptr rb, ttV q] w (PPost rb ta cap T op w r) := by
 obtain ⟨⟨q1, q2, q3⟩, q4⟩ := q
 have hlt := cell_lt hr.c0
 have HG : Hid (LReads rb ta cap T 234 gl) := hgl
 have HH : Hid (callQ T gl ((q1, q2, q3), q4) i op = some r) := h
 have hT : Below w.heap.size w (w.alloc (Obj.cells #[Value.int IntKind.i64 q1, Value.string (bsA q2), Value.int IntKind.i64 q3, Value.int IntKind.i64 q4] 26)) := (Below.refl _ _).alloc (Nat.le_refl _) _
 have hC0 : Cx rb ta cap T w (w.heap.size + 1) i op ((w.alloc (Obj.cells #[Value.int IntKind.i64 q1, Value.string (bsA q2), Value.int IntKind.i64 q3, Value.int IntKind.i64 q4] 26)).alloc (Obj.cells #[Value.int IntKind.i64 0, Value.string { data := #[] }, Value.int IntKind.i64 0, Value.int IntKind.i64 0, Value.slice none 0 0] 34)) := by
  have hb : Below w.heap.size w ((w.alloc (Obj.cells #[Value.int IntKind.i64 q1, Value.string (bsA q2), Value.int IntKind.i64 q3, Value.int IntKind.i64 q4] 26)).alloc (Obj.cells #[Value.int IntKind.i64 0, Value.string { data := #[] }, Value.int IntKind.i64 0, Value.int IntKind.i64 0, Value.slice none 0 0] 34)) := hT.alloc hT.size _
  refine ⟨Fx.below hb, hr.below hb, ?_⟩
  have h := Box5.new (w.alloc (Obj.cells #[Value.int IntKind.i64 q1, Value.string (bsA q2), Value.int IntKind.i64 q3, Value.int IntKind.i64 q4] 26)) (.int .i64 0) (.string ⟨#[]⟩) (.int .i64 0) (.int .i64 0) (.slice none 0 0) 34
  rw [World.size_alloc] at h
  exact h
 have h1 := textNode_any 13 ((q1, q2, q3), q4) none 0 0 ((w.alloc (Obj.cells #[Value.int IntKind.i64 q1, Value.string (bsA q2), Value.int IntKind.i64 q3, Value.int IntKind.i64 q4] 26)).alloc (Obj.cells #[Value.int IntKind.i64 0, Value.string { data := #[] }, Value.int IntKind.i64 0, Value.int IntKind.i64 0, Value.slice none 0 0] 34))
 have HC0 : Hid (Cx rb ta cap T w (w.heap.size + 1) i op ((w.alloc (Obj.cells #[Value.int IntKind.i64 q1, Value.string (bsA q2), Value.int IntKind.i64 q3, Value.int IntKind.i64 q4] 26)).alloc (Obj.cells #[Value.int IntKind.i64 0, Value.string { data := #[] }, Value.int IntKind.i64 0, Value.int IntKind.i64 0, Value.slice none 0 0] 34))) := hC0
 unfold ptr ttV
 unfold ttV nV at h1
 dsimp only at h1 ⊢
 clear hr h hgl hT hC0
 go_enter Tryz.func253, Tryz.ntmps253
 go_wp2_with fail
 refine h1.mono ?_
 rintro e w1 ⟨rfl, hb1⟩
 clear h1
 have HC1 : Hid (Cx rb ta cap T w (w.heap.size + 1) i op (w1.alloc (Obj.cells #[Value.int IntKind.i64 13, Value.string (bsA q2), Value.int IntKind.i64 0, Value.int IntKind.i64 q4, Value.slice none 0 0] 34))) := (HC0.out.below hb1).alloc _
 have hs1 : w.heap.size + 2 ≤ w1.heap.size := by have h := hb1.size; simp at h; omega
 have HB1 : Hid (Box5 (w1.alloc (Obj.cells #[Value.int IntKind.i64 13, Value.string (bsA q2), Value.int IntKind.i64 0, Value.int IntKind.i64 q4, Value.slice none 0 0] 34)) w1.heap.size (.int .i64 13) (.string (bsA q2)) (.int .i64 0) (.int .i64 q4) (.slice none 0 0)) := Box5.new w1 _ _ _ _ _ 34
 have h2 := take_any rb ta cap T i op (w1.alloc (Obj.cells #[Value.int IntKind.i64 13, Value.string (bsA q2), Value.int IntKind.i64 0, Value.int IntKind.i64 q4, Value.slice none 0 0] 34)) HC1.out.rdr hi
 unfold ptr at h2
 clear hb1 HC0
 go_wp2_with fail
 refine h2.mono ?_
 rintro e w2 ⟨rfl, hr2, hf2⟩
 clear h2
 have HC2 : Hid (Cx rb ta cap T w (w.heap.size + 1) (i + 1) op w2) := HC1.out.step hf2 hr2 (by omega)
 have HB2 : Hid (Box5 w2 w1.heap.size (.int .i64 13) (.string (bsA q2)) (.int .i64 0) (.int .i64 q4) (.slice none 0 0)) := HB1.out.fx hf2 (by omega)
 have hn2 : w1.heap.size < w2.heap.size := cell_lt HB2.out.c0
 have h3 := sees_new rb ta cap T (i + 1) op 6 #[.string ⟨#[41]⟩] [[41]] rfl (by decide) 1 1 rfl w2 hr2
 unfold ptr at h3
 clear hr2 hf2 HC1 HB1 hi
 generalize tkI T i = tq
 obtain ⟨⟨u1, u2, u3⟩, u4⟩ := tq
 unfold ttV
 dsimp only
 cases hb : isT (tkI T (i + 1)) 6 [[41]] with
 | true =>
  rw [hb] at h3
  have HL : Hid (bnd (needP T 6 [41] (i + 1)) (fun _ j => okR (mkX 13 q2 0 q4 []) j) = some r) := by
   have h := HH.out
   unfold callQ at h
   rw [if_pos hb] at h
   exact h
  clear HH hb HG
  go_wp2_with fail
  refine h3.mono ?_
  rintro e w3 ⟨rfl, hb3⟩
  clear h3
  have HC : Hid (Cx rb ta cap T w (w.heap.size + 1) (i + 1) op w3) := HC2.out.below hb3
  have HB : Hid (Box5 w3 w1.heap.size (.int .i64 13) (.string (bsA q2)) (.int .i64 0) (.int .i64 q4) (.slice none 0 0)) := HB2.out.below hb3
  clear HC2 HB2 hb3
  obtain ⟨j, hj⟩ : ∃ j, j = i + 1 := ⟨_, rfl⟩
  rw [← hj] at HC HL
  clear hj
  obtain ⟨r5, e5, h5⟩ := need_any rb ta cap T j op 6 [41] (by decide) _ HC.out.rdr
  unfold ptr at h5
  have HL5 : Hid (bnd (some r5) (fun _ j => okR (mkX 13 q2 0 q4 []) j) = some r) := by
   have h : bnd (needP T 6 [41] j) (fun _ j => okR (mkX 13 q2 0 q4 []) j) = some r := HL.out
   rw [e5] at h
   exact h
  clear e5
  go_wp2_with fail
  refine h5.mono ?_
  intro e w5 hpost
  clear h5
  cases r5 with
  | inl q =>
   obtain ⟨hG, hF⟩ := hpost.no
   unfold GUp at hG
   subst hG
   have HRR : Hid (r = .inl q) := (Option.some.inj HL5.out).symm
   have HF : Hid _ := HC.out.fx.trans hF
   clear hpost hF
   go_wp2
   exact ⟨rfl, by rw [HRR.out]; exact ⟨rfl, HF.out⟩⟩
  | inr q =>
   obtain ⟨t5, j5⟩ := q
   obtain ⟨⟨rfl, hr5⟩, hF5⟩ := hpost.ok
   dsimp only at hr5
   have HRR : Hid (r = .inr ((mkX 13 q2 0 q4 []), j5)) := (Option.some.inj HL5.out).symm
   have hC := HC.out.step hF5 hr5 (by omega)
   have HFin : Hid _ := Cx.retn (k := 13) (t := q2) (m := 0) (a := q4) (n := 0) 0 rfl hC ((XSt.leaf (w := w3) 13 q2 0 q4 none).fx hF5) (by omega) hlt
   obtain ⟨b0, b1, b2, b3, b4, _, _, _, _, _⟩ := HB.out.fx hF5 (by omega)
   obtain ⟨z0, z1, z2, z3, z4, f0, f1, f2, f3, f4⟩ := own5 hC.res (.int .i64 13) (.string (bsA q2)) (.int .i64 0) (.int .i64 q4) (.slice none 0 0)
   obtain ⟨d0, d1, d2, d3, d4, g0, g1, g2, g3, g4⟩ := hC.res
   clear hC hpost hr5 hF5 HC HB HL5
   unfold ttV
   go_wp2
   refine bodyPost_ret (v := .agg #[.int .i64 13, .string (bsA q2), .int .i64 0, .int .i64 q4, (.slice none 0 0)]) (by unfold set5 at z0 z1 z2 z3 z4; simp [results, Tryz.results253, go_sem, z0, z1, z2, z3, z4]) rfl ?_
   rw [HRR.out]
   exact HFin.out
 | false =>
  rw [hb] at h3
  obtain ⟨r4, e4, hl4⟩ := bnd_some (show bnd (gl (i + 1) op) (fun l j => bnd (needP T 6 [41] j) fun _ j => okR (mkX 13 q2 0 q4 l) j) = some r by
   have h := HH.out
   unfold callQ at h
   rw [if_neg (by rw [hb]; decide)] at h
   exact h)
  have HL4 : Hid (bnd (some r4) (fun l j => bnd (needP T 6 [41] j) fun _ j => okR (mkX 13 q2 0 q4 l) j) = some r) := hl4
  have HE4 : Hid (gl (i + 1) op = some r4) := e4
  clear HH hb e4 hl4
  go_wp2_with fail
  refine h3.mono ?_
  rintro e w3 ⟨rfl, hb3⟩
  clear h3
  have HC3 : Hid (Cx rb ta cap T w (w.heap.size + 1) (i + 1) op w3) := HC2.out.below hb3
  have HB3 : Hid (Box5 w3 w1.heap.size (.int .i64 13) (.string (bsA q2)) (.int .i64 0) (.int .i64 q4) (.slice none 0 0)) := HB2.out.below hb3
  have hn3 : w1.heap.size < w3.heap.size := cell_lt HB3.out.c0
  have h4 := HG.out (i + 1) op w3 r4 hop HC3.out.rdr HE4.out
  unfold ptr at h4
  clear HC2 HB2 hb3 HE4 HG
  go_wp2_with fail
  refine h4.mono ?_
  intro e w4 hpost
  clear h4
  cases r4 with
  | inl q =>
   obtain ⟨hG, hF⟩ := hpost.no
   unfold GUp at hG
   subst hG
   have HRR : Hid (r = .inl q) := (Option.some.inj HL4.out).symm
   have HF : Hid _ := HC3.out.fx.trans hF
   clear hpost hF
   go_wp2
   exact ⟨rfl, by rw [HRR.out]; exact ⟨rfl, HF.out⟩⟩
  | inr q =>
   obtain ⟨l, j⟩ := q
   obtain ⟨⟨⟨g, c, A, rfl, hA, hO⟩, hr4⟩, hF4⟩ := hpost.ok
   dsimp only at hA hr4
   subst hA
   have hg := hO.lt
   have hs3 := HC3.out.fx.size
   have HC : Hid (Cx rb ta cap T w (w.heap.size + 1) j op (w4.setCell ⟨w1.heap.size, 4, none⟩ (.slice (some ⟨g, 0, none⟩) A.length c))) := (HC3.out.step hF4 hr4 (by omega)).set w1.heap.size 4 _ (by omega) (by omega) (by omega)
   have hB4 := HB3.out.fx hF4 (by omega)
   have HB : Hid (Box5 (w4.setCell ⟨w1.heap.size, 4, none⟩ (.slice (some ⟨g, 0, none⟩) A.length c)) w1.heap.size (.int .i64 13) (.string (bsA q2)) (.int .i64 0) (.int .i64 q4) (.slice (some ⟨g, 0, none⟩) A.length c)) := hB4.put4 _
   have HX : Hid (XSt rb (w.heap.size + 1) w.heap.size (w4.setCell ⟨w1.heap.size, 4, none⟩ (.slice (some ⟨g, 0, none⟩) A.length c)) (mkX 13 q2 0 q4 (A.map (·.1))) (some ⟨g, 0, none⟩)) := by
    have hx4 : XAt w3.heap.size w4 (mkX 13 q2 0 q4 (A.map (·.1))) (some ⟨g, 0, none⟩) := hO.tree (zb := w.heap.size + 1) 13 q2 0 q4 (by omega) (hO.apart (by omega) (Nat.le_refl _) (by omega)) (by omega) w4 (fun _ _ _ _ => rfl)
    exact XSt.new (NdF.keep (Nat.le_refl _) (fun b hb _ => Below.heap_setCell _ _ _ _ (show b ≠ w1.heap.size by omega)) hx4) (by omega) hs3 (by omega)
   have HL : Hid (bnd (needP T 6 [41] j) (fun _ j => okR (mkX 13 q2 0 q4 (A.map (·.1))) j) = some r) := HL4.out
   obtain ⟨y0, y1, y2, y3, y4, k0, k1, k2, k3, k4⟩ := hB4
   clear hpost hO hr4 hF4 HL4 HC3 HB3
   obtain ⟨la, hla⟩ : ∃ la, A.length = la := ⟨_, rfl⟩
   have HLA : Hid (A.length = la) := hla
   rw [hla] at HC HB HX ⊢
   clear hla
   obtain ⟨r5, e5, h5⟩ := need_any rb ta cap T j op 6 [41] (by decide) _ HC.out.rdr
   unfold ptr at h5
   have HL5 : Hid (bnd (some r5) (fun _ j => okR (mkX 13 q2 0 q4 (A.map (·.1))) j) = some r) := by
    have h : bnd (needP T 6 [41] j) (fun _ j => okR (mkX 13 q2 0 q4 (A.map (·.1))) j) = some r := HL.out
    rw [e5] at h
    exact h
   clear e5
   go_wp2_with fail
   refine h5.mono ?_
   intro e w5 hpost
   clear h5
   cases r5 with
   | inl q =>
    obtain ⟨hG, hF⟩ := hpost.no
    unfold GUp at hG
    subst hG
    have HRR : Hid (r = .inl q) := (Option.some.inj HL5.out).symm
    have HF : Hid _ := HC.out.fx.trans hF
    clear hpost hF
    go_wp2
    exact ⟨rfl, by rw [HRR.out]; exact ⟨rfl, HF.out⟩⟩
   | inr q =>
    obtain ⟨t5, j5⟩ := q
    obtain ⟨⟨rfl, hr5⟩, hF5⟩ := hpost.ok
    dsimp only at hr5
    have HRR : Hid (r = .inr ((mkX 13 q2 0 q4 (A.map (·.1))), j5)) := (Option.some.inj HL5.out).symm
    have hC := HC.out.step hF5 hr5 (by omega)
    have HFin : Hid _ := Cx.retn (k := 13) (t := q2) (m := 0) (a := q4) (n := la) c (by rw [List.length_map]; exact HLA.out) hC ((HX.out).fx hF5) (by omega) hlt
    obtain ⟨b0, b1, b2, b3, b4, _, _, _, _, _⟩ := HB.out.fx hF5 (by omega)
    obtain ⟨z0, z1, z2, z3, z4, f0, f1, f2, f3, f4⟩ := own5 hC.res (.int .i64 13) (.string (bsA q2)) (.int .i64 0) (.int .i64 q4) (.slice (some ⟨g, 0, none⟩) la c)
    obtain ⟨d0, d1, d2, d3, d4, g0, g1, g2, g3, g4⟩ := hC.res
    clear hC hpost hr5 hF5 HC HB HL5
    unfold ttV
    go_wp2
    refine bodyPost_ret (v := .agg #[.int .i64 13, .string (bsA q2), .int .i64 0, .int .i64 q4, (.slice (some ⟨g, 0, none⟩) la c)]) (by unfold set5 at z0 z1 z2 z3 z4; simp [results, Tryz.results253, go_sem, z0, z1, z2, z3, z4]) rfl ?_
    rw [HRR.out]
    exact HFin.out
end Go.Proofs.YtgdndahhledikaaGreatDoor
namespace Go.Proofs.YtgdndahhledikaaGreatDoor
open Go.ChangeShapes Go.WideShapes Go.ChangeAt Go.RowKit
set_option linter.unusedSimpArgs false
set_option maxRecDepth 20000
set_option maxHeartbeats 4000000
structure RgI (rb : Nat) (ta : Option Addr) (cap : Nat) (T : List Tt) (w : World) (zb l2 i op : Nat) (o : Obj) (nb gb : Option Nat) (W : World) : Prop where
 cx : Cx rb ta cap T w zb i op W
 sz : l2 ≤ W.heap.size
 nbx : ∀ b, nb = some b → Box5 W b (.int .i64 0) (.string ⟨#[]⟩) (.int .i64 0) (.int .i64 0) (.slice none 0 0) ∧ l2 ≤ b
 gbx : ∀ b, gb = some b → W.heap[b]? = some o ∧ l2 ≤ b ∧ ∀ n, nb = some n → n ≠ b
theorem RgI.start {rb : Nat} {ta : Option Addr} {cap : Nat} {T : List Tt} {w : World} {zb l2 i op : Nat} {o : Obj} {W : World} (h : Cx rb ta cap T w zb i op W) (hl : l2 ≤ W.heap.size) : RgI rb ta cap T w zb l2 i op o none none W := ⟨h, hl, (fun _ h => by cases h), (fun _ h => by cases h)⟩
theorem RgI.fx {rb : Nat} {ta : Option Addr} {cap : Nat} {T : List Tt} {w : World} {zb l2 i op : Nat} {o : Obj} {nb gb : Option Nat} {W W' : World} {j op' : Nat} (h : RgI rb ta cap T w zb l2 i op o nb gb W) (hf : Fx rb W W') (hr : Rdr W' rb ta cap T j op') (hz : rb < zb) (hl : rb < l2) : RgI rb ta cap T w zb l2 j op' o nb gb W' := by
 refine ⟨h.cx.step hf hr hz, Nat.le_trans h.sz hf.size, fun b hb => ?_, fun b hb => ?_⟩
 ·
  obtain ⟨h1, h2⟩ := h.nbx b hb
  exact ⟨h1.fx hf (by omega), h2⟩
 ·
  obtain ⟨h1, h2, h3⟩ := h.gbx b hb
  exact ⟨(hf.blk b (heap_lt h1) (by omega)).trans h1, h2, h3⟩
theorem RgI.below {rb : Nat} {ta : Option Addr} {cap : Nat} {T : List Tt} {w : World} {zb l2 i op : Nat} {o : Obj} {nb gb : Option Nat} {W W' : World} (h : RgI rb ta cap T w zb l2 i op o nb gb W) (hb : Below W.heap.size W W') (hz : rb < zb) (hl : rb < l2) : RgI rb ta cap T w zb l2 i op o nb gb W' := h.fx (Fx.below hb) (h.cx.rdr.below hb) hz hl
theorem RgI.new {rb : Nat} {ta : Option Addr} {cap : Nat} {T : List Tt} {w : World} {zb l2 i op : Nat} {o : Obj} {gb : Option Nat} {W : World} {m : Nat} (h : RgI rb ta cap T w zb l2 i op o none gb W) (hm : W.heap.size = m) (hz : rb < zb) (hl : rb < l2) : RgI rb ta cap T w zb l2 i op o (some m) gb (W.alloc (Obj.cells #[Value.int IntKind.i64 0, Value.string { data := #[] }, Value.int IntKind.i64 0, Value.int IntKind.i64 0, Value.slice none 0 0] 34)) := by
 subst hm
 have hb : Below W.heap.size W (W.alloc (Obj.cells #[Value.int IntKind.i64 0, Value.string { data := #[] }, Value.int IntKind.i64 0, Value.int IntKind.i64 0, Value.slice none 0 0] 34)) := (Below.refl _ _).alloc (Nat.le_refl _) _
 have h' := h.below hb hz hl
 refine ⟨h'.cx, h'.sz, fun b e => ?_, fun b e => ?_⟩
 ·
  cases e
  exact ⟨Box5.new W _ _ _ _ _ 34, h.sz⟩
 ·
  obtain ⟨h1, h2, _⟩ := h'.gbx b e
  refine ⟨h1, h2, fun n hn => ?_⟩
  cases hn
  have := heap_lt (h.gbx b e).1
  omega
theorem RgI.row {rb : Nat} {ta : Option Addr} {cap : Nat} {T : List Tt} {w : World} {zb l2 i op : Nat} {o : Obj} {nb : Option Nat} {W : World} {m : Nat} (h : RgI rb ta cap T w zb l2 i op o nb none W) (hm : W.heap.size = m) (hz : rb < zb) (hl : rb < l2) : RgI rb ta cap T w zb l2 i op o nb (some m) (W.alloc o) := by
 subst hm
 have hb : Below W.heap.size W (W.alloc o) := (Below.refl _ _).alloc (Nat.le_refl _) _
 have h' := h.below hb hz hl
 refine ⟨h'.cx, h'.sz, h'.nbx, fun b e => ?_⟩
 cases e
 refine ⟨heap_alloc_new W _, h.sz, fun n hn => ?_⟩
 have := cell_lt (h.nbx n hn).1.c0
 omega
theorem Cx.set5 {rb : Nat} {ta : Option Addr} {cap : Nat} {T : List Tt} {w : World} {zb i op : Nat} {wr : World} (h : Cx rb ta cap T w zb i op wr) (b o : Nat) (u0 u1 u2 u3 u4 : Value) (hb : w.heap.size ≤ b) (hr : rb < b) (hz : b ≠ zb) : Cx rb ta cap T w zb i op (set5 wr b o u0 u1 u2 u3 u4) :=
 ((((h.set b o u0 hb hr hz).set b (o + 1) u1 hb hr hz).set b (o + 2) u2 hb hr hz).set b (o + 3) u3 hb hr hz).set b (o + 4) u4 hb hr hz
structure RgO (rb : Nat) (ta : Option Addr) (cap : Nat) (T : List Tt) (w : World) (zb l2 i op : Nat) (o : Obj) (nb gb : Nat) (u0 u1 u2 u3 u4 : Value) (W : World) : Prop where
 cx : Cx rb ta cap T w zb i op W
 box : Box5 W nb u0 u1 u2 u3 u4
 row : W.heap[gb]? = some o
 nl : l2 ≤ nb
 gl : l2 ≤ gb
 ne : nb ≠ gb
theorem RgI.put {rb : Nat} {ta : Option Addr} {cap : Nat} {T : List Tt} {w : World} {zb l2 i op : Nat} {o : Obj} {nb gb : Nat} {W : World} (h : RgI rb ta cap T w zb l2 i op o (some nb) (some gb) W) (u0 u1 u2 u3 u4 : Value) (hz : zb < l2) (hr : rb < l2) (hw : w.heap.size ≤ l2) : RgO rb ta cap T w zb l2 i op o nb gb u0 u1 u2 u3 u4 (Go.Proofs.YtgdndahhledikaaGreatDoor.set5 W nb 0 u0 u1 u2 u3 u4) := by
 obtain ⟨h1, h2⟩ := h.nbx nb rfl
 obtain ⟨h3, h4, h5⟩ := h.gbx gb rfl
 have h6 := h5 nb rfl
 exact ⟨h.cx.set5 _ _ _ _ _ _ _ (by omega) (by omega) (by omega), own5 h1 _ _ _ _ _, (set5_heap _ _ _ _ _ _ _ _ _ (by omega)).trans h3, h2, h4, h6⟩
theorem OwX.of {rb lo : Nat} {W : World} {g : Nat} {A : List Xp} {cs : Array Value} (hh : W.heap[g]? = some (.cells cs 34)) (hlo : lo ≤ g) (hn : A.length ≤ 1000) (hk : ∀ p ∈ A, XSt rb g lo W p.1 p.2.1) (hcs : cs.toList = xC A) : OwX rb lo W g A.length A := by
 refine ⟨⟨xC_len A, Or.inr ⟨g, A.length, cs, rfl, hlo, hh, Nat.le_refl _, by unfold maxLen; omega, ?_, ?_⟩⟩, hk⟩
 · rw [← Array.length_toList, hcs, xC_len]
 · rw [hcs, ← xC_len, List.take_length]
theorem XAt.was {rb lo zb : Nat} {w W : World} {x : X} {s : Option Addr} (h : XAt lo w x s) (hf : Fx rb w W) (hr : rb < lo) (hz : w.heap.size ≤ zb) : XSt rb zb lo W x s := fun w' hk => NdF.keep (Nat.le_refl _) (fun b hb hl => (hk b (Nat.lt_of_lt_of_le hl hf.size) (by omega) (by omega)).trans (hf.blk b hl (by omega))) h
def QPost (lo rb : Nat) (ta : Option Addr) (cap : Nat) (T : List Tt) (op : Nat) (w : World) (r : Sum Er (X × Nat)) (e : Ending) (w' : World) : Prop :=
 (match r with
  | .inl q => GUp q.1 q.2 e
  | .inr q => (∃ s c, e = .returned (xV q.1 s c) ∧ XAt lo w' q.1 s) ∧ Rdr w' rb ta cap T q.2 op) ∧ Fx rb w w'
theorem QPost.no {lo rb : Nat} {ta : Option Addr} {cap : Nat} {T : List Tt} {op : Nat} {w w' : World} {q : Er} {e : Ending} (h : QPost lo rb ta cap T op w (.inl q) e w') : GUp q.1 q.2 e ∧ Fx rb w w' := h
theorem QPost.ok {lo rb : Nat} {ta : Option Addr} {cap : Nat} {T : List Tt} {op : Nat} {w w' : World} {q : X × Nat} {e : Ending} (h : QPost lo rb ta cap T op w (.inr q) e w') : ((∃ s c, e = .returned (xV q.1 s c) ∧ XAt lo w' q.1 s) ∧ Rdr w' rb ta cap T q.2 op) ∧ Fx rb w w' := h
end Go.Proofs.YtgdndahhledikaaGreatDoor
