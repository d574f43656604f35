/- Prm, Own, Cxt. -/
import Derived.Test.YtgdndahhledikaaGreatDoorK06
import Derived.Deep.AppendLies
namespace Go.Proofs.YtgdndahhledikaaGreatDoor
open Go.ChangeShapes Go.WideShapes Go.ChangeAt Go.RowKit
set_option linter.unusedSimpArgs false
set_option maxRecDepth 20000
set_option maxHeartbeats 4000000
theorem field51_0 (k : Int) (t : List UInt8) (m a : Int) (w : World) : (Instr.field 26 (.agg #[.int .i64 k, .string (bsA t), .int .i64 m, .int .i64 a]) 0).run Tryz.prog w = .ok (.int .i64 k) w := by kernel_rfl
theorem prim_any (rb : Nat) (ta : Option Addr) (cap : Nat) (T : List Tt) (gn gw gb : Nat → Nat → Rz X) (hn : Reads rb ta cap T 250 gn) (hw : Reads rb ta cap T 251 gw) (hbr : Reads rb ta cap T 252 gb) : Reads rb ta cap T 246 (fun i op => if (tkI T i).1.1 = 3 then okR (nnd 3 (tkI T i)) (i + 1) else if (tkI T i).1.1 = 4 then okR (nnd 4 (tkI T i)) (i + 1) else if (tkI T i).1.1 = 5 then okR (tnd 5 (tkI T i) []) (i + 1) else if (tkI T i).1.1 = 1 then gn i op else if (tkI T i).1.1 = 2 then gw i op else if (tkI T i).1.1 = 6 then gb i op else noR i 70) := by
 intro i op w r hop hr h
 have HN : Hid (Reads rb ta cap T 250 gn) := hn
 have HW : Hid (Reads rb ta cap T 251 gw) := hw
 have HB : Hid (Reads rb ta cap T 252 gb) := hbr
 have hA : Below w.heap.size w (w.alloc (Obj.cells #[Value.int IntKind.i64 0, Value.string { data := #[] }, Value.int IntKind.i64 0, Value.int IntKind.i64 0, Value.slice none 0 0] 34)) := (Below.refl _ _).alloc (Nat.le_refl _) _
 have hlt := cell_lt hr.c0
 have hne : w.heap.size ≠ rb := by omega
 have HZ : Hid (Box5 (w.alloc (Obj.cells #[Value.int IntKind.i64 0, Value.string { data := #[] }, Value.int IntKind.i64 0, Value.int IntKind.i64 0, Value.slice none 0 0] 34)) w.heap.size (.int .i64 0) (.string ⟨#[]⟩) (.int .i64 0) (.int .i64 0) (.slice none 0 0)) := Box5.new w (.int .i64 0) (.string ⟨#[]⟩) (.int .i64 0) (.int .i64 0) (.slice none 0 0) 34
 have HA : Hid (Fx rb w (w.alloc (Obj.cells #[Value.int IntKind.i64 0, Value.string { data := #[] }, Value.int IntKind.i64 0, Value.int IntKind.i64 0, Value.slice none 0 0] 34))) := Fx.below hA
 have HR : Hid (Rdr (w.alloc (Obj.cells #[Value.int IntKind.i64 0, Value.string { data := #[] }, Value.int IntKind.i64 0, Value.int IntKind.i64 0, Value.slice none 0 0] 34)) rb ta cap T i op) := hr.below hA
 have h1 := token_any rb ta cap T i op 0 _ HR.out (by omega)
 rw [Nat.add_zero] at h1
 have hi0 : (tkI T i).1.1 ≠ 0 → i < T.length := fun h => by
  rcases Nat.lt_or_ge i T.length with hl | hl
  · exact hl
  ·
   rw [tkI_end hl] at h
   exact absurd rfl h
 dsimp only at h
 clear hr hn hw hbr hA
 obtain ⟨q, hq⟩ : ∃ q, tkI T i = q := ⟨_, rfl⟩
 rw [hq] at h1 h hi0
 have HQ : Hid (tkI T i = q) := hq
 clear hq
 obtain ⟨⟨q1, q2, q3⟩, q4⟩ := q
 have HH : Hid ((if q1 = 3 then okR (nnd 3 ((q1, q2, q3), q4)) (i + 1) else if q1 = 4 then okR (nnd 4 ((q1, q2, q3), q4)) (i + 1) else if q1 = 5 then okR (tnd 5 ((q1, q2, q3), q4) []) (i + 1) else if q1 = 1 then gn i op else if q1 = 2 then gw i op else if q1 = 6 then gb i op else noR i 70) = some r) := h
 clear h
 dsimp only at hi0
 unfold ptr ttV at h1
 unfold ptr
 dsimp only at h1
 have hfd := field51_0
 by_cases k3 : q1 = 3
 ·
  subst k3
  have hi := hi0 (by decide)
  clear hi0
  have HRR : Hid (r = .inr ((nnd 3 ((3, q2, q3), q4)), i + 1)) := (Option.some.inj HH.out).symm
  clear HN HW HB HH
  go_enter Tryz.func246, Tryz.ntmps246
  go_wp2_with fail
  refine h1.mono ?_
  rintro e w1 ⟨rfl, hb1⟩
  clear h1
  have HF1 : Hid (Fx rb w w1) := HA.out.trans (Fx.below hb1)
  have HZ1 : Hid (Box5 w1 w.heap.size (.int .i64 0) (.string ⟨#[]⟩) (.int .i64 0) (.int .i64 0) (.slice none 0 0)) := HZ.out.below hb1
  have HR1 : Hid (Rdr w1 rb ta cap T i op) := HR.out.below hb1
  have hs1 : w.heap.size + 1 ≤ w1.heap.size := by have h := hb1.size; rw [World.size_alloc] at h; exact h
  clear hb1 HR HA HZ
  have h2 := take_any rb ta cap T i op w1 HR1.out hi
  rw [HQ.out] at h2
  unfold ptr ttV at h2
  dsimp only at h2
  go_wp2_with fail
  refine h2.mono ?_
  rintro e w2 ⟨rfl, hr2, hF2⟩
  clear h2
  have h3 := numberNode_any 3 ((3, q2, q3), q4) w2
  unfold ttV nV at h3
  dsimp only at h3
  go_wp2_with fail
  refine h3.mono ?_
  rintro e w3 ⟨rfl, hb3⟩
  clear h3
  have HFin : Hid (PPost rb ta cap T op w (.inr ((nnd 3 ((3, q2, q3), q4)), i + 1)) (.returned (nV 3 [] q3 q4 (.slice none 0 0))) (set5 w3 w.heap.size 0 (.int .i64 3) (.string (bsA [])) (.int .i64 q3) (.int .i64 q4) (.slice none 0 0))) := by
   have h := PPost.put (w := w) (w1 := w3) (x := (nnd 3 ((3, q2, q3), q4))) (s := none) (c := 0) (mkX_at0 _ _ _ _ _) (hr2.below hb3) ((HF1.out.trans hF2).trans (Fx.below hb3)) hlt
   have e := mkX_V 3 [] q3 q4 [] none 0
   unfold xV at h
   exact h
  have hz := (HZ1.out.fx hF2 hne).below hb3
  obtain ⟨z0, z1, z2, z3, z4, f0, f1, f2, f3, f4⟩ := own5 hz (.int .i64 3) (.string (bsA [])) (.int .i64 q3) (.int .i64 q4) (.slice none 0 0)
  obtain ⟨d0, d1, d2, d3, d4, g0, g1, g2, g3, g4⟩ := hz
  clear hb3 hr2 hF2 HF1 HZ1 HR1 HQ
  go_wp2
  refine bodyPost_ret (v := .agg #[.int .i64 3, .string (bsA []), .int .i64 q3, .int .i64 q4, .slice none 0 0]) (by unfold set5 at z0 z1 z2 z3 z4; simp [results, Tryz.results246, go_sem, z0, z1, z2, z3, z4]) rfl ?_
  rw [HRR.out]
  exact HFin.out
 by_cases k4 : q1 = 4
 ·
  subst k4
  have hi := hi0 (by decide)
  clear hi0
  have HRR : Hid (r = .inr ((nnd 4 ((4, q2, q3), q4)), i + 1)) := (Option.some.inj HH.out).symm
  clear HN HW HB HH
  go_enter Tryz.func246, Tryz.ntmps246
  go_wp2_with fail
  refine h1.mono ?_
  rintro e w1 ⟨rfl, hb1⟩
  clear h1
  have HF1 : Hid (Fx rb w w1) := HA.out.trans (Fx.below hb1)
  have HZ1 : Hid (Box5 w1 w.heap.size (.int .i64 0) (.string ⟨#[]⟩) (.int .i64 0) (.int .i64 0) (.slice none 0 0)) := HZ.out.below hb1
  have HR1 : Hid (Rdr w1 rb ta cap T i op) := HR.out.below hb1
  have hs1 : w.heap.size + 1 ≤ w1.heap.size := by have h := hb1.size; rw [World.size_alloc] at h; exact h
  clear hb1 HR HA HZ
  have h2 := take_any rb ta cap T i op w1 HR1.out hi
  rw [HQ.out] at h2
  unfold ptr ttV at h2
  dsimp only at h2
  go_wp2_with fail
  refine h2.mono ?_
  rintro e w2 ⟨rfl, hr2, hF2⟩
  clear h2
  have h3 := numberNode_any 4 ((4, q2, q3), q4) w2
  unfold ttV nV at h3
  dsimp only at h3
  go_wp2_with fail
  refine h3.mono ?_
  rintro e w3 ⟨rfl, hb3⟩
  clear h3
  have HFin : Hid (PPost rb ta cap T op w (.inr ((nnd 4 ((4, q2, q3), q4)), i + 1)) (.returned (nV 4 [] q3 q4 (.slice none 0 0))) (set5 w3 w.heap.size 0 (.int .i64 4) (.string (bsA [])) (.int .i64 q3) (.int .i64 q4) (.slice none 0 0))) := by
   have h := PPost.put (w := w) (w1 := w3) (x := (nnd 4 ((4, q2, q3), q4))) (s := none) (c := 0) (mkX_at0 _ _ _ _ _) (hr2.below hb3) ((HF1.out.trans hF2).trans (Fx.below hb3)) hlt
   have e := mkX_V 4 [] q3 q4 [] none 0
   unfold xV at h
   exact h
  have hz := (HZ1.out.fx hF2 hne).below hb3
  obtain ⟨z0, z1, z2, z3, z4, f0, f1, f2, f3, f4⟩ := own5 hz (.int .i64 4) (.string (bsA [])) (.int .i64 q3) (.int .i64 q4) (.slice none 0 0)
  obtain ⟨d0, d1, d2, d3, d4, g0, g1, g2, g3, g4⟩ := hz
  clear hb3 hr2 hF2 HF1 HZ1 HR1 HQ
  go_wp2
  refine bodyPost_ret (v := .agg #[.int .i64 4, .string (bsA []), .int .i64 q3, .int .i64 q4, .slice none 0 0]) (by unfold set5 at z0 z1 z2 z3 z4; simp [results, Tryz.results246, go_sem, z0, z1, z2, z3, z4]) rfl ?_
  rw [HRR.out]
  exact HFin.out
 by_cases k5 : q1 = 5
 ·
  subst k5
  have hi := hi0 (by decide)
  clear hi0
  have HRR : Hid (r = .inr ((tnd 5 ((5, q2, q3), q4) []), i + 1)) := (Option.some.inj HH.out).symm
  clear HN HW HB HH
  go_enter Tryz.func246, Tryz.ntmps246
  go_wp2_with fail
  refine h1.mono ?_
  rintro e w1 ⟨rfl, hb1⟩
  clear h1
  have HF1 : Hid (Fx rb w w1) := HA.out.trans (Fx.below hb1)
  have HZ1 : Hid (Box5 w1 w.heap.size (.int .i64 0) (.string ⟨#[]⟩) (.int .i64 0) (.int .i64 0) (.slice none 0 0)) := HZ.out.below hb1
  have HR1 : Hid (Rdr w1 rb ta cap T i op) := HR.out.below hb1
  have hs1 : w.heap.size + 1 ≤ w1.heap.size := by have h := hb1.size; rw [World.size_alloc] at h; exact h
  clear hb1 HR HA HZ
  have h2 := take_any rb ta cap T i op w1 HR1.out hi
  rw [HQ.out] at h2
  unfold ptr ttV at h2
  dsimp only at h2
  go_wp2_with fail
  refine h2.mono ?_
  rintro e w2 ⟨rfl, hr2, hF2⟩
  clear h2
  have h3 := textNode_any 5 ((5, q2, q3), q4) none 0 0 w2
  unfold ttV nV at h3
  dsimp only at h3
  go_wp2_with fail
  refine h3.mono ?_
  rintro e w3 ⟨rfl, hb3⟩
  clear h3
  have HFin : Hid (PPost rb ta cap T op w (.inr ((tnd 5 ((5, q2, q3), q4) []), i + 1)) (.returned (nV 5 q2 0 q4 (.slice none 0 0))) (set5 w3 w.heap.size 0 (.int .i64 5) (.string (bsA q2)) (.int .i64 0) (.int .i64 q4) (.slice none 0 0))) := by
   have h := PPost.put (w := w) (w1 := w3) (x := (tnd 5 ((5, q2, q3), q4) [])) (s := none) (c := 0) (mkX_at0 _ _ _ _ _) (hr2.below hb3) ((HF1.out.trans hF2).trans (Fx.below hb3)) hlt
   have e := mkX_V 5 q2 0 q4 [] none 0
   unfold xV at h
   exact h
  have hz := (HZ1.out.fx hF2 hne).below hb3
  obtain ⟨z0, z1, z2, z3, z4, f0, f1, f2, f3, f4⟩ := own5 hz (.int .i64 5) (.string (bsA q2)) (.int .i64 0) (.int .i64 q4) (.slice none 0 0)
  obtain ⟨d0, d1, d2, d3, d4, g0, g1, g2, g3, g4⟩ := hz
  clear hb3 hr2 hF2 HF1 HZ1 HR1 HQ
  go_wp2
  refine bodyPost_ret (v := .agg #[.int .i64 5, .string (bsA q2), .int .i64 0, .int .i64 q4, .slice none 0 0]) (by unfold set5 at z0 z1 z2 z3 z4; simp [results, Tryz.results246, go_sem, z0, z1, z2, z3, z4]) rfl ?_
  rw [HRR.out]
  exact HFin.out
 clear hi0
 by_cases k1 : q1 = 1
 ·
  subst k1
  have HH : Hid (gn i op = some r) := HH.out
  have HH2 : Hid _ := HH.out
  clear HW HB HH
  go_enter Tryz.func246, Tryz.ntmps246
  go_wp2_with fail
  refine h1.mono ?_
  rintro e w1 ⟨rfl, hb1⟩
  clear h1
  have HF1 : Hid (Fx rb w w1) := HA.out.trans (Fx.below hb1)
  have HZ1 : Hid (Box5 w1 w.heap.size (.int .i64 0) (.string ⟨#[]⟩) (.int .i64 0) (.int .i64 0) (.slice none 0 0)) := HZ.out.below hb1
  have HR1 : Hid (Rdr w1 rb ta cap T i op) := HR.out.below hb1
  have hs1 : w.heap.size + 1 ≤ w1.heap.size := by have h := hb1.size; rw [World.size_alloc] at h; exact h
  clear hb1 HR HA HZ
  have h2 := HN.out i op w1 r hop HR1.out HH2.out
  unfold ptr at h2
  go_wp2_with fail
  refine h2.mono ?_
  intro e w2 hpost
  clear h2 HN HH2
  cases r with
  | inl q =>
   obtain ⟨hG, hF⟩ := hpost.no
   unfold GUp at hG
   subst hG
   have HF : Hid _ := HF1.out.trans hF
   clear hpost hF
   go_wp2
   exact ⟨rfl, rfl, HF.out⟩
  | inr q =>
   obtain ⟨x, j⟩ := q
   obtain ⟨⟨⟨s1, c1, rfl, hx⟩, hr2⟩, hF2⟩ := hpost.ok
   dsimp only at hx hr2
   have HFin : Hid _ := PPost.put (w := w) (c := c1) (NdF.keep hs1 (fun _ _ _ => rfl) hx) hr2 (HF1.out.trans hF2) hlt
   have hz := HZ1.out.fx hF2 hne
   obtain ⟨z0, z1, z2, z3, z4, f0, f1, f2, f3, f4⟩ := own5 hz (.int .i64 (xk x)) (.string (bsA (xt x))) (.int .i64 (xn x)) (.int .i64 (xa x)) (.slice s1 (xl x) c1)
   obtain ⟨d0, d1, d2, d3, d4, g0, g1, g2, g3, g4⟩ := hz
   clear hpost hF2 hx hr2 HF1 HZ1 HR1 HQ
   unfold xV nV
   go_wp2
   refine bodyPost_ret (v := .agg #[.int .i64 (xk x), .string (bsA (xt x)), .int .i64 (xn x), .int .i64 (xa x), .slice s1 (xl x) c1]) (by unfold set5 at z0 z1 z2 z3 z4; simp [results, Tryz.results246, go_sem, z0, z1, z2, z3, z4]) rfl ?_
   exact HFin.out
 by_cases k2 : q1 = 2
 ·
  subst k2
  have HH : Hid (gw i op = some r) := HH.out
  have HH2 : Hid _ := HH.out
  clear HN HB HH
  go_enter Tryz.func246, Tryz.ntmps246
  go_wp2_with fail
  refine h1.mono ?_
  rintro e w1 ⟨rfl, hb1⟩
  clear h1
  have HF1 : Hid (Fx rb w w1) := HA.out.trans (Fx.below hb1)
  have HZ1 : Hid (Box5 w1 w.heap.size (.int .i64 0) (.string ⟨#[]⟩) (.int .i64 0) (.int .i64 0) (.slice none 0 0)) := HZ.out.below hb1
  have HR1 : Hid (Rdr w1 rb ta cap T i op) := HR.out.below hb1
  have hs1 : w.heap.size + 1 ≤ w1.heap.size := by have h := hb1.size; rw [World.size_alloc] at h; exact h
  clear hb1 HR HA HZ
  have h2 := HW.out i op w1 r hop HR1.out HH2.out
  unfold ptr at h2
  go_wp2_with fail
  refine h2.mono ?_
  intro e w2 hpost
  clear h2 HW HH2
  cases r with
  | inl q =>
   obtain ⟨hG, hF⟩ := hpost.no
   unfold GUp at hG
   subst hG
   have HF : Hid _ := HF1.out.trans hF
   clear hpost hF
   go_wp2
   exact ⟨rfl, rfl, HF.out⟩
  | inr q =>
   obtain ⟨x, j⟩ := q
   obtain ⟨⟨⟨s1, c1, rfl, hx⟩, hr2⟩, hF2⟩ := hpost.ok
   dsimp only at hx hr2
   have HFin : Hid _ := PPost.put (w := w) (c := c1) (NdF.keep hs1 (fun _ _ _ => rfl) hx) hr2 (HF1.out.trans hF2) hlt
   have hz := HZ1.out.fx hF2 hne
   obtain ⟨z0, z1, z2, z3, z4, f0, f1, f2, f3, f4⟩ := own5 hz (.int .i64 (xk x)) (.string (bsA (xt x))) (.int .i64 (xn x)) (.int .i64 (xa x)) (.slice s1 (xl x) c1)
   obtain ⟨d0, d1, d2, d3, d4, g0, g1, g2, g3, g4⟩ := hz
   clear hpost hF2 hx hr2 HF1 HZ1 HR1 HQ
   unfold xV nV
   go_wp2
   refine bodyPost_ret (v := .agg #[.int .i64 (xk x), .string (bsA (xt x)), .int .i64 (xn x), .int .i64 (xa x), .slice s1 (xl x) c1]) (by unfold set5 at z0 z1 z2 z3 z4; simp [results, Tryz.results246, go_sem, z0, z1, z2, z3, z4]) rfl ?_
   exact HFin.out
 by_cases k6 : q1 = 6
 ·
  subst k6
  have HH : Hid (gb i op = some r) := HH.out
  have HH2 : Hid _ := HH.out
  clear HN HW HH
  go_enter Tryz.func246, Tryz.ntmps246
  go_wp2_with fail
  refine h1.mono ?_
  rintro e w1 ⟨rfl, hb1⟩
  clear h1
  have HF1 : Hid (Fx rb w w1) := HA.out.trans (Fx.below hb1)
  have HZ1 : Hid (Box5 w1 w.heap.size (.int .i64 0) (.string ⟨#[]⟩) (.int .i64 0) (.int .i64 0) (.slice none 0 0)) := HZ.out.below hb1
  have HR1 : Hid (Rdr w1 rb ta cap T i op) := HR.out.below hb1
  have hs1 : w.heap.size + 1 ≤ w1.heap.size := by have h := hb1.size; rw [World.size_alloc] at h; exact h
  clear hb1 HR HA HZ
  have h2 := HB.out i op w1 r hop HR1.out HH2.out
  unfold ptr at h2
  go_wp2_with fail
  refine h2.mono ?_
  intro e w2 hpost
  clear h2 HB HH2
  cases r with
  | inl q =>
   obtain ⟨hG, hF⟩ := hpost.no
   unfold GUp at hG
   subst hG
   have HF : Hid _ := HF1.out.trans hF
   clear hpost hF
   go_wp2
   exact ⟨rfl, rfl, HF.out⟩
  | inr q =>
   obtain ⟨x, j⟩ := q
   obtain ⟨⟨⟨s1, c1, rfl, hx⟩, hr2⟩, hF2⟩ := hpost.ok
   dsimp only at hx hr2
   have HFin : Hid _ := PPost.put (w := w) (c := c1) (NdF.keep hs1 (fun _ _ _ => rfl) hx) hr2 (HF1.out.trans hF2) hlt
   have hz := HZ1.out.fx hF2 hne
   obtain ⟨z0, z1, z2, z3, z4, f0, f1, f2, f3, f4⟩ := own5 hz (.int .i64 (xk x)) (.string (bsA (xt x))) (.int .i64 (xn x)) (.int .i64 (xa x)) (.slice s1 (xl x) c1)
   obtain ⟨d0, d1, d2, d3, d4, g0, g1, g2, g3, g4⟩ := hz
   clear hpost hF2 hx hr2 HF1 HZ1 HR1 HQ
   unfold xV nV
   go_wp2
   refine bodyPost_ret (v := .agg #[.int .i64 (xk x), .string (bsA (xt x)), .int .i64 (xn x), .int .i64 (xa x), .slice s1 (xl x) c1]) (by unfold set5 at z0 z1 z2 z3 z4; simp [results, Tryz.results246, go_sem, z0, z1, z2, z3, z4]) rfl ?_
   exact HFin.out
 have HRR : Hid (r = .inl (i, 70)) := by
  have h := HH.out
  rw [if_neg k3, if_neg k4, if_neg k5, if_neg k1, if_neg k2, if_neg k6] at h
  exact (Option.some.inj h).symm
 have g3 : (q1 == 3) = false := by rw [beq_eq_false_iff_ne]; exact k3
 have g4 : (q1 == 4) = false := by rw [beq_eq_false_iff_ne]; exact k4
 have g5 : (q1 == 5) = false := by rw [beq_eq_false_iff_ne]; exact k5
 have g1 : (q1 == 1) = false := by rw [beq_eq_false_iff_ne]; exact k1
 have g2 : (q1 == 2) = false := by rw [beq_eq_false_iff_ne]; exact k2
 have g6 : (q1 == 6) = false := by rw [beq_eq_false_iff_ne]; exact k6
 clear HN HW HB HH k1 k2 k3 k4 k5 k6
 go_enter Tryz.func246, Tryz.ntmps246
 go_wp2_with fail
 refine h1.mono ?_
 rintro e w1 ⟨rfl, hb1⟩
 clear h1
 have HF1 : Hid (Fx rb w w1) := HA.out.trans (Fx.below hb1)
 have HZ1 : Hid (Box5 w1 w.heap.size (.int .i64 0) (.string ⟨#[]⟩) (.int .i64 0) (.int .i64 0) (.slice none 0 0)) := HZ.out.below hb1
 have HR1 : Hid (Rdr w1 rb ta cap T i op) := HR.out.below hb1
 have hs1 : w.heap.size + 1 ≤ w1.heap.size := by have h := hb1.size; rw [World.size_alloc] at h; exact h
 clear hb1 HR HA HZ
 have h2 := stuck_any rb ta cap T i op 70 w1 HR1.out
 unfold ptr at h2
 go_wp2_with fail
 refine h2.mono ?_
 rintro e w2 ⟨rfl, hb2⟩
 clear h2
 have HF : Hid _ := HF1.out.trans (Fx.below hb2)
 clear hb2
 go_wp2
 exact ⟨rfl, by rw [HRR.out]; exact ⟨rfl, HF.out⟩⟩
end Go.Proofs.YtgdndahhledikaaGreatDoor
namespace Go.Proofs.YtgdndahhledikaaGreatDoor
open Go.ChangeShapes Go.WideShapes Go.ChangeAt Go.RowKit
set_option linter.unusedSimpArgs false
set_option maxRecDepth 20000
set_option maxHeartbeats 4000000
abbrev Xp := X × Option Addr × Nat
def xpC (p : Xp) : List Value := [.int .i64 (xk p.1), .string (bsA (xt p.1)), .int .i64 (xn p.1), .int .i64 (xa p.1), .slice p.2.1 (xl p.1) p.2.2]
def xC (A : List Xp) : List Value := A.flatMap xpC
theorem xC_app (A B : List Xp) : xC (A ++ B) = xC A ++ xC B := by simp [xC]
theorem xC_len : ∀ A : List Xp, (xC A).length = A.length * 5
 | [] => rfl
 | p :: A => by
  show (xpC p ++ xC A).length = _
  rw [List.length_append, xC_len A, List.length_cons]
  show 5 + _ = _
  omega
theorem xC_one : ∀ (A : List Xp), ∀ u ∈ xC A, u.oneCell' = true
 | [], u, hu => by cases hu
 | p :: A, u, hu => by
  rcases List.mem_append.1 (show u ∈ xpC p ++ xC A from hu) with h | h
  ·
   simp only [xpC, List.mem_cons, List.not_mem_nil, or_false] at h
   rcases h with rfl | rfl | rfl | rfl | rfl <;> rfl
  · exact xC_one A u h
theorem xC_at : ∀ (A : List Xp) (i : Nat) (p : Xp), A[i]? = some p → (xC A)[i * 5]? = some (.int .i64 (xk p.1)) ∧ (xC A)[i * 5 + 1]? = some (.string (bsA (xt p.1))) ∧ (xC A)[i * 5 + 2]? = some (.int .i64 (xn p.1)) ∧ (xC A)[i * 5 + 3]? = some (.int .i64 (xa p.1)) ∧ (xC A)[i * 5 + 4]? = some (.slice p.2.1 (xl p.1) p.2.2)
 | [], i, p, h => by simp at h
 | q :: A, 0, p, h => by
  simp only [List.getElem?_cons_zero, Option.some.injEq] at h
  subst h
  exact ⟨rfl, rfl, rfl, rfl, rfl⟩
 | q :: A, i + 1, p, h => by
  simp only [List.getElem?_cons_succ] at h
  obtain ⟨h0, h1, h2, h3, h4⟩ := xC_at A i p h
  have e : ∀ k, (xC (q :: A))[(i + 1) * 5 + k]? = (xC A)[i * 5 + k]? := fun k => by
   show (xpC q ++ xC A)[(i + 1) * 5 + k]? = _
   rw [List.getElem?_append_right (by show 5 ≤ _; omega)]
   show (xC A)[(i + 1) * 5 + k - 5]? = _
   rw [show (i + 1) * 5 + k - 5 = i * 5 + k by omega]
  exact ⟨(e 0).trans h0, (e 1).trans h1, (e 2).trans h2, (e 3).trans h3, (e 4).trans h4⟩
structure OwX (rb lo : Nat) (w : World) (g cap : Nat) (A : List Xp) : Prop where
 own : w.ownsRow lo 34 5 (.slice (some ⟨g, 0, none⟩) A.length cap) A.length (xC A)
 kids : ∀ p ∈ A, XSt rb g lo w p.1 p.2.1
theorem OwX.lt {rb lo : Nat} {w : World} {g cap : Nat} {A : List Xp} (h : OwX rb lo w g cap A) : lo ≤ g ∧ g < w.heap.size := h.own.lt g rfl
theorem OwX.fx {rb lo : Nat} {w w' : World} {g cap : Nat} {A : List Xp} (h : OwX rb lo w g cap A) (hf : Fx rb w w') (hg : rb < lo) : OwX rb lo w' g cap A := by
 refine ⟨⟨h.own.1, ?_⟩, fun p hp => (h.kids p hp).fx hf⟩
 have hl := h.lt
 rcases h.own.2 with ⟨e, _⟩ | ⟨g', c', cur, e, hb, hh, rest⟩
 · cases e
 ·
  have e1 : g = g' := by
   have := congrArg Value.ownBlock e
   simpa [Value.ownBlock] using this
  subst e1
  exact Or.inr ⟨g, c', cur, e, hb, (hf.blk g hl.2 (by omega)).trans hh, rest⟩
theorem OwX.below {rb lo : Nat} {w w' : World} {g cap : Nat} {A : List Xp} (h : OwX rb lo w g cap A) (hf : Below w.heap.size w w') (hg : rb < lo) : OwX rb lo w' g cap A := h.fx (Fx.below hf) hg
theorem OwX.low {rb lo lo' : Nat} {w : World} {g cap : Nat} {A : List Xp} (h : OwX rb lo w g cap A) (hl : lo' ≤ lo) : OwX rb lo' w g cap A := by
 refine ⟨⟨h.own.1, ?_⟩, fun p hp w' hk => NdF.keep hl (fun _ _ _ => rfl) (h.kids p hp w' hk)⟩
 rcases h.own.2 with ⟨e, _⟩ | ⟨g', c', cur, e, hb, rest⟩
 · cases e
 · exact Or.inr ⟨g', c', cur, e, Nat.le_trans hl hb, rest⟩
theorem OwX.new {rb lo : Nat} (w : World) (A : List Xp) (hlo : lo ≤ w.heap.size) (hn : A.length ≤ 1000) (hk : ∀ p ∈ A, XAt lo w p.1 p.2.1) (hr : rb < lo) (cs : Array Value) (hcs : cs.toList = xC A) : OwX rb lo (w.alloc (.cells cs 34)) w.heap.size A.length A := by
 refine ⟨⟨xC_len A, Or.inr ⟨w.heap.size, A.length, cs, rfl, hlo, heap_alloc_new w _, Nat.le_refl _, by unfold maxLen; omega, ?_, ?_⟩⟩, fun p hp => (XSt.old (hk p hp) hr (Nat.le_refl _)).below ((Below.refl _ _).alloc (Nat.le_refl _) _)⟩
 · rw [← Array.length_toList, hcs, xC_len]
 · rw [hcs, ← xC_len, List.take_length]
theorem XSt.grown {rb g g' lo : Nat} {w w' : World} {x : X} {s : Option Addr} (h : XSt rb g lo w x s) (hg : w.grownBy w' (some g)) (hl : g = g' ∨ g' = w.heap.size) : XSt rb g' lo w' x s := fun w2 hk => by
 refine h w2 fun b hb h1 h2 => ?_
 refine (hk b (Nat.lt_of_lt_of_le hb hg.size) h1 ?_).trans (hg.block b hb (by simpa using h2))
 rcases hl with rfl | rfl
 · exact h2
 · omega
theorem OwX.grown {rb lo : Nat} {w w' : World} {g g' cap cap' : Nat} {A B : List Xp} (h : OwX rb lo w g cap A) (hB : ∀ p ∈ B, XSt rb g lo w p.1 p.2.1)
  (ho : w'.ownsRow lo 34 5 (.slice (some ⟨g', 0, none⟩) (A.length + B.length) cap') (A.length + B.length) (xC A ++ xC B)) (hg : w.grownBy w' (some g)) (hl : g = g' ∨ g' = w.heap.size) : OwX rb lo w' g' cap' (A ++ B) := by
 refine ⟨by rw [List.length_append, xC_app]; exact ho, fun p hp => ?_⟩
 rcases List.mem_append.1 hp with hp | hp
 · exact (h.kids p hp).grown hg hl
 · exact (hB p hp).grown hg hl
theorem Fx.grown {rb : Nat} {w0 w w' : World} {g : Nat} (h : Fx rb w0 w) (hg : w.grownBy w' (some g)) (hl : w0.heap.size ≤ g) : Fx rb w0 w' :=
 ⟨h.b0.grown hg (Nat.zero_le _) (fun _ _ => Nat.zero_le _), fun b hb hn => (hg.block b (Nat.lt_of_lt_of_le hb h.size) (by simp; omega)).trans (h.blk b hb hn)⟩
theorem Rdr.grown {rb : Nat} {ta : Option Addr} {cap : Nat} {T : List Tt} {i op : Nat} {w w' : World} {g : Nat} (h : Rdr w rb ta cap T i op) (hg : w.grownBy w' (some g)) (hl : rb < g) : Rdr w' rb ta cap T i op := by
 have hb : ∀ b, b ≤ rb → w'.heap[b]? = w.heap[b]? := fun b hb => hg.block b (by have := cell_lt h.c0; omega) (by simp; omega)
 refine ⟨cell_same h.c0 (hb _ (Nat.le_refl _)), cell_same h.c1 (hb _ (Nat.le_refl _)), cell_same h.c2 (hb _ (Nat.le_refl _)), (World.frozen?_of_block (a := ⟨rb, 1, none⟩) (hb _ (Nat.le_refl _))).trans h.f1, (World.frozen?_of_block (a := ⟨rb, 2, none⟩) (hb _ (Nat.le_refl _))).trans h.f2, ?_, h.apart, h.len, h.le⟩
 rcases h.toks with h0 | ⟨b, off, rfl, hc⟩
 · exact Or.inl h0
 ·
  have hbr := h.apart b off rfl
  exact Or.inr ⟨b, off, rfl, fun i t hi => ⟨cell_same (hc i t hi).1 (hb _ (by omega)), cell_same (hc i t hi).2.1 (hb _ (by omega)), cell_same (hc i t hi).2.2.1 (hb _ (by omega)), cell_same (hc i t hi).2.2.2 (hb _ (by omega))⟩⟩
theorem OwX.xs {rb lo : Nat} {w : World} {g cap : Nat} {A : List Xp} (h : OwX rb lo w g cap A) : XsAt lo w g (A.map (·.1)) := by
 have hl := h.lt
 refine ⟨⟨hl.1, ?_⟩, fun i x hx => ?_⟩
 ·
  rcases h.own.2 with ⟨e, _⟩ | ⟨g', c', cur, e, hb, hh, _⟩
  · cases e
  ·
   have e1 : g = g' := by
    have := congrArg Value.ownBlock e
    simpa [Value.ownBlock] using this
   subst e1
   intro j
   simp [World.frozen?, hh]
 ·
  rw [List.getElem?_map] at hx
  obtain ⟨p, hp, rfl⟩ := Option.map_eq_some_iff.1 hx
  obtain ⟨h0, h1, h2, h3, h4⟩ := xC_at A i p hp
  have hc := h.own.cells (g := g) rfl
  have hadd : ∀ j, (⟨g, 0, none⟩ : Addr).add j = ⟨g, j, none⟩ := fun j => by unfold Addr.add; split <;> simp_all
  refine ⟨p.2.1, p.2.2, ⟨?_, ?_, ?_, ?_, ?_⟩, h.kids p (List.mem_of_getElem? hp) w (fun _ _ _ _ => rfl)⟩
  · rw [← hadd]; exact hc _ _ h0
  · rw [← hadd]; exact hc _ _ h1
  · rw [← hadd]; exact hc _ _ h2
  · rw [← hadd]; exact hc _ _ h3
  · rw [← hadd]; exact hc _ _ h4
def LPost (rb : Nat) (ta : Option Addr) (cap : Nat) (T : List Tt) (op : Nat) (w : World) (r : Sum Er (List X × Nat)) (e : Ending) (w' : World) : Prop :=
 (match r with
  | .inl q => GUp q.1 q.2 e
  | .inr q => (∃ g c A, e = .returned (.slice (some ⟨g, 0, none⟩) A.length c) ∧ A.map (·.1) = q.1 ∧ OwX rb w.heap.size w' g c A) ∧ Rdr w' rb ta cap T q.2 op) ∧ Fx rb w w'
theorem LPost.no {rb : Nat} {ta : Option Addr} {cap : Nat} {T : List Tt} {op : Nat} {w w' : World} {q : Er} {e : Ending} (h : LPost rb ta cap T op w (.inl q) e w') : GUp q.1 q.2 e ∧ Fx rb w w' := h
theorem LPost.ok {rb : Nat} {ta : Option Addr} {cap : Nat} {T : List Tt} {op : Nat} {w w' : World} {q : List X × Nat} {e : Ending} (h : LPost rb ta cap T op w (.inr q) e w') : ((∃ g c A, e = .returned (.slice (some ⟨g, 0, none⟩) A.length c) ∧ A.map (·.1) = q.1 ∧ OwX rb w.heap.size w' g c A) ∧ Rdr w' rb ta cap T q.2 op) ∧ Fx rb w w' := h
def LReads (rb : Nat) (ta : Option Addr) (cap : Nat) (T : List Tt) (k : FuncId) (g : Nat → Nat → Rz (List X)) : Prop := ∀ (i op : Nat) (w : World) (r : Sum Er (List X × Nat)), op ≤ 100 → Rdr w rb ta cap T i op → g i op = some r → Calls Tryz.prog k #[ptr rb] w (LPost rb ta cap T op w r)
theorem info26 : (Tryz.prog.info? 34).map (fun i => (i.zero, i.size, i.bytes)) = some (some (.agg #[.int .i64 0, .string ⟨#[]⟩, .int .i64 0, .int .i64 0, .slice none 0 0]), 5, 64) := by kernel_rfl
theorem xp_cells (w : World) (x : X) (s : Option Addr) (c : Nat) : ∀ j u, (xC [(x, s, c)])[j]? = some u → (w.alloc (.cells #[.int .i64 (xk x), .string (bsA (xt x)), .int .i64 (xn x), .int .i64 (xa x), .slice s (xl x) c] 34)).cell? ((⟨w.heap.size, 0, none⟩ : Addr).add j) = some u := World.news_of_block (heap_alloc_new w _)
end Go.Proofs.YtgdndahhledikaaGreatDoor
namespace Go.Proofs.YtgdndahhledikaaGreatDoor
open Go.ChangeShapes Go.WideShapes Go.ChangeAt Go.RowKit
set_option linter.unusedSimpArgs false
set_option maxRecDepth 20000
set_option maxHeartbeats 4000000
structure Cx (rb : Nat) (ta : Option Addr) (cap : Nat) (T : List Tt) (w : World) (zb i op : Nat) (wr : World) : Prop where
 fx : Fx rb w wr
 rdr : Rdr wr rb ta cap T i op
 res : Box5 wr zb (.int .i64 0) (.string ⟨#[]⟩) (.int .i64 0) (.int .i64 0) (.slice none 0 0)
theorem Cx.below {rb : Nat} {ta : Option Addr} {cap : Nat} {T : List Tt} {w : World} {zb i op : Nat} {wr w' : World} (h : Cx rb ta cap T w zb i op wr) (hb : Below wr.heap.size wr w') : Cx rb ta cap T w zb i op w' := ⟨h.fx.trans (Fx.below hb), h.rdr.below hb, h.res.below hb⟩
theorem Cx.alloc {rb : Nat} {ta : Option Addr} {cap : Nat} {T : List Tt} {w : World} {zb i op : Nat} {wr : World} (h : Cx rb ta cap T w zb i op wr) (o : Obj) : Cx rb ta cap T w zb i op (wr.alloc o) := h.below ((Below.refl _ _).alloc (Nat.le_refl _) _)
theorem Cx.drew {rb : Nat} {ta : Option Addr} {cap : Nat} {T : List Tt} {w : World} {zb i op : Nat} {wr : World} (h : Cx rb ta cap T w zb i op wr) : Cx rb ta cap T w zb i op wr.drew := h.below (Below.refl _ _).drew
theorem Cx.lt {rb : Nat} {ta : Option Addr} {cap : Nat} {T : List Tt} {w : World} {zb i op : Nat} {wr : World} (h : Cx rb ta cap T w zb i op wr) : zb < wr.heap.size := cell_lt h.res.c0
theorem Cx.step {rb : Nat} {ta : Option Addr} {cap : Nat} {T : List Tt} {w : World} {zb i op j op' : Nat} {wr w' : World} (h : Cx rb ta cap T w zb i op wr) (hf : Fx rb wr w') (hr : Rdr w' rb ta cap T j op') (hz : rb < zb) : Cx rb ta cap T w zb j op' w' := ⟨h.fx.trans hf, hr, h.res.fx hf (by omega)⟩
theorem Cx.set {rb : Nat} {ta : Option Addr} {cap : Nat} {T : List Tt} {w : World} {zb i op : Nat} {wr : World} (h : Cx rb ta cap T w zb i op wr) (b o : Nat) (v : Value) (hb : w.heap.size ≤ b) (hr : rb < b) (hz : b ≠ zb) : Cx rb ta cap T w zb i op (wr.setCell ⟨b, o, none⟩ v) := ⟨h.fx.new b o v hb, h.rdr.far b o v hr, h.res.far b o v hz⟩
theorem Cx.grown {rb : Nat} {ta : Option Addr} {cap : Nat} {T : List Tt} {w : World} {zb i op : Nat} {wr w' : World} {g : Nat} (h : Cx rb ta cap T w zb i op wr) (hg : wr.grownBy w' (some g)) (hr : rb < g) (hl : w.heap.size ≤ g) (hz : zb ≠ g) : Cx rb ta cap T w zb i op w' :=
 ⟨h.fx.grown hg hl, h.rdr.grown hg hr, by
  have e := hg.block zb h.lt (by simpa using hz)
  have hb := h.res
  exact ⟨cell_same hb.c0 e, cell_same hb.c1 e, cell_same hb.c2 e, cell_same hb.c3 e, cell_same hb.c4 e, (World.frozen?_of_block (a := ⟨zb, 0, none⟩) e).trans hb.f0, (World.frozen?_of_block (a := ⟨zb, 1, none⟩) e).trans hb.f1, (World.frozen?_of_block (a := ⟨zb, 2, none⟩) e).trans hb.f2, (World.frozen?_of_block (a := ⟨zb, 3, none⟩) e).trans hb.f3, (World.frozen?_of_block (a := ⟨zb, 4, none⟩) e).trans hb.f4⟩⟩
theorem Cx.ret {rb : Nat} {ta : Option Addr} {cap : Nat} {T : List Tt} {w : World} {zb j op : Nat} {w1 : World} {x : X} {s : Option Addr} (c : Nat) (h : Cx rb ta cap T w zb j op w1) (hx : XSt rb zb w.heap.size w1 x s) (hz : w.heap.size ≤ zb) (hlt : rb < w.heap.size) :
  PPost rb ta cap T op w (.inr (x, j)) (.returned (xV x s c)) (set5 w1 zb 0 (.int .i64 (xk x)) (.string (bsA (xt x))) (.int .i64 (xn x)) (.int .i64 (xa x)) (.slice s (xl x) c)) :=
 ⟨⟨⟨s, c, rfl, (hx.set5 _ _ _ _ _) _ (fun _ _ _ _ => rfl)⟩, Rdr.set5 h.rdr _ _ _ _ _ _ _ (by omega)⟩, h.fx.set5 _ _ _ _ _ _ _ hz⟩
theorem Cx.retn {rb : Nat} {ta : Option Addr} {cap : Nat} {T : List Tt} {w : World} {zb j op : Nat} {w1 : World} {s : Option Addr} {k : Int} {t : List UInt8} {m a : Int} {L : List X} {n : Nat} (c : Nat) (hn : L.length = n) (h : Cx rb ta cap T w zb j op w1) (hx : XSt rb zb w.heap.size w1 (mkX k t m a L) s) (hz : w.heap.size ≤ zb) (hlt : rb < w.heap.size) :
  PPost rb ta cap T op w (.inr (mkX k t m a L, j)) (.returned (nV k t m a (.slice s n c))) (set5 w1 zb 0 (.int .i64 k) (.string (bsA t)) (.int .i64 m) (.int .i64 a) (.slice s n c)) := by
 have h := Cx.ret c h hx hz hlt
 rw [mkX_V] at h
 rw [mkX_len] at h
 rw [hn] at h
 exact h
theorem XSt.leaf {rb nb lo : Nat} {w : World} (k : Int) (t : List UInt8) (m a : Int) (s : Option Addr) : XSt rb nb lo w (mkX k t m a []) s := fun _ _ => mkX_at0 _ _ _ _ _
theorem OwX.tree {rb lo zb : Nat} {w : World} {g c : Nat} {A : List Xp} (k : Int) (t : List UInt8) (m a : Int) (h : OwX rb lo w g c A) (hr : rb < lo) (hk : ∀ p ∈ A, XSt rb zb lo w p.1 p.2.1) (hz : g ≠ zb) : XSt rb zb lo w (mkX k t m a (A.map (·.1))) (some ⟨g, 0, none⟩) := fun w' hs => by
 have hl := h.lt
 have hx := h.xs
 refine mkX_at k t m a ⟨⟨hx.1.1, fun j => ?_⟩, fun i x hi => ?_⟩ ?_
 · exact (World.frozen?_of_block (a := ⟨g, j, none⟩) (hs g hl.2 (by omega) hz)).trans (hx.1.2 j)
 ·
  rw [List.getElem?_map] at hi
  obtain ⟨p, hp, rfl⟩ := Option.map_eq_some_iff.1 hi
  have e := hs g hl.2 (by omega) hz
  obtain ⟨h0, h1, h2, h3, h4⟩ := xC_at A i p hp
  have hc := h.own.cells (g := g) rfl
  have hadd : ∀ j, (⟨g, 0, none⟩ : Addr).add j = ⟨g, j, none⟩ := fun j => by unfold Addr.add; split <;> simp_all
  refine ⟨p.2.1, p.2.2, ⟨?_, ?_, ?_, ?_, ?_⟩, hk p (List.mem_of_getElem? hp) w' hs⟩
  · exact cell_same (by rw [← hadd]; exact hc _ _ h0) e
  · exact cell_same (by rw [← hadd]; exact hc _ _ h1) e
  · exact cell_same (by rw [← hadd]; exact hc _ _ h2) e
  · exact cell_same (by rw [← hadd]; exact hc _ _ h3) e
  · exact cell_same (by rw [← hadd]; exact hc _ _ h4) e
 ·
  rcases h.own.2 with ⟨e, _⟩ | ⟨g', c', cur, e, hb, hh, h1, h2, _⟩
  · cases e
  ·
   rw [List.length_map]
   unfold maxLen at h2
   omega
theorem OwX.apart {rb lo lo' zb : Nat} {w : World} {g c : Nat} {A : List Xp} (h : OwX rb lo w g c A) (hr : rb < lo) (hl : lo' ≤ lo) (hz : zb < lo) : ∀ p ∈ A, XSt rb zb lo' w p.1 p.2.1 := fun p hp => XSt.new (h.kids p hp w (fun _ _ _ _ => rfl)) hr hl hz
theorem sees_new (rb : Nat) (ta : Option Addr) (cap : Nat) (T : List Tt) (i op : Nat) (k : Int) (cs : Array Value) (L : List (List UInt8)) (hcs : cs.toList = L.map fun x => .string (bsA x)) (hL : L.length ≤ 1000) (n c : Nat) (hn : L.length = n) (w : World) (hr : Rdr w rb ta cap T i op) : Calls Tryz.prog 207 #[ptr rb, .int .i64 k, .slice (some ⟨w.heap.size, 0, none⟩) n c] (w.alloc (.cells cs 9)) fun e w' => e = .returned (.bool (isT (tkI T i) k L)) ∧ Below w.heap.size w w' := by
 have hB : Below w.heap.size w (w.alloc (.cells cs 9)) := (Below.refl _ _).alloc (Nat.le_refl _) _
 rw [← hn]
 refine (sees_any rb ta cap T i op k L w.heap.size c _ (hr.below hB) hL (StsL.new w cs 9 L hcs)).mono ?_
 rintro e w' ⟨h1, h2⟩
 exact ⟨h1, hB.trans (h2.mono hB.size)⟩
end Go.Proofs.YtgdndahhledikaaGreatDoor
