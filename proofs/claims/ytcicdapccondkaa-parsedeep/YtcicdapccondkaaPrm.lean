/- The smallest expressions (prim). -/
import Derived.Test.YtcicdapccondkaaBrk
namespace Go.Proofs.Ytcicdapccondkaa
open Go.ChangeShapes Go.WideShapes Go.ChangeAt Go.RowKit
set_option linter.unusedSimpArgs false
set_option maxRecDepth 20000
set_option maxHeartbeats 4000000

theorem field51_0 (k : Int) (t : List UInt8) (m a : Int) (w : World) : (Instr.field 51 (.agg #[.int .i64 k, .string (bsA t), .int .i64 m, .int .i64 a]) 0).run Try.prog w = .ok (.int .i64 k) w := by kernel_rfl
theorem field51_1 (k : Int) (t : List UInt8) (m a : Int) (w : World) : (Instr.field 51 (.agg #[.int .i64 k, .string (bsA t), .int .i64 m, .int .i64 a]) 1).run Try.prog w = .ok (.string (bsA t)) w := by kernel_rfl
theorem prim_any (rb : Nat) (ta : Option Addr) (cap : Nat) (T : List Tt) (gn gw gb : Nat → Nat → Rz X) (hn : Reads rb ta cap T 91 gn) (hw : Reads rb ta cap T 92 gw) (hbr : Reads rb ta cap T 93 gb) : Reads rb ta cap T 89 (fun i op => if (tkI T i).1.1 = 3 then okR (nnd 3 (tkI T i)) (i + 1) else if (tkI T i).1.1 = 4 then okR (nnd 4 (tkI T i)) (i + 1) else if (tkI T i).1.1 = 5 then okR (tnd 5 (tkI T i) []) (i + 1) else if (tkI T i).1.1 = 1 then gn i op else if (tkI T i).1.1 = 2 then gw i op else if (tkI T i).1.1 = 6 then gb i op else noR i 70) := by
  intro i op w r hop hr h
  have HN : Hid (Reads rb ta cap T 91 gn) := hn
  have HW : Hid (Reads rb ta cap T 92 gw) := hw
  have HB : Hid (Reads rb ta cap T 93 gb) := hbr
  have hA : Below w.heap.size w (w.alloc (Obj.cells #[Value.int IntKind.i64 0, Value.string { data := #[] }, Value.int IntKind.i64 0, Value.int IntKind.i64 0, Value.slice none 0 0] 26)) := (Below.refl _ _).alloc (Nat.le_refl _) _
  have hlt := cell_lt hr.c0
  have hne : w.heap.size ≠ rb := by omega
  have HZ : Hid (Box5 (w.alloc (Obj.cells #[Value.int IntKind.i64 0, Value.string { data := #[] }, Value.int IntKind.i64 0, Value.int IntKind.i64 0, Value.slice none 0 0] 26)) w.heap.size (.int .i64 0) (.string ⟨#[]⟩) (.int .i64 0) (.int .i64 0) (.slice none 0 0)) := Box5.new w (.int .i64 0) (.string ⟨#[]⟩) (.int .i64 0) (.int .i64 0) (.slice none 0 0) 26
  have HA : Hid (Fx rb w (w.alloc (Obj.cells #[Value.int IntKind.i64 0, Value.string { data := #[] }, Value.int IntKind.i64 0, Value.int IntKind.i64 0, Value.slice none 0 0] 26))) := Fx.below hA
  have HR : Hid (Rdr (w.alloc (Obj.cells #[Value.int IntKind.i64 0, Value.string { data := #[] }, Value.int IntKind.i64 0, Value.int IntKind.i64 0, Value.slice none 0 0] 26)) rb ta cap T i op) := hr.below hA
  have h1 := token_any rb ta cap T i op 0 _ HR.out (by omega)
  rw [Nat.add_zero] at h1
  have hi0 : (tkI T i).1.1 ≠ 0 → i < T.length := fun h => by
    rcases Nat.lt_or_ge i T.length with hl | hl
    · exact hl
    · rw [tkI_end hl] at h
      exact absurd rfl h
  dsimp only at h
  clear hr hn hw hbr hA
  obtain ⟨q, hq⟩ : ∃ q, tkI T i = q := ⟨_, rfl⟩
  rw [hq] at h1 h hi0
  have HQ : Hid (tkI T i = q) := hq
  clear hq
  obtain ⟨⟨q1, q2, q3⟩, q4⟩ := q
  have HH : Hid ((if q1 = 3 then okR (nnd 3 ((q1, q2, q3), q4)) (i + 1) else if q1 = 4 then okR (nnd 4 ((q1, q2, q3), q4)) (i + 1) else if q1 = 5 then okR (tnd 5 ((q1, q2, q3), q4) []) (i + 1) else if q1 = 1 then gn i op else if q1 = 2 then gw i op else if q1 = 6 then gb i op else noR i 70) = some r) := h
  clear h
  dsimp only at hi0
  unfold ptr ttV at h1
  unfold ptr
  dsimp only at h1
  have hfd := field51_0
  by_cases k3 : q1 = 3
  · subst k3
    have hi := hi0 (by decide)
    clear hi0
    have HRR : Hid (r = .inr ((nnd 3 ((3, q2, q3), q4)), i + 1)) := (Option.some.inj HH.out).symm
    clear HN HW HB HH
    go_enter Try.func89, Try.ntmps89
    go_wp2_with fail
    refine h1.mono ?_
    rintro e w1 ⟨rfl, hb1⟩
    clear h1
    have HF1 : Hid (Fx rb w w1) := HA.out.trans (Fx.below hb1)
    have HZ1 : Hid (Box5 w1 w.heap.size (.int .i64 0) (.string ⟨#[]⟩) (.int .i64 0) (.int .i64 0) (.slice none 0 0)) := HZ.out.below hb1
    have HR1 : Hid (Rdr w1 rb ta cap T i op) := HR.out.below hb1
    have hs1 : w.heap.size + 1 ≤ w1.heap.size := by have h := hb1.size; rw [World.size_alloc] at h; exact h
    clear hb1 HR HA HZ
    have h2 := take_any rb ta cap T i op w1 HR1.out hi
    rw [HQ.out] at h2
    unfold ptr ttV at h2
    dsimp only at h2
    go_wp2_with fail
    refine h2.mono ?_
    rintro e w2 ⟨rfl, hr2, hF2⟩
    clear h2
    have h3 := numberNode_any 3 ((3, q2, q3), q4) w2
    unfold ttV nV at h3
    dsimp only at h3
    go_wp2_with fail
    refine h3.mono ?_
    rintro e w3 ⟨rfl, hb3⟩
    clear h3
    have HFin : Hid (PPost rb ta cap T op w (.inr ((nnd 3 ((3, q2, q3), q4)), i + 1)) (.returned (nV 3 [] q3 q4 (.slice none 0 0))) (set5 w3 w.heap.size 0 (.int .i64 3) (.string (bsA [])) (.int .i64 q3) (.int .i64 q4) (.slice none 0 0))) := by
      have h := PPost.put (w := w) (w1 := w3) (x := (nnd 3 ((3, q2, q3), q4))) (s := none) (c := 0) (mkX_at0 _ _ _ _ _) (hr2.below hb3) ((HF1.out.trans hF2).trans (Fx.below hb3)) hlt
      have e := mkX_V 3 [] q3 q4 [] none 0
      unfold xV at h
      exact h
    have hz := (HZ1.out.fx hF2 hne).below hb3
    obtain ⟨z0, z1, z2, z3, z4, f0, f1, f2, f3, f4⟩ := own5 hz (.int .i64 3) (.string (bsA [])) (.int .i64 q3) (.int .i64 q4) (.slice none 0 0)
    obtain ⟨d0, d1, d2, d3, d4, g0, g1, g2, g3, g4⟩ := hz
    clear hb3 hr2 hF2 HF1 HZ1 HR1 HQ
    go_wp2
    refine bodyPost_ret (v := .agg #[.int .i64 3, .string (bsA []), .int .i64 q3, .int .i64 q4, .slice none 0 0]) (by unfold set5 at z0 z1 z2 z3 z4; simp [results, Try.results89, go_sem, z0, z1, z2, z3, z4]) rfl ?_
    rw [HRR.out]
    exact HFin.out
  by_cases k4 : q1 = 4
  · subst k4
    have hi := hi0 (by decide)
    clear hi0
    have HRR : Hid (r = .inr ((nnd 4 ((4, q2, q3), q4)), i + 1)) := (Option.some.inj HH.out).symm
    clear HN HW HB HH
    go_enter Try.func89, Try.ntmps89
    go_wp2_with fail
    refine h1.mono ?_
    rintro e w1 ⟨rfl, hb1⟩
    clear h1
    have HF1 : Hid (Fx rb w w1) := HA.out.trans (Fx.below hb1)
    have HZ1 : Hid (Box5 w1 w.heap.size (.int .i64 0) (.string ⟨#[]⟩) (.int .i64 0) (.int .i64 0) (.slice none 0 0)) := HZ.out.below hb1
    have HR1 : Hid (Rdr w1 rb ta cap T i op) := HR.out.below hb1
    have hs1 : w.heap.size + 1 ≤ w1.heap.size := by have h := hb1.size; rw [World.size_alloc] at h; exact h
    clear hb1 HR HA HZ
    have h2 := take_any rb ta cap T i op w1 HR1.out hi
    rw [HQ.out] at h2
    unfold ptr ttV at h2
    dsimp only at h2
    go_wp2_with fail
    refine h2.mono ?_
    rintro e w2 ⟨rfl, hr2, hF2⟩
    clear h2
    have h3 := numberNode_any 4 ((4, q2, q3), q4) w2
    unfold ttV nV at h3
    dsimp only at h3
    go_wp2_with fail
    refine h3.mono ?_
    rintro e w3 ⟨rfl, hb3⟩
    clear h3
    have HFin : Hid (PPost rb ta cap T op w (.inr ((nnd 4 ((4, q2, q3), q4)), i + 1)) (.returned (nV 4 [] q3 q4 (.slice none 0 0))) (set5 w3 w.heap.size 0 (.int .i64 4) (.string (bsA [])) (.int .i64 q3) (.int .i64 q4) (.slice none 0 0))) := by
      have h := PPost.put (w := w) (w1 := w3) (x := (nnd 4 ((4, q2, q3), q4))) (s := none) (c := 0) (mkX_at0 _ _ _ _ _) (hr2.below hb3) ((HF1.out.trans hF2).trans (Fx.below hb3)) hlt
      have e := mkX_V 4 [] q3 q4 [] none 0
      unfold xV at h
      exact h
    have hz := (HZ1.out.fx hF2 hne).below hb3
    obtain ⟨z0, z1, z2, z3, z4, f0, f1, f2, f3, f4⟩ := own5 hz (.int .i64 4) (.string (bsA [])) (.int .i64 q3) (.int .i64 q4) (.slice none 0 0)
    obtain ⟨d0, d1, d2, d3, d4, g0, g1, g2, g3, g4⟩ := hz
    clear hb3 hr2 hF2 HF1 HZ1 HR1 HQ
    go_wp2
    refine bodyPost_ret (v := .agg #[.int .i64 4, .string (bsA []), .int .i64 q3, .int .i64 q4, .slice none 0 0]) (by unfold set5 at z0 z1 z2 z3 z4; simp [results, Try.results89, go_sem, z0, z1, z2, z3, z4]) rfl ?_
    rw [HRR.out]
    exact HFin.out
  by_cases k5 : q1 = 5
  · subst k5
    have hi := hi0 (by decide)
    clear hi0
    have HRR : Hid (r = .inr ((tnd 5 ((5, q2, q3), q4) []), i + 1)) := (Option.some.inj HH.out).symm
    clear HN HW HB HH
    go_enter Try.func89, Try.ntmps89
    go_wp2_with fail
    refine h1.mono ?_
    rintro e w1 ⟨rfl, hb1⟩
    clear h1
    have HF1 : Hid (Fx rb w w1) := HA.out.trans (Fx.below hb1)
    have HZ1 : Hid (Box5 w1 w.heap.size (.int .i64 0) (.string ⟨#[]⟩) (.int .i64 0) (.int .i64 0) (.slice none 0 0)) := HZ.out.below hb1
    have HR1 : Hid (Rdr w1 rb ta cap T i op) := HR.out.below hb1
    have hs1 : w.heap.size + 1 ≤ w1.heap.size := by have h := hb1.size; rw [World.size_alloc] at h; exact h
    clear hb1 HR HA HZ
    have h2 := take_any rb ta cap T i op w1 HR1.out hi
    rw [HQ.out] at h2
    unfold ptr ttV at h2
    dsimp only at h2
    go_wp2_with fail
    refine h2.mono ?_
    rintro e w2 ⟨rfl, hr2, hF2⟩
    clear h2
    have h3 := textNode_any 5 ((5, q2, q3), q4) none 0 0 w2
    unfold ttV nV at h3
    dsimp only at h3
    go_wp2_with fail
    refine h3.mono ?_
    rintro e w3 ⟨rfl, hb3⟩
    clear h3
    have HFin : Hid (PPost rb ta cap T op w (.inr ((tnd 5 ((5, q2, q3), q4) []), i + 1)) (.returned (nV 5 q2 0 q4 (.slice none 0 0))) (set5 w3 w.heap.size 0 (.int .i64 5) (.string (bsA q2)) (.int .i64 0) (.int .i64 q4) (.slice none 0 0))) := by
      have h := PPost.put (w := w) (w1 := w3) (x := (tnd 5 ((5, q2, q3), q4) [])) (s := none) (c := 0) (mkX_at0 _ _ _ _ _) (hr2.below hb3) ((HF1.out.trans hF2).trans (Fx.below hb3)) hlt
      have e := mkX_V 5 q2 0 q4 [] none 0
      unfold xV at h
      exact h
    have hz := (HZ1.out.fx hF2 hne).below hb3
    obtain ⟨z0, z1, z2, z3, z4, f0, f1, f2, f3, f4⟩ := own5 hz (.int .i64 5) (.string (bsA q2)) (.int .i64 0) (.int .i64 q4) (.slice none 0 0)
    obtain ⟨d0, d1, d2, d3, d4, g0, g1, g2, g3, g4⟩ := hz
    clear hb3 hr2 hF2 HF1 HZ1 HR1 HQ
    go_wp2
    refine bodyPost_ret (v := .agg #[.int .i64 5, .string (bsA q2), .int .i64 0, .int .i64 q4, .slice none 0 0]) (by unfold set5 at z0 z1 z2 z3 z4; simp [results, Try.results89, go_sem, z0, z1, z2, z3, z4]) rfl ?_
    rw [HRR.out]
    exact HFin.out
  clear hi0
  by_cases k1 : q1 = 1
  · subst k1
    have HH : Hid (gn i op = some r) := HH.out
    have HH2 : Hid _ := HH.out
    clear HW HB HH
    go_enter Try.func89, Try.ntmps89
    go_wp2_with fail
    refine h1.mono ?_
    rintro e w1 ⟨rfl, hb1⟩
    clear h1
    have HF1 : Hid (Fx rb w w1) := HA.out.trans (Fx.below hb1)
    have HZ1 : Hid (Box5 w1 w.heap.size (.int .i64 0) (.string ⟨#[]⟩) (.int .i64 0) (.int .i64 0) (.slice none 0 0)) := HZ.out.below hb1
    have HR1 : Hid (Rdr w1 rb ta cap T i op) := HR.out.below hb1
    have hs1 : w.heap.size + 1 ≤ w1.heap.size := by have h := hb1.size; rw [World.size_alloc] at h; exact h
    clear hb1 HR HA HZ
    have h2 := HN.out i op w1 r hop HR1.out HH2.out
    unfold ptr at h2
    go_wp2_with fail
    refine h2.mono ?_
    intro e w2 hpost
    clear h2 HN HH2
    cases r with
    | inl q =>
      obtain ⟨hG, hF⟩ := hpost.no
      unfold GUp at hG
      subst hG
      have HF : Hid _ := HF1.out.trans hF
      clear hpost hF
      go_wp2
      exact ⟨rfl, rfl, HF.out⟩
    | inr q =>
      obtain ⟨x, j⟩ := q
      obtain ⟨⟨⟨s1, c1, rfl, hx⟩, hr2⟩, hF2⟩ := hpost.ok
      dsimp only at hx hr2
      have HFin : Hid _ := PPost.put (w := w) (c := c1) (NdF.keep hs1 (fun _ _ _ => rfl) hx) hr2 (HF1.out.trans hF2) hlt
      have hz := HZ1.out.fx hF2 hne
      obtain ⟨z0, z1, z2, z3, z4, f0, f1, f2, f3, f4⟩ := own5 hz (.int .i64 (xk x)) (.string (bsA (xt x))) (.int .i64 (xn x)) (.int .i64 (xa x)) (.slice s1 (xl x) c1)
      obtain ⟨d0, d1, d2, d3, d4, g0, g1, g2, g3, g4⟩ := hz
      clear hpost hF2 hx hr2 HF1 HZ1 HR1 HQ
      unfold xV nV
      go_wp2
      refine bodyPost_ret (v := .agg #[.int .i64 (xk x), .string (bsA (xt x)), .int .i64 (xn x), .int .i64 (xa x), .slice s1 (xl x) c1]) (by unfold set5 at z0 z1 z2 z3 z4; simp [results, Try.results89, go_sem, z0, z1, z2, z3, z4]) rfl ?_
      exact HFin.out
  by_cases k2 : q1 = 2
  · subst k2
    have HH : Hid (gw i op = some r) := HH.out
    have HH2 : Hid _ := HH.out
    clear HN HB HH
    go_enter Try.func89, Try.ntmps89
    go_wp2_with fail
    refine h1.mono ?_
    rintro e w1 ⟨rfl, hb1⟩
    clear h1
    have HF1 : Hid (Fx rb w w1) := HA.out.trans (Fx.below hb1)
    have HZ1 : Hid (Box5 w1 w.heap.size (.int .i64 0) (.string ⟨#[]⟩) (.int .i64 0) (.int .i64 0) (.slice none 0 0)) := HZ.out.below hb1
    have HR1 : Hid (Rdr w1 rb ta cap T i op) := HR.out.below hb1
    have hs1 : w.heap.size + 1 ≤ w1.heap.size := by have h := hb1.size; rw [World.size_alloc] at h; exact h
    clear hb1 HR HA HZ
    have h2 := HW.out i op w1 r hop HR1.out HH2.out
    unfold ptr at h2
    go_wp2_with fail
    refine h2.mono ?_
    intro e w2 hpost
    clear h2 HW HH2
    cases r with
    | inl q =>
      obtain ⟨hG, hF⟩ := hpost.no
      unfold GUp at hG
      subst hG
      have HF : Hid _ := HF1.out.trans hF
      clear hpost hF
      go_wp2
      exact ⟨rfl, rfl, HF.out⟩
    | inr q =>
      obtain ⟨x, j⟩ := q
      obtain ⟨⟨⟨s1, c1, rfl, hx⟩, hr2⟩, hF2⟩ := hpost.ok
      dsimp only at hx hr2
      have HFin : Hid _ := PPost.put (w := w) (c := c1) (NdF.keep hs1 (fun _ _ _ => rfl) hx) hr2 (HF1.out.trans hF2) hlt
      have hz := HZ1.out.fx hF2 hne
      obtain ⟨z0, z1, z2, z3, z4, f0, f1, f2, f3, f4⟩ := own5 hz (.int .i64 (xk x)) (.string (bsA (xt x))) (.int .i64 (xn x)) (.int .i64 (xa x)) (.slice s1 (xl x) c1)
      obtain ⟨d0, d1, d2, d3, d4, g0, g1, g2, g3, g4⟩ := hz
      clear hpost hF2 hx hr2 HF1 HZ1 HR1 HQ
      unfold xV nV
      go_wp2
      refine bodyPost_ret (v := .agg #[.int .i64 (xk x), .string (bsA (xt x)), .int .i64 (xn x), .int .i64 (xa x), .slice s1 (xl x) c1]) (by unfold set5 at z0 z1 z2 z3 z4; simp [results, Try.results89, go_sem, z0, z1, z2, z3, z4]) rfl ?_
      exact HFin.out
  by_cases k6 : q1 = 6
  · subst k6
    have HH : Hid (gb i op = some r) := HH.out
    have HH2 : Hid _ := HH.out
    clear HN HW HH
    go_enter Try.func89, Try.ntmps89
    go_wp2_with fail
    refine h1.mono ?_
    rintro e w1 ⟨rfl, hb1⟩
    clear h1
    have HF1 : Hid (Fx rb w w1) := HA.out.trans (Fx.below hb1)
    have HZ1 : Hid (Box5 w1 w.heap.size (.int .i64 0) (.string ⟨#[]⟩) (.int .i64 0) (.int .i64 0) (.slice none 0 0)) := HZ.out.below hb1
    have HR1 : Hid (Rdr w1 rb ta cap T i op) := HR.out.below hb1
    have hs1 : w.heap.size + 1 ≤ w1.heap.size := by have h := hb1.size; rw [World.size_alloc] at h; exact h
    clear hb1 HR HA HZ
    have h2 := HB.out i op w1 r hop HR1.out HH2.out
    unfold ptr at h2
    go_wp2_with fail
    refine h2.mono ?_
    intro e w2 hpost
    clear h2 HB HH2
    cases r with
    | inl q =>
      obtain ⟨hG, hF⟩ := hpost.no
      unfold GUp at hG
      subst hG
      have HF : Hid _ := HF1.out.trans hF
      clear hpost hF
      go_wp2
      exact ⟨rfl, rfl, HF.out⟩
    | inr q =>
      obtain ⟨x, j⟩ := q
      obtain ⟨⟨⟨s1, c1, rfl, hx⟩, hr2⟩, hF2⟩ := hpost.ok
      dsimp only at hx hr2
      have HFin : Hid _ := PPost.put (w := w) (c := c1) (NdF.keep hs1 (fun _ _ _ => rfl) hx) hr2 (HF1.out.trans hF2) hlt
      have hz := HZ1.out.fx hF2 hne
      obtain ⟨z0, z1, z2, z3, z4, f0, f1, f2, f3, f4⟩ := own5 hz (.int .i64 (xk x)) (.string (bsA (xt x))) (.int .i64 (xn x)) (.int .i64 (xa x)) (.slice s1 (xl x) c1)
      obtain ⟨d0, d1, d2, d3, d4, g0, g1, g2, g3, g4⟩ := hz
      clear hpost hF2 hx hr2 HF1 HZ1 HR1 HQ
      unfold xV nV
      go_wp2
      refine bodyPost_ret (v := .agg #[.int .i64 (xk x), .string (bsA (xt x)), .int .i64 (xn x), .int .i64 (xa x), .slice s1 (xl x) c1]) (by unfold set5 at z0 z1 z2 z3 z4; simp [results, Try.results89, go_sem, z0, z1, z2, z3, z4]) rfl ?_
      exact HFin.out
  have HRR : Hid (r = .inl (i, 70)) := by
    have h := HH.out
    rw [if_neg k3, if_neg k4, if_neg k5, if_neg k1, if_neg k2, if_neg k6] at h
    exact (Option.some.inj h).symm
  have g3 : (q1 == 3) = false := by rw [beq_eq_false_iff_ne]; exact k3
  have g4 : (q1 == 4) = false := by rw [beq_eq_false_iff_ne]; exact k4
  have g5 : (q1 == 5) = false := by rw [beq_eq_false_iff_ne]; exact k5
  have g1 : (q1 == 1) = false := by rw [beq_eq_false_iff_ne]; exact k1
  have g2 : (q1 == 2) = false := by rw [beq_eq_false_iff_ne]; exact k2
  have g6 : (q1 == 6) = false := by rw [beq_eq_false_iff_ne]; exact k6
  clear HN HW HB HH k1 k2 k3 k4 k5 k6
  go_enter Try.func89, Try.ntmps89
  go_wp2_with fail
  refine h1.mono ?_
  rintro e w1 ⟨rfl, hb1⟩
  clear h1
  have HF1 : Hid (Fx rb w w1) := HA.out.trans (Fx.below hb1)
  have HZ1 : Hid (Box5 w1 w.heap.size (.int .i64 0) (.string ⟨#[]⟩) (.int .i64 0) (.int .i64 0) (.slice none 0 0)) := HZ.out.below hb1
  have HR1 : Hid (Rdr w1 rb ta cap T i op) := HR.out.below hb1
  have hs1 : w.heap.size + 1 ≤ w1.heap.size := by have h := hb1.size; rw [World.size_alloc] at h; exact h
  clear hb1 HR HA HZ
  have h2 := stuck_any rb ta cap T i op 70 w1 HR1.out
  unfold ptr at h2
  go_wp2_with fail
  refine h2.mono ?_
  rintro e w2 ⟨rfl, hb2⟩
  clear h2
  have HF : Hid _ := HF1.out.trans (Fx.below hb2)
  clear hb2
  go_wp2
  exact ⟨rfl, by rw [HRR.out]; exact ⟨rfl, HF.out⟩⟩
end Go.Proofs.Ytcicdapccondkaa
