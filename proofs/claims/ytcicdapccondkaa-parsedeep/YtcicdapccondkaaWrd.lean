/- Expressions that begin with a word (worded). -/
import Derived.Test.YtcicdapccondkaaPrm
namespace Go.Proofs.Ytcicdapccondkaa
open Go.ChangeShapes Go.WideShapes Go.ChangeAt Go.RowKit
set_option linter.unusedSimpArgs false
set_option maxRecDepth 20000
set_option maxHeartbeats 4000000

theorem worded_any (rb : Nat) (ta : Option Addr) (cap : Nat) (T : List Tt) (ga gc : Nat → Nat → Rz X) (hn : Reads rb ta cap T 95 ga) (hw : Reads rb ta cap T 96 gc) : Reads rb ta cap T 92 (fun i op => if (tkI T i).1.2.1 = [110, 117, 108, 108] then okR (mkX 1 [] 0 (tkI T i).2 []) (i + 1) else if (tkI T i).1.2.1 = [102, 97, 108, 115, 101] then okR (mkX 2 [] 0 (tkI T i).2 []) (i + 1) else if (tkI T i).1.2.1 = [116, 114, 117, 101] then okR (mkX 2 [] 1 (tkI T i).2 []) (i + 1) else if aggW.contains (tkI T i).1.2.1 then ga i op else if (tkI T i).1.2.1 = [99, 97, 115, 101] then gc i op else noR i 70) := by
  intro i op w r hop hr h
  have HN : Hid (Reads rb ta cap T 95 ga) := hn
  have HW : Hid (Reads rb ta cap T 96 gc) := hw
  have hA : Below w.heap.size w (w.alloc (Obj.cells #[Value.int IntKind.i64 0, Value.string { data := #[] }, Value.int IntKind.i64 0, Value.int IntKind.i64 0, Value.slice none 0 0] 26)) := (Below.refl _ _).alloc (Nat.le_refl _) _
  have hlt := cell_lt hr.c0
  have hne : w.heap.size ≠ rb := by omega
  have HZ : Hid (Box5 (w.alloc (Obj.cells #[Value.int IntKind.i64 0, Value.string { data := #[] }, Value.int IntKind.i64 0, Value.int IntKind.i64 0, Value.slice none 0 0] 26)) w.heap.size (.int .i64 0) (.string ⟨#[]⟩) (.int .i64 0) (.int .i64 0) (.slice none 0 0)) := Box5.new w (.int .i64 0) (.string ⟨#[]⟩) (.int .i64 0) (.int .i64 0) (.slice none 0 0) 26
  have HA : Hid (Fx rb w (w.alloc (Obj.cells #[Value.int IntKind.i64 0, Value.string { data := #[] }, Value.int IntKind.i64 0, Value.int IntKind.i64 0, Value.slice none 0 0] 26))) := Fx.below hA
  have HR : Hid (Rdr (w.alloc (Obj.cells #[Value.int IntKind.i64 0, Value.string { data := #[] }, Value.int IntKind.i64 0, Value.int IntKind.i64 0, Value.slice none 0 0] 26)) rb ta cap T i op) := hr.below hA
  have h1 := token_any rb ta cap T i op 0 _ HR.out (by omega)
  rw [Nat.add_zero] at h1
  have hi0 : (tkI T i).1.2.1 ≠ [] → i < T.length := fun h => by
    rcases Nat.lt_or_ge i T.length with hl | hl
    · exact hl
    · rw [tkI_end hl] at h
      exact absurd rfl h
  dsimp only at h
  clear hr hn hw hA
  obtain ⟨q, hq⟩ : ∃ q, tkI T i = q := ⟨_, rfl⟩
  rw [hq] at h1 h hi0
  have HQ : Hid (tkI T i = q) := hq
  clear hq
  obtain ⟨⟨q1, q2, q3⟩, q4⟩ := q
  have HH : Hid ((if q2 = [110, 117, 108, 108] then okR (mkX 1 [] 0 q4 []) (i + 1) else if q2 = [102, 97, 108, 115, 101] then okR (mkX 2 [] 0 q4 []) (i + 1) else if q2 = [116, 114, 117, 101] then okR (mkX 2 [] 1 q4 []) (i + 1) else if aggW.contains q2 then ga i op else if q2 = [99, 97, 115, 101] then gc i op else noR i 70) = some r) := h
  clear h
  dsimp only at hi0
  unfold ptr ttV at h1
  unfold ptr
  dsimp only at h1
  have hfd := field51_1
  by_cases k_null : q2 = [110, 117, 108, 108]
  · skip
    have hi := hi0 (by rw [k_null]; decide)
    clear hi0
    have g_null : ((bsA q2).toList == [110, 117, 108, 108]) = true := by rw [bsA_tl, k_null]; rfl
    have HRR : Hid (r = .inr ((mkX 1 [] 0 q4 []), i + 1)) := by
      have h := HH.out
      rw [if_pos k_null] at h
      exact (Option.some.inj h).symm
    clear HN HW HH k_null
    go_enter Try.func92, Try.ntmps92
    go_wp2_with fail
    refine h1.mono ?_
    rintro e w1 ⟨rfl, hb1⟩
    clear h1
    have HF1 : Hid (Fx rb w w1) := HA.out.trans (Fx.below hb1)
    have HZ1 : Hid (Box5 w1 w.heap.size (.int .i64 0) (.string ⟨#[]⟩) (.int .i64 0) (.int .i64 0) (.slice none 0 0)) := HZ.out.below hb1
    have HR1 : Hid (Rdr w1 rb ta cap T i op) := HR.out.below hb1
    have hs1 : w.heap.size + 1 ≤ w1.heap.size := by have h := hb1.size; rw [World.size_alloc] at h; exact h
    clear hb1 HR HA HZ
    have h2 := take_any rb ta cap T i op w1 HR1.out hi
    rw [HQ.out] at h2
    unfold ptr ttV at h2
    dsimp only at h2
    go_wp2_with fail
    refine h2.mono ?_
    rintro e w2 ⟨rfl, hr2, hF2⟩
    clear h2
    have h3 := node_any 1 ((q1, q2, q3), q4) none 0 0 w2
    unfold ttV nV at h3
    dsimp only at h3
    go_wp2_with fail
    refine h3.mono ?_
    rintro e w3 ⟨rfl, hb3⟩
    clear h3
    have HFin : Hid (PPost rb ta cap T op w (.inr ((mkX 1 [] 0 q4 []), i + 1)) (.returned (nV 1 [] 0 q4 (.slice none 0 0))) (set5 w3 w.heap.size 0 (.int .i64 1) (.string (bsA [])) (.int .i64 0) (.int .i64 q4) (.slice none 0 0))) := by
      have h := PPost.put (w := w) (w1 := w3) (x := (mkX 1 [] 0 q4 [])) (s := none) (c := 0) (mkX_at0 _ _ _ _ _) (hr2.below hb3) ((HF1.out.trans hF2).trans (Fx.below hb3)) hlt
      unfold xV at h
      exact h
    have hz := (HZ1.out.fx hF2 hne).below hb3
    obtain ⟨z0, z1, z2, z3, z4, f0, f1, f2, f3, f4⟩ := own5 hz (.int .i64 1) (.string (bsA [])) (.int .i64 0) (.int .i64 q4) (.slice none 0 0)
    obtain ⟨d0, d1, d2, d3, d4, g0, g1, g2, g3, g4⟩ := hz
    clear hb3 hr2 hF2 HF1 HZ1 HR1 HQ
    go_wp2
    refine bodyPost_ret (v := .agg #[.int .i64 1, .string (bsA []), .int .i64 0, .int .i64 q4, .slice none 0 0]) (by unfold set5 at z0 z1 z2 z3 z4; simp [results, Try.results92, go_sem, z0, z1, z2, z3, z4]) rfl ?_
    rw [HRR.out]
    exact HFin.out
  by_cases k_false : q2 = [102, 97, 108, 115, 101]
  · skip
    have hi := hi0 (by rw [k_false]; decide)
    clear hi0
    have g_null : ((bsA q2).toList == [110, 117, 108, 108]) = false := by rw [bsA_tl, beq_eq_false_iff_ne]; exact k_null
    have g_false : ((bsA q2).toList == [102, 97, 108, 115, 101]) = true := by rw [bsA_tl, k_false]; rfl
    have HRR : Hid (r = .inr ((mkX 2 [] 0 q4 []), i + 1)) := by
      have h := HH.out
      rw [if_neg k_null, if_pos k_false] at h
      exact (Option.some.inj h).symm
    clear HN HW HH k_null k_false
    go_enter Try.func92, Try.ntmps92
    go_wp2_with fail
    refine h1.mono ?_
    rintro e w1 ⟨rfl, hb1⟩
    clear h1
    have HF1 : Hid (Fx rb w w1) := HA.out.trans (Fx.below hb1)
    have HZ1 : Hid (Box5 w1 w.heap.size (.int .i64 0) (.string ⟨#[]⟩) (.int .i64 0) (.int .i64 0) (.slice none 0 0)) := HZ.out.below hb1
    have HR1 : Hid (Rdr w1 rb ta cap T i op) := HR.out.below hb1
    have hs1 : w.heap.size + 1 ≤ w1.heap.size := by have h := hb1.size; rw [World.size_alloc] at h; exact h
    clear hb1 HR HA HZ
    have h2 := take_any rb ta cap T i op w1 HR1.out hi
    rw [HQ.out] at h2
    unfold ptr ttV at h2
    dsimp only at h2
    go_wp2_with fail
    refine h2.mono ?_
    rintro e w2 ⟨rfl, hr2, hF2⟩
    clear h2
    have h3 := node_any 2 ((q1, q2, q3), q4) none 0 0 w2
    unfold ttV nV at h3
    dsimp only at h3
    go_wp2_with fail
    refine h3.mono ?_
    rintro e w3 ⟨rfl, hb3⟩
    clear h3
    have HFin : Hid (PPost rb ta cap T op w (.inr ((mkX 2 [] 0 q4 []), i + 1)) (.returned (nV 2 [] 0 q4 (.slice none 0 0))) (set5 w3 w.heap.size 0 (.int .i64 2) (.string (bsA [])) (.int .i64 0) (.int .i64 q4) (.slice none 0 0))) := by
      have h := PPost.put (w := w) (w1 := w3) (x := (mkX 2 [] 0 q4 [])) (s := none) (c := 0) (mkX_at0 _ _ _ _ _) (hr2.below hb3) ((HF1.out.trans hF2).trans (Fx.below hb3)) hlt
      unfold xV at h
      exact h
    have hz := (HZ1.out.fx hF2 hne).below hb3
    obtain ⟨z0, z1, z2, z3, z4, f0, f1, f2, f3, f4⟩ := own5 hz (.int .i64 2) (.string (bsA [])) (.int .i64 0) (.int .i64 q4) (.slice none 0 0)
    obtain ⟨d0, d1, d2, d3, d4, g0, g1, g2, g3, g4⟩ := hz
    clear hb3 hr2 hF2 HF1 HZ1 HR1 HQ
    go_wp2
    refine bodyPost_ret (v := .agg #[.int .i64 2, .string (bsA []), .int .i64 0, .int .i64 q4, .slice none 0 0]) (by unfold set5 at z0 z1 z2 z3 z4; simp [results, Try.results92, go_sem, z0, z1, z2, z3, z4]) rfl ?_
    rw [HRR.out]
    exact HFin.out
  by_cases k_true : q2 = [116, 114, 117, 101]
  · skip
    have hi := hi0 (by rw [k_true]; decide)
    clear hi0
    have g_null : ((bsA q2).toList == [110, 117, 108, 108]) = false := by rw [bsA_tl, beq_eq_false_iff_ne]; exact k_null
    have g_false : ((bsA q2).toList == [102, 97, 108, 115, 101]) = false := by rw [bsA_tl, beq_eq_false_iff_ne]; exact k_false
    have g_true : ((bsA q2).toList == [116, 114, 117, 101]) = true := by rw [bsA_tl, k_true]; rfl
    have HRR : Hid (r = .inr ((mkX 2 [] 1 q4 []), i + 1)) := by
      have h := HH.out
      rw [if_neg k_null, if_neg k_false, if_pos k_true] at h
      exact (Option.some.inj h).symm
    clear HN HW HH k_null k_false k_true
    go_enter Try.func92, Try.ntmps92
    go_wp2_with fail
    refine h1.mono ?_
    rintro e w1 ⟨rfl, hb1⟩
    clear h1
    have HF1 : Hid (Fx rb w w1) := HA.out.trans (Fx.below hb1)
    have HZ1 : Hid (Box5 w1 w.heap.size (.int .i64 0) (.string ⟨#[]⟩) (.int .i64 0) (.int .i64 0) (.slice none 0 0)) := HZ.out.below hb1
    have HR1 : Hid (Rdr w1 rb ta cap T i op) := HR.out.below hb1
    have hs1 : w.heap.size + 1 ≤ w1.heap.size := by have h := hb1.size; rw [World.size_alloc] at h; exact h
    clear hb1 HR HA HZ
    have h2 := take_any rb ta cap T i op w1 HR1.out hi
    rw [HQ.out] at h2
    unfold ptr ttV at h2
    dsimp only at h2
    go_wp2_with fail
    refine h2.mono ?_
    rintro e w2 ⟨rfl, hr2, hF2⟩
    clear h2
    have h3 := node_any 2 ((q1, q2, q3), q4) none 0 0 w2
    unfold ttV nV at h3
    dsimp only at h3
    go_wp2_with fail
    refine h3.mono ?_
    rintro e w3 ⟨rfl, hb3⟩
    clear h3
    have hY : Below w3.heap.size w3 (w3.alloc (Obj.cells #[Value.int IntKind.i64 2, Value.string (bsA []), Value.int IntKind.i64 1, Value.int IntKind.i64 q4, Value.slice none 0 0] 26)) := (Below.refl _ _).alloc (Nat.le_refl _) _
    have HFin : Hid (PPost rb ta cap T op w (.inr ((mkX 2 [] 1 q4 []), i + 1)) (.returned (nV 2 [] 1 q4 (.slice none 0 0))) (set5 (w3.alloc (Obj.cells #[Value.int IntKind.i64 2, Value.string (bsA []), Value.int IntKind.i64 1, Value.int IntKind.i64 q4, Value.slice none 0 0] 26)) w.heap.size 0 (.int .i64 2) (.string (bsA [])) (.int .i64 1) (.int .i64 q4) (.slice none 0 0))) := by
      have h := PPost.put (w := w) (w1 := (w3.alloc (Obj.cells #[Value.int IntKind.i64 2, Value.string (bsA []), Value.int IntKind.i64 1, Value.int IntKind.i64 q4, Value.slice none 0 0] 26))) (x := (mkX 2 [] 1 q4 [])) (s := none) (c := 0) (mkX_at0 _ _ _ _ _) (hr2.below (hb3.trans (hY.mono hb3.size))) ((HF1.out.trans hF2).trans (Fx.below (hb3.trans (hY.mono hb3.size)))) hlt
      unfold xV at h
      exact h
    have hz := (HZ1.out.fx hF2 hne).below (hb3.trans (hY.mono hb3.size))
    obtain ⟨z0, z1, z2, z3, z4, f0, f1, f2, f3, f4⟩ := own5 hz (.int .i64 2) (.string (bsA [])) (.int .i64 1) (.int .i64 q4) (.slice none 0 0)
    obtain ⟨d0, d1, d2, d3, d4, g0, g1, g2, g3, g4⟩ := hz
    obtain ⟨b0, b1, b2, b3, b4, e0, e1, e2, e3, e4⟩ := Box5.new w3 (.int .i64 2) (.string (bsA [])) (.int .i64 1) (.int .i64 q4) (.slice none 0 0) 26
    obtain ⟨i0, i1, i2, i3, i4, j0, j1, j2, j3, j4⟩ := Box5.new w3 (.int .i64 2) (.string (bsA [])) (.int .i64 0) (.int .i64 q4) (.slice none 0 0) 26
    have hn3 : w.heap.size ≠ w3.heap.size := by have h1 := hF2.size; have h2 := hb3.size; omega
    clear hb3 hr2 hF2 HF1 HZ1 HR1 HQ
    go_wp2
    refine bodyPost_ret (v := .agg #[.int .i64 2, .string (bsA []), .int .i64 1, .int .i64 q4, .slice none 0 0]) (by unfold set5 at z0 z1 z2 z3 z4; simp [results, Try.results92, go_sem, z0, z1, z2, z3, z4]) rfl ?_
    rw [HRR.out]
    exact HFin.out
  by_cases k_count : q2 = [99, 111, 117, 110, 116]
  · skip
    clear hi0
    have HH : Hid (ga i op = some r) := by
      have h := HH.out
      rw [if_neg k_null, if_neg k_false, if_neg k_true, if_pos (by rw [k_count]; decide)] at h
      exact h
    have g_null : ((bsA q2).toList == [110, 117, 108, 108]) = false := by rw [bsA_tl, beq_eq_false_iff_ne]; exact k_null
    have g_false : ((bsA q2).toList == [102, 97, 108, 115, 101]) = false := by rw [bsA_tl, beq_eq_false_iff_ne]; exact k_false
    have g_true : ((bsA q2).toList == [116, 114, 117, 101]) = false := by rw [bsA_tl, beq_eq_false_iff_ne]; exact k_true
    have g_count : ((bsA q2).toList == [99, 111, 117, 110, 116]) = true := by rw [bsA_tl, k_count]; rfl
    clear k_null k_false k_true k_count
    have HH2 : Hid _ := HH.out
    clear HW HH
    go_enter Try.func92, Try.ntmps92
    go_wp2_with fail
    refine h1.mono ?_
    rintro e w1 ⟨rfl, hb1⟩
    clear h1
    have HF1 : Hid (Fx rb w w1) := HA.out.trans (Fx.below hb1)
    have HZ1 : Hid (Box5 w1 w.heap.size (.int .i64 0) (.string ⟨#[]⟩) (.int .i64 0) (.int .i64 0) (.slice none 0 0)) := HZ.out.below hb1
    have HR1 : Hid (Rdr w1 rb ta cap T i op) := HR.out.below hb1
    have hs1 : w.heap.size + 1 ≤ w1.heap.size := by have h := hb1.size; rw [World.size_alloc] at h; exact h
    clear hb1 HR HA HZ
    have h2 := HN.out i op w1 r hop HR1.out HH2.out
    unfold ptr at h2
    go_wp2_with fail
    refine h2.mono ?_
    intro e w2 hpost
    clear h2 HN HH2
    cases r with
    | inl q =>
      obtain ⟨hG, hF⟩ := hpost.no
      unfold GUp at hG
      subst hG
      have HF : Hid _ := HF1.out.trans hF
      clear hpost hF
      go_wp2
      exact ⟨rfl, rfl, HF.out⟩
    | inr q =>
      obtain ⟨x, j⟩ := q
      obtain ⟨⟨⟨s1, c1, rfl, hx⟩, hr2⟩, hF2⟩ := hpost.ok
      dsimp only at hx hr2
      have HFin : Hid _ := PPost.put (w := w) (c := c1) (NdF.keep hs1 (fun _ _ _ => rfl) hx) hr2 (HF1.out.trans hF2) hlt
      have hz := HZ1.out.fx hF2 hne
      obtain ⟨z0, z1, z2, z3, z4, f0, f1, f2, f3, f4⟩ := own5 hz (.int .i64 (xk x)) (.string (bsA (xt x))) (.int .i64 (xn x)) (.int .i64 (xa x)) (.slice s1 (xl x) c1)
      obtain ⟨d0, d1, d2, d3, d4, g0, g1, g2, g3, g4⟩ := hz
      clear hpost hF2 hx hr2 HF1 HZ1 HR1 HQ
      unfold xV nV
      go_wp2
      refine bodyPost_ret (v := .agg #[.int .i64 (xk x), .string (bsA (xt x)), .int .i64 (xn x), .int .i64 (xa x), .slice s1 (xl x) c1]) (by unfold set5 at z0 z1 z2 z3 z4; simp [results, Try.results92, go_sem, z0, z1, z2, z3, z4]) rfl ?_
      exact HFin.out
  by_cases k_sum : q2 = [115, 117, 109]
  · skip
    clear hi0
    have HH : Hid (ga i op = some r) := by
      have h := HH.out
      rw [if_neg k_null, if_neg k_false, if_neg k_true, if_pos (by rw [k_sum]; decide)] at h
      exact h
    have g_null : ((bsA q2).toList == [110, 117, 108, 108]) = false := by rw [bsA_tl, beq_eq_false_iff_ne]; exact k_null
    have g_false : ((bsA q2).toList == [102, 97, 108, 115, 101]) = false := by rw [bsA_tl, beq_eq_false_iff_ne]; exact k_false
    have g_true : ((bsA q2).toList == [116, 114, 117, 101]) = false := by rw [bsA_tl, beq_eq_false_iff_ne]; exact k_true
    have g_count : ((bsA q2).toList == [99, 111, 117, 110, 116]) = false := by rw [bsA_tl, beq_eq_false_iff_ne]; exact k_count
    have g_sum : ((bsA q2).toList == [115, 117, 109]) = true := by rw [bsA_tl, k_sum]; rfl
    clear k_null k_false k_true k_count k_sum
    have HH2 : Hid _ := HH.out
    clear HW HH
    go_enter Try.func92, Try.ntmps92
    go_wp2_with fail
    refine h1.mono ?_
    rintro e w1 ⟨rfl, hb1⟩
    clear h1
    have HF1 : Hid (Fx rb w w1) := HA.out.trans (Fx.below hb1)
    have HZ1 : Hid (Box5 w1 w.heap.size (.int .i64 0) (.string ⟨#[]⟩) (.int .i64 0) (.int .i64 0) (.slice none 0 0)) := HZ.out.below hb1
    have HR1 : Hid (Rdr w1 rb ta cap T i op) := HR.out.below hb1
    have hs1 : w.heap.size + 1 ≤ w1.heap.size := by have h := hb1.size; rw [World.size_alloc] at h; exact h
    clear hb1 HR HA HZ
    have h2 := HN.out i op w1 r hop HR1.out HH2.out
    unfold ptr at h2
    go_wp2_with fail
    refine h2.mono ?_
    intro e w2 hpost
    clear h2 HN HH2
    cases r with
    | inl q =>
      obtain ⟨hG, hF⟩ := hpost.no
      unfold GUp at hG
      subst hG
      have HF : Hid _ := HF1.out.trans hF
      clear hpost hF
      go_wp2
      exact ⟨rfl, rfl, HF.out⟩
    | inr q =>
      obtain ⟨x, j⟩ := q
      obtain ⟨⟨⟨s1, c1, rfl, hx⟩, hr2⟩, hF2⟩ := hpost.ok
      dsimp only at hx hr2
      have HFin : Hid _ := PPost.put (w := w) (c := c1) (NdF.keep hs1 (fun _ _ _ => rfl) hx) hr2 (HF1.out.trans hF2) hlt
      have hz := HZ1.out.fx hF2 hne
      obtain ⟨z0, z1, z2, z3, z4, f0, f1, f2, f3, f4⟩ := own5 hz (.int .i64 (xk x)) (.string (bsA (xt x))) (.int .i64 (xn x)) (.int .i64 (xa x)) (.slice s1 (xl x) c1)
      obtain ⟨d0, d1, d2, d3, d4, g0, g1, g2, g3, g4⟩ := hz
      clear hpost hF2 hx hr2 HF1 HZ1 HR1 HQ
      unfold xV nV
      go_wp2
      refine bodyPost_ret (v := .agg #[.int .i64 (xk x), .string (bsA (xt x)), .int .i64 (xn x), .int .i64 (xa x), .slice s1 (xl x) c1]) (by unfold set5 at z0 z1 z2 z3 z4; simp [results, Try.results92, go_sem, z0, z1, z2, z3, z4]) rfl ?_
      exact HFin.out
  by_cases k_avg : q2 = [97, 118, 103]
  · skip
    clear hi0
    have HH : Hid (ga i op = some r) := by
      have h := HH.out
      rw [if_neg k_null, if_neg k_false, if_neg k_true, if_pos (by rw [k_avg]; decide)] at h
      exact h
    have g_null : ((bsA q2).toList == [110, 117, 108, 108]) = false := by rw [bsA_tl, beq_eq_false_iff_ne]; exact k_null
    have g_false : ((bsA q2).toList == [102, 97, 108, 115, 101]) = false := by rw [bsA_tl, beq_eq_false_iff_ne]; exact k_false
    have g_true : ((bsA q2).toList == [116, 114, 117, 101]) = false := by rw [bsA_tl, beq_eq_false_iff_ne]; exact k_true
    have g_count : ((bsA q2).toList == [99, 111, 117, 110, 116]) = false := by rw [bsA_tl, beq_eq_false_iff_ne]; exact k_count
    have g_sum : ((bsA q2).toList == [115, 117, 109]) = false := by rw [bsA_tl, beq_eq_false_iff_ne]; exact k_sum
    have g_avg : ((bsA q2).toList == [97, 118, 103]) = true := by rw [bsA_tl, k_avg]; rfl
    clear k_null k_false k_true k_count k_sum k_avg
    have HH2 : Hid _ := HH.out
    clear HW HH
    go_enter Try.func92, Try.ntmps92
    go_wp2_with fail
    refine h1.mono ?_
    rintro e w1 ⟨rfl, hb1⟩
    clear h1
    have HF1 : Hid (Fx rb w w1) := HA.out.trans (Fx.below hb1)
    have HZ1 : Hid (Box5 w1 w.heap.size (.int .i64 0) (.string ⟨#[]⟩) (.int .i64 0) (.int .i64 0) (.slice none 0 0)) := HZ.out.below hb1
    have HR1 : Hid (Rdr w1 rb ta cap T i op) := HR.out.below hb1
    have hs1 : w.heap.size + 1 ≤ w1.heap.size := by have h := hb1.size; rw [World.size_alloc] at h; exact h
    clear hb1 HR HA HZ
    have h2 := HN.out i op w1 r hop HR1.out HH2.out
    unfold ptr at h2
    go_wp2_with fail
    refine h2.mono ?_
    intro e w2 hpost
    clear h2 HN HH2
    cases r with
    | inl q =>
      obtain ⟨hG, hF⟩ := hpost.no
      unfold GUp at hG
      subst hG
      have HF : Hid _ := HF1.out.trans hF
      clear hpost hF
      go_wp2
      exact ⟨rfl, rfl, HF.out⟩
    | inr q =>
      obtain ⟨x, j⟩ := q
      obtain ⟨⟨⟨s1, c1, rfl, hx⟩, hr2⟩, hF2⟩ := hpost.ok
      dsimp only at hx hr2
      have HFin : Hid _ := PPost.put (w := w) (c := c1) (NdF.keep hs1 (fun _ _ _ => rfl) hx) hr2 (HF1.out.trans hF2) hlt
      have hz := HZ1.out.fx hF2 hne
      obtain ⟨z0, z1, z2, z3, z4, f0, f1, f2, f3, f4⟩ := own5 hz (.int .i64 (xk x)) (.string (bsA (xt x))) (.int .i64 (xn x)) (.int .i64 (xa x)) (.slice s1 (xl x) c1)
      obtain ⟨d0, d1, d2, d3, d4, g0, g1, g2, g3, g4⟩ := hz
      clear hpost hF2 hx hr2 HF1 HZ1 HR1 HQ
      unfold xV nV
      go_wp2
      refine bodyPost_ret (v := .agg #[.int .i64 (xk x), .string (bsA (xt x)), .int .i64 (xn x), .int .i64 (xa x), .slice s1 (xl x) c1]) (by unfold set5 at z0 z1 z2 z3 z4; simp [results, Try.results92, go_sem, z0, z1, z2, z3, z4]) rfl ?_
      exact HFin.out
  by_cases k_min : q2 = [109, 105, 110]
  · skip
    clear hi0
    have HH : Hid (ga i op = some r) := by
      have h := HH.out
      rw [if_neg k_null, if_neg k_false, if_neg k_true, if_pos (by rw [k_min]; decide)] at h
      exact h
    have g_null : ((bsA q2).toList == [110, 117, 108, 108]) = false := by rw [bsA_tl, beq_eq_false_iff_ne]; exact k_null
    have g_false : ((bsA q2).toList == [102, 97, 108, 115, 101]) = false := by rw [bsA_tl, beq_eq_false_iff_ne]; exact k_false
    have g_true : ((bsA q2).toList == [116, 114, 117, 101]) = false := by rw [bsA_tl, beq_eq_false_iff_ne]; exact k_true
    have g_count : ((bsA q2).toList == [99, 111, 117, 110, 116]) = false := by rw [bsA_tl, beq_eq_false_iff_ne]; exact k_count
    have g_sum : ((bsA q2).toList == [115, 117, 109]) = false := by rw [bsA_tl, beq_eq_false_iff_ne]; exact k_sum
    have g_avg : ((bsA q2).toList == [97, 118, 103]) = false := by rw [bsA_tl, beq_eq_false_iff_ne]; exact k_avg
    have g_min : ((bsA q2).toList == [109, 105, 110]) = true := by rw [bsA_tl, k_min]; rfl
    clear k_null k_false k_true k_count k_sum k_avg k_min
    have HH2 : Hid _ := HH.out
    clear HW HH
    go_enter Try.func92, Try.ntmps92
    go_wp2_with fail
    refine h1.mono ?_
    rintro e w1 ⟨rfl, hb1⟩
    clear h1
    have HF1 : Hid (Fx rb w w1) := HA.out.trans (Fx.below hb1)
    have HZ1 : Hid (Box5 w1 w.heap.size (.int .i64 0) (.string ⟨#[]⟩) (.int .i64 0) (.int .i64 0) (.slice none 0 0)) := HZ.out.below hb1
    have HR1 : Hid (Rdr w1 rb ta cap T i op) := HR.out.below hb1
    have hs1 : w.heap.size + 1 ≤ w1.heap.size := by have h := hb1.size; rw [World.size_alloc] at h; exact h
    clear hb1 HR HA HZ
    have h2 := HN.out i op w1 r hop HR1.out HH2.out
    unfold ptr at h2
    go_wp2_with fail
    refine h2.mono ?_
    intro e w2 hpost
    clear h2 HN HH2
    cases r with
    | inl q =>
      obtain ⟨hG, hF⟩ := hpost.no
      unfold GUp at hG
      subst hG
      have HF : Hid _ := HF1.out.trans hF
      clear hpost hF
      go_wp2
      exact ⟨rfl, rfl, HF.out⟩
    | inr q =>
      obtain ⟨x, j⟩ := q
      obtain ⟨⟨⟨s1, c1, rfl, hx⟩, hr2⟩, hF2⟩ := hpost.ok
      dsimp only at hx hr2
      have HFin : Hid _ := PPost.put (w := w) (c := c1) (NdF.keep hs1 (fun _ _ _ => rfl) hx) hr2 (HF1.out.trans hF2) hlt
      have hz := HZ1.out.fx hF2 hne
      obtain ⟨z0, z1, z2, z3, z4, f0, f1, f2, f3, f4⟩ := own5 hz (.int .i64 (xk x)) (.string (bsA (xt x))) (.int .i64 (xn x)) (.int .i64 (xa x)) (.slice s1 (xl x) c1)
      obtain ⟨d0, d1, d2, d3, d4, g0, g1, g2, g3, g4⟩ := hz
      clear hpost hF2 hx hr2 HF1 HZ1 HR1 HQ
      unfold xV nV
      go_wp2
      refine bodyPost_ret (v := .agg #[.int .i64 (xk x), .string (bsA (xt x)), .int .i64 (xn x), .int .i64 (xa x), .slice s1 (xl x) c1]) (by unfold set5 at z0 z1 z2 z3 z4; simp [results, Try.results92, go_sem, z0, z1, z2, z3, z4]) rfl ?_
      exact HFin.out
  by_cases k_max : q2 = [109, 97, 120]
  · skip
    clear hi0
    have HH : Hid (ga i op = some r) := by
      have h := HH.out
      rw [if_neg k_null, if_neg k_false, if_neg k_true, if_pos (by rw [k_max]; decide)] at h
      exact h
    have g_null : ((bsA q2).toList == [110, 117, 108, 108]) = false := by rw [bsA_tl, beq_eq_false_iff_ne]; exact k_null
    have g_false : ((bsA q2).toList == [102, 97, 108, 115, 101]) = false := by rw [bsA_tl, beq_eq_false_iff_ne]; exact k_false
    have g_true : ((bsA q2).toList == [116, 114, 117, 101]) = false := by rw [bsA_tl, beq_eq_false_iff_ne]; exact k_true
    have g_count : ((bsA q2).toList == [99, 111, 117, 110, 116]) = false := by rw [bsA_tl, beq_eq_false_iff_ne]; exact k_count
    have g_sum : ((bsA q2).toList == [115, 117, 109]) = false := by rw [bsA_tl, beq_eq_false_iff_ne]; exact k_sum
    have g_avg : ((bsA q2).toList == [97, 118, 103]) = false := by rw [bsA_tl, beq_eq_false_iff_ne]; exact k_avg
    have g_min : ((bsA q2).toList == [109, 105, 110]) = false := by rw [bsA_tl, beq_eq_false_iff_ne]; exact k_min
    have g_max : ((bsA q2).toList == [109, 97, 120]) = true := by rw [bsA_tl, k_max]; rfl
    clear k_null k_false k_true k_count k_sum k_avg k_min k_max
    have HH2 : Hid _ := HH.out
    clear HW HH
    go_enter Try.func92, Try.ntmps92
    go_wp2_with fail
    refine h1.mono ?_
    rintro e w1 ⟨rfl, hb1⟩
    clear h1
    have HF1 : Hid (Fx rb w w1) := HA.out.trans (Fx.below hb1)
    have HZ1 : Hid (Box5 w1 w.heap.size (.int .i64 0) (.string ⟨#[]⟩) (.int .i64 0) (.int .i64 0) (.slice none 0 0)) := HZ.out.below hb1
    have HR1 : Hid (Rdr w1 rb ta cap T i op) := HR.out.below hb1
    have hs1 : w.heap.size + 1 ≤ w1.heap.size := by have h := hb1.size; rw [World.size_alloc] at h; exact h
    clear hb1 HR HA HZ
    have h2 := HN.out i op w1 r hop HR1.out HH2.out
    unfold ptr at h2
    go_wp2_with fail
    refine h2.mono ?_
    intro e w2 hpost
    clear h2 HN HH2
    cases r with
    | inl q =>
      obtain ⟨hG, hF⟩ := hpost.no
      unfold GUp at hG
      subst hG
      have HF : Hid _ := HF1.out.trans hF
      clear hpost hF
      go_wp2
      exact ⟨rfl, rfl, HF.out⟩
    | inr q =>
      obtain ⟨x, j⟩ := q
      obtain ⟨⟨⟨s1, c1, rfl, hx⟩, hr2⟩, hF2⟩ := hpost.ok
      dsimp only at hx hr2
      have HFin : Hid _ := PPost.put (w := w) (c := c1) (NdF.keep hs1 (fun _ _ _ => rfl) hx) hr2 (HF1.out.trans hF2) hlt
      have hz := HZ1.out.fx hF2 hne
      obtain ⟨z0, z1, z2, z3, z4, f0, f1, f2, f3, f4⟩ := own5 hz (.int .i64 (xk x)) (.string (bsA (xt x))) (.int .i64 (xn x)) (.int .i64 (xa x)) (.slice s1 (xl x) c1)
      obtain ⟨d0, d1, d2, d3, d4, g0, g1, g2, g3, g4⟩ := hz
      clear hpost hF2 hx hr2 HF1 HZ1 HR1 HQ
      unfold xV nV
      go_wp2
      refine bodyPost_ret (v := .agg #[.int .i64 (xk x), .string (bsA (xt x)), .int .i64 (xn x), .int .i64 (xa x), .slice s1 (xl x) c1]) (by unfold set5 at z0 z1 z2 z3 z4; simp [results, Try.results92, go_sem, z0, z1, z2, z3, z4]) rfl ?_
      exact HFin.out
  by_cases k_first : q2 = [102, 105, 114, 115, 116]
  · skip
    clear hi0
    have HH : Hid (ga i op = some r) := by
      have h := HH.out
      rw [if_neg k_null, if_neg k_false, if_neg k_true, if_pos (by rw [k_first]; decide)] at h
      exact h
    have g_null : ((bsA q2).toList == [110, 117, 108, 108]) = false := by rw [bsA_tl, beq_eq_false_iff_ne]; exact k_null
    have g_false : ((bsA q2).toList == [102, 97, 108, 115, 101]) = false := by rw [bsA_tl, beq_eq_false_iff_ne]; exact k_false
    have g_true : ((bsA q2).toList == [116, 114, 117, 101]) = false := by rw [bsA_tl, beq_eq_false_iff_ne]; exact k_true
    have g_count : ((bsA q2).toList == [99, 111, 117, 110, 116]) = false := by rw [bsA_tl, beq_eq_false_iff_ne]; exact k_count
    have g_sum : ((bsA q2).toList == [115, 117, 109]) = false := by rw [bsA_tl, beq_eq_false_iff_ne]; exact k_sum
    have g_avg : ((bsA q2).toList == [97, 118, 103]) = false := by rw [bsA_tl, beq_eq_false_iff_ne]; exact k_avg
    have g_min : ((bsA q2).toList == [109, 105, 110]) = false := by rw [bsA_tl, beq_eq_false_iff_ne]; exact k_min
    have g_max : ((bsA q2).toList == [109, 97, 120]) = false := by rw [bsA_tl, beq_eq_false_iff_ne]; exact k_max
    have g_first : ((bsA q2).toList == [102, 105, 114, 115, 116]) = true := by rw [bsA_tl, k_first]; rfl
    clear k_null k_false k_true k_count k_sum k_avg k_min k_max k_first
    have HH2 : Hid _ := HH.out
    clear HW HH
    go_enter Try.func92, Try.ntmps92
    go_wp2_with fail
    refine h1.mono ?_
    rintro e w1 ⟨rfl, hb1⟩
    clear h1
    have HF1 : Hid (Fx rb w w1) := HA.out.trans (Fx.below hb1)
    have HZ1 : Hid (Box5 w1 w.heap.size (.int .i64 0) (.string ⟨#[]⟩) (.int .i64 0) (.int .i64 0) (.slice none 0 0)) := HZ.out.below hb1
    have HR1 : Hid (Rdr w1 rb ta cap T i op) := HR.out.below hb1
    have hs1 : w.heap.size + 1 ≤ w1.heap.size := by have h := hb1.size; rw [World.size_alloc] at h; exact h
    clear hb1 HR HA HZ
    have h2 := HN.out i op w1 r hop HR1.out HH2.out
    unfold ptr at h2
    go_wp2_with fail
    refine h2.mono ?_
    intro e w2 hpost
    clear h2 HN HH2
    cases r with
    | inl q =>
      obtain ⟨hG, hF⟩ := hpost.no
      unfold GUp at hG
      subst hG
      have HF : Hid _ := HF1.out.trans hF
      clear hpost hF
      go_wp2
      exact ⟨rfl, rfl, HF.out⟩
    | inr q =>
      obtain ⟨x, j⟩ := q
      obtain ⟨⟨⟨s1, c1, rfl, hx⟩, hr2⟩, hF2⟩ := hpost.ok
      dsimp only at hx hr2
      have HFin : Hid _ := PPost.put (w := w) (c := c1) (NdF.keep hs1 (fun _ _ _ => rfl) hx) hr2 (HF1.out.trans hF2) hlt
      have hz := HZ1.out.fx hF2 hne
      obtain ⟨z0, z1, z2, z3, z4, f0, f1, f2, f3, f4⟩ := own5 hz (.int .i64 (xk x)) (.string (bsA (xt x))) (.int .i64 (xn x)) (.int .i64 (xa x)) (.slice s1 (xl x) c1)
      obtain ⟨d0, d1, d2, d3, d4, g0, g1, g2, g3, g4⟩ := hz
      clear hpost hF2 hx hr2 HF1 HZ1 HR1 HQ
      unfold xV nV
      go_wp2
      refine bodyPost_ret (v := .agg #[.int .i64 (xk x), .string (bsA (xt x)), .int .i64 (xn x), .int .i64 (xa x), .slice s1 (xl x) c1]) (by unfold set5 at z0 z1 z2 z3 z4; simp [results, Try.results92, go_sem, z0, z1, z2, z3, z4]) rfl ?_
      exact HFin.out
  by_cases k_last : q2 = [108, 97, 115, 116]
  · skip
    clear hi0
    have HH : Hid (ga i op = some r) := by
      have h := HH.out
      rw [if_neg k_null, if_neg k_false, if_neg k_true, if_pos (by rw [k_last]; decide)] at h
      exact h
    have g_null : ((bsA q2).toList == [110, 117, 108, 108]) = false := by rw [bsA_tl, beq_eq_false_iff_ne]; exact k_null
    have g_false : ((bsA q2).toList == [102, 97, 108, 115, 101]) = false := by rw [bsA_tl, beq_eq_false_iff_ne]; exact k_false
    have g_true : ((bsA q2).toList == [116, 114, 117, 101]) = false := by rw [bsA_tl, beq_eq_false_iff_ne]; exact k_true
    have g_count : ((bsA q2).toList == [99, 111, 117, 110, 116]) = false := by rw [bsA_tl, beq_eq_false_iff_ne]; exact k_count
    have g_sum : ((bsA q2).toList == [115, 117, 109]) = false := by rw [bsA_tl, beq_eq_false_iff_ne]; exact k_sum
    have g_avg : ((bsA q2).toList == [97, 118, 103]) = false := by rw [bsA_tl, beq_eq_false_iff_ne]; exact k_avg
    have g_min : ((bsA q2).toList == [109, 105, 110]) = false := by rw [bsA_tl, beq_eq_false_iff_ne]; exact k_min
    have g_max : ((bsA q2).toList == [109, 97, 120]) = false := by rw [bsA_tl, beq_eq_false_iff_ne]; exact k_max
    have g_first : ((bsA q2).toList == [102, 105, 114, 115, 116]) = false := by rw [bsA_tl, beq_eq_false_iff_ne]; exact k_first
    have g_last : ((bsA q2).toList == [108, 97, 115, 116]) = true := by rw [bsA_tl, k_last]; rfl
    clear k_null k_false k_true k_count k_sum k_avg k_min k_max k_first k_last
    have HH2 : Hid _ := HH.out
    clear HW HH
    go_enter Try.func92, Try.ntmps92
    go_wp2_with fail
    refine h1.mono ?_
    rintro e w1 ⟨rfl, hb1⟩
    clear h1
    have HF1 : Hid (Fx rb w w1) := HA.out.trans (Fx.below hb1)
    have HZ1 : Hid (Box5 w1 w.heap.size (.int .i64 0) (.string ⟨#[]⟩) (.int .i64 0) (.int .i64 0) (.slice none 0 0)) := HZ.out.below hb1
    have HR1 : Hid (Rdr w1 rb ta cap T i op) := HR.out.below hb1
    have hs1 : w.heap.size + 1 ≤ w1.heap.size := by have h := hb1.size; rw [World.size_alloc] at h; exact h
    clear hb1 HR HA HZ
    have h2 := HN.out i op w1 r hop HR1.out HH2.out
    unfold ptr at h2
    go_wp2_with fail
    refine h2.mono ?_
    intro e w2 hpost
    clear h2 HN HH2
    cases r with
    | inl q =>
      obtain ⟨hG, hF⟩ := hpost.no
      unfold GUp at hG
      subst hG
      have HF : Hid _ := HF1.out.trans hF
      clear hpost hF
      go_wp2
      exact ⟨rfl, rfl, HF.out⟩
    | inr q =>
      obtain ⟨x, j⟩ := q
      obtain ⟨⟨⟨s1, c1, rfl, hx⟩, hr2⟩, hF2⟩ := hpost.ok
      dsimp only at hx hr2
      have HFin : Hid _ := PPost.put (w := w) (c := c1) (NdF.keep hs1 (fun _ _ _ => rfl) hx) hr2 (HF1.out.trans hF2) hlt
      have hz := HZ1.out.fx hF2 hne
      obtain ⟨z0, z1, z2, z3, z4, f0, f1, f2, f3, f4⟩ := own5 hz (.int .i64 (xk x)) (.string (bsA (xt x))) (.int .i64 (xn x)) (.int .i64 (xa x)) (.slice s1 (xl x) c1)
      obtain ⟨d0, d1, d2, d3, d4, g0, g1, g2, g3, g4⟩ := hz
      clear hpost hF2 hx hr2 HF1 HZ1 HR1 HQ
      unfold xV nV
      go_wp2
      refine bodyPost_ret (v := .agg #[.int .i64 (xk x), .string (bsA (xt x)), .int .i64 (xn x), .int .i64 (xa x), .slice s1 (xl x) c1]) (by unfold set5 at z0 z1 z2 z3 z4; simp [results, Try.results92, go_sem, z0, z1, z2, z3, z4]) rfl ?_
      exact HFin.out
  by_cases k_case : q2 = [99, 97, 115, 101]
  · skip
    clear hi0
    have HH : Hid (gc i op = some r) := by
      have h := HH.out
      rw [if_neg k_null, if_neg k_false, if_neg k_true, if_neg (by rw [k_case]; decide), if_pos k_case] at h
      exact h
    have g_null : ((bsA q2).toList == [110, 117, 108, 108]) = false := by rw [bsA_tl, beq_eq_false_iff_ne]; exact k_null
    have g_false : ((bsA q2).toList == [102, 97, 108, 115, 101]) = false := by rw [bsA_tl, beq_eq_false_iff_ne]; exact k_false
    have g_true : ((bsA q2).toList == [116, 114, 117, 101]) = false := by rw [bsA_tl, beq_eq_false_iff_ne]; exact k_true
    have g_count : ((bsA q2).toList == [99, 111, 117, 110, 116]) = false := by rw [bsA_tl, beq_eq_false_iff_ne]; exact k_count
    have g_sum : ((bsA q2).toList == [115, 117, 109]) = false := by rw [bsA_tl, beq_eq_false_iff_ne]; exact k_sum
    have g_avg : ((bsA q2).toList == [97, 118, 103]) = false := by rw [bsA_tl, beq_eq_false_iff_ne]; exact k_avg
    have g_min : ((bsA q2).toList == [109, 105, 110]) = false := by rw [bsA_tl, beq_eq_false_iff_ne]; exact k_min
    have g_max : ((bsA q2).toList == [109, 97, 120]) = false := by rw [bsA_tl, beq_eq_false_iff_ne]; exact k_max
    have g_first : ((bsA q2).toList == [102, 105, 114, 115, 116]) = false := by rw [bsA_tl, beq_eq_false_iff_ne]; exact k_first
    have g_last : ((bsA q2).toList == [108, 97, 115, 116]) = false := by rw [bsA_tl, beq_eq_false_iff_ne]; exact k_last
    have g_case : ((bsA q2).toList == [99, 97, 115, 101]) = true := by rw [bsA_tl, k_case]; rfl
    clear k_null k_false k_true k_count k_sum k_avg k_min k_max k_first k_last k_case
    have HH2 : Hid _ := HH.out
    clear HN HH
    go_enter Try.func92, Try.ntmps92
    go_wp2_with fail
    refine h1.mono ?_
    rintro e w1 ⟨rfl, hb1⟩
    clear h1
    have HF1 : Hid (Fx rb w w1) := HA.out.trans (Fx.below hb1)
    have HZ1 : Hid (Box5 w1 w.heap.size (.int .i64 0) (.string ⟨#[]⟩) (.int .i64 0) (.int .i64 0) (.slice none 0 0)) := HZ.out.below hb1
    have HR1 : Hid (Rdr w1 rb ta cap T i op) := HR.out.below hb1
    have hs1 : w.heap.size + 1 ≤ w1.heap.size := by have h := hb1.size; rw [World.size_alloc] at h; exact h
    clear hb1 HR HA HZ
    have h2 := HW.out i op w1 r hop HR1.out HH2.out
    unfold ptr at h2
    go_wp2_with fail
    refine h2.mono ?_
    intro e w2 hpost
    clear h2 HW HH2
    cases r with
    | inl q =>
      obtain ⟨hG, hF⟩ := hpost.no
      unfold GUp at hG
      subst hG
      have HF : Hid _ := HF1.out.trans hF
      clear hpost hF
      go_wp2
      exact ⟨rfl, rfl, HF.out⟩
    | inr q =>
      obtain ⟨x, j⟩ := q
      obtain ⟨⟨⟨s1, c1, rfl, hx⟩, hr2⟩, hF2⟩ := hpost.ok
      dsimp only at hx hr2
      have HFin : Hid _ := PPost.put (w := w) (c := c1) (NdF.keep hs1 (fun _ _ _ => rfl) hx) hr2 (HF1.out.trans hF2) hlt
      have hz := HZ1.out.fx hF2 hne
      obtain ⟨z0, z1, z2, z3, z4, f0, f1, f2, f3, f4⟩ := own5 hz (.int .i64 (xk x)) (.string (bsA (xt x))) (.int .i64 (xn x)) (.int .i64 (xa x)) (.slice s1 (xl x) c1)
      obtain ⟨d0, d1, d2, d3, d4, g0, g1, g2, g3, g4⟩ := hz
      clear hpost hF2 hx hr2 HF1 HZ1 HR1 HQ
      unfold xV nV
      go_wp2
      refine bodyPost_ret (v := .agg #[.int .i64 (xk x), .string (bsA (xt x)), .int .i64 (xn x), .int .i64 (xa x), .slice s1 (xl x) c1]) (by unfold set5 at z0 z1 z2 z3 z4; simp [results, Try.results92, go_sem, z0, z1, z2, z3, z4]) rfl ?_
      exact HFin.out
  clear hi0
  have HRR : Hid (r = .inl (i, 70)) := by
    have h := HH.out
    have hc : aggW.contains q2 = false := by
      unfold aggW
      simp [k_null, k_false, k_true, k_count, k_sum, k_avg, k_min, k_max, k_first, k_last, k_case]
    rw [if_neg k_null, if_neg k_false, if_neg k_true, hc, if_neg (by decide), if_neg k_case] at h
    exact (Option.some.inj h).symm
  have g_null : ((bsA q2).toList == [110, 117, 108, 108]) = false := by rw [bsA_tl, beq_eq_false_iff_ne]; exact k_null
  have g_false : ((bsA q2).toList == [102, 97, 108, 115, 101]) = false := by rw [bsA_tl, beq_eq_false_iff_ne]; exact k_false
  have g_true : ((bsA q2).toList == [116, 114, 117, 101]) = false := by rw [bsA_tl, beq_eq_false_iff_ne]; exact k_true
  have g_count : ((bsA q2).toList == [99, 111, 117, 110, 116]) = false := by rw [bsA_tl, beq_eq_false_iff_ne]; exact k_count
  have g_sum : ((bsA q2).toList == [115, 117, 109]) = false := by rw [bsA_tl, beq_eq_false_iff_ne]; exact k_sum
  have g_avg : ((bsA q2).toList == [97, 118, 103]) = false := by rw [bsA_tl, beq_eq_false_iff_ne]; exact k_avg
  have g_min : ((bsA q2).toList == [109, 105, 110]) = false := by rw [bsA_tl, beq_eq_false_iff_ne]; exact k_min
  have g_max : ((bsA q2).toList == [109, 97, 120]) = false := by rw [bsA_tl, beq_eq_false_iff_ne]; exact k_max
  have g_first : ((bsA q2).toList == [102, 105, 114, 115, 116]) = false := by rw [bsA_tl, beq_eq_false_iff_ne]; exact k_first
  have g_last : ((bsA q2).toList == [108, 97, 115, 116]) = false := by rw [bsA_tl, beq_eq_false_iff_ne]; exact k_last
  have g_case : ((bsA q2).toList == [99, 97, 115, 101]) = false := by rw [bsA_tl, beq_eq_false_iff_ne]; exact k_case
  clear HN HW HH k_null k_false k_true k_count k_sum k_avg k_min k_max k_first k_last k_case
  go_enter Try.func92, Try.ntmps92
  go_wp2_with fail
  refine h1.mono ?_
  rintro e w1 ⟨rfl, hb1⟩
  clear h1
  have HF1 : Hid (Fx rb w w1) := HA.out.trans (Fx.below hb1)
  have HZ1 : Hid (Box5 w1 w.heap.size (.int .i64 0) (.string ⟨#[]⟩) (.int .i64 0) (.int .i64 0) (.slice none 0 0)) := HZ.out.below hb1
  have HR1 : Hid (Rdr w1 rb ta cap T i op) := HR.out.below hb1
  have hs1 : w.heap.size + 1 ≤ w1.heap.size := by have h := hb1.size; rw [World.size_alloc] at h; exact h
  clear hb1 HR HA HZ
  have h2 := stuck_any rb ta cap T i op 70 w1 HR1.out
  unfold ptr at h2
  go_wp2_with fail
  refine h2.mono ?_
  rintro e w2 ⟨rfl, hb2⟩
  clear h2
  have HF : Hid _ := HF1.out.trans (Fx.below hb2)
  clear hb2
  go_wp2
  exact ⟨rfl, by rw [HRR.out]; exact ⟨rfl, HF.out⟩⟩
end Go.Proofs.Ytcicdapccondkaa
