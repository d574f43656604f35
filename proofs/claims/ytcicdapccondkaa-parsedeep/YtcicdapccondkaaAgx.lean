/- Aggregates (agg). -/
import Derived.Test.YtcicdapccondkaaNam
namespace Go.Proofs.Ytcicdapccondkaa
open Go.ChangeShapes Go.WideShapes Go.ChangeAt Go.RowKit
set_option linter.unusedSimpArgs false
set_option maxRecDepth 20000
set_option maxHeartbeats 4000000

theorem Box5.put2 {w : World} {b : Nat} {v0 v1 v2 v3 v4 : Value} (h : Box5 w b v0 v1 v2 v3 v4) (v : Value) : Box5 (w.setCell ⟨b, 2, none⟩ v) b v0 v1 v v3 v4 where
  c0 := by rw [sc_ne (by simp)]; exact h.c0
  c1 := by rw [sc_ne (by simp)]; exact h.c1
  c2 := sc_eq h.c2
  c3 := by rw [sc_ne (by simp)]; exact h.c3
  c4 := by rw [sc_ne (by simp)]; exact h.c4
  f0 := by rw [World.frozen?_setCell]; exact h.f0
  f1 := by rw [World.frozen?_setCell]; exact h.f1
  f2 := by rw [World.frozen?_setCell]; exact h.f2
  f3 := by rw [World.frozen?_setCell]; exact h.f3
  f4 := by rw [World.frozen?_setCell]; exact h.f4
/-- Aggregates. -/
def aggG (T : List Tt) (E : Nat → Nat → Rz X) (i op : Nat) : Rz X := if i < T.length then aggP T (fun j => E j op) i else none
theorem agg_any (rb : Nat) (ta : Option Addr) (cap : Nat) (T : List Tt) (E : Nat → Nat → Rz X) (hp : Reads rb ta cap T 16 E) : Reads rb ta cap T 95 (aggG T E) := by
  intro i op w r hop hr h
  have hlt := cell_lt hr.c0
  have hi : i < T.length := by
    rcases Nat.lt_or_ge i T.length with h1 | h1
    · exact h1
    · unfold aggG at h
      rw [if_neg (by omega)] at h
      cases h
  have HP : Hid (Reads rb ta cap T 16 E) := hp
  have hA : Below w.heap.size w (w.alloc (Obj.cells #[Value.int IntKind.i64 0, Value.string { data := #[] }, Value.int IntKind.i64 0, Value.int IntKind.i64 0, Value.slice none 0 0] 26)) := (Below.refl _ _).alloc (Nat.le_refl _) _
  have HC0 : Hid (Cx rb ta cap T w w.heap.size i op (w.alloc (Obj.cells #[Value.int IntKind.i64 0, Value.string { data := #[] }, Value.int IntKind.i64 0, Value.int IntKind.i64 0, Value.slice none 0 0] 26))) := ⟨Fx.below hA, hr.below hA, Box5.new w _ _ _ _ _ 26⟩
  have h1 := take_any rb ta cap T i op _ HC0.out.rdr hi
  obtain ⟨q, hq⟩ : ∃ q, tkI T i = q := ⟨_, rfl⟩
  have HQ : Hid (tkI T i = q) := hq
  have HH : Hid (aggP T (fun j => E j op) i = some r) := by
    unfold aggG at h
    rw [if_pos hi] at h
    exact h
  rw [hq] at h1
  obtain ⟨⟨q1, q2, q3⟩, q4⟩ := q
  unfold ptr ttV at h1
  unfold ptr
  dsimp only at h1
  clear hr h hp hq hA hi
  go_enter Try.func95, Try.ntmps95
  go_wp2_with fail
  refine h1.mono ?_
  rintro e w1 ⟨rfl, hr1, hf1⟩
  clear h1
  have HC1 : Hid (Cx rb ta cap T w w.heap.size (i + 1) op w1) := HC0.out.step hf1 hr1 hlt
  have h2 := textNode_any 14 ((q1, q2, q3), q4) none 0 0 w1
  unfold ttV nV at h2
  dsimp only at h2
  clear hr1 hf1 HC0
  go_wp2_with fail
  refine h2.mono ?_
  rintro e w2 ⟨rfl, hb2⟩
  clear h2
  have HC2 : Hid (Cx rb ta cap T w w.heap.size (i + 1) op (w2.alloc (Obj.cells #[Value.int IntKind.i64 14, Value.string (bsA q2), Value.int IntKind.i64 0, Value.int IntKind.i64 q4, Value.slice none 0 0] 26))) := (HC1.out.below hb2).alloc _
  have hs2 : w.heap.size < w2.heap.size := (HC1.out.below hb2).lt
  have HB2 : Hid (Box5 (w2.alloc (Obj.cells #[Value.int IntKind.i64 14, Value.string (bsA q2), Value.int IntKind.i64 0, Value.int IntKind.i64 q4, Value.slice none 0 0] 26)) w2.heap.size (.int .i64 14) (.string (bsA q2)) (.int .i64 0) (.int .i64 q4) (.slice none 0 0)) := Box5.new w2 _ _ _ _ _ 26
  obtain ⟨r3, e3, h3⟩ := need_any rb ta cap T (i + 1) op 6 [40] (by decide) _ HC2.out.rdr
  unfold ptr at h3
  have HL3 : Hid (bnd (some r3) (fun _ j => if (tkI T i).1.2.1 = [99, 111, 117, 110, 116] ∧ isT (tkI T j) 6 [[42]] = true then bnd (needP T 6 [41] (j + 1)) (fun _ j => okR (tnd 14 (tkI T i) []) j) else if isT (tkI T j) 2 [[100, 105, 115, 116, 105, 110, 99, 116]] then aggE T (fun j => E j op) i 1 (j + 1) else aggE T (fun j => E j op) i 0 j) = some r) := by
    have h := HH.out
    unfold aggP at h
    rw [e3] at h
    exact h
  clear hb2 HC1 HH e3
  go_wp2_with fail
  refine h3.mono ?_
  intro e w3 hpost
  clear h3
  cases r3 with
  | inl q =>
    obtain ⟨hG, hF⟩ := hpost.no
    unfold GUp at hG
    subst hG
    have HRR : Hid (r = .inl q) := (Option.some.inj HL3.out).symm
    have HF : Hid _ := HC2.out.fx.trans hF
    clear hpost hF
    go_wp2
    exact ⟨rfl, by rw [HRR.out]; exact ⟨rfl, HF.out⟩⟩
  | inr q =>
    obtain ⟨t3, j1⟩ := q
    obtain ⟨⟨rfl, hr3⟩, hF3⟩ := hpost.ok
    dsimp only at hr3
    have HL4 : Hid ((if q2 = [99, 111, 117, 110, 116] ∧ isT (tkI T j1) 6 [[42]] = true then bnd (needP T 6 [41] (j1 + 1)) (fun _ j => okR (mkX 14 q2 0 q4 []) j) else if isT (tkI T j1) 2 [[100, 105, 115, 116, 105, 110, 99, 116]] then aggE T (fun j => E j op) i 1 (j1 + 1) else aggE T (fun j => E j op) i 0 j1) = some r) := by
      have h : (if (tkI T i).1.2.1 = [99, 111, 117, 110, 116] ∧ isT (tkI T j1) 6 [[42]] = true then bnd (needP T 6 [41] (j1 + 1)) (fun _ j => okR (tnd 14 (tkI T i) []) j) else if isT (tkI T j1) 2 [[100, 105, 115, 116, 105, 110, 99, 116]] then aggE T (fun j => E j op) i 1 (j1 + 1) else aggE T (fun j => E j op) i 0 j1) = some r := HL3.out
      rw [HQ.out] at h
      exact h
    have HC3 : Hid (Cx rb ta cap T w w.heap.size j1 op w3) := HC2.out.step hF3 hr3 hlt
    have HB3 : Hid (Box5 w3 w2.heap.size (.int .i64 14) (.string (bsA q2)) (.int .i64 0) (.int .i64 q4) (.slice none 0 0)) := HB2.out.fx hF3 (by omega)
    clear hpost hr3 hF3 HL3 HC2 HB2
    unfold ttV
    by_cases kc : q2 = [99, 111, 117, 110, 116]
    · have gc : ((bsA q2).toList == [99, 111, 117, 110, 116]) = true := by rw [bsA_tl, kc]; rfl
      cases hb : isT (tkI T j1) 6 [[42]] with
      | true =>
        have h4 := passes_ok rb ta cap T j1 op 6 [42] w3 HC3.out.rdr (by decide) hb
        unfold ptr at h4
        have HL : Hid (bnd (needP T 6 [41] (j1 + 1)) (fun _ j => okR (mkX 14 q2 0 q4 []) j) = some r) := by
          have h := HL4.out
          rw [if_pos ⟨kc, hb⟩] at h
          exact h
        obtain ⟨y0, y1, y2, y3, y4, _, _, _, _, _⟩ := HB3.out
        clear hb kc HL4 HP HQ
        go_wp2_with fail
        refine h4.mono ?_
        rintro e w4 ⟨rfl, hr4, hf4⟩
        clear h4 y0 y1 y2 y3 y4 gc
        have HC : Hid (Cx rb ta cap T w w.heap.size (j1 + 1) op w4) := HC3.out.step hf4 hr4 hlt
        have HB : Hid (Box5 w4 w2.heap.size (.int .i64 14) (.string (bsA q2)) (.int .i64 0) (.int .i64 q4) (.slice none 0 0)) := HB3.out.fx hf4 (by omega)
        clear hr4 hf4 HC3 HB3
        obtain ⟨r9, e9, h9⟩ := need_any rb ta cap T (j1 + 1) op 6 [41] (by decide) _ HC.out.rdr
        unfold ptr at h9
        have HL9 : Hid (bnd (some r9) (fun _ j => okR (mkX 14 q2 0 q4 []) j) = some r) := by
          have h : bnd (needP T 6 [41] (j1 + 1)) (fun _ j => okR (mkX 14 q2 0 q4 []) j) = some r := HL.out
          rw [e9] at h
          exact h
        clear e9 HL
        go_wp2_with fail
        refine h9.mono ?_
        intro e w9 hpost
        clear h9
        cases r9 with
        | inl q =>
          obtain ⟨hG, hF⟩ := hpost.no
          unfold GUp at hG
          subst hG
          have HRR : Hid (r = .inl q) := (Option.some.inj HL9.out).symm
          have HF : Hid _ := HC.out.fx.trans hF
          clear hpost hF
          go_wp2
          exact ⟨rfl, by rw [HRR.out]; exact ⟨rfl, HF.out⟩⟩
        | inr q =>
          obtain ⟨t9, j9⟩ := q
          obtain ⟨⟨rfl, hr9⟩, hF9⟩ := hpost.ok
          dsimp only at hr9
          have HRR : Hid (r = .inr ((mkX 14 q2 0 q4 []), j9)) := (Option.some.inj HL9.out).symm
          have hC := HC.out.step hF9 hr9 hlt
          have HFin : Hid _ := Cx.retn (k := 14) (t := q2) (m := 0) (a := q4) (n := 0) 0 rfl hC ((XSt.leaf (w := w4) 14 q2 0 q4 none).fx hF9) (Nat.le_refl _) hlt
          obtain ⟨b0, b1, b2, b3, b4, _, _, _, _, _⟩ := HB.out.fx hF9 (by omega)
          obtain ⟨z0, z1, z2, z3, z4, f0, f1, f2, f3, f4⟩ := own5 hC.res (.int .i64 14) (.string (bsA q2)) (.int .i64 0) (.int .i64 q4) (.slice none 0 0)
          obtain ⟨d0, d1, d2, d3, d4, g0, g1, g2, g3, g4⟩ := hC.res
          clear hC hpost hr9 hF9 HC HB HL9
          unfold ttV
          go_wp2
          refine bodyPost_ret (v := .agg #[.int .i64 14, .string (bsA q2), .int .i64 0, .int .i64 q4, (.slice none 0 0)]) (by unfold set5 at z0 z1 z2 z3 z4; simp [results, Try.results95, go_sem, z0, z1, z2, z3, z4]) rfl ?_
          rw [HRR.out]
          exact HFin.out
      | false =>
        have h4 := passes_no rb ta cap T j1 op 6 [42] w3 HC3.out.rdr hb
        unfold ptr at h4
        have HLD : Hid ((if isT (tkI T j1) 2 [[100, 105, 115, 116, 105, 110, 99, 116]] then aggE T (fun j => E j op) i 1 (j1 + 1) else aggE T (fun j => E j op) i 0 j1) = some r) := by
          have h := HL4.out
          rw [if_neg (by rw [hb]; exact fun h => absurd h.2 (by decide))] at h
          exact h
        obtain ⟨y0, y1, y2, y3, y4, _, _, _, _, _⟩ := HB3.out
        clear hb kc HL4
        go_wp2_with fail
        refine h4.mono ?_
        rintro e w4 ⟨rfl, hb4⟩
        clear h4 y0 y1 y2 y3 y4 gc
        have HC : Hid (Cx rb ta cap T w w.heap.size j1 op w4) := HC3.out.below hb4
        have HB : Hid (Box5 w4 w2.heap.size (.int .i64 14) (.string (bsA q2)) (.int .i64 0) (.int .i64 q4) (.slice none 0 0)) := HB3.out.below hb4
        clear hb4 HC3 HB3
        cases hb5 : isT (tkI T j1) 2 [[100, 105, 115, 116, 105, 110, 99, 116]] with
        | true =>
          have h5 := passes_ok rb ta cap T j1 op 2 [100, 105, 115, 116, 105, 110, 99, 116] _ HC.out.rdr (by decide) hb5
          unfold ptr at h5
          have HL2 : Hid (aggE T (fun j => E j op) i 1 (j1 + 1) = some r) := by
            have h := HLD.out
            rw [hb5] at h
            exact h
          clear hb5 HLD
          go_wp2_with fail
          refine h5.mono ?_
          rintro e w5 ⟨rfl, hr5, hf5⟩
          clear h5
          have hB5 := HB.out.fx hf5 (by omega)
          have HC5 : Hid (Cx rb ta cap T w w.heap.size (j1 + 1) op (w5.setCell ⟨w2.heap.size, 2, none⟩ (.int .i64 1))) := (HC.out.step hf5 hr5 hlt).set w2.heap.size 2 _ (by omega) (by omega) (by omega)
          have HB5 : Hid (Box5 (w5.setCell ⟨w2.heap.size, 2, none⟩ (.int .i64 1)) w2.heap.size (.int .i64 14) (.string (bsA q2)) (.int .i64 1) (.int .i64 q4) (.slice none 0 0)) := hB5.put2 _
          have HL : Hid (bnd (E (j1 + 1) op) (fun x j => bnd (needP T 6 [41] j) fun _ j => okR (mkX 14 q2 1 q4 [x]) j) = some r) := by
            have h := HL2.out
            unfold aggE at h
            rw [HQ.out] at h
            exact h
          obtain ⟨y0, y1, y2, y3, y4, k0, k1, k2, k3, k4⟩ := hB5
          clear hr5 hf5 HC HB HL2 HQ
          have HC := HC5
          have HB := HB5
          clear HC5 HB5
          clear y0 y1 y3 y4 k0 k1 k3 k4
          obtain ⟨r6, e6, hl6⟩ := bnd_some HL.out
          have HL6 : Hid (bnd (some r6) (fun x j => bnd (needP T 6 [41] j) fun _ j => okR (mkX 14 q2 1 q4 [x]) j) = some r) := hl6
          have h6 := HP.out (j1 + 1) op _ r6 hop HC.out.rdr e6
          unfold ptr at h6
          have hsc : w2.heap.size < ((w5.setCell ⟨w2.heap.size, 2, none⟩ (.int .i64 1))).heap.size := cell_lt HB.out.c0
          have hsw := HC.out.fx.size
          obtain ⟨y0, y1, y2, y3, y4, k0, k1, k2, k3, k4⟩ := HB.out
          clear hl6 e6 HL HP
          go_wp2_with fail
          refine h6.mono ?_
          intro e w6 hpost
          clear h6 y0 y1 y2 y3 y4 k0 k1 k2 k3 k4
          cases r6 with
          | inl q =>
            obtain ⟨hG, hF⟩ := hpost.no
            unfold GUp at hG
            subst hG
            have HRR : Hid (r = .inl q) := (Option.some.inj HL6.out).symm
            have HF : Hid _ := HC.out.fx.trans hF
            clear hpost hF
            go_wp2
            exact ⟨rfl, by rw [HRR.out]; exact ⟨rfl, HF.out⟩⟩
          | inr q =>
            obtain ⟨x, j6⟩ := q
            obtain ⟨⟨⟨s1, c1, rfl, hx⟩, hr6⟩, hF6⟩ := hpost.ok
            dsimp only at hx hr6
            have hY : Below w6.heap.size w6 (w6.alloc (Obj.cells #[Value.int IntKind.i64 (xk x), Value.string (bsA (xt x)), Value.int IntKind.i64 (xn x), Value.int IntKind.i64 (xa x), Value.slice s1 (xl x) c1] 26)) := (Below.refl _ _).alloc (Nat.le_refl _) _
            have hO : OwX rb ((w5.setCell ⟨w2.heap.size, 2, none⟩ (.int .i64 1))).heap.size (w6.alloc (Obj.cells #[Value.int IntKind.i64 (xk x), Value.string (bsA (xt x)), Value.int IntKind.i64 (xn x), Value.int IntKind.i64 (xa x), Value.slice s1 (xl x) c1] 26)) w6.heap.size 1 [(x, s1, c1)] := OwX.new w6 [(x, s1, c1)] hF6.size (by simp) (fun p hp => by rw [List.mem_singleton.1 hp]; exact hx) (by omega) _ rfl
            have hB6 := (HB.out.fx hF6 (by omega)).below hY
            have HX : Hid (XSt rb w.heap.size w.heap.size ((w6.alloc (Obj.cells #[Value.int IntKind.i64 (xk x), Value.string (bsA (xt x)), Value.int IntKind.i64 (xn x), Value.int IntKind.i64 (xa x), Value.slice s1 (xl x) c1] 26)).setCell ⟨w2.heap.size, 4, none⟩ (.slice (some ⟨w6.heap.size, 0, none⟩) 1 1)) (mkX 14 q2 1 q4 [x]) (some ⟨w6.heap.size, 0, none⟩)) := by
              have hx4 : XAt ((w5.setCell ⟨w2.heap.size, 2, none⟩ (.int .i64 1))).heap.size (w6.alloc (Obj.cells #[Value.int IntKind.i64 (xk x), Value.string (bsA (xt x)), Value.int IntKind.i64 (xn x), Value.int IntKind.i64 (xa x), Value.slice s1 (xl x) c1] 26)) (mkX 14 q2 1 q4 [x]) (some ⟨w6.heap.size, 0, none⟩) := hO.tree (zb := w.heap.size) 14 q2 1 q4 (by omega) (hO.apart (by omega) (Nat.le_refl _) (by omega)) (by have := hO.lt; omega) _ (fun _ _ _ _ => rfl)
              exact XSt.new (NdF.keep (Nat.le_refl _) (fun b hb _ => Below.heap_setCell _ _ _ _ (show b ≠ w2.heap.size by omega)) hx4) (by omega) hsw (by omega)
            have HC7 : Hid (Cx rb ta cap T w w.heap.size j6 op ((w6.alloc (Obj.cells #[Value.int IntKind.i64 (xk x), Value.string (bsA (xt x)), Value.int IntKind.i64 (xn x), Value.int IntKind.i64 (xa x), Value.slice s1 (xl x) c1] 26)).setCell ⟨w2.heap.size, 4, none⟩ (.slice (some ⟨w6.heap.size, 0, none⟩) 1 1))) := ((HC.out.step hF6 hr6 hlt).alloc _).set w2.heap.size 4 _ (by omega) (by omega) (by omega)
            have HB7 : Hid (Box5 ((w6.alloc (Obj.cells #[Value.int IntKind.i64 (xk x), Value.string (bsA (xt x)), Value.int IntKind.i64 (xn x), Value.int IntKind.i64 (xa x), Value.slice s1 (xl x) c1] 26)).setCell ⟨w2.heap.size, 4, none⟩ (.slice (some ⟨w6.heap.size, 0, none⟩) 1 1)) w2.heap.size (.int .i64 14) (.string (bsA q2)) (.int .i64 1) (.int .i64 q4) (.slice (some ⟨w6.heap.size, 0, none⟩) 1 1)) := hB6.put4 _
            have HL7 : Hid (bnd (needP T 6 [41] j6) (fun _ j => okR (mkX 14 q2 1 q4 [x]) j) = some r) := HL6.out
            obtain ⟨y0, y1, y2, y3, y4, k0, k1, k2, k3, k4⟩ := hB6
            clear hpost hx hr6 hF6 hY hO HL6 HC HB
            have HC := HC7
            have HB := HB7
            clear HC7 HB7
            unfold xV nV
            obtain ⟨r9, e9, h9⟩ := need_any rb ta cap T j6 op 6 [41] (by decide) _ HC.out.rdr
            unfold ptr at h9
            have HL9 : Hid (bnd (some r9) (fun _ j => okR (mkX 14 q2 1 q4 [x]) j) = some r) := by
              have h : bnd (needP T 6 [41] j6) (fun _ j => okR (mkX 14 q2 1 q4 [x]) j) = some r := HL7.out
              rw [e9] at h
              exact h
            clear e9 HL7
            go_wp2_with fail
            refine h9.mono ?_
            intro e w9 hpost
            clear h9
            cases r9 with
            | inl q =>
              obtain ⟨hG, hF⟩ := hpost.no
              unfold GUp at hG
              subst hG
              have HRR : Hid (r = .inl q) := (Option.some.inj HL9.out).symm
              have HF : Hid _ := HC.out.fx.trans hF
              clear hpost hF
              go_wp2
              exact ⟨rfl, by rw [HRR.out]; exact ⟨rfl, HF.out⟩⟩
            | inr q =>
              obtain ⟨t9, j9⟩ := q
              obtain ⟨⟨rfl, hr9⟩, hF9⟩ := hpost.ok
              dsimp only at hr9
              have HRR : Hid (r = .inr ((mkX 14 q2 1 q4 [x]), j9)) := (Option.some.inj HL9.out).symm
              have hC := HC.out.step hF9 hr9 hlt
              have HFin : Hid _ := Cx.retn (k := 14) (t := q2) (m := 1) (a := q4) (n := 1) 1 rfl hC ((HX.out).fx hF9) (Nat.le_refl _) hlt
              obtain ⟨b0, b1, b2, b3, b4, _, _, _, _, _⟩ := HB.out.fx hF9 (by omega)
              obtain ⟨z0, z1, z2, z3, z4, f0, f1, f2, f3, f4⟩ := own5 hC.res (.int .i64 14) (.string (bsA q2)) (.int .i64 1) (.int .i64 q4) (.slice (some ⟨w6.heap.size, 0, none⟩) 1 1)
              obtain ⟨d0, d1, d2, d3, d4, g0, g1, g2, g3, g4⟩ := hC.res
              clear hC hpost hr9 hF9 HC HB HL9
              unfold ttV
              go_wp2
              refine bodyPost_ret (v := .agg #[.int .i64 14, .string (bsA q2), .int .i64 1, .int .i64 q4, (.slice (some ⟨w6.heap.size, 0, none⟩) 1 1)]) (by unfold set5 at z0 z1 z2 z3 z4; simp [results, Try.results95, go_sem, z0, z1, z2, z3, z4]) rfl ?_
              rw [HRR.out]
              exact HFin.out
        | false =>
          have h5 := passes_no rb ta cap T j1 op 2 [100, 105, 115, 116, 105, 110, 99, 116] _ HC.out.rdr hb5
          unfold ptr at h5
          have HL : Hid (bnd (E j1 op) (fun x j => bnd (needP T 6 [41] j) fun _ j => okR (mkX 14 q2 0 q4 [x]) j) = some r) := by
            have h := HLD.out
            rw [hb5] at h
            unfold aggE at h
            rw [HQ.out] at h
            exact h
          clear hb5 HLD HQ
          go_wp2_with fail
          refine h5.mono ?_
          rintro e w5 ⟨rfl, hb5⟩
          clear h5
          have HC5 : Hid (Cx rb ta cap T w w.heap.size j1 op w5) := HC.out.below hb5
          have HB5 : Hid (Box5 w5 w2.heap.size (.int .i64 14) (.string (bsA q2)) (.int .i64 0) (.int .i64 q4) (.slice none 0 0)) := HB.out.below hb5
          clear hb5 HC HB
          have HC := HC5
          have HB := HB5
          clear HC5 HB5
          obtain ⟨r6, e6, hl6⟩ := bnd_some HL.out
          have HL6 : Hid (bnd (some r6) (fun x j => bnd (needP T 6 [41] j) fun _ j => okR (mkX 14 q2 0 q4 [x]) j) = some r) := hl6
          have h6 := HP.out j1 op _ r6 hop HC.out.rdr e6
          unfold ptr at h6
          have hsc : w2.heap.size < (w5).heap.size := cell_lt HB.out.c0
          have hsw := HC.out.fx.size
          obtain ⟨y0, y1, y2, y3, y4, k0, k1, k2, k3, k4⟩ := HB.out
          clear hl6 e6 HL HP
          go_wp2_with fail
          refine h6.mono ?_
          intro e w6 hpost
          clear h6 y0 y1 y2 y3 y4 k0 k1 k2 k3 k4
          cases r6 with
          | inl q =>
            obtain ⟨hG, hF⟩ := hpost.no
            unfold GUp at hG
            subst hG
            have HRR : Hid (r = .inl q) := (Option.some.inj HL6.out).symm
            have HF : Hid _ := HC.out.fx.trans hF
            clear hpost hF
            go_wp2
            exact ⟨rfl, by rw [HRR.out]; exact ⟨rfl, HF.out⟩⟩
          | inr q =>
            obtain ⟨x, j6⟩ := q
            obtain ⟨⟨⟨s1, c1, rfl, hx⟩, hr6⟩, hF6⟩ := hpost.ok
            dsimp only at hx hr6
            have hY : Below w6.heap.size w6 (w6.alloc (Obj.cells #[Value.int IntKind.i64 (xk x), Value.string (bsA (xt x)), Value.int IntKind.i64 (xn x), Value.int IntKind.i64 (xa x), Value.slice s1 (xl x) c1] 26)) := (Below.refl _ _).alloc (Nat.le_refl _) _
            have hO : OwX rb (w5).heap.size (w6.alloc (Obj.cells #[Value.int IntKind.i64 (xk x), Value.string (bsA (xt x)), Value.int IntKind.i64 (xn x), Value.int IntKind.i64 (xa x), Value.slice s1 (xl x) c1] 26)) w6.heap.size 1 [(x, s1, c1)] := OwX.new w6 [(x, s1, c1)] hF6.size (by simp) (fun p hp => by rw [List.mem_singleton.1 hp]; exact hx) (by omega) _ rfl
            have hB6 := (HB.out.fx hF6 (by omega)).below hY
            have HX : Hid (XSt rb w.heap.size w.heap.size ((w6.alloc (Obj.cells #[Value.int IntKind.i64 (xk x), Value.string (bsA (xt x)), Value.int IntKind.i64 (xn x), Value.int IntKind.i64 (xa x), Value.slice s1 (xl x) c1] 26)).setCell ⟨w2.heap.size, 4, none⟩ (.slice (some ⟨w6.heap.size, 0, none⟩) 1 1)) (mkX 14 q2 0 q4 [x]) (some ⟨w6.heap.size, 0, none⟩)) := by
              have hx4 : XAt (w5).heap.size (w6.alloc (Obj.cells #[Value.int IntKind.i64 (xk x), Value.string (bsA (xt x)), Value.int IntKind.i64 (xn x), Value.int IntKind.i64 (xa x), Value.slice s1 (xl x) c1] 26)) (mkX 14 q2 0 q4 [x]) (some ⟨w6.heap.size, 0, none⟩) := hO.tree (zb := w.heap.size) 14 q2 0 q4 (by omega) (hO.apart (by omega) (Nat.le_refl _) (by omega)) (by have := hO.lt; omega) _ (fun _ _ _ _ => rfl)
              exact XSt.new (NdF.keep (Nat.le_refl _) (fun b hb _ => Below.heap_setCell _ _ _ _ (show b ≠ w2.heap.size by omega)) hx4) (by omega) hsw (by omega)
            have HC7 : Hid (Cx rb ta cap T w w.heap.size j6 op ((w6.alloc (Obj.cells #[Value.int IntKind.i64 (xk x), Value.string (bsA (xt x)), Value.int IntKind.i64 (xn x), Value.int IntKind.i64 (xa x), Value.slice s1 (xl x) c1] 26)).setCell ⟨w2.heap.size, 4, none⟩ (.slice (some ⟨w6.heap.size, 0, none⟩) 1 1))) := ((HC.out.step hF6 hr6 hlt).alloc _).set w2.heap.size 4 _ (by omega) (by omega) (by omega)
            have HB7 : Hid (Box5 ((w6.alloc (Obj.cells #[Value.int IntKind.i64 (xk x), Value.string (bsA (xt x)), Value.int IntKind.i64 (xn x), Value.int IntKind.i64 (xa x), Value.slice s1 (xl x) c1] 26)).setCell ⟨w2.heap.size, 4, none⟩ (.slice (some ⟨w6.heap.size, 0, none⟩) 1 1)) w2.heap.size (.int .i64 14) (.string (bsA q2)) (.int .i64 0) (.int .i64 q4) (.slice (some ⟨w6.heap.size, 0, none⟩) 1 1)) := hB6.put4 _
            have HL7 : Hid (bnd (needP T 6 [41] j6) (fun _ j => okR (mkX 14 q2 0 q4 [x]) j) = some r) := HL6.out
            obtain ⟨y0, y1, y2, y3, y4, k0, k1, k2, k3, k4⟩ := hB6
            clear hpost hx hr6 hF6 hY hO HL6 HC HB
            have HC := HC7
            have HB := HB7
            clear HC7 HB7
            unfold xV nV
            obtain ⟨r9, e9, h9⟩ := need_any rb ta cap T j6 op 6 [41] (by decide) _ HC.out.rdr
            unfold ptr at h9
            have HL9 : Hid (bnd (some r9) (fun _ j => okR (mkX 14 q2 0 q4 [x]) j) = some r) := by
              have h : bnd (needP T 6 [41] j6) (fun _ j => okR (mkX 14 q2 0 q4 [x]) j) = some r := HL7.out
              rw [e9] at h
              exact h
            clear e9 HL7
            go_wp2_with fail
            refine h9.mono ?_
            intro e w9 hpost
            clear h9
            cases r9 with
            | inl q =>
              obtain ⟨hG, hF⟩ := hpost.no
              unfold GUp at hG
              subst hG
              have HRR : Hid (r = .inl q) := (Option.some.inj HL9.out).symm
              have HF : Hid _ := HC.out.fx.trans hF
              clear hpost hF
              go_wp2
              exact ⟨rfl, by rw [HRR.out]; exact ⟨rfl, HF.out⟩⟩
            | inr q =>
              obtain ⟨t9, j9⟩ := q
              obtain ⟨⟨rfl, hr9⟩, hF9⟩ := hpost.ok
              dsimp only at hr9
              have HRR : Hid (r = .inr ((mkX 14 q2 0 q4 [x]), j9)) := (Option.some.inj HL9.out).symm
              have hC := HC.out.step hF9 hr9 hlt
              have HFin : Hid _ := Cx.retn (k := 14) (t := q2) (m := 0) (a := q4) (n := 1) 1 rfl hC ((HX.out).fx hF9) (Nat.le_refl _) hlt
              obtain ⟨b0, b1, b2, b3, b4, _, _, _, _, _⟩ := HB.out.fx hF9 (by omega)
              obtain ⟨z0, z1, z2, z3, z4, f0, f1, f2, f3, f4⟩ := own5 hC.res (.int .i64 14) (.string (bsA q2)) (.int .i64 0) (.int .i64 q4) (.slice (some ⟨w6.heap.size, 0, none⟩) 1 1)
              obtain ⟨d0, d1, d2, d3, d4, g0, g1, g2, g3, g4⟩ := hC.res
              clear hC hpost hr9 hF9 HC HB HL9
              unfold ttV
              go_wp2
              refine bodyPost_ret (v := .agg #[.int .i64 14, .string (bsA q2), .int .i64 0, .int .i64 q4, (.slice (some ⟨w6.heap.size, 0, none⟩) 1 1)]) (by unfold set5 at z0 z1 z2 z3 z4; simp [results, Try.results95, go_sem, z0, z1, z2, z3, z4]) rfl ?_
              rw [HRR.out]
              exact HFin.out
    · have gc : ((bsA q2).toList == [99, 111, 117, 110, 116]) = false := by rw [bsA_tl, beq_eq_false_iff_ne]; exact kc
      have HLD : Hid ((if isT (tkI T j1) 2 [[100, 105, 115, 116, 105, 110, 99, 116]] then aggE T (fun j => E j op) i 1 (j1 + 1) else aggE T (fun j => E j op) i 0 j1) = some r) := by
        have h := HL4.out
        rw [if_neg (fun h => kc h.1)] at h
        exact h
      have HC := HC3
      have HB := HB3
      obtain ⟨y0, y1, y2, y3, y4, _, _, _, _, _⟩ := HB3.out
      clear kc HL4 HC3 HB3
      cases hb5 : isT (tkI T j1) 2 [[100, 105, 115, 116, 105, 110, 99, 116]] with
      | true =>
        have h5 := passes_ok rb ta cap T j1 op 2 [100, 105, 115, 116, 105, 110, 99, 116] _ HC.out.rdr (by decide) hb5
        unfold ptr at h5
        have HL2 : Hid (aggE T (fun j => E j op) i 1 (j1 + 1) = some r) := by
          have h := HLD.out
          rw [hb5] at h
          exact h
        clear hb5 HLD
        go_wp2_with fail
        refine h5.mono ?_
        rintro e w5 ⟨rfl, hr5, hf5⟩
        clear h5
        have hB5 := HB.out.fx hf5 (by omega)
        have HC5 : Hid (Cx rb ta cap T w w.heap.size (j1 + 1) op (w5.setCell ⟨w2.heap.size, 2, none⟩ (.int .i64 1))) := (HC.out.step hf5 hr5 hlt).set w2.heap.size 2 _ (by omega) (by omega) (by omega)
        have HB5 : Hid (Box5 (w5.setCell ⟨w2.heap.size, 2, none⟩ (.int .i64 1)) w2.heap.size (.int .i64 14) (.string (bsA q2)) (.int .i64 1) (.int .i64 q4) (.slice none 0 0)) := hB5.put2 _
        have HL : Hid (bnd (E (j1 + 1) op) (fun x j => bnd (needP T 6 [41] j) fun _ j => okR (mkX 14 q2 1 q4 [x]) j) = some r) := by
          have h := HL2.out
          unfold aggE at h
          rw [HQ.out] at h
          exact h
        obtain ⟨y0, y1, y2, y3, y4, k0, k1, k2, k3, k4⟩ := hB5
        clear hr5 hf5 HC HB HL2 HQ
        have HC := HC5
        have HB := HB5
        clear HC5 HB5
        clear y0 y1 y3 y4 k0 k1 k3 k4
        obtain ⟨r6, e6, hl6⟩ := bnd_some HL.out
        have HL6 : Hid (bnd (some r6) (fun x j => bnd (needP T 6 [41] j) fun _ j => okR (mkX 14 q2 1 q4 [x]) j) = some r) := hl6
        have h6 := HP.out (j1 + 1) op _ r6 hop HC.out.rdr e6
        unfold ptr at h6
        have hsc : w2.heap.size < ((w5.setCell ⟨w2.heap.size, 2, none⟩ (.int .i64 1))).heap.size := cell_lt HB.out.c0
        have hsw := HC.out.fx.size
        obtain ⟨y0, y1, y2, y3, y4, k0, k1, k2, k3, k4⟩ := HB.out
        clear hl6 e6 HL HP
        go_wp2_with fail
        refine h6.mono ?_
        intro e w6 hpost
        clear h6 y0 y1 y2 y3 y4 k0 k1 k2 k3 k4
        cases r6 with
        | inl q =>
          obtain ⟨hG, hF⟩ := hpost.no
          unfold GUp at hG
          subst hG
          have HRR : Hid (r = .inl q) := (Option.some.inj HL6.out).symm
          have HF : Hid _ := HC.out.fx.trans hF
          clear hpost hF
          go_wp2
          exact ⟨rfl, by rw [HRR.out]; exact ⟨rfl, HF.out⟩⟩
        | inr q =>
          obtain ⟨x, j6⟩ := q
          obtain ⟨⟨⟨s1, c1, rfl, hx⟩, hr6⟩, hF6⟩ := hpost.ok
          dsimp only at hx hr6
          have hY : Below w6.heap.size w6 (w6.alloc (Obj.cells #[Value.int IntKind.i64 (xk x), Value.string (bsA (xt x)), Value.int IntKind.i64 (xn x), Value.int IntKind.i64 (xa x), Value.slice s1 (xl x) c1] 26)) := (Below.refl _ _).alloc (Nat.le_refl _) _
          have hO : OwX rb ((w5.setCell ⟨w2.heap.size, 2, none⟩ (.int .i64 1))).heap.size (w6.alloc (Obj.cells #[Value.int IntKind.i64 (xk x), Value.string (bsA (xt x)), Value.int IntKind.i64 (xn x), Value.int IntKind.i64 (xa x), Value.slice s1 (xl x) c1] 26)) w6.heap.size 1 [(x, s1, c1)] := OwX.new w6 [(x, s1, c1)] hF6.size (by simp) (fun p hp => by rw [List.mem_singleton.1 hp]; exact hx) (by omega) _ rfl
          have hB6 := (HB.out.fx hF6 (by omega)).below hY
          have HX : Hid (XSt rb w.heap.size w.heap.size ((w6.alloc (Obj.cells #[Value.int IntKind.i64 (xk x), Value.string (bsA (xt x)), Value.int IntKind.i64 (xn x), Value.int IntKind.i64 (xa x), Value.slice s1 (xl x) c1] 26)).setCell ⟨w2.heap.size, 4, none⟩ (.slice (some ⟨w6.heap.size, 0, none⟩) 1 1)) (mkX 14 q2 1 q4 [x]) (some ⟨w6.heap.size, 0, none⟩)) := by
            have hx4 : XAt ((w5.setCell ⟨w2.heap.size, 2, none⟩ (.int .i64 1))).heap.size (w6.alloc (Obj.cells #[Value.int IntKind.i64 (xk x), Value.string (bsA (xt x)), Value.int IntKind.i64 (xn x), Value.int IntKind.i64 (xa x), Value.slice s1 (xl x) c1] 26)) (mkX 14 q2 1 q4 [x]) (some ⟨w6.heap.size, 0, none⟩) := hO.tree (zb := w.heap.size) 14 q2 1 q4 (by omega) (hO.apart (by omega) (Nat.le_refl _) (by omega)) (by have := hO.lt; omega) _ (fun _ _ _ _ => rfl)
            exact XSt.new (NdF.keep (Nat.le_refl _) (fun b hb _ => Below.heap_setCell _ _ _ _ (show b ≠ w2.heap.size by omega)) hx4) (by omega) hsw (by omega)
          have HC7 : Hid (Cx rb ta cap T w w.heap.size j6 op ((w6.alloc (Obj.cells #[Value.int IntKind.i64 (xk x), Value.string (bsA (xt x)), Value.int IntKind.i64 (xn x), Value.int IntKind.i64 (xa x), Value.slice s1 (xl x) c1] 26)).setCell ⟨w2.heap.size, 4, none⟩ (.slice (some ⟨w6.heap.size, 0, none⟩) 1 1))) := ((HC.out.step hF6 hr6 hlt).alloc _).set w2.heap.size 4 _ (by omega) (by omega) (by omega)
          have HB7 : Hid (Box5 ((w6.alloc (Obj.cells #[Value.int IntKind.i64 (xk x), Value.string (bsA (xt x)), Value.int IntKind.i64 (xn x), Value.int IntKind.i64 (xa x), Value.slice s1 (xl x) c1] 26)).setCell ⟨w2.heap.size, 4, none⟩ (.slice (some ⟨w6.heap.size, 0, none⟩) 1 1)) w2.heap.size (.int .i64 14) (.string (bsA q2)) (.int .i64 1) (.int .i64 q4) (.slice (some ⟨w6.heap.size, 0, none⟩) 1 1)) := hB6.put4 _
          have HL7 : Hid (bnd (needP T 6 [41] j6) (fun _ j => okR (mkX 14 q2 1 q4 [x]) j) = some r) := HL6.out
          obtain ⟨y0, y1, y2, y3, y4, k0, k1, k2, k3, k4⟩ := hB6
          clear hpost hx hr6 hF6 hY hO HL6 HC HB
          have HC := HC7
          have HB := HB7
          clear HC7 HB7
          unfold xV nV
          obtain ⟨r9, e9, h9⟩ := need_any rb ta cap T j6 op 6 [41] (by decide) _ HC.out.rdr
          unfold ptr at h9
          have HL9 : Hid (bnd (some r9) (fun _ j => okR (mkX 14 q2 1 q4 [x]) j) = some r) := by
            have h : bnd (needP T 6 [41] j6) (fun _ j => okR (mkX 14 q2 1 q4 [x]) j) = some r := HL7.out
            rw [e9] at h
            exact h
          clear e9 HL7
          go_wp2_with fail
          refine h9.mono ?_
          intro e w9 hpost
          clear h9
          cases r9 with
          | inl q =>
            obtain ⟨hG, hF⟩ := hpost.no
            unfold GUp at hG
            subst hG
            have HRR : Hid (r = .inl q) := (Option.some.inj HL9.out).symm
            have HF : Hid _ := HC.out.fx.trans hF
            clear hpost hF
            go_wp2
            exact ⟨rfl, by rw [HRR.out]; exact ⟨rfl, HF.out⟩⟩
          | inr q =>
            obtain ⟨t9, j9⟩ := q
            obtain ⟨⟨rfl, hr9⟩, hF9⟩ := hpost.ok
            dsimp only at hr9
            have HRR : Hid (r = .inr ((mkX 14 q2 1 q4 [x]), j9)) := (Option.some.inj HL9.out).symm
            have hC := HC.out.step hF9 hr9 hlt
            have HFin : Hid _ := Cx.retn (k := 14) (t := q2) (m := 1) (a := q4) (n := 1) 1 rfl hC ((HX.out).fx hF9) (Nat.le_refl _) hlt
            obtain ⟨b0, b1, b2, b3, b4, _, _, _, _, _⟩ := HB.out.fx hF9 (by omega)
            obtain ⟨z0, z1, z2, z3, z4, f0, f1, f2, f3, f4⟩ := own5 hC.res (.int .i64 14) (.string (bsA q2)) (.int .i64 1) (.int .i64 q4) (.slice (some ⟨w6.heap.size, 0, none⟩) 1 1)
            obtain ⟨d0, d1, d2, d3, d4, g0, g1, g2, g3, g4⟩ := hC.res
            clear hC hpost hr9 hF9 HC HB HL9
            unfold ttV
            go_wp2
            refine bodyPost_ret (v := .agg #[.int .i64 14, .string (bsA q2), .int .i64 1, .int .i64 q4, (.slice (some ⟨w6.heap.size, 0, none⟩) 1 1)]) (by unfold set5 at z0 z1 z2 z3 z4; simp [results, Try.results95, go_sem, z0, z1, z2, z3, z4]) rfl ?_
            rw [HRR.out]
            exact HFin.out
      | false =>
        have h5 := passes_no rb ta cap T j1 op 2 [100, 105, 115, 116, 105, 110, 99, 116] _ HC.out.rdr hb5
        unfold ptr at h5
        have HL : Hid (bnd (E j1 op) (fun x j => bnd (needP T 6 [41] j) fun _ j => okR (mkX 14 q2 0 q4 [x]) j) = some r) := by
          have h := HLD.out
          rw [hb5] at h
          unfold aggE at h
          rw [HQ.out] at h
          exact h
        clear hb5 HLD HQ
        go_wp2_with fail
        refine h5.mono ?_
        rintro e w5 ⟨rfl, hb5⟩
        clear h5
        have HC5 : Hid (Cx rb ta cap T w w.heap.size j1 op w5) := HC.out.below hb5
        have HB5 : Hid (Box5 w5 w2.heap.size (.int .i64 14) (.string (bsA q2)) (.int .i64 0) (.int .i64 q4) (.slice none 0 0)) := HB.out.below hb5
        clear hb5 HC HB
        have HC := HC5
        have HB := HB5
        clear HC5 HB5
        obtain ⟨r6, e6, hl6⟩ := bnd_some HL.out
        have HL6 : Hid (bnd (some r6) (fun x j => bnd (needP T 6 [41] j) fun _ j => okR (mkX 14 q2 0 q4 [x]) j) = some r) := hl6
        have h6 := HP.out j1 op _ r6 hop HC.out.rdr e6
        unfold ptr at h6
        have hsc : w2.heap.size < (w5).heap.size := cell_lt HB.out.c0
        have hsw := HC.out.fx.size
        obtain ⟨y0, y1, y2, y3, y4, k0, k1, k2, k3, k4⟩ := HB.out
        clear hl6 e6 HL HP
        go_wp2_with fail
        refine h6.mono ?_
        intro e w6 hpost
        clear h6 y0 y1 y2 y3 y4 k0 k1 k2 k3 k4
        cases r6 with
        | inl q =>
          obtain ⟨hG, hF⟩ := hpost.no
          unfold GUp at hG
          subst hG
          have HRR : Hid (r = .inl q) := (Option.some.inj HL6.out).symm
          have HF : Hid _ := HC.out.fx.trans hF
          clear hpost hF
          go_wp2
          exact ⟨rfl, by rw [HRR.out]; exact ⟨rfl, HF.out⟩⟩
        | inr q =>
          obtain ⟨x, j6⟩ := q
          obtain ⟨⟨⟨s1, c1, rfl, hx⟩, hr6⟩, hF6⟩ := hpost.ok
          dsimp only at hx hr6
          have hY : Below w6.heap.size w6 (w6.alloc (Obj.cells #[Value.int IntKind.i64 (xk x), Value.string (bsA (xt x)), Value.int IntKind.i64 (xn x), Value.int IntKind.i64 (xa x), Value.slice s1 (xl x) c1] 26)) := (Below.refl _ _).alloc (Nat.le_refl _) _
          have hO : OwX rb (w5).heap.size (w6.alloc (Obj.cells #[Value.int IntKind.i64 (xk x), Value.string (bsA (xt x)), Value.int IntKind.i64 (xn x), Value.int IntKind.i64 (xa x), Value.slice s1 (xl x) c1] 26)) w6.heap.size 1 [(x, s1, c1)] := OwX.new w6 [(x, s1, c1)] hF6.size (by simp) (fun p hp => by rw [List.mem_singleton.1 hp]; exact hx) (by omega) _ rfl
          have hB6 := (HB.out.fx hF6 (by omega)).below hY
          have HX : Hid (XSt rb w.heap.size w.heap.size ((w6.alloc (Obj.cells #[Value.int IntKind.i64 (xk x), Value.string (bsA (xt x)), Value.int IntKind.i64 (xn x), Value.int IntKind.i64 (xa x), Value.slice s1 (xl x) c1] 26)).setCell ⟨w2.heap.size, 4, none⟩ (.slice (some ⟨w6.heap.size, 0, none⟩) 1 1)) (mkX 14 q2 0 q4 [x]) (some ⟨w6.heap.size, 0, none⟩)) := by
            have hx4 : XAt (w5).heap.size (w6.alloc (Obj.cells #[Value.int IntKind.i64 (xk x), Value.string (bsA (xt x)), Value.int IntKind.i64 (xn x), Value.int IntKind.i64 (xa x), Value.slice s1 (xl x) c1] 26)) (mkX 14 q2 0 q4 [x]) (some ⟨w6.heap.size, 0, none⟩) := hO.tree (zb := w.heap.size) 14 q2 0 q4 (by omega) (hO.apart (by omega) (Nat.le_refl _) (by omega)) (by have := hO.lt; omega) _ (fun _ _ _ _ => rfl)
            exact XSt.new (NdF.keep (Nat.le_refl _) (fun b hb _ => Below.heap_setCell _ _ _ _ (show b ≠ w2.heap.size by omega)) hx4) (by omega) hsw (by omega)
          have HC7 : Hid (Cx rb ta cap T w w.heap.size j6 op ((w6.alloc (Obj.cells #[Value.int IntKind.i64 (xk x), Value.string (bsA (xt x)), Value.int IntKind.i64 (xn x), Value.int IntKind.i64 (xa x), Value.slice s1 (xl x) c1] 26)).setCell ⟨w2.heap.size, 4, none⟩ (.slice (some ⟨w6.heap.size, 0, none⟩) 1 1))) := ((HC.out.step hF6 hr6 hlt).alloc _).set w2.heap.size 4 _ (by omega) (by omega) (by omega)
          have HB7 : Hid (Box5 ((w6.alloc (Obj.cells #[Value.int IntKind.i64 (xk x), Value.string (bsA (xt x)), Value.int IntKind.i64 (xn x), Value.int IntKind.i64 (xa x), Value.slice s1 (xl x) c1] 26)).setCell ⟨w2.heap.size, 4, none⟩ (.slice (some ⟨w6.heap.size, 0, none⟩) 1 1)) w2.heap.size (.int .i64 14) (.string (bsA q2)) (.int .i64 0) (.int .i64 q4) (.slice (some ⟨w6.heap.size, 0, none⟩) 1 1)) := hB6.put4 _
          have HL7 : Hid (bnd (needP T 6 [41] j6) (fun _ j => okR (mkX 14 q2 0 q4 [x]) j) = some r) := HL6.out
          obtain ⟨y0, y1, y2, y3, y4, k0, k1, k2, k3, k4⟩ := hB6
          clear hpost hx hr6 hF6 hY hO HL6 HC HB
          have HC := HC7
          have HB := HB7
          clear HC7 HB7
          unfold xV nV
          obtain ⟨r9, e9, h9⟩ := need_any rb ta cap T j6 op 6 [41] (by decide) _ HC.out.rdr
          unfold ptr at h9
          have HL9 : Hid (bnd (some r9) (fun _ j => okR (mkX 14 q2 0 q4 [x]) j) = some r) := by
            have h : bnd (needP T 6 [41] j6) (fun _ j => okR (mkX 14 q2 0 q4 [x]) j) = some r := HL7.out
            rw [e9] at h
            exact h
          clear e9 HL7
          go_wp2_with fail
          refine h9.mono ?_
          intro e w9 hpost
          clear h9
          cases r9 with
          | inl q =>
            obtain ⟨hG, hF⟩ := hpost.no
            unfold GUp at hG
            subst hG
            have HRR : Hid (r = .inl q) := (Option.some.inj HL9.out).symm
            have HF : Hid _ := HC.out.fx.trans hF
            clear hpost hF
            go_wp2
            exact ⟨rfl, by rw [HRR.out]; exact ⟨rfl, HF.out⟩⟩
          | inr q =>
            obtain ⟨t9, j9⟩ := q
            obtain ⟨⟨rfl, hr9⟩, hF9⟩ := hpost.ok
            dsimp only at hr9
            have HRR : Hid (r = .inr ((mkX 14 q2 0 q4 [x]), j9)) := (Option.some.inj HL9.out).symm
            have hC := HC.out.step hF9 hr9 hlt
            have HFin : Hid _ := Cx.retn (k := 14) (t := q2) (m := 0) (a := q4) (n := 1) 1 rfl hC ((HX.out).fx hF9) (Nat.le_refl _) hlt
            obtain ⟨b0, b1, b2, b3, b4, _, _, _, _, _⟩ := HB.out.fx hF9 (by omega)
            obtain ⟨z0, z1, z2, z3, z4, f0, f1, f2, f3, f4⟩ := own5 hC.res (.int .i64 14) (.string (bsA q2)) (.int .i64 0) (.int .i64 q4) (.slice (some ⟨w6.heap.size, 0, none⟩) 1 1)
            obtain ⟨d0, d1, d2, d3, d4, g0, g1, g2, g3, g4⟩ := hC.res
            clear hC hpost hr9 hF9 HC HB HL9
            unfold ttV
            go_wp2
            refine bodyPost_ret (v := .agg #[.int .i64 14, .string (bsA q2), .int .i64 0, .int .i64 q4, (.slice (some ⟨w6.heap.size, 0, none⟩) 1 1)]) (by unfold set5 at z0 z1 z2 z3 z4; simp [results, Try.results95, go_sem, z0, z1, z2, z3, z4]) rfl ?_
            rw [HRR.out]
            exact HFin.out
end Go.Proofs.Ytcicdapccondkaa
