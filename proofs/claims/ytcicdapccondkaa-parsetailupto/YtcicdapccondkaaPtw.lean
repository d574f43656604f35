/- What stands behind an expression: the walk. -/
import Derived.Test.YtcicdapccondkaaPtl
namespace Go.Proofs.Ytcicdapccondkaa
open Go.ChangeShapes Go.WideShapes Go.ChangeAt Go.RowKit
set_option linter.unusedSimpArgs false
set_option maxRecDepth 20000
set_option maxHeartbeats 4000000

theorem tail_walk (s : List UInt8) (k : Int) (w : World) (hl : s.length ≤ 104857600) : Calls Try.prog 5 #[.string (bsA s), .int .i64 k] w fun e w' => e = .returned (.bool true) ∧ Below w.heap.size w w' := by
  have h1 := Tokens_any s w hl
  have hTl := tkP_len s
  generalize tkP s = T at h1 hTl
  obtain ⟨r, er, hr1, hr2⟩ := exP_tot T (2 * (T.length + 3)) 0 0 (Nat.zero_le _) (by omega)
  go_enter Try.func5, Try.ntmps5
  go_wp2_with fail
  refine h1.mono ?_
  rintro e w1 ⟨⟨a1, p1, rfl, ht1, hg1⟩, hb1⟩
  clear h1
  have h2 := Expr_any a1 p1 T _ w1 ht1 (by omega) (fun b o e => (hg1 b o e).2) r er
  have HT1 : Hid (TksAt w1 a1 T) := ht1
  have HG1 : Hid (∀ g o, a1 = some ⟨g, o, none⟩ → w.heap.size ≤ g ∧ g < w1.heap.size) := hg1
  have HER : Hid (exP T (2 * (T.length + 3)) 0 0 = some r) := er
  clear ht1 hg1 er
  obtain ⟨lt, hlt⟩ : ∃ lt, T.length = lt := ⟨_, rfl⟩
  have HLT : Hid (T.length = lt) := hlt
  rw [hlt] at h2 ⊢
  clear hlt
  cases r with
  | inl q =>
    obtain ⟨q1, q2⟩ := q
    have hq : (q2 != 0) = true := by simpa using hr2 _ rfl
    go_wp2_with fail
    refine h2.mono ?_
    rintro e w2 ⟨rfl, hb2⟩
    clear h2
    have HB : Hid (Below w.heap.size w (w2.alloc (Obj.cells #[Value.int IntKind.i64 0, Value.string (bsA []), Value.int IntKind.i64 0, Value.int IntKind.i64 0, Value.slice none 0 0] 26))) := below_new (hb1.trans (hb2.mono hb1.size)) _
    clear hb1 hb2 hr1 hr2 HT1 HG1 HER
    unfold nV
    have h9 := awake_any (w2.alloc (Obj.cells #[Value.int IntKind.i64 0, Value.string (bsA []), Value.int IntKind.i64 0, Value.int IntKind.i64 0, Value.slice none 0 0] 26))
    go_wp2_with fail
    refine h9.mono ?_
    rintro e w9 ⟨rfl, hb9⟩
    clear h9
    have HFin : Hid (Below w.heap.size w w9) := (HB.out).trans (hb9.mono (HB.out).size)
    clear hb9
    go_wp2
    refine bodyPost_ret (v := .bool true) (by simp [results, Try.results5, go_sem]) rfl ?_
    exact ⟨rfl, HFin.out⟩
  | inr q =>
    obtain ⟨x, j⟩ := q
    by_cases hj : j = lt
    · subst hj
      have hq : ((j : Int) != (j : Int)) = false := by simp
      go_wp2_with fail
      refine h2.mono ?_
      rintro e w2 ⟨⟨s1, c1, rfl, hx⟩, hb2⟩
      clear h2
      have HB2 : Hid (Below w1.heap.size w1 (w2.alloc (Obj.cells #[Value.int IntKind.i64 (xk x), Value.string (bsA (xt x)), Value.int IntKind.i64 (xn x), Value.int IntKind.i64 (xa x), Value.slice s1 (xl x) c1] 26))) := below_new hb2 _
      have HX2 : Hid (XAt w1.heap.size (w2.alloc (Obj.cells #[Value.int IntKind.i64 (xk x), Value.string (bsA (xt x)), Value.int IntKind.i64 (xn x), Value.int IntKind.i64 (xa x), Value.slice s1 (xl x) c1] 26)) x s1) := XAt.below hx ((Below.refl _ _).alloc (Nat.le_refl _) _)
      have HN2 : Hid (Box5 (w2.alloc (Obj.cells #[Value.int IntKind.i64 (xk x), Value.string (bsA (xt x)), Value.int IntKind.i64 (xn x), Value.int IntKind.i64 (xa x), Value.slice s1 (xl x) c1] 26)) w2.heap.size (.int .i64 (xk x)) (.string (bsA (xt x))) (.int .i64 (xn x)) (.int .i64 (xa x)) (.slice s1 (xl x) c1)) := Box5.new w2 _ _ _ _ _ 26
      clear hx hb2
      unfold xV nV
      obtain ⟨ix, hi6, hidx⟩ := tail_idx k
      obtain ⟨t, M, htk, hstp, hul, hM⟩ := tail_tok ix hi6
      have hcell : (((w2.alloc (Obj.cells #[Value.int IntKind.i64 (xk x), Value.string (bsA (xt x)), Value.int IntKind.i64 (xn x), Value.int IntKind.i64 (xa x), Value.slice s1 (xl x) c1] 26)).alloc (Obj.cells #[Value.string { data := #[44] }, Value.string { data := #[41] }, Value.string { data := #[59] }, Value.string { data := #[102, 114, 111, 109, 32, 120] }, Value.string { data := #[97, 115, 32, 121] }, Value.string { data := #[116, 104, 101, 110] }] 9))).cell? ⟨w2.heap.size + 1, ix, none⟩ = some (.string (bsA (tls.getD ix []))) := by
        match ix, hi6 with
        | 0, _ => simp [go_sem]; rfl
        | 1, _ => simp [go_sem]; rfl
        | 2, _ => simp [go_sem]; rfl
        | 3, _ => simp [go_sem]; rfl
        | 4, _ => simp [go_sem]; rfl
        | 5, _ => simp [go_sem]; rfl
        | n + 6, h => exact absurd h (by omega)
      have hix0 : (0 : Int) ≤ (ix : Int) := by omega
      have hix1 : (ix : Int) < 6 := by omega
      have h3 := Tokens_any (tls.getD ix []) ((w2.alloc (Obj.cells #[Value.int IntKind.i64 (xk x), Value.string (bsA (xt x)), Value.int IntKind.i64 (xn x), Value.int IntKind.i64 (xa x), Value.slice s1 (xl x) c1] 26)).alloc (Obj.cells #[Value.string { data := #[44] }, Value.string { data := #[41] }, Value.string { data := #[59] }, Value.string { data := #[102, 114, 111, 109, 32, 120] }, Value.string { data := #[97, 115, 32, 121] }, Value.string { data := #[116, 104, 101, 110] }] 9)) (by omega)
      rw [htk] at h3
      have HTK : Hid (tkP (tls.getD ix []) = t :: M) := htk
      have HST : Hid (Stp t) := hstp
      clear htk hstp
      generalize tls.getD ix [] = us at h3 hcell hul HTK
      go_wp2_with fail
      refine h3.mono ?_
      rintro e w4 ⟨⟨a4, p4, rfl, ht4, hg4⟩, hb4⟩
      clear h3 hcell
      have hj0 : 0 < j := exP_st T _ 0 0 x j HER.out
      have hb24 : Below w1.heap.size w1 w4 := (HB2.out.trans (((Below.refl _ _).alloc (Nat.le_refl _) (Obj.cells #[Value.string { data := #[44] }, Value.string { data := #[41] }, Value.string { data := #[59] }, Value.string { data := #[102, 114, 111, 109, 32, 120] }, Value.string { data := #[97, 115, 32, 121] }, Value.string { data := #[116, 104, 101, 110] }] 9)).mono HB2.out.size)).trans (hb4.mono (by have := HB2.out.size; simp at this ⊢; omega))
      have hb14 : Below w.heap.size w w4 := hb1.trans (hb24.mono hb1.size)
      obtain ⟨b1, o1, rfl, hc1⟩ : ∃ b o, a1 = some ⟨b, o, none⟩ ∧ ∀ i t, T[i]? = some t → w4.cell? ⟨b, o + i * 4, none⟩ = some (.int .i64 t.1.1) ∧ w4.cell? ⟨b, o + i * 4 + 1, none⟩ = some (.string (bsA t.1.2.1)) ∧ w4.cell? ⟨b, o + i * 4 + 2, none⟩ = some (.int .i64 t.1.2.2) ∧ w4.cell? ⟨b, o + i * 4 + 3, none⟩ = some (.int .i64 t.2) := by
        rcases HT1.out.below hb24 with h0 | ⟨b, o, e, h⟩
        · rw [h0] at HLT
          exact absurd HLT.out (by simp; omega)
        · exact ⟨b, o, e, h⟩
      obtain ⟨b4, o4, rfl, hc4⟩ : ∃ b o, a4 = some ⟨b, o, none⟩ ∧ ∀ i u, (t :: M)[i]? = some u → w4.cell? ⟨b, o + i * 4, none⟩ = some (.int .i64 u.1.1) ∧ w4.cell? ⟨b, o + i * 4 + 1, none⟩ = some (.string (bsA u.1.2.1)) ∧ w4.cell? ⟨b, o + i * 4 + 2, none⟩ = some (.int .i64 u.1.2.2) ∧ w4.cell? ⟨b, o + i * 4 + 3, none⟩ = some (.int .i64 u.2) := by
        rcases ht4 with h0 | ⟨b, o, e, h⟩
        · cases h0
        · exact ⟨b, o, e, h⟩
      have HC1 : Hid _ := tks_cells hc1
      have HC4 : Hid _ := tks_cells hc4
      have hg4' := (hg4 b4 o4 rfl).2
      have HX4 : Hid (XAt w1.heap.size w4 x s1) := XAt.below (XAt.below HX2.out ((Below.refl _ _).alloc (Nat.le_refl _) (Obj.cells #[Value.string { data := #[44] }, Value.string { data := #[41] }, Value.string { data := #[59] }, Value.string { data := #[102, 114, 111, 109, 32, 120] }, Value.string { data := #[97, 115, 32, 121] }, Value.string { data := #[116, 104, 101, 110] }] 9))) hb4
      have HN4 : Hid (Box5 w4 w2.heap.size (.int .i64 (xk x)) (.string (bsA (xt x))) (.int .i64 (xn x)) (.int .i64 (xa x)) (.slice s1 (xl x) c1)) := (HN2.out.below ((Below.refl _ _).alloc (Nat.le_refl _) (Obj.cells #[Value.string { data := #[44] }, Value.string { data := #[41] }, Value.string { data := #[59] }, Value.string { data := #[102, 114, 111, 109, 32, 120] }, Value.string { data := #[97, 115, 32, 121] }, Value.string { data := #[116, 104, 101, 110] }] 9))).below hb4
      have HB4 : Hid (Below w.heap.size w w4) := hb14
      obtain ⟨lm, hlm⟩ : ∃ lm, (t :: M).length = lm := ⟨_, rfl⟩
      have HLM : Hid ((t :: M).length = lm) := hlm
      have hlm1 : 0 < lm ∧ lm ≤ 2 := by rw [← hlm]; simp; omega
      rw [hlm]
      have hjn : j ≤ 104857600 := by have := HLT.out; omega
      obtain ⟨i0, hi0, hz0⟩ := Option.map_eq_some_iff.1 info37
      simp only [Prod.mk.injEq] at hz0
      obtain ⟨hz1, hzs, hz3⟩ := hz0
      have HL1 : Hid ((rtC T).length = j * 4) := by show _ = _; rw [rtC_len, HLT.out]
      have HL4 : Hid ((rtC (t :: M)).length = lm * 4) := by show _ = _; rw [rtC_len, HLM.out]
      have hs4 : w.heap.size ≤ w4.heap.size := hb14.size
      clear ht4 hg4 hb4 hb24 hb14 hc1 hc4 HB2 HX2 HN2 HT1 HG1 hlm hb1
      go_wp2_with (at_builtin; refine wpList_append_lies _ rfl _ _ 22 rfl w.heap.size 51 i0 (.agg #[.int .i64 0, .string ⟨#[]⟩, .int .i64 0, .int .i64 0]) 4 40 Try.underlying22 hi0 hz1 hzs hz3 rfl (by decide) (.slice none 0 0) 0 [] rfl (World.ownsRow_nil _ _ _ _) ⟨b1, o1, none⟩ j p1 (rtC T) rfl HL1.out HC1.out (rtC_one _) hj0 (by unfold maxLen; omega) (by omega) hs4 _ rfl ?_)
      intro g5 c5 w5 hown5 hgrow5 hlies5 hlt5
      have hb45 : Below w4.heap.size w4 w5 := ⟨hgrow5.os, hgrow5.tape, hgrow5.output, hgrow5.size, fun b hb => hgrow5.block b hb (by simp [Value.ownBlock])⟩
      have HC5 : Hid (∀ j u, (rtC (t :: M))[j]? = some u → w5.cell? ((⟨b4, o4, none⟩ : Addr).add j) = some u) := fun j u hu => (World.cell?_of_block (by have e : ((⟨b4, o4, none⟩ : Addr).add j).block = b4 := (by unfold Addr.add; split <;> simp_all); rw [e]; exact hb45.block b4 hg4')).trans (HC4.out j u hu)
      have HO5 : Hid (w5.ownsRow w.heap.size 51 4 (.slice (some ⟨g5, 0, none⟩) j c5) j (rtC T)) := hown5
      have hs5 : w.heap.size ≤ w5.heap.size := Nat.le_trans hs4 hb45.size
      clear hown5 hgrow5 HC1 HC4
      have hg5 : g5 = w4.heap.size := by simpa [Value.ownBlock] using hlies5
      have HB45 : Hid (Below w4.heap.size w4 w5) := hb45
      clear hlies5 hb45
      go_wp2_with (at_builtin; refine wpList_append_lies _ rfl _ _ 22 rfl w.heap.size 51 i0 (.agg #[.int .i64 0, .string ⟨#[]⟩, .int .i64 0, .int .i64 0]) 4 40 Try.underlying22 hi0 hz1 hzs hz3 rfl (by decide) (.slice (some ⟨g5, 0, none⟩) j c5) j (rtC T) rfl HO5.out ⟨b4, o4, none⟩ lm p4 (rtC (t :: M)) rfl HL4.out HC5.out (rtC_one _) hlm1.1 (by unfold maxLen; omega) (by omega) hs5 _ rfl ?_)
      intro g6 c6 w6 hown6 hgrow6 hlies6 hlt6
      have hb46 : Below w4.heap.size w4 w6 := ⟨hgrow6.os.trans HB45.out.os, hgrow6.tape.trans HB45.out.tape, hgrow6.output.trans HB45.out.output, Nat.le_trans HB45.out.size hgrow6.size, fun b hb => (hgrow6.block b (Nat.lt_of_lt_of_le hb HB45.out.size) (by simp [Value.ownBlock]; omega)).trans (HB45.out.block b hb)⟩
      have HLT6 : Hid ((T ++ t :: M).length = j + lm) := by show _ = _; rw [List.length_append, HLT.out, HLM.out]
      have hown6' : w6.ownsRow w.heap.size 51 4 (.slice (some ⟨g6, 0, none⟩) (j + lm) c6) (T ++ t :: M).length (rtC (T ++ t :: M)) := by
        rw [HLT6.out]
        have e : rtC (T ++ t :: M) = rtC T ++ rtC (t :: M) := by simp [rtC]
        rw [e]
        exact hown6
      obtain ⟨a6, q6, e6, ht6, hga6, _⟩ := tks_of_owns2 hown6'
      rw [HLT6.out] at e6
      injection e6 with e61 e62 e63
      subst e61
      subst e63
      have hpure := tail_pure T M t HST.out _ x (by rw [HLT.out]; exact HER.out)
      rw [HLT.out] at hpure
      have h7 := Expr_any _ c6 (T ++ t :: M) _ w6 ht6 (by rw [HLT6.out]; omega) (fun b o e => (hga6 b o e).2) _ hpure
      rw [HLT6.out] at h7
      have HX6 : Hid (XAt w1.heap.size w6 x s1) := XAt.below HX4.out hb46
      have HN6 : Hid (Box5 w6 w2.heap.size (.int .i64 (xk x)) (.string (bsA (xt x))) (.int .i64 (xn x)) (.int .i64 (xa x)) (.slice s1 (xl x) c1)) := HN4.out.below hb46
      have HB6 : Hid (Below w.heap.size w w6) := HB4.out.trans (hb46.mono HB4.out.size)
      clear hown6 hown6' hgrow6 hlies6 hb46 ht6 hga6 hpure HX4 HN4 HB4 HB45 HC5 HO5 HL4 HL1
      go_wp2_with fail
      refine h7.mono ?_
      rintro e w7 ⟨⟨s7, c7, rfl, hx7⟩, hb7⟩
      clear h7
      have hb78 := below_new hb7 (Obj.cells #[Value.int IntKind.i64 (xk x), Value.string (bsA (xt x)), Value.int IntKind.i64 (xn x), Value.int IntKind.i64 (xa x), Value.slice s7 (xl x) c7] 26)
      have HX8 : Hid (XAt w1.heap.size (w7.alloc (Obj.cells #[Value.int IntKind.i64 (xk x), Value.string (bsA (xt x)), Value.int IntKind.i64 (xn x), Value.int IntKind.i64 (xa x), Value.slice s7 (xl x) c7] 26)) x s1) := XAt.below HX6.out hb78
      have HY8 : Hid (XAt w6.heap.size (w7.alloc (Obj.cells #[Value.int IntKind.i64 (xk x), Value.string (bsA (xt x)), Value.int IntKind.i64 (xn x), Value.int IntKind.i64 (xa x), Value.slice s7 (xl x) c7] 26)) x s7) := XAt.below hx7 ((Below.refl _ _).alloc (Nat.le_refl _) _)
      have HB8 : Hid (Below w.heap.size w (w7.alloc (Obj.cells #[Value.int IntKind.i64 (xk x), Value.string (bsA (xt x)), Value.int IntKind.i64 (xn x), Value.int IntKind.i64 (xa x), Value.slice s7 (xl x) c7] 26))) := HB6.out.trans (hb78.mono HB6.out.size)
      obtain ⟨y0, y1, y2, y3, y4, _, _, _, _, _⟩ := HN6.out.below hb78
      obtain ⟨z0, z1, z2, z3, z4, _, _, _, _, _⟩ := Box5.new w7 (.int .i64 (xk x)) (.string (bsA (xt x))) (.int .i64 (xn x)) (.int .i64 (xa x)) (.slice s7 (xl x) c7) 26
      have h8 := RJust_any x.1 x.2 x.2 s7 s1 c7 c1 (w7.alloc (Obj.cells #[Value.int IntKind.i64 (xk x), Value.string (bsA (xt x)), Value.int IntKind.i64 (xn x), Value.int IntKind.i64 (xa x), Value.slice s7 (xl x) c7] 26)) (NdF.at HY8.out) (NdF.at HX8.out)
      rw [jusP_refl] at h8
      have ev7 : ndV x.1 x.2 s7 c7 = .agg #[.int .i64 (xk x), .string (bsA (xt x)), .int .i64 (xn x), .int .i64 (xa x), .slice s7 (xl x) c7] := rfl
      have ev1 : ndV x.1 x.2 s1 c1 = .agg #[.int .i64 (xk x), .string (bsA (xt x)), .int .i64 (xn x), .int .i64 (xa x), .slice s1 (xl x) c1] := rfl
      rw [ev7, ev1] at h8
      have hjj : ((j : Int) == (j : Int)) = true := by simp
      clear hx7 hb7 hb78 HX6 HN6 HB6 HX8 HY8 ev7 ev1
      unfold xV nV
      go_wp2_with fail
      refine h8.mono ?_
      rintro e w8 ⟨rfl, hb8⟩
      clear h8 y0 y1 y2 y3 y4 z0 z1 z2 z3 z4
      have HB9 : Hid (Below w.heap.size w w8) := HB8.out.trans (hb8.mono HB8.out.size)
      clear hb8 HB8
      have h9 := awake_any w8
      go_wp2_with fail
      refine h9.mono ?_
      rintro e w9 ⟨rfl, hb9⟩
      clear h9
      have HFin : Hid (Below w.heap.size w w9) := (HB9.out).trans (hb9.mono (HB9.out).size)
      clear hb9
      go_wp2
      refine bodyPost_ret (v := .bool true) (by simp [results, Try.results5, go_sem]) rfl ?_
      exact ⟨rfl, HFin.out⟩
    · have hq : ((j : Int) != (lt : Int)) = true := by simp; omega
      go_wp2_with fail
      refine h2.mono ?_
      rintro e w2 ⟨⟨s1, c1, rfl, hx⟩, hb2⟩
      clear h2
      have HB : Hid (Below w.heap.size w (w2.alloc (Obj.cells #[Value.int IntKind.i64 (xk x), Value.string (bsA (xt x)), Value.int IntKind.i64 (xn x), Value.int IntKind.i64 (xa x), Value.slice s1 (xl x) c1] 26))) := below_new (hb1.trans (hb2.mono hb1.size)) _
      clear hb1 hb2 hr1 hr2 HT1 HG1 HER hx
      unfold xV nV
      have h9 := awake_any (w2.alloc (Obj.cells #[Value.int IntKind.i64 (xk x), Value.string (bsA (xt x)), Value.int IntKind.i64 (xn x), Value.int IntKind.i64 (xa x), Value.slice s1 (xl x) c1] 26))
      go_wp2_with fail
      refine h9.mono ?_
      rintro e w9 ⟨rfl, hb9⟩
      clear h9
      have HFin : Hid (Below w.heap.size w w9) := (HB.out).trans (hb9.mono (HB.out).size)
      clear hb9
      go_wp2
      refine bodyPost_ret (v := .bool true) (by simp [results, Try.results5, go_sem]) rfl ?_
      exact ⟨rfl, HFin.out⟩
end Go.Proofs.Ytcicdapccondkaa
