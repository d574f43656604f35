/- Syv, Syd. -/
import Derived.Test.YtgdndahhledikaaGreatDoorK21
import Derived.Test.YtgdndahhledikaaGreatDoorK20
namespace Go.Proofs.YtgdndahhledikaaGreatDoor
open Go.ChangeShapes Go.WideShapes Go.ChangeAt Go.RowKit
set_option linter.unusedSimpArgs false
set_option maxRecDepth 20000
set_option maxHeartbeats 4000000
def vwsP (T : List Tt) (g : Nat → Rz X) : Nat → List X → Nat → Rz (List X)
 | 0, _, _ => none
 | f + 1, l, i => if isT (tkI T i) 6 [[35]] = true then (if l.length < 4 then bnd (g i) fun x j => vwsP T g f (l ++ [x]) j else noR i 70) else okR l i
def VW (rb : Nat) (w w' : World) (l : List X) (v : Value) : Prop := (l = [] ∧ v = .slice none 0 0) ∨ (l ≠ [] ∧ l.length ≤ 4 ∧ VL rb w w' l v)
theorem OwX.nil {rb lo : Nat} {w w' : World} {g' cap' : Nat} {p : Xp} (hx : XAt lo w p.1 p.2.1) (hr : rb < lo) (ho : w'.ownsRow lo 34 5 (.slice (some ⟨g', 0, none⟩) (0 + 1) cap') (0 + 1) (xC [] ++ xC [p])) (hg : w.grownBy w' none) (hl : g' = w.heap.size) : OwX rb lo w' g' cap' [p] :=
 ⟨ho, fun q hq => by
  rw [List.mem_singleton.1 hq]
  subst hl
  have hb : Below w.heap.size w w' := (Below.refl _ _).grown hg (Nat.le_refl _) (fun _ h => by cases h)
  exact (XSt.old hx hr (Nat.le_refl _)).below hb⟩
theorem views_s (rb : Nat) (ta : Option Addr) (cap : Nat) (T : List Tt) (g : Nat → Nat → Rz X) (hg : RdX rb ta cap T 148 g) (f : Nat) : Rds (VW rb) rb ta cap T 107 #[ptr rb] (fun i op => vwsP T (fun j => g j op) f [] i) := by
 intro i op w r hop hr h
 dsimp only at h
 have HL1 : Hid _ := h
 have HG : Hid (RdX rb ta cap T 148 g) := hg
 have HR0 : Hid _ := hr
 have hlt := cell_lt hr.c0
 unfold ptr
 clear hr h hg
 go_enter Tryz.func107, Tryz.ntmps107
 go_wp2
 go_loopg [3] f (fun gk v wr => ∃ (A : List Xp) (i' : Nat), ((A = [] ∧ v = .slice none 0 0) ∨ ∃ (g' c : Nat), A ≠ [] ∧ v = .slice (some ⟨g', 0, none⟩) A.length c ∧ OwX rb w.heap.size wr g' c A) ∧ Rdr wr rb ta cap T i' op ∧ Fx rb w wr ∧ A.length ≤ 4 ∧ vwsP T (fun j => g j op) gk (A.map (·.1)) i' = some r)
 case atStart => exact ⟨[], i, Or.inl ⟨rfl, rfl⟩, HR0.out, Fx.refl _, by simp, HL1.out⟩
 case round =>
  obtain ⟨A, i', hv, hr2, hF2, hA, hl⟩ := hrel
  obtain ⟨m, rfl⟩ : ∃ m, gk = m + 1 := by
   cases gk with
   | zero => cases hl
   | succ m => exact ⟨m, rfl⟩
  unfold vwsP at hl
  rw [List.length_map] at hl
  have HF2 : Hid (Fx rb w wr) := hF2
  clear hF2 HL1 HR0
  rcases hv with ⟨rfl, rfl⟩ | ⟨g', c, hne, rfl, hO⟩
  ·
   have HL3 : Hid ((if isT (tkI T i') 6 [[35]] = true then (if 0 < 4 then bnd (g i' op) (fun x j => vwsP T (fun j => g j op) m ([] ++ [x]) j) else noR i' 70) else okR [] i') = some r) := hl
   clear hl hA
   have h2 := seesSign_any rb ta cap T i' op [35] wr hr2
   have HR2 : Hid (Rdr wr rb ta cap T i' op) := hr2
   unfold ptr at h2
   cases hb : isT (tkI T i') 6 [[35]] with
   | false =>
    have HRR : Hid (r = .inr ([], i')) := okR_eq (by have h := HL3.out; rw [hb, if_neg (by decide)] at h; exact h)
    rw [hb] at h2
    clear HL3 hr2 hb
    go_wp2_with fail
    refine h2.mono ?_
    rintro e w2 ⟨rfl, hb2⟩
    clear h2
    have HFin : Hid (SPost (VW rb) rb ta cap T op w (.inr ([], i')) (.returned (.slice none 0 0)) w2) := ⟨⟨⟨_, rfl, Or.inl ⟨rfl, rfl⟩⟩, HR2.out.below hb2⟩, HF2.out.trans (Fx.below hb2)⟩
    clear hb2 HF2 HR2
    go_wp2
    refine bodyPost_ret (v := .slice none 0 0) (by simp [results, Tryz.results107, go_sem]) rfl ?_
    rw [HRR.out]
    exact HFin.out
   | true =>
    have HL6 : Hid ((if 0 < 4 then bnd (g i' op) (fun x j => vwsP T (fun j => g j op) m ([] ++ [x]) j) else noR i' 70) = some r) := by have h := HL3.out; rw [hb, if_pos rfl] at h; exact h
    rw [hb] at h2
    clear HL3 hr2 hb
    go_wp2_with fail
    refine h2.mono ?_
    rintro e w2 ⟨rfl, hb2⟩
    clear h2
    have HF3 : Hid (Fx rb w w2) := HF2.out.trans (Fx.below hb2)
    have HR3 : Hid (Rdr w2 rb ta cap T i' op) := HR2.out.below hb2
    clear hb2 HF2 HR2
    by_cases hml : 0 < 4
    ·
     have hmi : ((0 : Int) < 4) = True := eq_true (by decide)
     have HL7 : Hid (bnd (g i' op) (fun x j => vwsP T (fun j => g j op) m ([] ++ [x]) j) = some r) := by have h := HL6.out; rw [if_pos (by exact hml)] at h; exact h
     clear HL6
     have h3 := must_ok rb w2
     unfold ptr at h3
     go_wp2_with fail
     refine h3.mono ?_
     rintro e w2' ⟨rfl, rfl⟩
     clear h3 hmi
     obtain ⟨r3, e3, hl3⟩ := bnd_some HL7.out
     have HL8 : Hid _ := hl3
     have h3 := HG.out i' op w2' r3 hop HR3.out e3
     unfold ptr at h3
     clear hl3 e3 HL7
     go_wp2_with fail
     refine h3.mono ?_
     intro e w3 hpost
     clear h3
     cases r3 with
     | inl q =>
      obtain ⟨hG, hF⟩ := hpost.no
      have HP : Hid (SPost (VW rb) rb ta cap T op w r e w3) := by show SPost _ _ _ _ _ _ _ _ _ _; rw [bnd_no HL8.out]; exact ⟨hG, HF3.out.trans hF⟩
      unfold GUs at hG
      subst hG
      clear hpost hF
      go_wp2
      exact ⟨rfl, HP.out⟩
     | inr q =>
      obtain ⟨y, j3⟩ := q
      obtain ⟨⟨⟨v, rfl, s3, c3, rfl, hy⟩, hr4⟩, hF4⟩ := hpost.ok
      dsimp only at hy hr4
      have HL9 : Hid (vwsP T (fun j => g j op) m ([] ++ [y]) j3 = some r) := HL8.out
      have hY : Below w3.heap.size w3 (w3.alloc (xO y s3 c3)) := (Below.refl _ _).alloc (Nat.le_refl _) _
      have HOW : Hid (((w3.alloc (xO y s3 c3))).ownsRow w.heap.size 34 5 (.slice none 0 0) 0 (xC [])) := ⟨rfl, Or.inl ⟨rfl, rfl⟩⟩
      have HXY : Hid (XAt w.heap.size (w3.alloc (xO y s3 c3)) y s3) := NdF.keep HF3.out.size (fun b _ hb => hY.block b hb) hy
      have HR4 : Hid (Rdr (w3.alloc (xO y s3 c3)) rb ta cap T j3 op) := hr4.below hY
      have HF4 : Hid (Fx rb w (w3.alloc (xO y s3 c3))) := HF3.out.trans (hF4.trans (Fx.below hY))
      obtain ⟨i0, hi0, hz0⟩ := Option.map_eq_some_iff.1 info26
      simp only [Prod.mk.injEq] at hz0
      obtain ⟨hz1, hzs, hz3⟩ := hz0
      have hnl : 0 + 1 ≤ maxLen := by unfold maxLen; omega
      have hby : (0 + 1) * 64 ≤ 140737488355328 := by omega
      have hbs : w.heap.size ≤ ((w3.alloc (xO y s3 c3))).heap.size := HF4.out.size
      clear hpost hy hr4 hF4 hY HL8 HF3 HR3
      unfold xV nV
      go_wp2_with (at_builtin; refine wpList_append_lies _ rfl _ _ 27 rfl w.heap.size 34 i0 (.agg #[.int .i64 0, .string ⟨#[]⟩, .int .i64 0, .int .i64 0, .slice none 0 0]) 5 64 Tryz.underlying27 hi0 hz1 hzs hz3 rfl (by decide) _ 0 (xC []) rfl HOW.out ⟨w3.heap.size, 0, none⟩ 1 1 (xC [(y, s3, c3)]) rfl rfl (xp_cells w3 y s3 c3) (xC_one _) (by decide) hnl hby hbs _ rfl ?_)
      intro g2 cap2 w4 hown hgrow hlies hg2
      have hb4 : Below (w3.alloc (xO y s3 c3)).heap.size (w3.alloc (xO y s3 c3)) w4 := (Below.refl _ _).grown hgrow (Nat.le_refl _) (fun _ h => by cases h)
      have HO5 : Hid (OwX rb w.heap.size w4 g2 cap2 [(y, s3, c3)]) := OwX.nil (p := (y, s3, c3)) HXY.out hlt hown hgrow (by rcases hlies with h | h; cases h; rw [World.size_alloc]; exact h)
      have HR5 : Hid (Rdr w4 rb ta cap T j3 op) := HR4.out.below hb4
      have HF5 : Hid (Fx rb w w4) := HF4.out.trans (Fx.below hb4)
      clear hown hgrow hlies HOW HXY HR4 HF4 hb4
      go_wp2
      go_roundg m
      case measure => omega
      case rel => exact ⟨[(y, s3, c3)], j3, Or.inr ⟨g2, cap2, by simp, rfl, HO5.out⟩, HR5.out, HF5.out, by simp, HL9.out⟩
    · exact absurd (by decide) hml
  ·
   have HL3 : Hid _ := hl
   have HO2 : Hid (OwX rb w.heap.size wr g' c A) := hO
   have HNE : Hid (A ≠ []) := hne
   clear hl hO hne
   obtain ⟨la, hla⟩ : ∃ la, la = A.length := ⟨_, rfl⟩
   have HLA : Hid (A.length = la) := hla.symm
   rw [← hla] at hA ⊢
   clear hla
   have h2 := seesSign_any rb ta cap T i' op [35] wr hr2
   have HR2 : Hid (Rdr wr rb ta cap T i' op) := hr2
   unfold ptr at h2
   cases hb : isT (tkI T i') 6 [[35]] with
   | false =>
    have HRR : Hid (r = .inr (A.map (·.1), i')) := okR_eq (by have h := HL3.out; rw [hb, if_neg (by decide)] at h; exact h)
    rw [hb] at h2
    clear HL3 hr2 hb
    go_wp2_with fail
    refine h2.mono ?_
    rintro e w2 ⟨rfl, hb2⟩
    clear h2
    have HFin : Hid (SPost (VW rb) rb ta cap T op w (.inr (A.map (·.1), i')) (.returned ((.slice (some ⟨g', 0, none⟩) A.length c))) w2) := ⟨⟨⟨_, rfl, Or.inr ⟨by simpa using HNE.out, by rw [List.length_map, HLA.out]; exact hA, g', c, A, rfl, rfl, HO2.out.below hb2 hlt⟩⟩, HR2.out.below hb2⟩, HF2.out.trans (Fx.below hb2)⟩
    clear hb2 HF2 HR2
    go_wp2
    refine bodyPost_ret (v := .slice (some ⟨g', 0, none⟩) la c) (by simp [results, Tryz.results107, go_sem]) rfl ?_
    rw [HRR.out, ← HLA.out]
    exact HFin.out
   | true =>
    have HL6 : Hid ((if A.length < 4 then bnd (g i' op) (fun x j => vwsP T (fun j => g j op) m (A.map (·.1) ++ [x]) j) else noR i' 70) = some r) := by have h := HL3.out; rw [hb, if_pos rfl] at h; exact h
    rw [hb] at h2
    clear HL3 hr2 hb
    go_wp2_with fail
    refine h2.mono ?_
    rintro e w2 ⟨rfl, hb2⟩
    clear h2
    have HO3 : Hid (OwX rb w.heap.size w2 g' c A) := HO2.out.below hb2 hlt
    have HF3 : Hid (Fx rb w w2) := HF2.out.trans (Fx.below hb2)
    have HR3 : Hid (Rdr w2 rb ta cap T i' op) := HR2.out.below hb2
    clear hb2 HF2 HR2
    by_cases hml : la < 4
    ·
     have hmi : ((la : Int) < 4) = True := eq_true (by omega)
     have HL7 : Hid (bnd (g i' op) (fun x j => vwsP T (fun j => g j op) m (A.map (·.1) ++ [x]) j) = some r) := by have h := HL6.out; rw [if_pos (by rw [HLA.out]; exact hml)] at h; exact h
     clear HL6
     have h3 := must_ok rb w2
     unfold ptr at h3
     go_wp2_with fail
     refine h3.mono ?_
     rintro e w2' ⟨rfl, rfl⟩
     clear h3 hmi
     obtain ⟨r3, e3, hl3⟩ := bnd_some HL7.out
     have HL8 : Hid _ := hl3
     have h3 := HG.out i' op w2' r3 hop HR3.out e3
     unfold ptr at h3
     clear hl3 e3 HL7
     go_wp2_with fail
     refine h3.mono ?_
     intro e w3 hpost
     clear h3
     cases r3 with
     | inl q =>
      obtain ⟨hG, hF⟩ := hpost.no
      have HP : Hid (SPost (VW rb) rb ta cap T op w r e w3) := by show SPost _ _ _ _ _ _ _ _ _ _; rw [bnd_no HL8.out]; exact ⟨hG, HF3.out.trans hF⟩
      unfold GUs at hG
      subst hG
      clear hpost hF
      go_wp2
      exact ⟨rfl, HP.out⟩
     | inr q =>
      obtain ⟨y, j3⟩ := q
      obtain ⟨⟨⟨v, rfl, s3, c3, rfl, hy⟩, hr4⟩, hF4⟩ := hpost.ok
      dsimp only at hy hr4
      have HL9 : Hid (vwsP T (fun j => g j op) m (A.map (·.1) ++ [y]) j3 = some r) := HL8.out
      have hY : Below w3.heap.size w3 (w3.alloc (xO y s3 c3)) := (Below.refl _ _).alloc (Nat.le_refl _) _
      have HO4 : Hid (OwX rb w.heap.size (w3.alloc (xO y s3 c3)) g' c A) := (HO3.out.fx hF4 hlt).below hY hlt
      have HOW : Hid (((w3.alloc (xO y s3 c3))).ownsRow w.heap.size 34 5 (.slice (some ⟨g', 0, none⟩) la c) la (xC A)) := by
       have h := HO4.out.own
       rw [HLA.out] at h
       exact h
      have HKY : Hid (∀ p ∈ [(y, s3, c3)], XSt rb g' w.heap.size (w3.alloc (xO y s3 c3)) p.1 p.2.1) := fun p hp => by
       rw [List.mem_singleton.1 hp]
       have hs := HF3.out.size
       have hgl := HO3.out.lt
       exact (XSt.new hy (by omega) hs hgl.2).below hY
      have HR4 : Hid (Rdr (w3.alloc (xO y s3 c3)) rb ta cap T j3 op) := hr4.below hY
      have HF4 : Hid (Fx rb w (w3.alloc (xO y s3 c3))) := HF3.out.trans (hF4.trans (Fx.below hY))
      obtain ⟨i0, hi0, hz0⟩ := Option.map_eq_some_iff.1 info26
      simp only [Prod.mk.injEq] at hz0
      obtain ⟨hz1, hzs, hz3⟩ := hz0
      have hnl : la + 1 ≤ maxLen := by unfold maxLen; omega
      have hby : (la + 1) * 64 ≤ 140737488355328 := by omega
      have hbs : w.heap.size ≤ ((w3.alloc (xO y s3 c3))).heap.size := HF4.out.size
      clear hpost hy hr4 hF4 hY HL8 HO3 HF3 HR3
      unfold xV nV
      go_wp2_with (at_builtin; refine wpList_append_lies _ rfl _ _ 27 rfl w.heap.size 34 i0 (.agg #[.int .i64 0, .string ⟨#[]⟩, .int .i64 0, .int .i64 0, .slice none 0 0]) 5 64 Tryz.underlying27 hi0 hz1 hzs hz3 rfl (by decide) _ la (xC A) rfl HOW.out ⟨w3.heap.size, 0, none⟩ 1 1 (xC [(y, s3, c3)]) rfl rfl (xp_cells w3 y s3 c3) (xC_one _) (by decide) hnl hby hbs _ rfl ?_)
      intro g2 cap2 w4 hown hgrow hlies hg2
      have HO5 : Hid (OwX rb w.heap.size w4 g2 cap2 (A ++ [(y, s3, c3)])) := HO4.out.grown HKY.out (by rw [HLA.out]; exact hown) hgrow (by simpa [Value.ownBlock] using hlies)
      have hgl := HO4.out.lt
      have HR5 : Hid (Rdr w4 rb ta cap T j3 op) := HR4.out.grown (g := g') hgrow (by omega)
      have HF5 : Hid (Fx rb w w4) := HF4.out.grown (g := g') hgrow hgl.1
      have HLn : Hid ((A ++ [(y, s3, c3)]).length = la + 1) := by show _ = _; rw [List.length_append, HLA.out]; rfl
      have HLm : Hid ((A ++ [(y, s3, c3)]).map (·.1) = A.map (·.1) ++ [y]) := by show _ = _; rw [List.map_append]; rfl
      clear hown hgrow hlies HOW HKY HO4 HR4 HF4 hgl
      go_wp2
      go_roundg m
      case measure => omega
      case rel => exact ⟨A ++ [(y, s3, c3)], j3, Or.inr ⟨g2, cap2, by simp, by rw [HLn.out], HO5.out⟩, HR5.out, HF5.out, by rw [HLn.out]; omega, by rw [HLm.out]; exact HL9.out⟩
    ·
     have hmi : ((la : Int) < 4) = False := eq_false (by omega)
     have HRR : Hid (r = .inl (i', 70)) := noR_eq (by have h := HL6.out; rw [if_neg (by rw [HLA.out]; exact hml)] at h; exact h)
     clear HL6
     have h3 := must_no rb ta cap T i' op w2 HR3.out
     unfold ptr at h3
     go_wp2_with fail
     refine h3.mono ?_
     rintro e w2' ⟨hG, rfl⟩
     have HP : Hid (SPost (VW rb) rb ta cap T op w (.inl (i', 70)) e w2') := ⟨hG, HF3.out⟩
     unfold GUs at hG
     subst hG
     clear h3 hmi
     go_wp2
     exact ⟨rfl, by rw [HRR.out]; exact HP.out⟩
end Go.Proofs.YtgdndahhledikaaGreatDoor
namespace Go.Proofs.YtgdndahhledikaaGreatDoor
open Go.ChangeShapes Go.WideShapes Go.ChangeAt Go.RowKit
set_option linter.unusedSimpArgs false
set_option maxRecDepth 20000
set_option maxHeartbeats 4000000
def kdN (t : Tt) : Int := if t.1.1 = 1 then (if t.1.2.1 = [98, 111, 111, 108] then 1 else if t.1.2.1 = [105, 110, 116] then 2 else if t.1.2.1 = [100, 101, 99] then 3 else if t.1.2.1 = [116, 101, 120, 116] then 4 else 0) else 0
theorem kindOf_s (t : Tt) (w : World) : Calls Tryz.prog 147 #[ttV t] w fun e w' => e = .returned (.int .i64 (kdN t)) ∧ Below w.heap.size w w' := by
 obtain ⟨⟨q1, q2, q3⟩, q4⟩ := t
 have hA : Below w.heap.size w (w.alloc (tO q1 q2 q3 q4)) := (Below.refl _ _).alloc (Nat.le_refl _) _
 obtain ⟨y0, y1, y2, y3⟩ := Box4.new w (.int .i64 q1) (.string (bsA q2)) (.int .i64 q3) (.int .i64 q4) 26
 unfold ttV kdN
 dsimp only
 by_cases h0 : q1 = 1
 ·
  subst h0
  rw [if_pos rfl]
  by_cases h1 : q2 = [98, 111, 111, 108]
  ·
   have g1 : ((bsA q2).toList == [98, 111, 111, 108]) = true := by rw [bsA_tl, h1]; rfl
   rw [if_pos h1]
   clear h1
   go_enter Tryz.func147, Tryz.ntmps147
   go_wp2
   go_ret
   exact ⟨rfl, hA⟩
  have g1 : ((bsA q2).toList == [98, 111, 111, 108]) = false := by rw [bsA_tl, beq_eq_false_iff_ne]; exact h1
  rw [if_neg h1]
  clear h1
  by_cases h2 : q2 = [105, 110, 116]
  ·
   have g2 : ((bsA q2).toList == [105, 110, 116]) = true := by rw [bsA_tl, h2]; rfl
   rw [if_pos h2]
   clear h2
   go_enter Tryz.func147, Tryz.ntmps147
   go_wp2
   go_ret
   exact ⟨rfl, hA⟩
  have g2 : ((bsA q2).toList == [105, 110, 116]) = false := by rw [bsA_tl, beq_eq_false_iff_ne]; exact h2
  rw [if_neg h2]
  clear h2
  by_cases h3 : q2 = [100, 101, 99]
  ·
   have g3 : ((bsA q2).toList == [100, 101, 99]) = true := by rw [bsA_tl, h3]; rfl
   rw [if_pos h3]
   clear h3
   go_enter Tryz.func147, Tryz.ntmps147
   go_wp2
   go_ret
   exact ⟨rfl, hA⟩
  have g3 : ((bsA q2).toList == [100, 101, 99]) = false := by rw [bsA_tl, beq_eq_false_iff_ne]; exact h3
  rw [if_neg h3]
  clear h3
  by_cases h4 : q2 = [116, 101, 120, 116]
  ·
   have g4 : ((bsA q2).toList == [116, 101, 120, 116]) = true := by rw [bsA_tl, h4]; rfl
   rw [if_pos h4]
   clear h4
   go_enter Tryz.func147, Tryz.ntmps147
   go_wp2
   go_ret
   exact ⟨rfl, hA⟩
  have g4 : ((bsA q2).toList == [116, 101, 120, 116]) = false := by rw [bsA_tl, beq_eq_false_iff_ne]; exact h4
  rw [if_neg h4]
  clear h4
  go_enter Tryz.func147, Tryz.ntmps147
  go_wp2
  go_ret
  exact ⟨rfl, hA⟩
 ·
  rw [if_neg h0]
  have g0 : (q1 == 1) = false := by simpa using h0
  clear h0
  go_enter Tryz.func147, Tryz.ntmps147
  go_wp2
  go_ret
  exact ⟨rfl, hA⟩
def colP (T : List Tt) (i : Nat) : Rz X := bnd (idP T i) fun t j => if kdN (tkI T j) = 0 then noR j 70 else okR (mkX 39 t.1.2.1 (kdN (tkI T j)) t.2 []) (j + 1)
def lsdP (T : List Tt) (most : Nat) (g : Nat → Rz X) (f i : Nat) : Rz (List X) := bnd (needP T 6 [40] i) fun _ j => bnd (lstP T most g f j) fun l j => bnd (needP T 6 [41] j) fun _ j => okR l j
def lnP (T : List Tt) (most : Nat) (g : Nat → Rz X) (f i : Nat) : Rz X := bnd (lstP T most g f i) fun l j => okR (mkX 28 [] 0 (tkI T i).2 l) j
def itsP (T : List Tt) (E : Nat → Rz X) (f i : Nat) : Rz X := if isT (tkI T i) 6 [[42]] = true then okR (mkX 22 [] 0 (tkI T i).2 []) (i + 1) else bnd (lnP T 32 (itemP T E) f i) fun x j => okR x j
def intP (T : List Tt) (i : Nat) : Rz X := bnd (pasP T 2 [105, 110, 115, 101, 114, 116] i) fun b j => if b then bnd (needP T 2 [105, 110, 116, 111] j) fun _ j => bnd (nameP T j) fun x j => okR x j else okR (mkX 20 [] 0 0 []) j
def tldP (T : List Tt) (i : Nat) : Rz Int := bnd (pasP T 2 [114, 115, 116, 114, 101, 97, 109] i) fun b j => if b then okR 2 j else bnd (pasP T 2 [105, 114, 115, 116, 114, 101, 97, 109] j) fun b j => if b then okR 3 j else bnd (pasP T 2 [105, 115, 116, 114, 101, 97, 109] j) fun _ j => okR 1 j
def byP (T : List Tt) (g : Nat → Rz X) (f : Nat) (t : List UInt8) (i : Nat) : Rz X := bnd (pasP T 2 t i) fun b j => if b then bnd (needP T 2 [98, 121] j) fun _ j => bnd (lnP T 32 g f j) fun x j => okR x j else okR (mkX 28 [] 0 0 []) j
def schP (T : List Tt) (f i : Nat) : Rz X := if i < T.length then bnd (idP T (i + 1)) fun t j => bnd (lsdP T 32 (colP T) f j) fun l j => okR (mkX 50 t.1.2.1 0 t.2 l) j else none
theorem column_s (rb : Nat) (ta : Option Addr) (cap : Nat) (T : List Tt)  : Rds VX rb ta cap T 106 #[ptr rb] (fun i _ => colP T i) := by
 intro i op w r hop hr h
 (try dsimp only at h)
 have HS : Hid (St rb ta cap T w [] [] i op w) := St.start hr
 unfold colP at h
 have HL : Hid _ := h
 have hlt := cell_lt hr.c0
 clear hr h 
 unfold ptr
 go_enter Tryz.func106, Tryz.ntmps106
 have HS : Hid (St rb ta cap T w [(w.heap.size, z5)] [] i op (w.alloc o5)) := HS.out.newO z5
 obtain ⟨r1, e1, hl⟩ := bnd_some HL.out
 have HL : Hid _ := hl
 have hc := id_s rb ta cap T i op _ r1 hop HS.out.rdr e1
 (try unfold ptr at hc)
 clear e1 hl
 go_wp2_with fail
 refine hc.mono ?_
 intro e w1 hpost
 clear hc
 cases r1 with
 | inl q =>
  obtain ⟨hG, HP⟩ := HS.out.bad2 (V := VX) (op' := op) HL.out hpost
  unfold GUs at hG
  subst hG
  clear hpost
  go_wp2
  exact ⟨rfl, HP.out⟩
 | inr q =>
  obtain ⟨x1, j1⟩ := q
  obtain ⟨rfl, HS⟩ := HS.out.okT hpost
  obtain ⟨⟨x1a, x1b, x1c⟩, x1d⟩ := x1
  unfold ttV
  dsimp only
  have hl := HL.out
  rw [bnd_ok] at hl
  (try dsimp only at hl)
  have HL : Hid _ := hl
  clear hl hpost
  have hc := textNode_s 39 ((x1a, x1b, x1c), x1d) none 0 0 w1
  (try unfold ttV at hc)
  (try unfold nV at hc)
  (try dsimp only at hc)
  go_wp2_with fail
  refine hc.mono ?_
  rintro e w2 ⟨rfl, hb⟩
  have HS : Hid (St rb ta cap T w [(w.heap.size, z5)] [] j1 op w2) := HS.out.below hb
  clear hc hb
  have HS : Hid (St rb ta cap T w [(w.heap.size, z5)] [((mkX 39 x1b 0 x1d []), none)] j1 op w2) := HS.out.leaf 39 x1b 0 x1d none
  have HS : Hid (St rb ta cap T w [(w2.heap.size, (nL 39 x1b 0 x1d (.slice none 0 0))), (w.heap.size, z5)] [((mkX 39 x1b 0 x1d []), none)] j1 op (w2.alloc (nO 39 x1b 0 x1d (.slice none 0 0)))) := HS.out.newO (nL 39 x1b 0 x1d (.slice none 0 0))
  obtain ⟨⟨⟨q3a, q3b, q3c⟩, q3d⟩, hq⟩ : ∃ q, tkI T j1 = q := ⟨_, rfl⟩
  have HQ3 : Hid (tkI T j1 = ((q3a, q3b, q3c), q3d)) := hq
  have hl := HL.out
  (try rw [hq] at hl)
  (try dsimp only at hl)
  have HL : Hid _ := hl
  clear hl hq
  have hc := next_any rb ta cap T j1 op _ HS.out.rdr
  rw [HQ3.out] at hc
  (try unfold ptr at hc)
  (try unfold ttV at hc)
  (try dsimp only at hc)
  go_wp2_with fail
  refine hc.mono ?_
  rintro e w4 ⟨rfl, hb⟩
  have HS : Hid (St rb ta cap T w [(w2.heap.size, (nL 39 x1b 0 x1d (.slice none 0 0))), (w.heap.size, z5)] [((mkX 39 x1b 0 x1d []), none)] j1 op w4) := HS.out.below hb
  clear hc hb
  have hc := kindOf_s ((q3a, q3b, q3c), q3d) w4
  (try unfold ttV at hc)
  (try dsimp only at hc)
  go_wp2_with fail
  refine hc.mono ?_
  rintro e w5 ⟨rfl, hb⟩
  have HS : Hid (St rb ta cap T w [(w2.heap.size, (nL 39 x1b 0 x1d (.slice none 0 0))), (w.heap.size, z5)] [((mkX 39 x1b 0 x1d []), none)] j1 op w5) := HS.out.below hb
  clear hc hb
  obtain ⟨kn, hkn⟩ : ∃ kn, kdN ((q3a, q3b, q3c), q3d) = kn := ⟨_, rfl⟩
  have HKN : Hid (kdN ((q3a, q3b, q3c), q3d) = kn) := hkn
  have hl := HL.out
  rw [hkn] at hl
  rw [hkn]
  have HL : Hid _ := hl
  clear hl hkn
  obtain ⟨y6a, y6b, y6c, y6d, y6e⟩ := HS.out.c5 List.mem_cons_self
  obtain ⟨f6a, f6b, f6c, f6d, f6e⟩ := HS.out.f5 List.mem_cons_self
  have HS : Hid (St rb ta cap T w [(w2.heap.size, (nL 39 x1b kn x1d (.slice none 0 0))), (w.heap.size, z5)] [((mkX 39 x1b 0 x1d []), none)] j1 op (w5.setCell ⟨w2.heap.size, 2, none⟩ (.int .i64 kn))) := St.put [] HS.out 2 (.int .i64 kn)
  obtain ⟨y7a, y7b, y7c, y7d, y7e⟩ := HS.out.c5 List.mem_cons_self
  by_cases hk0 : kn = 0
  ·
   have g0 : (kn != 0) = false := by simp [hk0]
   have hl := HL.out
   rw [if_pos hk0] at hl
   have HRR : Hid _ := noR_eq hl
   have hc := must_no rb ta cap T j1 op _ HS.out.rdr
   unfold ptr at hc
   clear hl hk0
   go_wp2_with fail
   refine hc.mono ?_
   rintro e wN ⟨hG, rfl⟩
   have HP : Hid _ := HS.out.err (V := VX) (op' := op) (q := (j1, 70)) (Fx.refl _) hG
   unfold GUs at hG
   subst hG
   clear hc y6a y6b y6c y6d y6e f6a f6b f6c f6d f6e y7a y7b y7c y7d y7e
   go_wp2
   exact ⟨rfl, by rw [HRR.out]; exact HP.out⟩
  ·
   have g0 : (kn != 0) = true := by simpa using hk0
   have hl := HL.out
   rw [if_neg hk0] at hl
   have HL : Hid _ := hl
   have HIT : Hid (j1 < T.length) := kd_lt (fun e => hk0 (by rw [← HKN.out, ← HQ3.out]; unfold kdN; rw [if_neg (by rw [e]; decide)]))
   have hc := must_ok rb (w5.setCell ⟨w2.heap.size, 2, none⟩ (.int .i64 kn))
   unfold ptr at hc
   clear hl hk0
   go_wp2_with fail
   refine hc.mono ?_
   rintro e wN ⟨rfl, rfl⟩
   clear hc g0 y6a y6b y6c y6d y6e f6a f6b f6c f6d f6e y7a y7b y7c y7d y7e
   have hc := take_s rb ta cap T j1 op _ HS.out.rdr HIT.out
   rw [HQ3.out] at hc
   unfold ptr ttV at hc
   dsimp only at hc
   go_wp2_with fail
   refine hc.mono ?_
   rintro e w8 ⟨rfl, hr, hf⟩
   have HS : Hid (St rb ta cap T w [(w2.heap.size, (nL 39 x1b kn x1d (.slice none 0 0))), (w.heap.size, z5)] [((mkX 39 x1b 0 x1d []), none)] (j1 + 1) op w8) := HS.out.call hf hr
   clear hc hr hf
   have HS : Hid (St rb ta cap T w [(w2.heap.size, (nL 39 x1b kn x1d (.slice none 0 0))), (w.heap.size, z5)] [((mkX 39 x1b kn x1d []), none), ((mkX 39 x1b 0 x1d []), none)] (j1 + 1) op w8) := HS.out.head List.mem_cons_self 39 x1b kn x1d
   obtain ⟨y9a, y9b, y9c, y9d, y9e⟩ := HS.out.c5 List.mem_cons_self
   obtain ⟨⟨d0, d1, d2, d3, d4⟩, ⟨g0, g1, g2, g3, g4⟩, hz⟩ := St.fin5 [(w2.heap.size, (nL 39 x1b kn x1d (.slice none 0 0)))] HS.out (v0 := .int .i64 39) (v1 := .string (bsA x1b)) (v2 := .int .i64 kn) (v3 := .int .i64 x1d) (v4 := .slice none 0 0) (c := 0) HL.out List.mem_cons_self (mkX_V' _ _ _ _ _ _ _ _ rfl)
   obtain ⟨⟨z0, z1, z2, z3, z4⟩, HP⟩ := hz _ rfl
   clear hz HS HL
   go_wp2
   refine bodyPost_ret (v := .agg #[.int .i64 39, .string (bsA x1b), .int .i64 kn, .int .i64 x1d, .slice none 0 0]) (by simp [results, Tryz.results106, go_sem, z0, z1, z2, z3, z4]) rfl HP.out
theorem listed_s (rb : Nat) (ta : Option Addr) (cap : Nat) (T : List Tt) (kf : FuncId) (hent : Ent kf) (g : Nat → Nat → Rz X) (hg : RdX rb ta cap T kf g) (most : Nat) (hm : most ≤ 1000) (hm1 : 1 ≤ most) (f : Nat) : Rds (VL rb) rb ta cap T 105 #[ptr rb, .int .i64 most, fnV kf rb] (fun i op => lsdP T most (fun j => g j op) f i) := by
 intro i op w r hop hr h
 dsimp only at h
 unfold lsdP at h
 have HS : Hid (St rb ta cap T w [] [] i op w) := St.start hr
 have HL : Hid _ := h
 have hlt := cell_lt hr.c0
 clear hr h 
 unfold fnV
 unfold ptr
 go_enter Tryz.func105, Tryz.ntmps105
 obtain ⟨r1, e1, hl⟩ := bnd_some HL.out
 have HL : Hid _ := hl
 have hc := needSign_s rb ta cap T [40] i op _ r1 hop HS.out.rdr e1
 (try unfold ptr at hc)
 clear e1 hl
 go_wp2_with fail
 refine hc.mono ?_
 intro e w1 hpost
 clear hc
 cases r1 with
 | inl q =>
  obtain ⟨hG, HP⟩ := HS.out.bad2 (V := (VL rb)) (op' := op) HL.out hpost
  unfold GUs at hG
  subst hG
  clear hpost
  go_wp2
  exact ⟨rfl, HP.out⟩
 | inr q =>
  obtain ⟨x1, j1⟩ := q
  obtain ⟨rfl, HS⟩ := HS.out.okT hpost
  obtain ⟨⟨x1a, x1b, x1c⟩, x1d⟩ := x1
  unfold ttV
  dsimp only
  have hl := HL.out
  rw [bnd_ok] at hl
  (try dsimp only at hl)
  have HL : Hid _ := hl
  clear hl hpost
  obtain ⟨r1, e1, hl⟩ := bnd_some HL.out
  have HL : Hid _ := hl
  have hc := list_s rb ta cap T kf hent g hg most hm hm1 f j1 op _ r1 hop HS.out.rdr e1
  unfold ptr fnV at hc
  clear e1 hl
  go_wp2_with fail
  refine hc.mono ?_
  intro e w2 hpost
  clear hc
  cases r1 with
  | inl q =>
   obtain ⟨hG, HP⟩ := HS.out.bad2 (V := (VL rb)) (op' := op) HL.out hpost
   unfold GUs at hG
   subst hG
   clear hpost
   go_wp2
   exact ⟨rfl, HP.out⟩
  | inr q =>
   obtain ⟨x2, j2⟩ := q
   obtain ⟨⟨⟨v, rfl, gg, c, A, rfl, hA, hO⟩, hr⟩, hf⟩ := hpost.ok
   dsimp only at hA hO hr
   have HO : Hid (OwX rb w.heap.size w2 gg c A) := hO.low HS.out.fx.size
   have HA : Hid (x2 = A.map (·.1)) := hA
   obtain ⟨la, hla⟩ : ∃ la, la = A.length := ⟨_, rfl⟩
   have HLA : Hid (la = A.length) := hla
   rw [← hla]
   have HS : Hid (St rb ta cap T w [] [] j2 op w2) := HS.out.call hf hr
   have hl := HL.out
   rw [bnd_ok] at hl
   (try dsimp only at hl)
   have HL : Hid _ := hl
   clear hl hpost hA hO hr hf hla
   obtain ⟨r1, e1, hl⟩ := bnd_some HL.out
   have HL : Hid _ := hl
   have hc := needSign_s rb ta cap T [41] j2 op _ r1 hop HS.out.rdr e1
   unfold ptr at hc
   clear e1 hl
   go_wp2_with fail
   refine hc.mono ?_
   intro e w3 hpost
   clear hc
   cases r1 with
   | inl q =>
    obtain ⟨hG, HP⟩ := HS.out.bad2 (V := (VL rb)) (op' := op) HL.out hpost
    unfold GUs at hG
    subst hG
    clear hpost
    go_wp2
    exact ⟨rfl, HP.out⟩
   | inr q =>
    obtain ⟨x3, j3⟩ := q
    obtain ⟨⟨⟨v, rfl, rfl⟩, hr⟩, hf⟩ := hpost.ok
    dsimp only at hr
    have hl := HL.out
    rw [bnd_ok] at hl
    have HRR : Hid _ := okR_eq hl
    have HP : Hid (SPost (VL rb) rb ta cap T op w (.inr (x2, j3)) (.returned (.slice (some ⟨gg, 0, none⟩) la c)) w3) := ⟨⟨⟨_, rfl, gg, c, A, by rw [HLA.out], HA.out, HO.out.fx hf hlt⟩, hr⟩, HS.out.fx.trans hf⟩
    unfold ttV
    clear hl hpost hr hf HS HL HO HA
    go_wp2
    refine bodyPost_ret (v := .slice (some ⟨gg, 0, none⟩) la c) (by simp [results, Tryz.results105, go_sem]) rfl ?_
    rw [HRR.out]
    exact HP.out
theorem listNode_s (rb : Nat) (ta : Option Addr) (cap : Nat) (T : List Tt) (kf : FuncId) (hent : Ent kf) (g : Nat → Nat → Rz X) (hg : RdX rb ta cap T kf g) (most : Nat) (hm : most ≤ 1000) (hm1 : 1 ≤ most) (f : Nat) : Rds VX rb ta cap T 114 #[ptr rb, .int .i64 most, fnV kf rb] (fun i op => lnP T most (fun j => g j op) f i) := by
 intro i op w r hop hr h
 (try dsimp only at h)
 have HS : Hid (St rb ta cap T w [] [] i op w) := St.start hr
 unfold lnP at h
 have HL : Hid _ := h
 have hlt := cell_lt hr.c0
 clear hr h 
 unfold fnV
 unfold ptr
 go_enter Tryz.func114, Tryz.ntmps114
 obtain ⟨⟨⟨q1a, q1b, q1c⟩, q1d⟩, hq⟩ : ∃ q, tkI T i = q := ⟨_, rfl⟩
 have HQ1 : Hid (tkI T i = ((q1a, q1b, q1c), q1d)) := hq
 have hl := HL.out
 (try rw [hq] at hl)
 (try dsimp only at hl)
 have HL : Hid _ := hl
 clear hl hq
 have HS : Hid (St rb ta cap T w [(w.heap.size, z5)] [] i op (w.alloc o5)) := HS.out.newO z5
 have hc := next_any rb ta cap T i op _ HS.out.rdr
 rw [HQ1.out] at hc
 (try unfold ptr at hc)
 (try unfold fnV at hc)
 (try unfold ttV at hc)
 (try dsimp only at hc)
 go_wp2_with fail
 refine hc.mono ?_
 rintro e w2 ⟨rfl, hb⟩
 have HS : Hid (St rb ta cap T w [(w.heap.size, z5)] [] i op w2) := HS.out.below hb
 clear hc hb
 obtain ⟨r1, e1, hl⟩ := bnd_some HL.out
 have HL : Hid _ := hl
 have hc := list_s rb ta cap T kf hent g hg most hm hm1 f i op _ r1 hop HS.out.rdr e1
 (try unfold ptr at hc)
 (try unfold fnV at hc)
 clear e1 hl
 go_wp2_with fail
 refine hc.mono ?_
 intro e w3 hpost
 clear hc
 cases r1 with
 | inl q =>
  obtain ⟨hG, HP⟩ := HS.out.bad2 (V := VX) (op' := op) HL.out hpost
  unfold GUs at hG
  subst hG
  clear hpost
  go_wp2
  exact ⟨rfl, HP.out⟩
 | inr q =>
  obtain ⟨x3, j3⟩ := q
  obtain ⟨gr3, c3, m3, rfl, HN3, HS⟩ := HS.out.okL hpost 28 [] 0 q1d
  have hl := HL.out
  rw [bnd_ok] at hl
  (try dsimp only at hl)
  have HL : Hid _ := hl
  clear hl hpost
  have hc := node_s 28 ((q1a, q1b, q1c), q1d) (some ⟨gr3, 0, none⟩) m3 c3 w3
  (try unfold ttV at hc)
  (try unfold nV at hc)
  (try dsimp only at hc)
  go_wp2_with fail
  refine hc.mono ?_
  rintro e w4 ⟨rfl, hb⟩
  have HS : Hid (St rb ta cap T w [(w.heap.size, z5)] [((mkX 28 [] 0 q1d x3), (some ⟨gr3, 0, none⟩))] j3 op w4) := HS.out.below hb
  clear hc hb
  obtain ⟨⟨d0, d1, d2, d3, d4⟩, ⟨g0, g1, g2, g3, g4⟩, hz⟩ := St.fin5 [] HS.out (v0 := .int .i64 28) (v1 := .string (bsA [])) (v2 := .int .i64 0) (v3 := .int .i64 q1d) (v4 := .slice (some ⟨gr3, 0, none⟩) m3 c3) (c := c3) HL.out List.mem_cons_self (mkX_V' _ _ _ _ _ _ _ _ HN3.out)
  obtain ⟨⟨z0, z1, z2, z3, z4⟩, HP⟩ := hz _ rfl
  clear hz HS HL
  go_wp2
  refine bodyPost_ret (v := .agg #[.int .i64 28, .string (bsA []), .int .i64 0, .int .i64 q1d, .slice (some ⟨gr3, 0, none⟩) m3 c3]) (by simp [results, Tryz.results114, go_sem, z0, z1, z2, z3, z4]) rfl HP.out
end Go.Proofs.YtgdndahhledikaaGreatDoor
