/- Syl. -/
import Derived.Test.YtgdndahhledikaaGreatDoorK18
import Derived.Deep.LoopGhost
namespace Go.Proofs.YtgdndahhledikaaGreatDoor
open Go.ChangeShapes Go.WideShapes Go.ChangeAt Go.RowKit
set_option linter.unusedSimpArgs false
set_option maxRecDepth 20000
set_option maxHeartbeats 4000000
def listQ (T : List Tt) (most : Nat) (g : Nat → Rz X) : Nat → List X → Nat → Rz (List X)
 | 0, _, _ => none
 | f + 1, l, i => bnd (pasP T 6 [44] i) fun b j => if b then (if l.length < most then bnd (g j) fun x j => listQ T most g f (l ++ [x]) j else noR j 70) else okR l j
def lstP (T : List Tt) (most : Nat) (g : Nat → Rz X) (f i : Nat) : Rz (List X) := bnd (g i) fun x j => listQ T most g f [x] j
abbrev fnV (kf rb : Nat) : Value := .func (.func kf) #[.pointer (some ⟨rb, 0, none⟩)] #[]
theorem list_s (rb : Nat) (ta : Option Addr) (cap : Nat) (T : List Tt) (kf : FuncId) (hent : Ent kf) (g : Nat → Nat → Rz X) (hg : RdX rb ta cap T kf g) (most : Nat) (hm : most ≤ 1000) (hm1 : 1 ≤ most) (f : Nat) : Rds (VL rb) rb ta cap T 146 #[ptr rb, .int .i64 most, fnV kf rb] (fun i op => lstP T most (fun j => g j op) f i) := by
 intro i op w r hop hr h
 dsimp only at h
 unfold lstP at h
 obtain ⟨r1, e1, hl1⟩ := bnd_some h
 have HL1 : Hid _ := hl1
 have HG : Hid (RdX rb ta cap T kf g) := hg
 have hlt := cell_lt hr.c0
 have h1 := hg i op w r1 hop hr e1
 have HE : Hid (Ent kf) := hent
 unfold Ent at hent
 unfold fnV
 unfold ptr at h1 ⊢
 clear hr h hg hl1 e1
 go_enter Tryz.func146, Tryz.ntmps146
 go_wp2_with fail
 refine h1.mono ?_
 intro e w1 hpost
 clear h1
 cases r1 with
 | inl q =>
  obtain ⟨hG, hF⟩ := hpost.no
  have HP : Hid (SPost (VL rb) rb ta cap T op w r e w1) := by show SPost _ _ _ _ _ _ _ _ _ _; rw [bnd_no HL1.out]; exact ⟨hG, hF⟩
  unfold GUs at hG
  subst hG
  clear hpost hF
  go_wp2
  exact ⟨rfl, HP.out⟩
 | inr q =>
  obtain ⟨x, j⟩ := q
  obtain ⟨⟨⟨v, rfl, s1, c1, rfl, hx⟩, hr1⟩, hF1⟩ := hpost.ok
  dsimp only at hx hr1
  have HL2 : Hid (listQ T most (fun j => g j op) f [x] j = some r) := HL1.out
  have hY : Below w1.heap.size w1 (w1.alloc (xO x s1 c1)) := (Below.refl _ _).alloc (Nat.le_refl _) _
  have HO : Hid (OwX rb w.heap.size (w1.alloc (xO x s1 c1)) w1.heap.size 1 [(x, s1, c1)]) := OwX.new w1 [(x, s1, c1)] hF1.size (by simp) (fun p hp => by rw [List.mem_singleton.1 hp]; exact hx) hlt _ rfl
  have HR1 : Hid (Rdr (w1.alloc (xO x s1 c1)) rb ta cap T j op) := hr1.below hY
  have HF1 : Hid (Fx rb w (w1.alloc (xO x s1 c1))) := hF1.trans (Fx.below hY)
  clear hpost hx hr1 hF1 hY HL1
  unfold xV nV
  go_wp2
  go_loopg [7] f (fun gk v wr => ∃ (g' c : Nat) (A : List Xp) (i' : Nat), v = .slice (some ⟨g', 0, none⟩) A.length c ∧ OwX rb w.heap.size wr g' c A ∧ Rdr wr rb ta cap T i' op ∧ Fx rb w wr ∧ A.length ≤ most ∧ listQ T most (fun j => g j op) gk (A.map (·.1)) i' = some r)
  case atStart => exact ⟨_, _, [(x, s1, c1)], j, rfl, HO.out, HR1.out, HF1.out, by simpa using hm1, HL2.out⟩
  case round =>
   obtain ⟨g', c, A, i', rfl, hO, hr2, hF2, hA, hl⟩ := hrel
   obtain ⟨m, rfl⟩ : ∃ m, gk = m + 1 := by
    cases gk with
    | zero => cases hl
    | succ m => exact ⟨m, rfl⟩
   unfold listQ at hl
   rw [List.length_map] at hl
   have HL3 : Hid _ := hl
   have HO2 : Hid (OwX rb w.heap.size wr g' c A) := hO
   have HF2 : Hid (Fx rb w wr) := hF2
   clear hl hO hF2 HL2 HO HR1 HF1
   obtain ⟨la, hla⟩ : ∃ la, la = A.length := ⟨_, rfl⟩
   have HLA : Hid (A.length = la) := hla.symm
   rw [← hla] at hA ⊢
   clear hla
   obtain ⟨r2, e2, hl2⟩ := bnd_some HL3.out
   have HL4 : Hid _ := hl2
   have h2 := passesSign_s rb ta cap T [44] i' op wr r2 hop hr2 e2
   unfold ptr at h2
   have HE2 : Hid (∃ b j, r2 = .inr (b, j)) := by
    unfold pasP at e2
    cases hb : isT (tkI T i') 6 [[44]] <;> rw [hb] at e2
    · exact ⟨false, i', okR_eq e2⟩
    · exact ⟨true, i' + 1, okR_eq e2⟩
   clear hl2 HL3 e2 hr2
   obtain ⟨b, j2, rfl⟩ := HE2.out
   have HL5 : Hid ((if b = true then (if A.length < most then bnd (g j2 op) (fun x j => listQ T most (fun j => g j op) m (A.map (·.1) ++ [x]) j) else noR j2 70) else okR (A.map (·.1)) j2) = some r) := HL4.out
   clear HL4 HE2
   cases b with
   | false =>
    have HRR : Hid (r = .inr (A.map (·.1), j2)) := okR_eq (by have h := HL5.out; rw [if_neg (by decide)] at h; exact h)
    clear HL5
    go_wp2_with fail
    refine h2.mono ?_
    intro e w2 hp2
    clear h2
    obtain ⟨⟨⟨v, rfl, rfl⟩, hr3⟩, hf3⟩ := hp2.ok
    have HFin : Hid (SPost (VL rb) rb ta cap T op w (.inr (A.map (·.1), j2)) (.returned (.slice (some ⟨g', 0, none⟩) A.length c)) w2) := ⟨⟨⟨_, rfl, g', c, A, rfl, rfl, HO2.out.fx hf3 hlt⟩, hr3⟩, HF2.out.trans hf3⟩
    clear hp2 hr3 hf3 HO2 HF2
    go_wp2
    refine bodyPost_ret (v := .slice (some ⟨g', 0, none⟩) la c) (by simp [results, Tryz.results146, go_sem]) rfl ?_
    rw [HRR.out, ← HLA.out]
    exact HFin.out
   | true =>
    have HL6 : Hid ((if A.length < most then bnd (g j2 op) (fun x j => listQ T most (fun j => g j op) m (A.map (·.1) ++ [x]) j) else noR j2 70) = some r) := by have h := HL5.out; rw [if_pos rfl] at h; exact h
    clear HL5
    go_wp2_with fail
    refine h2.mono ?_
    intro e w2 hp2
    clear h2
    obtain ⟨⟨⟨v, rfl, rfl⟩, hr3⟩, hf3⟩ := hp2.ok
    dsimp only at hr3
    have HO3 : Hid (OwX rb w.heap.size w2 g' c A) := HO2.out.fx hf3 hlt
    have HF3 : Hid (Fx rb w w2) := HF2.out.trans hf3
    have HR3 : Hid (Rdr w2 rb ta cap T j2 op) := hr3
    clear hp2 hr3 hf3 HO2 HF2
    by_cases hml : la < most
    ·
     have hmi : ((la : Int) < (most : Int)) = True := eq_true (by omega)
     have HL7 : Hid (bnd (g j2 op) (fun x j => listQ T most (fun j => g j op) m (A.map (·.1) ++ [x]) j) = some r) := by have h := HL6.out; rw [if_pos (by rw [HLA.out]; exact hml)] at h; exact h
     clear HL6
     have h3 := must_ok rb w2
     unfold ptr at h3
     go_wp2_with fail
     refine h3.mono ?_
     rintro e w2' ⟨rfl, rfl⟩
     clear h3 hmi
     obtain ⟨r3, e3, hl3⟩ := bnd_some HL7.out
     have HL8 : Hid _ := hl3
     have h3 := HG.out j2 op w2' r3 hop HR3.out e3
     unfold ptr at h3
     clear hl3 e3 HL7
     go_wp2_with fail
     refine h3.mono ?_
     intro e w3 hpost
     clear h3
     cases r3 with
     | inl q =>
      obtain ⟨hG, hF⟩ := hpost.no
      have HP : Hid (SPost (VL rb) rb ta cap T op w r e w3) := by show SPost _ _ _ _ _ _ _ _ _ _; rw [bnd_no HL8.out]; exact ⟨hG, HF3.out.trans hF⟩
      unfold GUs at hG
      subst hG
      clear hpost hF
      go_wp2
      exact ⟨rfl, HP.out⟩
     | inr q =>
      obtain ⟨y, j3⟩ := q
      obtain ⟨⟨⟨v, rfl, s3, c3, rfl, hy⟩, hr4⟩, hF4⟩ := hpost.ok
      dsimp only at hy hr4
      have HL9 : Hid (listQ T most (fun j => g j op) m (A.map (·.1) ++ [y]) j3 = some r) := HL8.out
      have hY : Below w3.heap.size w3 (w3.alloc (xO y s3 c3)) := (Below.refl _ _).alloc (Nat.le_refl _) _
      have HO4 : Hid (OwX rb w.heap.size (w3.alloc (xO y s3 c3)) g' c A) := (HO3.out.fx hF4 hlt).below hY hlt
      have HOW : Hid (((w3.alloc (xO y s3 c3))).ownsRow w.heap.size 34 5 (.slice (some ⟨g', 0, none⟩) la c) la (xC A)) := by
       have h := HO4.out.own
       rw [HLA.out] at h
       exact h
      have HKY : Hid (∀ p ∈ [(y, s3, c3)], XSt rb g' w.heap.size (w3.alloc (xO y s3 c3)) p.1 p.2.1) := fun p hp => by
       rw [List.mem_singleton.1 hp]
       have hs := HF3.out.size
       have hgl := HO3.out.lt
       exact (XSt.new hy (by omega) hs hgl.2).below hY
      have HR4 : Hid (Rdr (w3.alloc (xO y s3 c3)) rb ta cap T j3 op) := hr4.below hY
      have HF4 : Hid (Fx rb w (w3.alloc (xO y s3 c3))) := HF3.out.trans (hF4.trans (Fx.below hY))
      obtain ⟨i0, hi0, hz0⟩ := Option.map_eq_some_iff.1 info26
      simp only [Prod.mk.injEq] at hz0
      obtain ⟨hz1, hzs, hz3⟩ := hz0
      have hnl : la + 1 ≤ maxLen := by unfold maxLen; omega
      have hby : (la + 1) * 64 ≤ 140737488355328 := by omega
      have hbs : w.heap.size ≤ ((w3.alloc (xO y s3 c3))).heap.size := HF4.out.size
      clear hpost hy hr4 hF4 hY HL8 HO3 HF3 HR3
      unfold xV nV
      go_wp2_with (at_builtin; refine wpList_append_lies _ rfl _ _ 27 rfl w.heap.size 34 i0 (.agg #[.int .i64 0, .string ⟨#[]⟩, .int .i64 0, .int .i64 0, .slice none 0 0]) 5 64 Tryz.underlying27 hi0 hz1 hzs hz3 rfl (by decide) _ la (xC A) rfl HOW.out ⟨w3.heap.size, 0, none⟩ 1 1 (xC [(y, s3, c3)]) rfl rfl (xp_cells w3 y s3 c3) (xC_one _) (by decide) hnl hby hbs _ rfl ?_)
      intro g2 cap2 w4 hown hgrow hlies hg2
      have HO5 : Hid (OwX rb w.heap.size w4 g2 cap2 (A ++ [(y, s3, c3)])) := HO4.out.grown HKY.out (by rw [HLA.out]; exact hown) hgrow (by simpa [Value.ownBlock] using hlies)
      have hgl := HO4.out.lt
      have HR5 : Hid (Rdr w4 rb ta cap T j3 op) := HR4.out.grown (g := g') hgrow (by omega)
      have HF5 : Hid (Fx rb w w4) := HF4.out.grown (g := g') hgrow hgl.1
      have HLn : Hid ((A ++ [(y, s3, c3)]).length = la + 1) := by show _ = _; rw [List.length_append, HLA.out]; rfl
      have HLm : Hid ((A ++ [(y, s3, c3)]).map (·.1) = A.map (·.1) ++ [y]) := by show _ = _; rw [List.map_append]; rfl
      clear hown hgrow hlies HOW HKY HO4 HR4 HF4 hgl
      go_wp2
      go_roundg m
      case measure => omega
      case rel => exact ⟨g2, cap2, A ++ [(y, s3, c3)], j3, by rw [HLn.out], HO5.out, HR5.out, HF5.out, by rw [HLn.out]; omega, by rw [HLm.out]; exact HL9.out⟩
    ·
     have hmi : ((la : Int) < (most : Int)) = False := eq_false (by omega)
     have HRR : Hid (r = .inl (j2, 70)) := noR_eq (by have h := HL6.out; rw [if_neg (by rw [HLA.out]; exact hml)] at h; exact h)
     clear HL6
     have h3 := must_no rb ta cap T j2 op w2 HR3.out
     unfold ptr at h3
     go_wp2_with fail
     refine h3.mono ?_
     rintro e w2' ⟨hG, rfl⟩
     have HP : Hid (SPost (VL rb) rb ta cap T op w (.inl (j2, 70)) e w2') := ⟨hG, HF3.out⟩
     unfold GUs at hG
     subst hG
     clear h3 hmi
     go_wp2
     exact ⟨rfl, by rw [HRR.out]; exact HP.out⟩
end Go.Proofs.YtgdndahhledikaaGreatDoor
