/- Sue, Suw, Frm. -/
import Derived.Test.YtgdndahhledikaaGreatDoorK40
import Derived.Test.YtgdndahhledikaaGreatDoorK44
import Derived.Test.YtgdndahhledikaaGreatDoorCards
import Derived.Test.YtgdndahhledikaaGreatDoorTie
import Derived.Test.YtgdndahhledikaaGreatDoorK33
import Derived.Test.YtgdndahhledikaaGreatDoorK37
import Derived.Lib.LaidIn
import Derived.Lib.LaidU8T
import Derived.Lib.SmallJoins
import Derived.Deep.DeepHandedRow
import Derived.Deep.SlicePairs
import Derived.ProofKit
import Derived.OpenShut
import Derived.Lay
namespace Go.Proofs.YtgdndahhledikaaGreatDoor
open Go.ChangeShapes Go.WideShapes Go.ChangeAt Go.RowKit
set_option linter.unusedSimpArgs false
set_option maxRecDepth 20000
set_option maxHeartbeats 4000000
def kidX (i : Nat) : X → Option X
 | ⟨0, _⟩ => none
 | ⟨n + 1, x⟩ => ((ks (n + 1) x)[i]?).map fun y => ⟨n, y⟩
theorem kid_at {lo : Nat} {w : World} {s : Option Addr} (i : Nat) : ∀ (x y : X), XAt lo w x s → kidX i x = some y → ∃ b off sl c, s = some ⟨b, off, none⟩ ∧ (w.cell? ⟨b, off + i * 5, none⟩ = some (.int .i64 (xk y)) ∧ w.cell? ⟨b, off + i * 5 + 1, none⟩ = some (.string (bsA (xt y))) ∧ w.cell? ⟨b, off + i * 5 + 2, none⟩ = some (.int .i64 (xn y)) ∧ w.cell? ⟨b, off + i * 5 + 3, none⟩ = some (.int .i64 (xa y)) ∧ w.cell? ⟨b, off + i * 5 + 4, none⟩ = some (.slice sl (xl y) c)) ∧ XAt lo w y sl
 | ⟨0, e⟩, _, _, _ => Empty.elim e
 | ⟨n + 1, x⟩, y, h, hk => by
  unfold kidX at hk
  obtain ⟨z, hz, rfl⟩ := Option.map_eq_some_iff.1 hk
  obtain ⟨_, hF⟩ := h
  rcases hF with h0 | ⟨b, off, rfl, hb, hc⟩
  · rw [h0] at hz; simp at hz
  ·
   obtain ⟨sl, c, hcs, hp⟩ := hc i z hz
   exact ⟨b, off, sl, c, rfl, hcs, hp⟩
def pS : List UInt8 := [101, 118, 101, 114, 121, 32, 97, 61, 65, 32, 45, 62, 32, 98, 61, 66, 32, 119, 105, 116, 104, 105, 110, 32, 53, 115]
def pT : List Tt := (lx pS 0).1
def s1S : List UInt8 := [99, 114, 101, 97, 116, 101, 32, 115, 99, 104, 101, 109, 97, 32, 84, 32, 40, 97, 32, 105, 110, 116, 41, 59, 32, 115, 101, 108, 101, 99, 116, 32, 97, 32, 97, 115, 32, 120, 32, 102, 114, 111, 109, 32, 84, 35, 108, 101, 110, 103, 116, 104, 40, 50, 41, 32, 97, 115, 32, 116, 32, 119, 104, 101, 114, 101, 32, 97, 32, 62, 32, 49, 32, 111, 117, 116, 112, 117, 116, 32, 108, 97, 115, 116, 32, 101, 118, 101, 114, 121, 32, 51, 32, 101, 118, 101, 110, 116, 115, 32, 111, 114, 100, 101, 114, 32, 98, 121, 32, 120, 32, 100, 101, 115, 99, 59]
def s1T : List Tt := (lx s1S 0).1
def s2S : List UInt8 := [115, 101, 108, 101, 99, 116, 32, 97, 32, 102, 114, 111, 109, 32, 84]
def s2T : List Tt := (lx s2S 0).1
def s3S : List UInt8 := [115, 101, 108, 101, 99, 116, 32, 97, 32, 102, 114, 111, 109, 32, 84, 35, 108, 101, 110, 103, 116, 104, 40, 48, 41, 59]
def s3T : List Tt := (lx s3S 0).1
theorem pS_lx : lx pS 0 = (pT, 0, 0) := by kernel_rfl
theorem s1_lx : lx s1S 0 = (s1T, 0, 0) := by kernel_rfl
theorem s2_lx : lx s2S 0 = (s2T, 0, 0) := by kernel_rfl
theorem s3_lx : lx s3S 0 = (s3T, 0, 0) := by kernel_rfl
def pX : X := match patR pT (exE pT 40) 40 5 0 0 with | some (.inr q) => q.1 | _ => nX
theorem pX_is : patR pT (exE pT 40) 40 5 0 0 = some (.inr (pX, 10)) := by kernel_rfl
def sL : List X := match srcQ s1T (endR s1T (exE s1T 60) 60) 60 [] 0 with | some (.inr l) => l | _ => []
theorem sL_is : srcQ s1T (endR s1T (exE s1T 60) 60) 60 [] 0 = some (.inr sL) := by kernel_rfl
theorem s2_is : srcQ s2T (endR s2T (exE s2T 60) 60) 60 [] 0 = some (.inl (4, 70)) := by kernel_rfl
theorem s3_is : srcQ s3T (endR s3T (exE s3T 60) 60) 60 [] 0 = some (.inl (7, 70)) := by kernel_rfl
def pK : X := (kidX 1 pX).getD nX
theorem pK_is : kidX 1 pX = some pK ∧ xk pX = 32 ∧ xl pX = 2 ∧ xk pK = 37 ∧ xn pK = 5000 := ⟨by kernel_rfl, by kernel_rfl, by kernel_rfl, by kernel_rfl, by kernel_rfl⟩
def sX : X := (sL[1]?).getD nX
def sK7 : X := (kidX 7 sX).getD nX
def sK6 : X := (kidX 6 sX).getD nX
def sK60 : X := (kidX 0 sK6).getD nX
theorem sX_is : sL[1]? = some sX ∧ sL.length = 2 ∧ xk sX = 53 ∧ xl sX = 8 ∧ xa sX = 25 := ⟨by kernel_rfl, by kernel_rfl, by kernel_rfl, by kernel_rfl, by kernel_rfl⟩
theorem sK_is : kidX 7 sX = some sK7 ∧ kidX 6 sX = some sK6 ∧ kidX 0 sK6 = some sK60 ∧ xk sK7 = 26 ∧ xn sK7 = 3 ∧ xl sK6 = 1 ∧ xn sK60 = 1 := ⟨by kernel_rfl, by kernel_rfl, by kernel_rfl, by kernel_rfl, by kernel_rfl, by kernel_rfl, by kernel_rfl⟩
theorem sT_is : (pT.length = 10 ∧ s1T.length ≤ 1000000 ∧ s2T.length ≤ 1000000 ∧ s3T.length ≤ 1000000) ∧ (if 4 < s2T.length then (tkI s2T 4).2 else (s2S.length : Int)) = 15 ∧ (if 7 < s3T.length then (tkI s3T 7).2 else (s3S.length : Int)) = 23 := ⟨⟨by kernel_rfl, by decide +kernel, by decide +kernel, by decide +kernel⟩, by kernel_rfl, by kernel_rfl⟩
def TokPost (w : World) (T : List Tt) (e : Ending) (w' : World) : Prop := (∃ a cap, e = .returned (.slice a T.length cap) ∧ TksAt w' a T ∧ (∀ g o, a = some ⟨g, o, none⟩ → w.heap.size ≤ g ∧ g < w'.heap.size)) ∧ Below w.heap.size w w'
theorem tokens_any (s : List UInt8) (T : List Tt) (hs : s.length ≤ 104857600) (hlx : lx s 0 = (T, 0, 0)) (w : World) : Calls Tryz.prog 6 #[.string (bsA s)] w (TokPost w T) := by
 have h1 := RLex_any s w hs
 rw [hlx] at h1
 clear hlx
 go_enter Tryz.func6, Tryz.ntmps6
 go_wp2_with fail
 refine h1.mono ?_
 rintro e w1 ⟨hpost, hb⟩
 clear h1
 unfold LexPost2 at hpost
 rw [if_neg (fun h => h rfl)] at hpost
 obtain ⟨a, cap, rfl, hT, ha, _⟩ := hpost
 dsimp only at hT
 have HP : Hid (TokPost w T (.returned (.slice a T.length cap)) w1) := ⟨⟨a, cap, rfl, hT, ha⟩, hb⟩
 dsimp only
 obtain ⟨n, hn⟩ : ∃ n, T.length = n := ⟨_, rfl⟩
 rw [hn] at HP ⊢
 clear hT ha hb hn
 go_wp2
 refine bodyPost_ret (v := .slice a n cap) (by simp [results, Tryz.results6, go_sem]) rfl HP.out
end Go.Proofs.YtgdndahhledikaaGreatDoor
namespace Go.Proofs.YtgdndahhledikaaGreatDoor
open Go.ChangeShapes Go.WideShapes Go.ChangeAt Go.RowKit
set_option linter.unusedSimpArgs false
set_option maxRecDepth 20000
set_option maxHeartbeats 4000000
theorem xs_at {lo : Nat} {w : World} {g : Nat} {l : List X} (h : XsAt lo w g l) (i : Nat) (x : X) (hi : l[i]? = some x) : ∃ s c, (w.cell? ⟨g, i * 5, none⟩ = some (.int .i64 (xk x)) ∧ w.cell? ⟨g, i * 5 + 1, none⟩ = some (.string (bsA (xt x))) ∧ w.cell? ⟨g, i * 5 + 2, none⟩ = some (.int .i64 (xn x)) ∧ w.cell? ⟨g, i * 5 + 3, none⟩ = some (.int .i64 (xa x)) ∧ w.cell? ⟨g, i * 5 + 4, none⟩ = some (.slice s (xl x) c)) ∧ XAt lo w x s := h.2 i x hi
theorem sure_walk (w : World) (hR : Rdv w) (T : List Tt) (hT10 : T.length = 10) (x : X) (l : List X) (sx k7 k6 k60 k1 : X)
  (hx : kidX 1 x = some k1 ∧ xk x = 32 ∧ xl x = 2 ∧ xk k1 = 37 ∧ xn k1 = 5000)
  (hl : l[1]? = some sx ∧ l.length = 2 ∧ xk sx = 53 ∧ xl sx = 8 ∧ xa sx = 25)
  (hk : kidX 7 sx = some k7 ∧ kidX 6 sx = some k6 ∧ kidX 0 k6 = some k60 ∧ xk k7 = 26 ∧ xn k7 = 3 ∧ xl k6 = 1 ∧ xn k60 = 1)
  (h1 : Calls Tryz.prog 6 #[.string ⟨#[101, 118, 101, 114, 121, 32, 97, 61, 65, 32, 45, 62, 32, 98, 61, 66, 32, 119, 105, 116, 104, 105, 110, 32, 53, 115]⟩] w (TokPost w T))
  (h2 : ∀ ta cap w, TksAt w ta T → (∀ b o, ta = some ⟨b, o, none⟩ → b < w.heap.size) → Calls Tryz.prog 10 #[.slice ta 10 cap, .int .i64 0] w (EPost w (.inr (x, 10))))
  (h3 : ∀ w, Rdv w → Calls Tryz.prog 8 #[.string ⟨([99, 114, 101, 97, 116, 101, 32, 115, 99, 104, 101, 109, 97, 32, 84, 32, 40, 97, 32, 105, 110, 116, 41, 59, 32, 115, 101, 108, 101, 99, 116, 32, 97, 32, 97, 115, 32, 120, 32, 102, 114, 111, 109, 32, 84, 35, 108, 101, 110, 103, 116, 104, 40, 50, 41, 32, 97, 115].append [32, 116, 32, 119, 104, 101, 114, 101, 32, 97, 32, 62, 32, 49, 32, 111, 117, 116, 112, 117, 116, 32, 108, 97, 115, 116, 32, 101, 118, 101, 114, 121, 32, 51, 32, 101, 118, 101, 110, 116, 115, 32, 111, 114, 100, 101, 114, 32, 98, 121, 32, 120, 32, 100, 101, 115, 99, 59]).toArray⟩] w fun e w' => (∃ v, e = .returned (.tuple #[v, .int .i64 0, .int .i64 0]) ∧ RowV w.heap.size w' v l) ∧ Below w.heap.size w w')
  (h4 : ∀ w, Rdv w → Calls Tryz.prog 8 #[.string ⟨#[115, 101, 108, 101, 99, 116, 32, 97, 32, 102, 114, 111, 109, 32, 84]⟩] w fun e w' => e = .returned (.tuple #[.slice none 0 0, .int .i64 15, .int .i64 70]) ∧ Below w.heap.size w w')
  (h5 : ∀ w, Rdv w → Calls Tryz.prog 8 #[.string ⟨#[115, 101, 108, 101, 99, 116, 32, 97, 32, 102, 114, 111, 109, 32, 84, 35, 108, 101, 110, 103, 116, 104, 40, 48, 41, 59]⟩] w fun e w' => e = .returned (.tuple #[.slice none 0 0, .int .i64 23, .int .i64 70]) ∧ Below w.heap.size w w') :
  Calls Tryz.prog 7 #[] w fun e w' => e = .returned (.bool true) ∧ Below w.heap.size w w' := by
 obtain ⟨x1, x2, x3, x4, x5⟩ := hx
 obtain ⟨l1, l2, l3, l4, l5⟩ := hl
 obtain ⟨k1', k2', k3', k4', k5', k6', k7'⟩ := hk
 have HX : Hid (kidX 1 x = some k1 ∧ xk k1 = 37 ∧ xn k1 = 5000) := ⟨x1, x4, x5⟩
 have HXV : Hid (∀ s c, xV x s c = nV 32 (xt x) (xn x) (xa x) (.slice s 2 c)) := fun s c => by unfold xV; rw [x2, x3]
 have HL : Hid (l[1]? = some sx ∧ l.length = 2) := ⟨l1, l2⟩
 have HLV : Hid (xk sx = 53 ∧ xl sx = 8 ∧ xa sx = 25) := ⟨l3, l4, l5⟩
 have HK : Hid (kidX 7 sx = some k7 ∧ kidX 6 sx = some k6 ∧ kidX 0 k6 = some k60 ∧ xk k7 = 26 ∧ xn k7 = 3 ∧ xl k6 = 1 ∧ xn k60 = 1) := ⟨k1', k2', k3', k4', k5', k6', k7'⟩
 have H2 : Hid _ := h2
 have H3 : Hid _ := h3
 have H4 : Hid _ := h4
 have H5 : Hid _ := h5
 have HR : Hid (Rdv w) := hR
 have HTL : Hid (T.length = 10) := hT10
 clear h2 h3 h4 h5 hR x1 x2 x3 x4 x5 l1 l2 l3 l4 l5 k1' k2' k3' k4' k5' k6' k7' hT10
 go_enter Tryz.func7, Tryz.ntmps7
 go_wp2_with fail
 refine h1.mono ?_
 rintro e w1 ⟨⟨ta, cap, rfl, hT, hta⟩, hb1⟩
 clear h1
 rw [HTL.out]
 have h2 := H2.out ta cap w1 hT (fun b o e => (hta b o e).2)
 have HB : Hid (Below w.heap.size w w1) := hb1
 clear hT hta hb1 H2 HTL
 go_wp2_with fail
 refine h2.mono ?_
 rintro e w2 ⟨⟨s, c, rfl, hxa⟩, hb2⟩
 clear h2
 dsimp only
 rw [HXV.out]
 have HB2 : Hid (Below w.heap.size w w2) := HB.out.trans (hb2.mono HB.out.size)
 have HXA : Hid (XAt w.heap.size w2 x s) := NdF.keep HB.out.size (fun _ _ _ => rfl) hxa
 have hY : Below w2.heap.size w2 (w2.alloc (nO 32 (xt x) (xn x) (xa x) (.slice s 2 c))) := (Below.refl _ _).alloc (Nat.le_refl _) _
 have h3 := H3.out _ (HR.out.below (HB2.out.trans (hY.mono HB2.out.size)))
 unfold nV
 have HY : Hid _ := hY
 clear hb2 hxa hY HB HXV H3
 generalize xt x = xtx at *
 generalize xn x = xnx at *
 generalize xa x = xax at *
 go_wp2_with fail
 refine h3.mono ?_
 rintro e w3 ⟨⟨v, rfl, hv⟩, hb3⟩
 clear h3
 obtain ⟨g, c2, rfl, hxs⟩ : ∃ g c2, v = .slice (some ⟨g, 0, none⟩) 2 c2 ∧ XsAt (w2.alloc (nO 32 xtx xnx xax (.slice s 2 c))).heap.size w3 g l := by
  rcases hv with ⟨h0, _⟩ | ⟨g, c2, n2, rfl, hn2, hxs⟩
  · rw [h0] at HL; exact absurd HL.out.2 (by simp)
  · rw [HL.out.2] at hn2; subst hn2; exact ⟨g, c2, rfl, hxs⟩
 obtain ⟨ss, sc, ⟨s0, s1, s2, s3, s4⟩, hsx⟩ := xs_at hxs 1 sx HL.out.1
 rw [HLV.out.1] at s0
 rw [HLV.out.2.2] at s3
 rw [HLV.out.2.1] at s4
 have HB3 : Hid (Below w.heap.size w w3) := (HB2.out.trans (HY.out.mono HB2.out.size)).trans (hb3.mono (Nat.le_trans HB2.out.size HY.out.size))
 obtain ⟨kb, ko, kl, kc, rfl, ⟨p0, _, p2, _, _⟩, _⟩ := kid_at 1 x k1 (NdF.below hb3 (NdF.below HY.out HXA.out)) HX.out.1
 rw [HX.out.2.1] at p0
 rw [HX.out.2.2] at p2
 obtain ⟨b7, o7, l7, c7, hs7, ⟨q0, _, q2, _, _⟩, _⟩ := kid_at 7 sx k7 hsx HK.out.1
 obtain ⟨b6, o6, l6, c6, hs6, ⟨_, _, _, _, r4⟩, h6⟩ := kid_at 6 sx k6 hsx HK.out.2.1
 obtain ⟨b60, o60, l60, c60, rfl, ⟨_, _, t2, _, _⟩, _⟩ := kid_at 0 k6 k60 h6 HK.out.2.2.1
 subst hs7
 obtain ⟨rfl, rfl⟩ : b7 = b6 ∧ o7 = o6 := by cases hs6; exact ⟨rfl, rfl⟩
 obtain ⟨_, _, _, kk1, kk2, kk3, kk4⟩ := HK.out
 rw [kk1] at q0
 rw [kk2] at q2
 rw [kk3] at r4
 rw [kk4] at t2
 have HBX := (Box5.new w2 (.int .i64 32) (.string (bsA xtx)) (.int .i64 xnx) (.int .i64 xax) (.slice (some ⟨kb, ko, none⟩) 2 c) 34).below hb3
 generalize xt sx = sxt at *
 generalize xn sx = sxn at *
 have h4 := H4.out w3 (HR.out.below HB3.out)
 have HF : Hid (∀ w', Below w3.heap.size w3 w' → (w'.cell? ⟨g, 5, none⟩ = some (.int .i64 53) ∧ w'.cell? ⟨g, 6, none⟩ = some (.string (bsA sxt)) ∧ w'.cell? ⟨g, 7, none⟩ = some (.int .i64 sxn) ∧ w'.cell? ⟨g, 8, none⟩ = some (.int .i64 25) ∧ w'.cell? ⟨g, 9, none⟩ = some (.slice (some ⟨b7, o7, none⟩) 8 sc)) ∧ (w'.cell? ⟨kb, ko + 5, none⟩ = some (.int .i64 37) ∧ w'.cell? ⟨kb, ko + 5 + 2, none⟩ = some (.int .i64 5000)) ∧ (w'.cell? ⟨b7, o7 + 35, none⟩ = some (.int .i64 26) ∧ w'.cell? ⟨b7, o7 + 35 + 2, none⟩ = some (.int .i64 3) ∧ w'.cell? ⟨b7, o7 + 30 + 4, none⟩ = some (.slice (some ⟨b60, o60, none⟩) 1 c6)) ∧ w'.cell? ⟨b60, o60 + 2, none⟩ = some (.int .i64 1) ∧ Box5 w' w2.heap.size (.int .i64 32) (.string (bsA xtx)) (.int .i64 xnx) (.int .i64 xax) (.slice (some ⟨kb, ko, none⟩) 2 c)) := by
  intro w' hb
  refine ⟨⟨cell_below hb s0, cell_below hb s1, cell_below hb s2, cell_below hb s3, cell_below hb s4⟩, ⟨cell_below hb p0, cell_below hb p2⟩, ⟨cell_below hb q0, cell_below hb q2, cell_below hb r4⟩, cell_below hb ?_, HBX.below hb⟩
  simpa using t2
 clear s0 s1 s2 s3 s4 p0 p2 q0 q2 r4 t2 HBX hb3 HX HXA HL HLV HK hxs hsx h6 HB2 HY kk1 kk2 kk3 kk4 H4 hv hs6
 obtain ⟨bx, hbx⟩ : ∃ bx, w2.heap.size = bx := ⟨_, rfl⟩
 rw [hbx] at HF ⊢
 clear hbx
 dsimp only
 go_wp2_with fail
 refine h4.mono ?_
 rintro e w4 ⟨rfl, hb4⟩
 clear h4
 have HB4 : Hid (Below w3.heap.size w3 w4) := hb4
 have h5 := H5.out w4 (HR.out.below (HB3.out.trans (hb4.mono HB3.out.size)))
 clear hb4 H5
 dsimp only
 go_wp2_with fail
 refine h5.mono ?_
 rintro e w5 ⟨rfl, hb5⟩
 clear h5
 have HB5 : Hid (Below w3.heap.size w3 w5) := HB4.out.trans (hb5.mono HB4.out.size)
 obtain ⟨⟨s0, s1, s2, s3, s4⟩, _, _, _, ⟨x0, x1, x2, x3, x4, _, _, _, _, _⟩⟩ := HF.out w5 HB5.out
 clear hb5 HB4
 dsimp only
 go_upto_region 8 with (fail)
 have hz : Below w5.heap.size w5 (w5.alloc (nO 53 sxt sxn 25 (.slice (some ⟨b7, o7, none⟩) 8 sc))) := (Below.refl _ _).alloc (Nat.le_refl _) _
 have HBZ : Hid (Below w.heap.size w (w5.alloc (nO 53 sxt sxn 25 (.slice (some ⟨b7, o7, none⟩) 8 sc)))) := (HB3.out.trans (HB5.out.mono HB3.out.size)).trans (hz.mono (HB3.out.trans (HB5.out.mono HB3.out.size)).size)
 obtain ⟨y0, y1, y2, y3, y4, _, _, _, _, _⟩ := Box5.new w5 (.int .i64 53) (.string (bsA sxt)) (.int .i64 sxn) (.int .i64 25) (.slice (some ⟨b7, o7, none⟩) 8 sc) 34
 obtain ⟨_, ⟨p0, p2⟩, ⟨q0, q2, r4⟩, t2, ⟨z0, z1, z2, z3, z4, _, _, _, _, _⟩⟩ := HF.out (w5.alloc (nO 53 sxt sxn 25 (.slice (some ⟨b7, o7, none⟩) 8 sc))) (HB5.out.trans (hz.mono HB5.out.size))
 clear s0 s1 s2 s3 s4 x0 x1 x2 x3 x4 hz HF HB5 HB3
 change _ = _ at y0
 obtain ⟨bz, hbz⟩ : ∃ bz, w5.heap.size = bz := ⟨_, rfl⟩
 rw [hbz] at y0 y1 y2 y3 y4 ⊢
 clear hbz
 unfold nO at HBZ p0 p2 q0 q2 r4 t2 z0 z1 z2 z3 z4
 generalize (w5.alloc (.cells #[.int .i64 53, .string (bsA sxt), .int .i64 sxn, .int .i64 25, .slice (some ⟨b7, o7, none⟩) 8 sc] 34)) = wz at *
 go_wp2
 go_ret
 exact ⟨rfl, HBZ.out⟩
theorem src_ok (s : List UInt8) (T : List Tt) (hs : s.length ≤ 65536) (hlx : lx s 0 = (T, 0, 0)) (hT : T.length ≤ 1000000) (r : Sum Er (List X)) (h : srcQ T (endR T (exE T 60) 60) 60 [] 0 = some r) (w : World) (hR : Rdv w) : Calls Tryz.prog 8 #[.string (bsA s)] w (SrcPost s T w r) :=
 Source_any s hs T hlx hT _ (fun rb ta cap => endR_ok rb ta cap T (exE T 60) (expr_s rb ta cap T _ (exE_ok ta cap T 60)) 60) 60 w hR r h
theorem src_bad (s : List UInt8) (T : List Tt) (hs : s.length ≤ 65536) (hlx : lx s 0 = (T, 0, 0)) (hT : T.length ≤ 1000000) (p : Nat) (q at_ : Int) (h : srcQ T (endR T (exE T 60) 60) 60 [] 0 = some (.inl (p, q))) (ha : (if p < T.length then (tkI T p).2 else (s.length : Int)) = at_) (w : World) (hR : Rdv w) : Calls Tryz.prog 8 #[.string (bsA s)] w fun e w' => e = .returned (.tuple #[.slice none 0 0, .int .i64 at_, .int .i64 q]) ∧ Below w.heap.size w w' := by
 refine (src_ok s T hs hlx hT _ h w hR).mono ?_
 rintro e w' ⟨h1, h2⟩
 dsimp only at h1
 rw [ha] at h1
 exact ⟨h1, h2⟩
theorem src_good (s : List UInt8) (T : List Tt) (hs : s.length ≤ 65536) (hlx : lx s 0 = (T, 0, 0)) (hT : T.length ≤ 1000000) (l : List X) (h : srcQ T (endR T (exE T 60) 60) 60 [] 0 = some (.inr l)) (w : World) (hR : Rdv w) : Calls Tryz.prog 8 #[.string (bsA s)] w fun e w' => (∃ v, e = .returned (.tuple #[v, .int .i64 0, .int .i64 0]) ∧ RowV w.heap.size w' v l) ∧ Below w.heap.size w w' :=
 src_ok s T hs hlx hT _ h w hR
theorem pat_ok (T : List Tt) (n F : Nat) (hT : T.length ≤ 1000000000) (r : Sum Er (X × Nat)) (h : patR T (exE T 40) F n 0 0 = some r) (ta : Option Addr) (cap : Nat) (w : World) (ht : TksAt w ta T) (hb : ∀ b o, ta = some ⟨b, o, none⟩ → b < w.heap.size) : Calls Tryz.prog 10 #[.slice ta T.length cap, .int .i64 0] w (EPost w r) :=
 Pattern_any ta cap T (exE T 40) (exE_ok ta cap T 40) F n 0 (Nat.zero_le _) w ht hT hb r h
theorem sure_any (w : World) (hR : Rdv w) : Calls Tryz.prog 7 #[] w fun e w' => e = .returned (.bool true) ∧ Below w.heap.size w w' :=
 sure_walk w hR pT sT_is.1.1 pX sL sX sK7 sK6 sK60 pK pK_is sX_is sK_is (tokens_any pS pT (by decide) pS_lx w)
  (fun ta cap w ht hb => by have h := pat_ok pT 5 40 (by rw [sT_is.1.1]; decide) _ pX_is ta cap w ht hb; rw [sT_is.1.1] at h; exact h)
  (src_good s1S s1T (by decide) s1_lx sT_is.1.2.1 sL sL_is)
  (src_bad s2S s2T (by decide) s2_lx sT_is.1.2.2.1 4 70 15 s2_is sT_is.2.1)
  (src_bad s3S s3T (by decide) s3_lx sT_is.1.2.2.2 7 70 23 s3_is sT_is.2.2)
end Go.Proofs.YtgdndahhledikaaGreatDoor
namespace Go.Proofs.YtgdndahhledikaaGreatDoor
open Go.Shelf Go.ChangeShapes Go.WideShapes Go.ChangeAt Go.RowKit Go.Lib Go.Joins Go.Deep
theorem own : ownKnob Tryz.prog.godebug = none := by kernel_rfl
theorem laidOut : laidOutB Tryz.prog = true := by kernel_rfl
theorem cells9 : Tryz.prog.cellsOf 9 = 1 := by kernel_rfl
theorem cells139 : Tryz.prog.cellsOf 139 = 1 := by kernel_rfl
theorem cells192 : Tryz.prog.cellsOf 192 = 20 := by kernel_rfl
theorem tabIs_of_reads {W : World} {name : String} {k : IntKind} {zs : List Int} {g : Nat} {t e : TypeId} {n : Nat} (hg : Tryz.prog.globalNamed name = some g) (hty : (Tryz.prog.globals[g]?).map (·.type) = some t)
  (ht : Tryz.prog.underlying t = some (.array n e)) (he : Tryz.prog.underlying e = some (.int k)) (hce : Tryz.prog.cellsOf e = 1) (hct : Tryz.prog.cellsOf t = n)
  (h : VarReads Tryz.prog W name (tabData k zs)) : TabIs Tryz.prog W name k zs := by
 obtain ⟨g', t', cs, fuel, p, hg', hty', hvar, hd⟩ := h
 obtain rfl := Option.some.inj (hg.symm.trans hg')
 obtain rfl := Option.some.inj (hty.symm.trans hty')
 have hcs := cells_of_tab ht he hce hct hd
 unfold TabIs
 rw [hvar, ← hcs]
theorem pow_eq : (Rows.laid_internal_strconv_uint64pow10 : DataW Unit) = tabData .u64 pow10Tab := by kernel_rfl
theorem acc_eq : (Rows.laid_unicode_utf8_acceptRanges : DataW Unit) = acceptData := by kernel_rfl
set_option maxRecDepth 100000 in
theorem first_eq : Rows.laid_unicode_utf8_first = firstData := by kernel_rfl
theorem words_eq : (Rows.laid_marquee_lex_words : DataW Unit) = .agg (wdL.map fun x => .lit (.string x)) := by kernel_rfl
theorem var_cell {W : World} {name : String} {g : Nat} {cs : Array Value} (hg : Tryz.prog.globalNamed name = some g) (h : W.var? Tryz.prog name = some cs) (i : Nat) (v : Value) (hi : cs[i]? = some v) : W.cell? ⟨g, i, none⟩ = some v := by
 unfold World.var? at h
 rw [hg] at h
 simp only [Option.bind_some] at h
 split at h
 ·
  next c e f hb =>
  injection h with h
  subst h
  unfold World.cell?
  simp only [hb]
  simpa using hi
 · cases h
theorem words_of {W : World} (h : VarReads Tryz.prog W "marquee/lex.words" Rows.laid_marquee_lex_words) : ∀ i, i < 58 → W.cell? ⟨1, i, none⟩ = some (.string (bsA (wd i))) := by
 rw [words_eq] at h
 obtain ⟨g', t', cs, fuel, p, hg', hty', hvar, hd⟩ := h
 have hg : Tryz.prog.globalNamed "marquee/lex.words" = some 1 := by kernel_rfl
 have hty : (Tryz.prog.globals[1]?).map (·.type) = some 110 := by kernel_rfl
 obtain rfl := Option.some.inj (hg.symm.trans hg')
 obtain rfl := Option.some.inj (hty.symm.trans hty')
 obtain ⟨xs, m, hm, ex, hlen, hl, hel⟩ := DataW.trod_array Tryz.underlying110 hd
 intro i hi
 have he := hel i hi
 rw [cells9, Nat.mul_one] at he
 obtain ⟨y, hy⟩ : ∃ y, xs[i]? = some y := ⟨xs[i]'(by omega), List.getElem?_eq_getElem (by omega)⟩
 rw [hy] at he
 obtain ⟨z, hz, hyz, _⟩ := DataW.trod_string Tryz.underlying9 he
 injection ex with ex1 ex2
 injection ex1 with ex1
 have e1 := congrArg (fun l => l[i]?) ex1
 simp only [List.getElem?_map, hy, Option.map_some] at e1
 have e2 : wdL[i]? = some (wd i) := by
  unfold wd
  rw [List.getD_eq_getElem?_getD, List.getElem?_eq_getElem (by show i < 58; exact hi)]
  rfl
 rw [e2, hyz] at e1
 simp only [Option.map_some, Option.some.injEq] at e1
 injection e1 with e1
 injection e1 with e1
 have ez : z = bsA (wd i) := by rw [e1, bsA_of]
 have hc : cs.toList[i]? = some (.string z) := by
  have := congrArg (fun l => l[0]?) hz
  simpa using this
 exact var_cell hg hvar i _ (by rw [← ez]; simpa using hc)
set_option maxRecDepth 10000 in
theorem iface_of {W : World} {name : String} {g : Nat} {t : TypeId} {ms : Array (String × TypeId)} {d : DataW Unit} (hg : Tryz.prog.globalNamed name = some g) (hty : (Tryz.prog.globals[g]?).map (·.type) = some t) (ht : Tryz.prog.underlying t = some (.interface ms))
  (h : VarReads Tryz.prog W name d) : ∃ ev, W.cell? ⟨g, 0, none⟩ = some ev ∧ (ev = .nilIface ∨ ∃ te pe, ev = .iface te pe) := by
 obtain ⟨g', t', cs, fuel, p, hg', hty', hvar, hd⟩ := h
 obtain rfl := Option.some.inj (hg.symm.trans hg')
 obtain rfl := Option.some.inj (hty.symm.trans hty')
 cases fuel with
 | zero => simp [DataW.trod] at hd
 | succ m =>
  unfold DataW.trod at hd
  rw [ht] at hd
  have key : ∃ ev, cs.toList = [ev] ∧ (ev = .nilIface ∨ ∃ te pe, ev = .iface te pe) := by
   generalize cs.toList = l at hd
   cases l with
   | nil => simp at hd
   | cons v r =>
    cases r with
    | cons u r' => simp at hd
    | nil =>
     refine ⟨v, rfl, ?_⟩
     cases v with
     | nilIface => exact Or.inl rfl
     | iface u v => exact Or.inr ⟨u, v, rfl⟩
     | _ => simp at hd
  obtain ⟨ev, hev, hk⟩ := key
  exact ⟨ev, var_cell hg hvar 0 _ (by have := congrArg (fun l => l[0]?) hev; simpa using this), hk⟩
theorem ready_of {W : World} (h1 : VarReads Tryz.prog W "internal/strconv.uint64pow10" Rows.laid_internal_strconv_uint64pow10) (h2 : VarReads Tryz.prog W "unicode/utf8.acceptRanges" Rows.laid_unicode_utf8_acceptRanges)
  (h3 : VarReads Tryz.prog W "strconv.ErrRange" Rows.laid_strconv_ErrRange) (h4 : VarReads Tryz.prog W "strconv.ErrSyntax" Rows.laid_strconv_ErrSyntax) (h5 : VarReads Tryz.prog W "marquee/lex.words" Rows.laid_marquee_lex_words)
  (h6 : VarReads Tryz.prog W "unicode/utf8.first" Rows.laid_unicode_utf8_first) (hsh : W.ShapedOpen Tryz.prog) : Rdv W where
 words := words_of h5
 mx := Go.Proofs.cell_of_shapedOpen_int (zero := #[.int .i64 0]) (t := 3) hsh (of_decide_eq_true (by kernel_rfl)) (by kernel_rfl) rfl (by kernel_rfl) (by kernel_rfl) Tryz.underlying3
 utf := utf8Tabs_of_readsT (U8Types.of196 Tryz.lays196) ⟨by kernel_rfl, by kernel_rfl, by kernel_rfl, by kernel_rfl, by kernel_rfl, by kernel_rfl, by kernel_rfl⟩ (first_eq ▸ h6) (acc_eq ▸ h2)
 pow := tabIs_of_reads (g := 7) (t := 192) (e := 139) (n := 20) (by kernel_rfl) (by kernel_rfl) Tryz.underlying192 Tryz.underlying139 cells139 cells192 (pow_eq ▸ h1)
 es := iface_of (g := 5) (t := 104) (by kernel_rfl) (by kernel_rfl) Tryz.underlying104 h4
 er := iface_of (g := 6) (t := 104) (by kernel_rfl) (by kernel_rfl) Tryz.underlying104 h3
theorem rdy_of {W : World} (hL : laidMetH Tryz.prog Rows.stmtsLongRow.laid W) (hsh : W.ShapedOpen Tryz.prog) : Rdv W :=
 ready_of (Lib.laidMet.reads hL (.tail _ (.tail _ (.head _)))) (Lib.laidMet.reads hL (.tail _ (.tail _ (.tail _ (.head _))))) (Lib.laidMet.reads hL (.tail _ (.tail _ (.tail _ (.tail _ (.head _))))))
  (Lib.laidMet.reads hL (.tail _ (.tail _ (.tail _ (.tail _ (.tail _ (.head _))))))) (Lib.laidMet.reads hL (.tail _ (.tail _ (.tail _ (.tail _ (.tail _ (.tail _ (.head _))))))))
  (Lib.laidMet.reads hL (.tail _ (.tail _ (.tail _ (.tail _ (.tail _ (.tail _ (.tail _ (.tail _ (.head _)))))))))) hsh
set_option maxRecDepth 100000 in
theorem laid_met (os : Os) (args : Array Value) : laidMet Tryz.prog Rows.stmtsLongRow.laid ((World.laidAll Tryz.prog os Rows.stmtsLongRow.laid).forCall (fun _ _ => 0) ⟨#[], args, []⟩).memory :=
 laidMet_laidAll args (by kernel_rfl) (by kernel_rfl)
theorem witness_row_shaped {H : Type} {enc : TypeId × Value → H} {C : Checked} {os : Os} {f : FuncId} {fn : Func} {s : OpenSpec} {conds : List PathCond} {apart : Bool} {laid : List (String × DataW Unit)} (modest : Bool) (w0 : World) (args : Array Value) (hos : w0.os = os)
  (hsh : (w0.forCall (fun _ _ => 0) ⟨#[], args, []⟩).Shaped C.prog)
  (hok : Input.okWideB C.prog (w0.forCall (fun _ _ => 0) ⟨#[], args, []⟩) f ⟨#[], args, []⟩ = true)
  (hrow : s.preRow enc C.prog fn conds apart laid (w0.forCall (fun _ _ => 0) ⟨#[], args, []⟩).memory args) :
  ∃ (w : World) (tape : Tape) (i : Input), w.os = os ∧ (w.forCall tape i).Shaped C.prog ∧ i.vars = [] ∧ Input.okWide C.prog (w.forCall tape i) .any w.heap.size f i ∧
   s.preRow enc C.prog fn conds apart laid (w.forCall tape i).memory i.args ∧ ({ modest := modest } : Assume).holds C.prog (lone (Frame.enter C.prog f i.args .normal) [] (w.forCall tape i)) :=
 ⟨w0, fun _ _ => 0, ⟨#[], args, []⟩, hos, hsh, (Input.okWide_of_okWideB (base := 0) hok).1, (Input.okWide_of_okWideB hok).2, hrow, by
  simp only [Assume.holds]
  exact ⟨by simp, by simp, fun _ => Modest.zero, by simp, by simp⟩⟩
end Go.Proofs.YtgdndahhledikaaGreatDoor
