/- What must come whatever the input is (sure). -/
import Derived.Test.YtcemogaacicnfaaGreatDoorSur
namespace Go.Proofs.YtcemogaacicnfaaGreatDoor
open Go.ChangeShapes Go.WideShapes Go.ChangeAt Go.RowKit

def colT (n : Nat) : Tr (n + 1) := (6, [97], 0, 0, [])
def aT (n : Nat) : Tr (n + 2) := (14, [115, 117, 109], 0, 0, [colT n])
def cT (n : Nat) : Tr (n + 1) := (14, [99, 111, 117, 110, 116], 0, 0, [])
def sT (n : Nat) : Tr (n + 3) := (8, [43], 0, 0, [aT n, cT (n + 1)])
def nT (n : Nat) : Tr (n + 4) := (8, [43], 0, 0, [aT (n + 1), sT n])
theorem ag_n : (agP 4 ((flat (fun k => !decide (k = 14)) 4 (nT 0) 1).map (·.1))).map (fun x => tx 4 x) = [[115, 117, 109], [99, 111, 117, 110, 116]] := by decide +kernel
theorem fl_n : (flat (fun k => !decide (k = 14)) 4 (nT 0) 1).length * 64 + 64 ≤ 140737488355328 := by decide +kernel
theorem siz_n : ((flat (fun _ => true) 4 (nT 0) 1).length : Int) = 7 := by decide +kernel
theorem dep_n : dpL ((flat (fun _ => true) 4 (nT 0) 1).map (·.2)) = 4 := by decide +kernel
theorem sam_na : samP 4 (nT 0) (aT 2) = false := by decide +kernel
theorem col_at (w : World) (n : Nat) (s : Option Addr) : NdAt w (n + 1) (colT n) s := ⟨Nat.zero_le _, Or.inl rfl⟩
theorem cnt_at (w : World) (n : Nat) (s : Option Addr) : NdAt w (n + 1) (cT n) s := ⟨Nat.zero_le _, Or.inl rfl⟩
theorem a_at {w : World} {b0 : Nat} (n : Nat) (h : Box5 w b0 (.int .i64 6) (.string ⟨#[97]⟩) (.int .i64 0) (.int .i64 0) (.slice none 0 0)) : NdAt w (n + 2) (aT n) (some ⟨b0, 0, none⟩) := by
  refine ⟨by show 1 ≤ _; omega, Or.inr ⟨b0, 0, rfl, fun i y hi => ?_⟩⟩
  match i, hi with
  | 0, hi =>
    cases hi
    exact ⟨none, 0, ⟨h.c0, h.c1, h.c2, h.c3, h.c4⟩, col_at w n none⟩
theorem s_at {w : World} {b0 g1 : Nat} (n : Nat) (h : Box5 w b0 (.int .i64 6) (.string ⟨#[97]⟩) (.int .i64 0) (.int .i64 0) (.slice none 0 0)) (h1 : At w g1 ([Value.int .i64 14, .string ⟨#[115, 117, 109]⟩, .int .i64 0, .int .i64 0, .slice (some ⟨b0, 0, none⟩) 1 1, .int .i64 14, .string ⟨#[99, 111, 117, 110, 116]⟩, .int .i64 0, .int .i64 0, .slice none 0 0])) : NdAt w (n + 3) (sT n) (some ⟨g1, 0, none⟩) := by
  refine ⟨by show 2 ≤ _; omega, Or.inr ⟨g1, 0, rfl, fun i y hi => ?_⟩⟩
  match i, hi with
  | 0, hi =>
    cases hi
    exact ⟨some ⟨b0, 0, none⟩, 1, ⟨h1 0 _ rfl, h1 1 _ rfl, h1 2 _ rfl, h1 3 _ rfl, h1 4 _ rfl⟩, a_at n h⟩
  | 1, hi =>
    cases hi
    exact ⟨none, 0, ⟨h1 5 _ rfl, h1 6 _ rfl, h1 7 _ rfl, h1 8 _ rfl, h1 9 _ rfl⟩, cnt_at w (n + 1) none⟩
theorem n_at {w : World} {b0 g1 g2 : Nat} (n : Nat) (h : Box5 w b0 (.int .i64 6) (.string ⟨#[97]⟩) (.int .i64 0) (.int .i64 0) (.slice none 0 0)) (h1 : At w g1 ([Value.int .i64 14, .string ⟨#[115, 117, 109]⟩, .int .i64 0, .int .i64 0, .slice (some ⟨b0, 0, none⟩) 1 1, .int .i64 14, .string ⟨#[99, 111, 117, 110, 116]⟩, .int .i64 0, .int .i64 0, .slice none 0 0])) (h2 : At w g2 ([Value.int .i64 14, .string ⟨#[115, 117, 109]⟩, .int .i64 0, .int .i64 0, .slice (some ⟨b0, 0, none⟩) 1 1, .int .i64 8, .string ⟨#[43]⟩, .int .i64 0, .int .i64 0, .slice (some ⟨g1, 0, none⟩) 2 2])) : NdAt w (n + 4) (nT n) (some ⟨g2, 0, none⟩) := by
  refine ⟨by show 2 ≤ _; omega, Or.inr ⟨g2, 0, rfl, fun i y hi => ?_⟩⟩
  match i, hi with
  | 0, hi =>
    cases hi
    exact ⟨some ⟨b0, 0, none⟩, 1, ⟨h2 0 _ rfl, h2 1 _ rfl, h2 2 _ rfl, h2 3 _ rfl, h2 4 _ rfl⟩, a_at (n + 1) h⟩
  | 1, hi =>
    cases hi
    exact ⟨some ⟨g1, 0, none⟩, 2, ⟨h2 5 _ rfl, h2 6 _ rfl, h2 7 _ rfl, h2 8 _ rfl, h2 9 _ rfl⟩, s_at n h h1⟩
theorem wid_n : Wid 4 (nT 0) := by
  refine ⟨by decide, fun y hy => ?_⟩
  have hc : ∀ n, Wid (n + 1) (colT n) := fun n => ⟨by simp [ks, colT], fun z hz => by simp [ks, colT] at hz⟩
  have ht : ∀ n, Wid (n + 1) (cT n) := fun n => ⟨by simp [ks, cT], fun z hz => by simp [ks, cT] at hz⟩
  have ha : ∀ n, Wid (n + 2) (aT n) := fun n => ⟨by show 1 * 64 ≤ _; omega, fun z hz => by
    have : z = colT n := by simpa [ks, aT] using hz
    rw [this]; exact hc n⟩
  have hz : y = aT 1 ∨ y = sT 0 := by simpa [ks, nT] using hy
  rcases hz with rfl | rfl
  · exact ha 1
  · refine ⟨by decide, fun z hz => ?_⟩
    have : z = aT 0 ∨ z = cT 1 := by simpa [ks, sT] using hz
    rcases this with rfl | rfl
    · exact ha 0
    · exact ht 1
/-- What is read of the two trees and of what was collected. -/
structure Sr (w : World) (b0 Ba B2 g1 g2 g : Nat) : Prop where
  col : Box5 w b0 (.int .i64 6) (.string ⟨#[97]⟩) (.int .i64 0) (.int .i64 0) (.slice none 0 0)
  a : Box5 w Ba (.int .i64 14) (.string ⟨#[115, 117, 109]⟩) (.int .i64 0) (.int .i64 0) (.slice (some ⟨b0, 0, none⟩) 1 1)
  n : Box5 w B2 (.int .i64 8) (.string ⟨#[43]⟩) (.int .i64 0) (.int .i64 0) (.slice (some ⟨g2, 0, none⟩) 2 2)
  s1 : At w g1 ([Value.int .i64 14, .string ⟨#[115, 117, 109]⟩, .int .i64 0, .int .i64 0, .slice (some ⟨b0, 0, none⟩) 1 1, .int .i64 14, .string ⟨#[99, 111, 117, 110, 116]⟩, .int .i64 0, .int .i64 0, .slice none 0 0])
  s2 : At w g2 ([Value.int .i64 14, .string ⟨#[115, 117, 109]⟩, .int .i64 0, .int .i64 0, .slice (some ⟨b0, 0, none⟩) 1 1, .int .i64 8, .string ⟨#[43]⟩, .int .i64 0, .int .i64 0, .slice (some ⟨g1, 0, none⟩) 2 2])
  c : w.cell? ⟨g, 0 + 1 * 5 + 1, none⟩ = some (.string ⟨#[99, 111, 117, 110, 116]⟩)
theorem Sr.below {w w' : World} {b0 Ba B2 g1 g2 g : Nat} (h : Sr w b0 Ba B2 g1 g2 g) (hb : Below w.heap.size w w') : Sr w' b0 Ba B2 g1 g2 g :=
  ⟨h.col.below hb, h.a.below hb, h.n.below hb, h.s1.below hb, h.s2.below hb, cell_below hb h.c⟩
set_option linter.unusedSimpArgs false in
set_option maxRecDepth 20000 in
set_option maxHeartbeats 8000000 in
theorem sure_any (w : World) (hR : Rdy w) : Calls Tryz.prog 17 #[] w fun e w' => e = .returned (.bool true) ∧ Below w.heap.size w w' := by
  have bC := Box5.new w (.int .i64 6) (.string ⟨#[97]⟩) (.int .i64 0) (.int .i64 0) (.slice none 0 0) 24
  go_enter Tryz.func17, Tryz.ntmps17
  go_wp2_with fail
  refine (agg_any ⟨#[115, 117, 109]⟩ (some ⟨w.heap.size, 0, none⟩) 1 1 _).mono ?_
  rintro e w1 ⟨rfl, hb1⟩
  have hB1 : Below w.heap.size w w1 := ((Below.refl _ w).alloc (Nat.le_refl _) _).trans (hb1.mono (by simp))
  have bC := bC.below hb1
  have bA := Box5.new w1 (.int .i64 14) (.string ⟨#[115, 117, 109]⟩) (.int .i64 0) (.int .i64 0) (.slice (some ⟨w.heap.size, 0, none⟩) 1 1) 24
  have hA1 := (Below.refl _ w1).alloc (Nat.le_refl _) (Obj.cells #[Value.int IntKind.i64 14, Value.string { data := #[115, 117, 109] }, Value.int IntKind.i64 0, Value.int IntKind.i64 0, Value.slice (some ⟨w.heap.size, 0, none⟩) 1 1] 24)
  have bC := bC.below hA1
  have hB1 := hB1.trans (hA1.mono hB1.size)
  go_wp2_with fail
  refine sureR2 _ _ w1.heap.size w.heap.size _ _ _ _ (fun _ _ _ _ _ h => h) bA ?_
  intro B2 g1 g2 Wf hWf hB2 bN at1 at2
  have bC := bC.below hWf
  have bA := bA.below hWf
  have hBf := hB1.trans (hWf.mono hB1.size)
  clear hb1 hA1 hB1 hWf
  have hnT := n_at 0 bC at1 at2
  have h3 := Aggs_any 4 (nT 0) (some ⟨g2, 0, none⟩) 2 Wf hnT (by decide) fl_n wid_n
  change Calls Tryz.prog 20 #[Value.agg #[.int .i64 8, .string ⟨#[43]⟩, .int .i64 0, .int .i64 0, .slice (some ⟨g2, 0, none⟩) 2 2]] Wf _ at h3
  have n0 := bN.c0
  have n1 := bN.c1
  have n2 := bN.c2
  have n3 := bN.c3
  have n4 := bN.c4
  go_wp2_with fail
  refine h3.mono ?_
  rintro e w3 ⟨⟨v, A, rfl, hag, hA⟩, hb3⟩
  clear h3 hnT
  have htx : (A.map (·.1)).map (fun x => tx 4 x) = [[115, 117, 109], [99, 111, 117, 110, 116]] := by rw [hA]; exact ag_n
  have hlen : A.length = 2 := by have := congrArg List.length htx; simpa using this
  obtain ⟨av, cv, rfl, hks⟩ := hag.slice (by omega)
  rw [hlen]
  obtain ⟨g, rfl, hcn⟩ : ∃ g, av = some ⟨g, 0, none⟩ ∧ w3.cell? ⟨g, 0 + 1 * 5 + 1, none⟩ = some (.string ⟨#[99, 111, 117, 110, 116]⟩) := by
    obtain ⟨_, h0 | ⟨b, off, e, hc⟩⟩ := hks
    · rw [h0] at htx; cases htx
    · have hown := hag.1
      have hoff : off = 0 := by
        obtain ⟨g, cap, hv, _⟩ := hown.form (by omega)
        rw [e] at hv
        cases hv
        rfl
      have hl1 : 1 < (A.map (·.1)).length := by rw [List.length_map]; omega
      obtain ⟨s, c, ⟨_, c1, _⟩, _⟩ := hc 1 _ (List.getElem?_eq_getElem hl1)
      rw [hoff] at e c1
      refine ⟨b, e, ?_⟩
      rw [c1]
      have : tx 4 (A.map (·.1))[1] = [99, 111, 117, 110, 116] := by
        have h2 := congrArg (fun l => l[1]?) htx
        rw [List.getElem?_map, List.getElem?_eq_getElem hl1] at h2
        exact Option.some.inj h2
      rw [this]
      rfl
  have HS : Hid (Sr w3 w.heap.size w1.heap.size B2 g1 g2 g) := ⟨bC.below hb3, bA.below hb3, bN.below hb3, at1.below hb3, at2.below hb3, hcn⟩
  have hB3 := hBf.trans (hb3.mono hBf.size)
  clear hag hA htx hlen hks hcn bC bA bN at1 at2 hb3 hBf n0 n1 n2 n3 n4
  go_wp2_with fail
  refine (num_any 5 _).mono ?_
  rintro e w4 ⟨rfl, hb4⟩
  have hB4 := hB3.trans (hb4.mono hB3.size)
  have HS : Hid _ := HS.out.below hb4
  go_wp2_with fail
  refine (Form_5 _).mono ?_
  rintro e w5 ⟨rfl, hb5⟩
  have hB5 := hB4.trans (hb5.mono hB4.size)
  have HS : Hid _ := HS.out.below hb5
  go_wp2_with fail
  refine (num_any (-1) _).mono ?_
  rintro e w6 ⟨rfl, hb6⟩
  have hB6 := hB5.trans (hb6.mono hB5.size)
  have HS : Hid _ := HS.out.below hb6
  go_wp2_with fail
  refine (Form_m _).mono ?_
  rintro e w7 ⟨rfl, hb7⟩
  have hB7 := hB6.trans (hb7.mono hB6.size)
  have HS : Hid _ := HS.out.below hb7
  go_wp2_with fail
  refine (Form_sel _ (hR.below hB7)).mono ?_
  rintro e w8 ⟨rfl, hb8⟩
  have hB8 := hB7.trans (hb8.mono hB7.size)
  have HS : Hid _ := HS.out.below hb8
  go_wp2_with fail
  refine (agg_any ⟨#[115, 117, 109]⟩ none 0 0 _).mono ?_
  rintro e w9 ⟨rfl, hb9⟩
  have hB9 := hB8.trans (hb9.mono hB8.size)
  have HS : Hid _ := HS.out.below hb9
  go_wp2_with fail
  refine (Form_sum _).mono ?_
  rintro e w10 ⟨rfl, hb10⟩
  have hB10 := hB9.trans (hb10.mono hB9.size)
  have HS : Hid _ := HS.out.below hb10
  have cc := HS.out.c
  simp only [Nat.zero_add, Nat.one_mul] at cc
  have n0 := HS.out.n.c0
  have n1 := HS.out.n.c1
  have n2 := HS.out.n.c2
  have n3 := HS.out.n.c3
  have n4 := HS.out.n.c4
  have h11 := Size_any 4 (nT 0) (some ⟨g2, 0, none⟩) 2 w10 (n_at 0 HS.out.col HS.out.s1 HS.out.s2) wid_n (by decide) (by rw [siz_n]; decide)
  rw [siz_n] at h11
  change Calls Tryz.prog 10 #[Value.agg #[.int .i64 8, .string ⟨#[43]⟩, .int .i64 0, .int .i64 0, .slice (some ⟨g2, 0, none⟩) 2 2]] w10 _ at h11
  go_wp2_with fail
  refine (h11).mono ?_
  rintro e w11 ⟨rfl, hb11⟩
  have hB11 := hB10.trans (hb11.mono hB10.size)
  have HS : Hid _ := HS.out.below hb11
  have n0 := HS.out.n.c0
  have n1 := HS.out.n.c1
  have n2 := HS.out.n.c2
  have n3 := HS.out.n.c3
  have n4 := HS.out.n.c4
  have h12 := Depth_any 4 (nT 0) (some ⟨g2, 0, none⟩) 2 w11 (n_at 0 HS.out.col HS.out.s1 HS.out.s2) wid_n (by decide) (by rw [siz_n]; decide)
  rw [dep_n] at h12
  change Calls Tryz.prog 12 #[Value.agg #[.int .i64 8, .string ⟨#[43]⟩, .int .i64 0, .int .i64 0, .slice (some ⟨g2, 0, none⟩) 2 2]] w11 _ at h12
  go_wp2_with fail
  refine (h12).mono ?_
  rintro e w12 ⟨rfl, hb12⟩
  have hB12 := hB11.trans (hb12.mono hB11.size)
  have HS : Hid _ := HS.out.below hb12
  have n0 := HS.out.n.c0
  have n1 := HS.out.n.c1
  have n2 := HS.out.n.c2
  have n3 := HS.out.n.c3
  have n4 := HS.out.n.c4
  have h13 := Same_any 4 (nT 0) (nT 0) (some ⟨g2, 0, none⟩) (some ⟨g2, 0, none⟩) 2 2 w12 (n_at 0 HS.out.col HS.out.s1 HS.out.s2) (n_at 0 HS.out.col HS.out.s1 HS.out.s2)
  rw [samP_refl] at h13
  change Calls Tryz.prog 18 #[Value.agg #[.int .i64 8, .string ⟨#[43]⟩, .int .i64 0, .int .i64 0, .slice (some ⟨g2, 0, none⟩) 2 2], Value.agg #[.int .i64 8, .string ⟨#[43]⟩, .int .i64 0, .int .i64 0, .slice (some ⟨g2, 0, none⟩) 2 2]] w12 _ at h13
  go_wp2_with fail
  refine (h13).mono ?_
  rintro e w13 ⟨rfl, hb13⟩
  have hB13 := hB12.trans (hb13.mono hB12.size)
  have HS : Hid _ := HS.out.below hb13
  have n0 := HS.out.n.c0
  have n1 := HS.out.n.c1
  have n2 := HS.out.n.c2
  have n3 := HS.out.n.c3
  have n4 := HS.out.n.c4
  have m0 := HS.out.a.c0
  have m1 := HS.out.a.c1
  have m2 := HS.out.a.c2
  have m3 := HS.out.a.c3
  have m4 := HS.out.a.c4
  have h14 := Same_any 4 (nT 0) (aT 2) (some ⟨g2, 0, none⟩) (some ⟨w.heap.size, 0, none⟩) 2 1 w13 (n_at 0 HS.out.col HS.out.s1 HS.out.s2) (a_at 2 HS.out.col)
  rw [sam_na] at h14
  change Calls Tryz.prog 18 #[Value.agg #[.int .i64 8, .string ⟨#[43]⟩, .int .i64 0, .int .i64 0, .slice (some ⟨g2, 0, none⟩) 2 2], Value.agg #[.int .i64 14, .string ⟨#[115, 117, 109]⟩, .int .i64 0, .int .i64 0, .slice (some ⟨w.heap.size, 0, none⟩) 1 1]] w13 _ at h14
  go_wp2_with fail
  refine (h14).mono ?_
  rintro e w14 ⟨rfl, hb14⟩
  have hB14 := hB13.trans (hb14.mono hB13.size)
  have HS : Hid _ := HS.out.below hb14
  go_wp2
  go_ret
  exact ⟨rfl, hB14⟩
end Go.Proofs.YtcemogaacicnfaaGreatDoor
