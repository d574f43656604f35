/- What a function answers for values (Call). -/
import Derived.Test.YtjphmbgennadcaaGreatDoorKin
import Derived.Laws.EntriesVeiled
namespace Go.Proofs.YtjphmbgennadcaaGreatDoor
set_option maxHeartbeats 4000000
set_option linter.unusedSimpArgs false
open Go.ChangeShapes Go.WideShapes Go.ChangeAt Go.RowKit


/-- What a function answers for values, or the error. -/
def calP (s : ByteArray) (r : List Val) : Val × Int :=
  if fdB (fdK s) (ksL r) then (if mayR r then (if !snB ((fdK s).getD 0) && nulB r then (dv, 0) else dsP ((fdK s).getD 0) r) else (dv, 22)) else (dv, 100)
theorem Call_any (s : ByteArray) (a : Option Addr) (cap : Nat) (r : List Val) (w : World) (H : Arg w a cap r) :
    Calls Tryz.prog 13 #[.string s, .slice a r.length cap] w fun e w' => e = .returned (.tuple #[.agg #[.int .i64 (calP s r).1.1, .int .i64 (calP s r).1.2.1, .string (calP s r).1.2.2], .int .i64 (calP s r).2]) ∧ Below w.heap.size w w' := by
  have HA0 : Hid (Below w.heap.size w (w.alloc (.cells #[.int .i64 0, .int .i64 0, .string ⟨#[]⟩] 34))) := (Below.refl _ _).alloc (Nat.le_refl _) _
  have H0 := H.below HA0.out
  have hK := kindsOf_any a cap r (w.alloc (.cells #[.int .i64 0, .int .i64 0, .string ⟨#[]⟩] 34)) (by have := H0.len; omega) H0.row
  have hz0 : w.heap.size < (w.alloc (.cells #[.int .i64 0, .int .i64 0, .string ⟨#[]⟩] 34)).heap.size := by simp
  have y0 : (w.alloc (.cells #[.int .i64 0, .int .i64 0, .string ⟨#[]⟩] 34)).cell? ⟨w.heap.size, 0, none⟩ = some (.int .i64 0) := World.cell?_alloc_new _ _ _ _
  have y1 : (w.alloc (.cells #[.int .i64 0, .int .i64 0, .string ⟨#[]⟩] 34)).cell? ⟨w.heap.size, 1, none⟩ = some (.int .i64 0) := World.cell?_alloc_new _ _ _ _
  have y2 : (w.alloc (.cells #[.int .i64 0, .int .i64 0, .string ⟨#[]⟩] 34)).cell? ⟨w.heap.size, 2, none⟩ = some (.string ⟨#[]⟩) := World.cell?_alloc_new _ _ _ _
  have yf : ∀ i, (w.alloc (.cells #[.int .i64 0, .int .i64 0, .string ⟨#[]⟩] 34)).frozen? ⟨w.heap.size, i, none⟩ = false := fun _ => World.frozen?_alloc_new _ _ _ _
  have hlen := H.len
  have HH : Hid _ := H0
  clear H H0
  obtain ⟨W0, hW0⟩ : ∃ W0 : World, w.alloc (.cells #[.int .i64 0, .int .i64 0, .string ⟨#[]⟩] 34) = W0 := ⟨_, rfl⟩
  rw [hW0] at HA0 HH hK hz0 y0 y1 y2 yf
  have HP : Hid (calP s r = if fdB (fdK s) (ksL r) then (if mayR r then (if !snB ((fdK s).getD 0) && nulB r then (dv, 0) else dsP ((fdK s).getD 0) r) else (dv, 22)) else (dv, 100)) := rfl
  generalize calP s r = R at HP ⊢
  cases hB : fdB (fdK s) (ksL r) with
  | false =>
    have HN : Hid (R = ((0, 0, ⟨#[]⟩), 100)) := by show _ = _; rw [HP.out, hB]; rfl
    have HO : Hid (fdB (fdK s) (ksL r) = false) := hB
    obtain ⟨f0, f1, f2, f3, f4, hv⟩ : ∃ f0 f1 f2 f3 f4, fdV (fdK s) = .agg #[.string f0, f1, .int .i64 f2, f3, .bool f4] ∧ (f1 = .nilFunc ∧ f3 = .nilFunc ∨ ∃ n m, f1 = .func (.func n) #[] #[] ∧ f3 = .func (.func m) #[] #[]) := by
      cases fdK s with
      | none => exact ⟨_, _, _, _, _, rfl, Or.inl ⟨rfl, rfl⟩⟩
      | some k => exact ⟨_, _, _, _, _, rfl, Or.inr ⟨_, _, rfl, rfl⟩⟩
    obtain ⟨hv, hf13⟩ := hv
    rcases hf13 with ⟨rfl, rfl⟩ | ⟨n1, n3, rfl, rfl⟩
    all_goals
      go_enter Tryz.func13, Tryz.ntmps13
      go_wp2_with fail
      refine hK.mono ?_
      rintro e w1 ⟨⟨a1, rfl, hks⟩, hb1⟩
      have hf := find_go s a1 r.length (ksL r) w1 (by rw [ksL_len]; omega) (by rw [ksL_len]; exact Nat.le_refl _) hks
      rw [ksL_len, HO.out, hv] at hf
      clear hks
      go_wp2_with fail
      refine hf.mono ?_
      rintro e w2 ⟨rfl, hb2⟩
      have hb3 : Below W0.heap.size W0 w2 := hb1.trans (hb2.mono hb1.size)
      have hz2 : w.heap.size < w2.heap.size := by have := hb3.size; omega
      obtain ⟨hc2, hf2⟩ := bcell hb3
      have hb4 : Below w.heap.size w w2 := HA0.out.trans (hb3.mono HA0.out.size)
      clear hb1 hb2 hf
      go_wp2
      exact bodyPost_ret (v := .tuple #[.agg #[.int .i64 0, .int .i64 0, .string ⟨#[]⟩], .int .i64 100]) (by simp [results, Tryz.results13, go_sem, hc2, hz2, hz0, y0, y1, y2]) rfl ⟨ret_v HN.out, (Bel.out (by repeat (first | exact Bel.refl _ | assumption | refine Bel.drew ?_ | refine Bel.drewN ?_ _ | refine Bel.alloc ?_ _ | refine Bel.setCell ?_ (by simp <;> omega) _ | refine Bel.step ?_ (by assumption))))⟩
  | true =>
    obtain ⟨k, hk⟩ : ∃ k, fdK s = some k := by
      cases h : fdK s with
      | none => rw [h] at hB; cases hB
      | some k => exact ⟨k, rfl⟩
    have hk18 := fdK_lt hk
    have ht : tkP k (ksL r) = true := by rw [hk] at hB; unfold fdB at hB; simp at hB; exact hB.2
    have HO : Hid (fdB (fdK s) (ksL r) = true) := hB
    have hv : fdV (fdK s) = .agg #[.string (nmA k), .func (.func (tkF k)) #[] #[], .int .i64 (anI k), .func (.func (dsF k)) #[] #[], .bool (snB k)] := by rw [hk]; rfl
    have HP2 : Hid (R = if mayR r then (if !snB k && nulB r then (dv, 0) else dsP k r) else (dv, 22)) := by show _ = _; rw [HP.out, hB, hk]; rfl
    have hE := ent_all k hk18
    unfold Ent at hE
    have hD := fun w h hm => does_all k hk18 a cap r w h ⟨ht, hm⟩
    clear HP hB ht hk hk18
    generalize nmA k = n1 at *
    generalize tkF k = n2 at *
    generalize dsF k = n3 at *
    generalize anI k = n5 at *
    generalize hsn : snB k = n4 at *
    generalize hds : dsP k r = q at *
    obtain ⟨⟨q1, q2, q3⟩, q4⟩ := q
    dsimp only at hD
    clear hsn hds
    cases hm : mayR r with
    | false =>
      have HN : Hid (R = ((0, 0, ⟨#[]⟩), 22)) := by show _ = _; rw [HP2.out, hm]; rfl
      go_enter Tryz.func13, Tryz.ntmps13
      go_wp2_with fail
      refine hK.mono ?_
      rintro e w1 ⟨⟨a1, rfl, hks⟩, hb1⟩
      have hf := find_go s a1 r.length (ksL r) w1 (by rw [ksL_len]; omega) (by rw [ksL_len]; exact Nat.le_refl _) hks
      rw [ksL_len, HO.out, hv] at hf
      clear hks
      go_wp2_with fail
      refine hf.mono ?_
      rintro e w2 ⟨rfl, hb2⟩
      have hb3 : Below W0.heap.size W0 w2 := hb1.trans (hb2.mono hb1.size)
      have hz2 : w.heap.size < w2.heap.size := by have := hb3.size; omega
      obtain ⟨hc2, hf2⟩ := bcell hb3
      have hb4 : Below w.heap.size w w2 := HA0.out.trans (hb3.mono HA0.out.size)
      clear hb1 hb2 hf
      have hA2 : Below W0.heap.size W0 (w2.alloc (.cells #[.string n1, .func (.func n2) #[] #[], .int .i64 n5, .func (.func n3) #[] #[], .bool n4] 49)) := hb3.alloc hb3.size _
      have hM := mayBeR_any a cap r (w2.alloc (.cells #[.string n1, .func (.func n2) #[] #[], .int .i64 n5, .func (.func n3) #[] #[], .bool n4] 49)) (HH.out.below hA2).rdy (by omega) (HH.out.below hA2).row
      rw [hm] at hM
      go_wp2_with fail
      refine hM.mono ?_
      rintro e w3 ⟨rfl, hbm⟩
      obtain ⟨hc3, hf3⟩ := bcell hbm
      have hz3 : w2.heap.size < w3.heap.size := by have := hbm.size; simp at this; omega
      have hA3 : Below W0.heap.size W0 w3 := hA2.trans (hbm.mono hA2.size)
      clear hM
      have x0 := cell_below hA3 y0
      have x1 := cell_below hA3 y1
      have x2 := cell_below hA3 y2
      go_wp2
      exact bodyPost_ret (v := .tuple #[.agg #[.int .i64 0, .int .i64 0, .string ⟨#[]⟩], .int .i64 22]) (by simp [results, Tryz.results13, go_sem, x0, x1, x2]) rfl ⟨ret_v HN.out, (Bel.out (by repeat (first | exact Bel.refl _ | assumption | refine Bel.drew ?_ | refine Bel.drewN ?_ _ | refine Bel.alloc ?_ _ | refine Bel.setCell ?_ (by simp <;> omega) _ | refine Bel.step ?_ (by assumption))))⟩
    | true =>
      replace hD := fun w h => hD w h hm
      have HP3 : Hid (R = if !n4 && nulB r then (dv, 0) else ((q1, q2, q3), q4)) := by show _ = _; rw [HP2.out, hm]; rfl
      clear HP2
      cases n4 with
      | true =>
        have HN : Hid (R = ((q1, q2, q3), q4)) := by show _ = _; rw [HP3.out]; rfl
        go_enter Tryz.func13, Tryz.ntmps13
        go_wp2_with fail
        refine hK.mono ?_
        rintro e w1 ⟨⟨a1, rfl, hks⟩, hb1⟩
        have hf := find_go s a1 r.length (ksL r) w1 (by rw [ksL_len]; omega) (by rw [ksL_len]; exact Nat.le_refl _) hks
        rw [ksL_len, HO.out, hv] at hf
        clear hks
        go_wp2_with fail
        refine hf.mono ?_
        rintro e w2 ⟨rfl, hb2⟩
        have hb3 : Below W0.heap.size W0 w2 := hb1.trans (hb2.mono hb1.size)
        have hz2 : w.heap.size < w2.heap.size := by have := hb3.size; omega
        obtain ⟨hc2, hf2⟩ := bcell hb3
        have hb4 : Below w.heap.size w w2 := HA0.out.trans (hb3.mono HA0.out.size)
        clear hb1 hb2 hf
        have hA2 : Below W0.heap.size W0 (w2.alloc (.cells #[.string n1, .func (.func n2) #[] #[], .int .i64 n5, .func (.func n3) #[] #[], .bool true] 49)) := hb3.alloc hb3.size _
        have hM := mayBeR_any a cap r (w2.alloc (.cells #[.string n1, .func (.func n2) #[] #[], .int .i64 n5, .func (.func n3) #[] #[], .bool true] 49)) (HH.out.below hA2).rdy (by omega) (HH.out.below hA2).row
        rw [hm] at hM
        go_wp2_with fail
        refine hM.mono ?_
        rintro e w3 ⟨rfl, hbm⟩
        obtain ⟨hc3, hf3⟩ := bcell hbm
        have hz3 : w2.heap.size < w3.heap.size := by have := hbm.size; simp at this; omega
        have hA3 : Below W0.heap.size W0 w3 := hA2.trans (hbm.mono hA2.size)
        clear hM
        go_wp2_with fail
        refine (hD _ (HH.out.below hA3)).mono ?_
        rintro e w5 ⟨rfl, hbd⟩
        have hbm5 : Below (w2.alloc (.cells #[.string n1, .func (.func n2) #[] #[], .int .i64 n5, .func (.func n3) #[] #[], .bool true] 49)).heap.size (w2.alloc (.cells #[.string n1, .func (.func n2) #[] #[], .int .i64 n5, .func (.func n3) #[] #[], .bool true] 49)) w5 := hbm.trans (hbd.mono hbm.size)
        clear hc3 hf3
        obtain ⟨hc3, hf3⟩ := bcell hbm5
        have hz5 : w2.heap.size < w5.heap.size := by have := hbd.size; omega
        have hA5 : Below W0.heap.size W0 w5 := hA3.trans (hbd.mono hA3.size)
        have x0 := cell_below hA5 y0
        have x1 := cell_below hA5 y1
        have x2 := cell_below hA5 y2
        go_wp2
        exact bodyPost_ret (v := .tuple #[.agg #[.int .i64 q1, .int .i64 q2, .string q3], .int .i64 q4]) (by simp [results, Tryz.results13, go_sem, x0, x1, x2]) rfl ⟨ret_v HN.out, (Bel.out (by repeat (first | exact Bel.refl _ | assumption | refine Bel.drew ?_ | refine Bel.drewN ?_ _ | refine Bel.alloc ?_ _ | refine Bel.setCell ?_ (by simp <;> omega) _ | refine Bel.step ?_ (by assumption))))⟩
      | false =>
        cases hn : nulB r with
        | true =>
          have HN : Hid (R = ((0, 0, ⟨#[]⟩), 0)) := by show _ = _; rw [HP3.out, hn]; rfl
          go_enter Tryz.func13, Tryz.ntmps13
          go_wp2_with fail
          refine hK.mono ?_
          rintro e w1 ⟨⟨a1, rfl, hks⟩, hb1⟩
          have hf := find_go s a1 r.length (ksL r) w1 (by rw [ksL_len]; omega) (by rw [ksL_len]; exact Nat.le_refl _) hks
          rw [ksL_len, HO.out, hv] at hf
          clear hks
          go_wp2_with fail
          refine hf.mono ?_
          rintro e w2 ⟨rfl, hb2⟩
          have hb3 : Below W0.heap.size W0 w2 := hb1.trans (hb2.mono hb1.size)
          have hz2 : w.heap.size < w2.heap.size := by have := hb3.size; omega
          obtain ⟨hc2, hf2⟩ := bcell hb3
          have hb4 : Below w.heap.size w w2 := HA0.out.trans (hb3.mono HA0.out.size)
          clear hb1 hb2 hf
          have hA2 : Below W0.heap.size W0 (w2.alloc (.cells #[.string n1, .func (.func n2) #[] #[], .int .i64 n5, .func (.func n3) #[] #[], .bool false] 49)) := hb3.alloc hb3.size _
          have hM := mayBeR_any a cap r (w2.alloc (.cells #[.string n1, .func (.func n2) #[] #[], .int .i64 n5, .func (.func n3) #[] #[], .bool false] 49)) (HH.out.below hA2).rdy (by omega) (HH.out.below hA2).row
          rw [hm] at hM
          go_wp2_with fail
          refine hM.mono ?_
          rintro e w3 ⟨rfl, hbm⟩
          obtain ⟨hc3, hf3⟩ := bcell hbm
          have hz3 : w2.heap.size < w3.heap.size := by have := hbm.size; simp at this; omega
          have hA3 : Below W0.heap.size W0 w3 := hA2.trans (hbm.mono hA2.size)
          clear hM
          have hNl := hasNull_any a cap r w3 (by omega) (HH.out.below hA3).row
          rw [hn] at hNl
          go_wp2_with fail
          refine hNl.mono ?_
          rintro e w4 ⟨rfl, hbl⟩
          have hbm2 : Below (w2.alloc (.cells #[.string n1, .func (.func n2) #[] #[], .int .i64 n5, .func (.func n3) #[] #[], .bool false] 49)).heap.size (w2.alloc (.cells #[.string n1, .func (.func n2) #[] #[], .int .i64 n5, .func (.func n3) #[] #[], .bool false] 49)) w4 := hbm.trans (hbl.mono hbm.size)
          have hA4 : Below W0.heap.size W0 w4 := hA3.trans (hbl.mono hA3.size)
          clear hc3 hf3 hNl
          obtain ⟨hc3, hf3⟩ := bcell hbm2
          have hz4 : w2.heap.size < w4.heap.size := by have := hbl.size; omega
          have x0 := cell_below hA4 y0
          have x1 := cell_below hA4 y1
          have x2 := cell_below hA4 y2
          go_wp2
          exact bodyPost_ret (v := .tuple #[.agg #[.int .i64 0, .int .i64 0, .string ⟨#[]⟩], .int .i64 0]) (by simp [results, Tryz.results13, go_sem, x0, x1, x2]) rfl ⟨ret_v HN.out, (Bel.out (by repeat (first | exact Bel.refl _ | assumption | refine Bel.drew ?_ | refine Bel.drewN ?_ _ | refine Bel.alloc ?_ _ | refine Bel.setCell ?_ (by simp <;> omega) _ | refine Bel.step ?_ (by assumption))))⟩
        | false =>
          have HN : Hid (R = ((q1, q2, q3), q4)) := by show _ = _; rw [HP3.out, hn]; rfl
          go_enter Tryz.func13, Tryz.ntmps13
          go_wp2_with fail
          refine hK.mono ?_
          rintro e w1 ⟨⟨a1, rfl, hks⟩, hb1⟩
          have hf := find_go s a1 r.length (ksL r) w1 (by rw [ksL_len]; omega) (by rw [ksL_len]; exact Nat.le_refl _) hks
          rw [ksL_len, HO.out, hv] at hf
          clear hks
          go_wp2_with fail
          refine hf.mono ?_
          rintro e w2 ⟨rfl, hb2⟩
          have hb3 : Below W0.heap.size W0 w2 := hb1.trans (hb2.mono hb1.size)
          have hz2 : w.heap.size < w2.heap.size := by have := hb3.size; omega
          obtain ⟨hc2, hf2⟩ := bcell hb3
          have hb4 : Below w.heap.size w w2 := HA0.out.trans (hb3.mono HA0.out.size)
          clear hb1 hb2 hf
          have hA2 : Below W0.heap.size W0 (w2.alloc (.cells #[.string n1, .func (.func n2) #[] #[], .int .i64 n5, .func (.func n3) #[] #[], .bool false] 49)) := hb3.alloc hb3.size _
          have hM := mayBeR_any a cap r (w2.alloc (.cells #[.string n1, .func (.func n2) #[] #[], .int .i64 n5, .func (.func n3) #[] #[], .bool false] 49)) (HH.out.below hA2).rdy (by omega) (HH.out.below hA2).row
          rw [hm] at hM
          go_wp2_with fail
          refine hM.mono ?_
          rintro e w3 ⟨rfl, hbm⟩
          obtain ⟨hc3, hf3⟩ := bcell hbm
          have hz3 : w2.heap.size < w3.heap.size := by have := hbm.size; simp at this; omega
          have hA3 : Below W0.heap.size W0 w3 := hA2.trans (hbm.mono hA2.size)
          clear hM
          have hNl := hasNull_any a cap r w3 (by omega) (HH.out.below hA3).row
          rw [hn] at hNl
          go_wp2_with fail
          refine hNl.mono ?_
          rintro e w4 ⟨rfl, hbl⟩
          have hbm2 : Below (w2.alloc (.cells #[.string n1, .func (.func n2) #[] #[], .int .i64 n5, .func (.func n3) #[] #[], .bool false] 49)).heap.size (w2.alloc (.cells #[.string n1, .func (.func n2) #[] #[], .int .i64 n5, .func (.func n3) #[] #[], .bool false] 49)) w4 := hbm.trans (hbl.mono hbm.size)
          have hA4 : Below W0.heap.size W0 w4 := hA3.trans (hbl.mono hA3.size)
          clear hc3 hf3 hNl
          obtain ⟨hc3, hf3⟩ := bcell hbm2
          have hz4 : w2.heap.size < w4.heap.size := by have := hbl.size; omega
          go_wp2_with fail
          refine (hD _ (HH.out.below hA4)).mono ?_
          rintro e w5 ⟨rfl, hbd⟩
          have hbm5 : Below (w2.alloc (.cells #[.string n1, .func (.func n2) #[] #[], .int .i64 n5, .func (.func n3) #[] #[], .bool false] 49)).heap.size (w2.alloc (.cells #[.string n1, .func (.func n2) #[] #[], .int .i64 n5, .func (.func n3) #[] #[], .bool false] 49)) w5 := hbm2.trans (hbd.mono hbm2.size)
          clear hc3 hf3
          obtain ⟨hc3, hf3⟩ := bcell hbm5
          have hz5 : w2.heap.size < w5.heap.size := by have := hbd.size; omega
          have hA5 : Below W0.heap.size W0 w5 := hA4.trans (hbd.mono hA4.size)
          have x0 := cell_below hA5 y0
          have x1 := cell_below hA5 y1
          have x2 := cell_below hA5 y2
          go_wp2
          exact bodyPost_ret (v := .tuple #[.agg #[.int .i64 q1, .int .i64 q2, .string q3], .int .i64 q4]) (by simp [results, Tryz.results13, go_sem, x0, x1, x2]) rfl ⟨ret_v HN.out, (Bel.out (by repeat (first | exact Bel.refl _ | assumption | refine Bel.drew ?_ | refine Bel.drewN ?_ _ | refine Bel.alloc ?_ _ | refine Bel.setCell ?_ (by simp <;> omega) _ | refine Bel.step ?_ (by assumption))))⟩
end Go.Proofs.YtjphmbgennadcaaGreatDoor
