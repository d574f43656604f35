/- Some of the chapter's examples (awake). -/
import Derived.Test.YthhbeejfnpcbhaaGreatDoorWds
namespace Go.Proofs.YthhbeejfnpcbhaaGreatDoor
open Go.ChangeShapes Go.WideShapes Go.ChangeAt Go.RowKit

def awT : List Tt := [((2, [115, 101, 108, 101, 99, 116], 0), 0), ((1, [97, 49], 0), 7), ((6, [62, 61], 0), 10), ((7, [], 10000), 13)]
theorem aw1 : lx [83, 69, 76, 69, 67, 84, 32, 97, 49, 32, 62, 61, 32, 49, 48, 115] 0 = (awT, 0, 0) := by decide +kernel
theorem aw2 : lx [39, 97] 0 = ([], 0, 52) := by decide +kernel
theorem gd_ok {t : Tk} (h : Gd t) : okP t = true := by
  unfold okP sayP
  rw [lx_one h 0]
  simp
theorem dec10k : Lib.decDigits 10000 = [49, 48, 48, 48, 48] := by
  rw [Lib.decDigits, dif_neg (by omega), Lib.decDigits, dif_neg (by omega), Lib.decDigits, dif_neg (by omega), Lib.decDigits, dif_neg (by omega), Lib.decDigits, dif_pos (by omega)]
  rfl
theorem aw3 : shwP (bar awT) = [115, 101, 108, 101, 99, 116, 32, 97, 49, 32, 62, 61, 32, 49, 48, 48, 48, 48, 109, 115] := by
  have h1 := gd_ok (gd_wrd [115, 101, 108, 101, 99, 116] (by decide))
  have h2 := gd_ok (gd_nam [97, 49] (by decide) (by decide) (by decide) (by decide +kernel))
  have h3 := gd_ok (gd_sgn [62, 61] (by decide))
  have h4 := gd_ok (gd_per 10000 (by omega))
  have e : bar awT = [(2, [115, 101, 108, 101, 99, 116], 0), (1, [97, 49], 0), (6, [62, 61], 0), (7, [], ((10000 : Nat) : Int))] := rfl
  rw [e]
  unfold shwP
  rw [if_pos (by simp only [List.all_cons, List.all_nil, h1, h2, h3, h4]; rfl)]
  have e7 : shP (7, [], ((10000 : Nat) : Int)) = [49, 48, 48, 48, 48, 109, 115] := by
    unfold shP
    simp only [itoa_nat, dec10k]
    rfl
  simp only [js, e7]
  rfl
theorem awR : ∀ t ∈ awT, -9223372036854775808 ≤ t.1.2.2 ∧ t.1.2.2 ≤ 9223372036854775807 ∧ t.1.2.1.length ≤ 10000000 ∧ (shP t.1).length ≤ 10000000 := by
  intro t ht
  simp only [awT, List.mem_cons, List.not_mem_nil, or_false] at ht
  rcases ht with rfl | rfl | rfl | rfl
  · refine ⟨by decide, by decide, by decide, by decide⟩
  · refine ⟨by decide, by decide, by decide, by decide⟩
  · refine ⟨by decide, by decide, by decide, by decide⟩
  · refine ⟨by decide, by decide, by decide, ?_⟩
    have e7 : shP (7, [], ((10000 : Nat) : Int)) = [49, 48, 48, 48, 48, 109, 115] := by
      unfold shP
      simp only [itoa_nat, dec10k]
      rfl
    show (shP (7, [], ((10000 : Nat) : Int))).length ≤ _
    rw [e7]; decide
set_option maxRecDepth 20000 in
set_option maxHeartbeats 4000000 in
theorem awake_any (w : World) (hR : Rdy w) : Calls Tryz.prog 12 #[] w fun e w' => e = .returned (.bool true) ∧ Below w.heap.size w w' := by
  have h1 := Lex_any [83, 69, 76, 69, 67, 84, 32, 97, 49, 32, 62, 61, 32, 49, 48, 115] w hR (by decide)
  rw [aw1] at h1
  have h2 := fun W (h : Rdy W) => Lex_any [39, 97] W h (by decide)
  rw [aw2] at h2
  change Calls Tryz.prog 9 #[.string ⟨#[83, 69, 76, 69, 67, 84, 32, 97, 49, 32, 62, 61, 32, 49, 48, 115]⟩] w _ at h1
  have h2' : ∀ W, Rdy W → Calls Tryz.prog 9 #[.string ⟨#[39, 97]⟩] W fun e w' => e = .returned (.tuple #[.slice none 0 0, .int .i64 0, .int .i64 52]) ∧ Below W.heap.size W w' := fun W h => (h2 W h).mono fun e w' hh => ⟨hh.1, hh.2⟩
  go_enter Tryz.func12, Tryz.ntmps12
  go_wp2_with fail
  refine h1.mono ?_
  rintro e w1 ⟨hp, hb1⟩
  obtain ⟨a1, cap1, rfl, hta, _, _⟩ := hp
  have hR1 := hR.below hb1
  have h3 := h2' w1 hR1
  clear h1 h2 h2'
  go_wp2_with fail
  refine h3.mono ?_
  rintro e w2 ⟨rfl, hb2⟩
  have hR2 := hR1.below hb2
  have hta2 := hta.below hb2
  clear h3 hta
  have hB2 : Below w.heap.size w w2 := hb1.trans (hb2.mono hb1.size)
  have htn : TksAt (w2.alloc (.cells (rtC awT).toArray 37)) (some ⟨w2.heap.size, 0, none⟩) awT := Or.inr ⟨_, _, rfl, fun i t hi => by
    obtain ⟨g0, g1, g2, g3⟩ := rtC_at awT i t hi
    exact ⟨cell_new w2 _ 37 _ _ g0, cell_new w2 _ 37 _ _ g1, cell_new w2 _ 37 _ _ g2, cell_new w2 _ 37 _ _ g3⟩⟩
  have h4 := same_any a1 (some ⟨w2.heap.size, 0, none⟩) cap1 4 awT awT (w2.alloc (.cells (rtC awT).toArray 37)) (by decide) (hta2.alloc _) htn
  rw [decide_eq_true rfl] at h4
  clear htn hb1 hb2 hR1
  go_wp2_with fail
  refine h4.mono ?_
  rintro e w3 ⟨rfl, hb3⟩
  have hB23 : Below w2.heap.size w2 w3 := ((Below.refl _ _).alloc (Nat.le_refl _) _).trans (hb3.mono (by rw [World.size_alloc]; omega))
  have hR3 := hR2.below hB23
  have hta3 := hta2.below hB23
  have hB3 := hB2.trans (hB23.mono hB2.size)
  have h5 := Show_any a1 cap1 awT w3 hR3 (by decide) awR hta3
  rw [aw3] at h5
  clear h4 hta2 hb3 hB23 hB2 hR2 hta3
  go_wp2_with fail
  refine h5.mono ?_
  rintro e w4 ⟨rfl, hb4⟩
  have hR4 := hR3.below hb4
  have hB4 := hB3.trans (hb4.mono hB3.size)
  have h6 := Words_any w4 hR4
  have htl := bsA_tl [115, 101, 108, 101, 99, 116, 32, 97, 49, 32, 62, 61, 32, 49, 48, 48, 48, 48, 109, 115]
  clear h5 hb4 hB3 hR3
  go_wp2_with fail
  refine h6.mono ?_
  rintro e w5 ⟨⟨a5, cap5, rfl, _⟩, hb5⟩
  have hB5 := hB4.trans (hb5.mono hB4.size)
  clear h6 hb5 hB4 hR4
  go_wp2_with fail
  refine (RWords_any w5).mono ?_
  rintro e w6 ⟨⟨a6, cap6, rfl, _⟩, hb6⟩
  have hB6 := hB5.trans (hb6.mono hB5.size)
  clear hb6 hB5
  go_wp2
  go_ret
  exact ⟨rfl, hB6⟩
end Go.Proofs.YthhbeejfnpcbhaaGreatDoor
