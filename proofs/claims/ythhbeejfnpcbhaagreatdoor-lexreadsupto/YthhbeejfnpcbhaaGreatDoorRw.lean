/- The tokens of any source, or where it has none, and why (the walk). -/
import Derived.Test.YthhbeejfnpcbhaaGreatDoorRLx
import Derived.Test.YthhbeejfnpcbhaaGreatDoorBw
namespace Go.Proofs.YthhbeejfnpcbhaaGreatDoor
open Go.ChangeShapes Go.WideShapes Go.ChangeAt Go.RowKit

set_option maxRecDepth 20000 in
set_option maxHeartbeats 4000000 in
theorem lexReads_walk (s : List UInt8) (w : World) (hR : Rdy w) (hl : s.length ≤ 2000000) : Calls Tryz.prog 3 #[.string (bsA s)] w fun e w' => e = .returned (.bool true) ∧ Below w.heap.size w w' := by
  have h1 := Lex_any s w hR (by omega)
  have h2 := fun w => RLex_any s w (by omega)
  have hC := lx_count s 0
  generalize lx s 0 = D at h1 h2 hC
  obtain ⟨r, p, er⟩ := D
  dsimp only at hC
  by_cases he : er = 0
  · subst he
    go_enter Tryz.func3, Tryz.ntmps3
    go_wp2_with fail
    refine h1.mono ?_
    rintro e w1 ⟨hp, hb1⟩
    obtain ⟨a1, cap1, rfl, ht1⟩ := lexPost_ok hp rfl
    dsimp only at ht1 ⊢
    have h2 := h2 w1
    clear h1 hp
    go_wp2_with fail
    refine h2.mono ?_
    rintro e w2 ⟨hp, hb2⟩
    obtain ⟨a2, cap2, rfl, ht2⟩ := lexPost_ok hp rfl
    dsimp only at ht2 ⊢
    have hB2 : Below w.heap.size w w2 := hb1.trans (hb2.mono hb1.size)
    have h3 := same_any a1 a2 cap1 cap2 r r w2 (by omega) (ht1.below hb2) ht2
    rw [decide_eq_true rfl] at h3
    clear h2 hp hb1 hb2 ht1 ht2
    go_wp2_with fail
    refine h3.mono ?_
    rintro e w3 ⟨rfl, hb3⟩
    have hB3 := hB2.trans (hb3.mono hB2.size)
    have h4 := awake_any w3 (hR.below hB3)
    clear h3 hb3 hB2
    go_wp2_with fail
    refine h4.mono ?_
    rintro e w4 ⟨rfl, hb4⟩
    have hB4 := hB3.trans (hb4.mono hB3.size)
    clear h4 hb4 hB3
    go_wp2
    go_ret
    exact ⟨rfl, hB4⟩
  · go_enter Tryz.func3, Tryz.ntmps3
    go_wp2_with fail
    refine h1.mono ?_
    rintro e w1 ⟨hp, hb1⟩
    unfold LexPost at hp
    rw [if_pos he] at hp
    subst hp
    dsimp only
    have h2 := h2 w1
    clear h1
    go_wp2_with fail
    refine h2.mono ?_
    rintro e w2 ⟨hp, hb2⟩
    unfold LexPost at hp
    rw [if_pos he] at hp
    subst hp
    dsimp only
    have hB2 : Below w.heap.size w w2 := hb1.trans (hb2.mono hb1.size)
    have h3 := same_any none none 0 0 [] [] w2 (by simp) (Or.inl rfl) (Or.inl rfl)
    rw [decide_eq_true rfl] at h3
    change Calls Tryz.prog 11 #[.slice none 0 0, .slice none 0 0] _ _ at h3
    clear h2 hb1 hb2
    go_wp2_with fail
    refine h3.mono ?_
    rintro e w3 ⟨rfl, hb3⟩
    have hB3 := hB2.trans (hb3.mono hB2.size)
    have h4 := awake_any w3 (hR.below hB3)
    clear h3 hb3 hB2
    go_wp2_with fail
    refine h4.mono ?_
    rintro e w4 ⟨rfl, hb4⟩
    have hB4 := hB3.trans (hb4.mono hB3.size)
    clear h4 hb4 hB3
    go_wp2
    go_ret
    exact ⟨rfl, hB4⟩
end Go.Proofs.YthhbeejfnpcbhaaGreatDoor
