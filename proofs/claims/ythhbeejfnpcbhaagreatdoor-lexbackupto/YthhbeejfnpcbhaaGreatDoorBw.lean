/- What is shown of tokens that were read is read as they were (the walk). -/
import Derived.Test.YthhbeejfnpcbhaaGreatDoorLm
import Derived.Test.YthhbeejfnpcbhaaGreatDoorAwk
import Derived.Test.YthhbeejfnpcbhaaGreatDoorBar
namespace Go.Proofs.YthhbeejfnpcbhaaGreatDoor
open Go.ChangeShapes Go.WideShapes Go.ChangeAt Go.RowKit

theorem lexPost_ok {base : Nat} {q : List Tt × Int × Int} {e : Ending} {w : World} (h : LexPost base q e w) (hq : q.2.2 = 0) : ∃ a cap, e = .returned (.tuple #[.slice a q.1.length cap, .int .i64 0, .int .i64 0]) ∧ TksAt w a q.1 := by
  unfold LexPost at h
  rw [if_neg (by simp [hq])] at h
  obtain ⟨a, cap, h1, h2, _, _⟩ := h
  exact ⟨a, cap, h1, h2⟩
theorem lexPost_cap {base : Nat} {q : List Tt × Int × Int} {e : Ending} {w : World} (h : LexPost base q e w) (hq : q.2.2 = 0) : ∃ a cap, e = .returned (.tuple #[.slice a q.1.length cap, .int .i64 0, .int .i64 0]) ∧ TksAt w a q.1 ∧ q.1.length ≤ cap := by
  unfold LexPost at h
  rw [if_neg (by simp [hq])] at h
  obtain ⟨a, cap, h1, h2, _, h3⟩ := h
  exact ⟨a, cap, h1, h2, h3⟩
set_option maxRecDepth 20000 in
set_option maxHeartbeats 4000000 in
theorem lexBack_walk (s : List UInt8) (w : World) (hR : Rdy w) (hl : s.length ≤ 2000000) : Calls Tryz.prog 5 #[.string (bsA s)] w fun e w' => e = .returned (.bool true) ∧ Below w.heap.size w w' := by
  have h1 := Lex_any s w hR (by omega)
  have hE := lx_err_nil s 0
  have hS := lx_show s 0
  have hC := lx_count s 0
  have hW := shw_lx s 0
  have hG := lx_gd s 0
  generalize lx s 0 = D at h1 hE hS hC hW hG
  by_cases he : D.2.2 = 0
  · have hS' := hS he
    have hW' := hW he
    have hjs := lx_js (bar D.1) 0 (hG he)
    obtain ⟨r, p, er⟩ := D
    dsimp only at *
    subst he
    have hN : ∀ t ∈ r, -9223372036854775808 ≤ t.1.2.2 ∧ t.1.2.2 ≤ 9223372036854775807 ∧ t.1.2.1.length ≤ 10000000 ∧ (shP t.1).length ≤ 10000000 := fun t ht => by
      have h := hS'.2 t ht
      have h2 := shP_len h.1 h.2.1
      exact ⟨by omega, h.2.1, by omega, by omega⟩
    have hlen2 := hS'.1
    have hbz : Hid (bz (lx (js (bar r)) 0).1 = bz r) := by show _ = _; rw [bz_bar, bz_bar, hjs.2]
    have hC2 := lx_count (js (bar r)) 0
    clear hS hW hG hE hS'
    go_enter Tryz.func5, Tryz.ntmps5
    go_wp2_with fail
    refine h1.mono ?_
    rintro e w1 ⟨hp, hb1⟩
    obtain ⟨a1, cap1, rfl, ht1⟩ := lexPost_ok hp rfl
    dsimp only at ht1 ⊢
    have hR1 := hR.below hb1
    have h2 := Show_any a1 cap1 r w1 hR1 (by omega) hN ht1
    rw [hW'] at h2
    clear h1 hp hN
    go_wp2_with fail
    refine h2.mono ?_
    rintro e w2 ⟨rfl, hb2⟩
    have hR2 := hR1.below hb2
    have ht2 := ht1.below hb2
    have hB2 : Below w.heap.size w w2 := hb1.trans (hb2.mono hb1.size)
    have h3 := Lex_any (js (bar r)) w2 hR2 (by omega)
    generalize lx (js (bar r)) 0 = D2 at h3 hjs hbz hC2
    obtain ⟨r2, p2, er2⟩ := D2
    dsimp only at h3 hjs hbz hC2
    obtain ⟨rfl, _⟩ := hjs
    clear h2 hb1 hb2 hR1 ht1 hW'
    go_wp2_with fail
    refine h3.mono ?_
    rintro e w3 ⟨hp, hb3⟩
    obtain ⟨a3, cap3, rfl, ht3⟩ := lexPost_ok hp rfl
    dsimp only at ht3 ⊢
    have hR3 := hR2.below hb3
    have hr3 := ht2.below hb3
    have hB3 := hB2.trans (hb3.mono hB2.size)
    have h4 := bare_any a3 cap3 r2 w3 (by omega) ht3
    clear h3 hp hb3 hR2 ht2 hB2
    go_wp2_with fail
    refine h4.mono ?_
    rintro e w4 ⟨⟨a4, cap4, rfl, ht4⟩, hb4⟩
    have hR4 := hR3.below hb4
    have hr4 := hr3.below hb4
    have hB4 := hB3.trans (hb4.mono hB3.size)
    have h5 := bare_any a1 cap1 r w4 (by omega) hr4
    clear h4 hb4 hR3 hr3 hB3 ht3
    go_wp2_with fail
    refine h5.mono ?_
    rintro e w5 ⟨⟨a5, cap5, rfl, ht5⟩, hb5⟩
    have hR5 := hR4.below hb5
    have hr5 := ht4.below hb5
    have hB5 := hB4.trans (hb5.mono hB4.size)
    have h6 := same_any a4 a5 cap4 cap5 (bz r2) (bz r) w5 (by rw [bz_len]; omega) hr5 ht5
    rw [decide_eq_true hbz.out] at h6
    clear h5 hb5 hR4 hr4 hB4 ht4 ht5 hr5
    go_wp2_with fail
    refine h6.mono ?_
    rintro e w6 ⟨rfl, hb6⟩
    have hR6 := hR5.below hb6
    have hB6 := hB5.trans (hb6.mono hB5.size)
    have h7 := awake_any w6 hR6
    clear h6 hb6 hR5 hB5
    go_wp2_with fail
    refine h7.mono ?_
    rintro e w7 ⟨rfl, hb7⟩
    have hB7 := hB6.trans (hb7.mono hB6.size)
    clear h7 hb7 hR6 hB6
    go_wp2
    go_ret
    exact ⟨rfl, hB7⟩
  · have hE' := hE he
    obtain ⟨r, p, er⟩ := D
    dsimp only at he hE'
    subst hE'
    clear hS hW hG hE hC
    have he' : (er != 0) = true := by simpa using he
    go_enter Tryz.func5, Tryz.ntmps5
    go_wp2_with fail
    refine h1.mono ?_
    rintro e w1 ⟨hp, hb1⟩
    unfold LexPost at hp
    rw [if_pos he] at hp
    subst hp
    have h2 := awake_any w1 (hR.below hb1)
    clear h1
    go_wp2_with fail
    refine h2.mono ?_
    rintro e w2 ⟨rfl, hb2⟩
    have hB := hb1.trans (hb2.mono hb1.size)
    clear h2 hb1 hb2
    go_wp2
    go_ret
    exact ⟨rfl, hB⟩
end Go.Proofs.YthhbeejfnpcbhaaGreatDoor
