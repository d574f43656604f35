/- Blanks and notes around a source change nothing but the places (the walk). -/
import Derived.Test.YthhbeejfnpcbhaaGreatDoorBw
import Derived.Test.YthhbeejfnpcbhaaGreatDoorNt
namespace Go.Proofs.YthhbeejfnpcbhaaGreatDoor
open Go.ChangeShapes Go.WideShapes Go.ChangeAt Go.RowKit

theorem five (n : Int) : (∃ i : Nat, i < 5 ∧ Int.tmod (Int.tmod n 5 + 5) 5 = i) ∧ -5 < Int.tmod n 5 ∧ Int.tmod n 5 < 5 := by
  have h1 : -5 < Int.tmod n 5 := Int.lt_tmod_of_pos n (by omega)
  have h2 : Int.tmod n 5 < 5 := Int.tmod_lt_of_pos n (by omega)
  refine ⟨?_, h1, h2⟩
  generalize Int.tmod n 5 = m at h1 h2
  refine ⟨(Int.tmod (m + 5) 5).toNat, ?_, ?_⟩
  · have := Int.tmod_lt_of_pos (m + 5) (b := 5) (by omega)
    omega
  · have := Int.tmod_nonneg 5 (show 0 ≤ m + 5 by omega)
    omega
def notes_goal (s : List UInt8) (n : Int) (w : World) : Prop := Calls Tryz.prog 7 #[.string (bsA s), .int .i64 n] w fun e w' => e = .returned (.bool true) ∧ Below w.heap.size w w'
set_option maxRecDepth 20000 in
set_option maxHeartbeats 4000000 in
theorem notes_0 (s : List UInt8) (n : Int) (w : World) (hR : Rdy w) (hl : s.length ≤ 2000000) (hm : (Int.tmod n 5 + 5).tmod 5 = 0) (hw : wrap64 (Int.tmod n 5 + 5) = Int.tmod n 5 + 5) : notes_goal s n w := by
  obtain ⟨b, hb⟩ : ∃ b : List UInt8, b = [32] := ⟨_, rfl⟩
  have hbm : b ∈ ntL := by rw [hb]; decide
  have hbl : b.length ≤ 10 := by rw [hb]; decide
  have e1 : (⟨#[32]⟩ : ByteArray) ++ bsA s = bsA (b ++ s) := by rw [hb]; exact app_bsA [32] s
  have e2 : bsA (b ++ s) ++ (⟨#[10]⟩ : ByteArray) = bsA (b ++ (s ++ [10])) := by rw [← List.append_assoc]; exact app_bsA (b ++ s) [10]
  have e3 : bsA (b ++ (s ++ [10])) ++ (⟨#[32]⟩ : ByteArray) = bsA (b ++ (s ++ 10 :: b)) := by
    rw [show b ++ (s ++ 10 :: b) = (b ++ (s ++ [10])) ++ b from by simp]
    have := app_bsA (b ++ (s ++ [10])) b
    rw [← this, hb]
    rfl
  have hz := bsA_size s
  have hz1 : (bsA (b ++ s)).size = b.length + s.length := by rw [bsA_size, List.length_append]
  have hz2 : (bsA (b ++ (s ++ [10]))).size = b.length + s.length + 1 := by rw [bsA_size]; simp; omega
  have hl3 : (b ++ (s ++ 10 :: b)).length ≤ 2000100 := by simp; omega
  have h1 := Lex_any s (w.alloc (.cells (stC ntL).toArray 9)) (hR.alloc _) (by omega)
  have hN := fun h => lx_note hbm s 0 0 h
  have hC := lx_count s 0
  have hC2 := lx_count (b ++ (s ++ 10 :: b)) 0
  have h2 := fun W (h : Rdy W) => Lex_any (b ++ (s ++ 10 :: b)) W h (by omega)
  have hE2 := lx_err_nil (b ++ (s ++ 10 :: b)) 0
  have hE := lx_err_nil s 0
  generalize lx s 0 = D at h1 hN hC hE
  generalize lx (b ++ (s ++ 10 :: b)) 0 = D2 at h2 hN hC2 hE2
  generalize b ++ (s ++ 10 :: b) = src at *
  clear hb hbm
  unfold notes_goal
  have hB0 : Below w.heap.size w (w.alloc (.cells (stC ntL).toArray 9)) := (Below.refl _ _).alloc (Nat.le_refl _) _
  have HN : Hid _ := hN
  have HE : Hid _ := hE
  have HE2 : Hid _ := hE2
  clear hN hE hE2
  obtain ⟨r, p, er⟩ := D
  obtain ⟨r2, p2, er2⟩ := D2
  dsimp only at h1 h2 hC hC2
  by_cases he : er = 0
  · obtain ⟨he2, hbr⟩ := HN.out he
    dsimp only at he2 hbr
    subst he he2
    have hbz : Hid (bz r2 = bz r) := by show _ = _; rw [bz_bar, bz_bar, hbr]
    clear HN HE HE2 hbr
    go_enter Tryz.func7, Tryz.ntmps7
    go_wp2_with fail
    refine h1.mono ?_
    rintro e w1 ⟨hp, hb1⟩
    obtain ⟨a1, cap1, rfl, ht1⟩ := lexPost_ok hp rfl
    dsimp only at ht1 ⊢
    have hB1 : Below w.heap.size w w1 := hB0.trans (hb1.mono hB0.size)
    have hR1 := hR.below hB1
    have h3 := h2 w1 hR1
    clear h1 h2 hp hb1 hB0
    go_wp2_with fail
    refine h3.mono ?_
    rintro e w3 ⟨hp, hb3⟩
    obtain ⟨a3, cap3, rfl, ht3⟩ := lexPost_ok hp rfl
    dsimp only at ht3 ⊢
    have hR3 := hR1.below hb3
    have hr3 := ht1.below hb3
    have hB3 := hB1.trans (hb3.mono hB1.size)
    have h4 := bare_any a3 cap3 r2 w3 (by omega) ht3
    clear h3 hp hb3 hR1 ht1 hB1
    go_wp2_with fail
    refine h4.mono ?_
    rintro e w4 ⟨⟨a4, cap4, rfl, ht4⟩, hb4⟩
    have hR4 := hR3.below hb4
    have hr4 := hr3.below hb4
    have hB4 := hB3.trans (hb4.mono hB3.size)
    have h5 := bare_any a1 cap1 r w4 (by omega) hr4
    clear h4 hb4 hR3 hr3 hB3 ht3
    go_wp2_with fail
    refine h5.mono ?_
    rintro e w5 ⟨⟨a5, cap5, rfl, ht5⟩, hb5⟩
    have hR5 := hR4.below hb5
    have hr5 := ht4.below hb5
    have hB5 := hB4.trans (hb5.mono hB4.size)
    have h6 := same_any a4 a5 cap4 cap5 (bz r2) (bz r) w5 (by rw [bz_len]; omega) hr5 ht5
    rw [decide_eq_true hbz.out] at h6
    clear h5 hb5 hR4 hr4 hB4 ht4 ht5 hr5
    go_wp2_with fail
    refine h6.mono ?_
    rintro e w6 ⟨rfl, hb6⟩
    have hR6 := hR5.below hb6
    have hB6 := hB5.trans (hb6.mono hB5.size)
    have h7 := awake_any w6 hR6
    clear h6 hb6 hR5 hB5
    go_wp2_with fail
    refine h7.mono ?_
    rintro e w7 ⟨rfl, hb7⟩
    have hB7 := hB6.trans (hb7.mono hB6.size)
    clear h7 hb7 hR6 hB6
    go_wp2
    go_ret
    exact ⟨rfl, hB7⟩
  · have he' : (er != 0) = true := by simpa using he
    have hs2 : ∀ e W, LexPost W.heap.size (r2, p2, er2) e W → True := fun _ _ _ => trivial
    clear hs2
    go_enter Tryz.func7, Tryz.ntmps7
    go_wp2_with fail
    refine h1.mono ?_
    rintro e w1 ⟨hp, hb1⟩
    unfold LexPost at hp
    rw [if_pos he] at hp
    subst hp
    have hB1 : Below w.heap.size w w1 := hB0.trans (hb1.mono hB0.size)
    have hR1 := hR.below hB1
    have h3 := h2 w1 hR1
    clear h1 h2 hb1 hB0
    go_wp2_with fail
    refine h3.mono ?_
    rintro e w3 ⟨hp, hb3⟩
    have hv : ∃ v1 v2 v3, e = .returned (.tuple #[v1, v2, v3]) := by
      unfold LexPost at hp
      split at hp
      · exact ⟨_, _, _, hp⟩
      · obtain ⟨a, cap, h, _⟩ := hp
        exact ⟨_, _, _, h⟩
    obtain ⟨v1, v2, v3, rfl⟩ := hv
    have hB3 := hB1.trans (hb3.mono hB1.size)
    have h4 := awake_any w3 (hR1.below hb3)
    clear h3 hp hb3 hB1 hR1
    go_wp2_with fail
    refine h4.mono ?_
    rintro e w4 ⟨rfl, hb4⟩
    have hB := hB3.trans (hb4.mono hB3.size)
    clear h4 hb4 hB3
    go_wp2
    go_ret
    exact ⟨rfl, hB⟩
set_option maxRecDepth 20000 in
set_option maxHeartbeats 4000000 in
theorem notes_1 (s : List UInt8) (n : Int) (w : World) (hR : Rdy w) (hl : s.length ≤ 2000000) (hm : (Int.tmod n 5 + 5).tmod 5 = 1) (hw : wrap64 (Int.tmod n 5 + 5) = Int.tmod n 5 + 5) : notes_goal s n w := by
  obtain ⟨b, hb⟩ : ∃ b : List UInt8, b = [10] := ⟨_, rfl⟩
  have hbm : b ∈ ntL := by rw [hb]; decide
  have hbl : b.length ≤ 10 := by rw [hb]; decide
  have e1 : (⟨#[10]⟩ : ByteArray) ++ bsA s = bsA (b ++ s) := by rw [hb]; exact app_bsA [10] s
  have e2 : bsA (b ++ s) ++ (⟨#[10]⟩ : ByteArray) = bsA (b ++ (s ++ [10])) := by rw [← List.append_assoc]; exact app_bsA (b ++ s) [10]
  have e3 : bsA (b ++ (s ++ [10])) ++ (⟨#[10]⟩ : ByteArray) = bsA (b ++ (s ++ 10 :: b)) := by
    rw [show b ++ (s ++ 10 :: b) = (b ++ (s ++ [10])) ++ b from by simp]
    have := app_bsA (b ++ (s ++ [10])) b
    rw [← this, hb]
    rfl
  have hz := bsA_size s
  have hz1 : (bsA (b ++ s)).size = b.length + s.length := by rw [bsA_size, List.length_append]
  have hz2 : (bsA (b ++ (s ++ [10]))).size = b.length + s.length + 1 := by rw [bsA_size]; simp; omega
  have hl3 : (b ++ (s ++ 10 :: b)).length ≤ 2000100 := by simp; omega
  have h1 := Lex_any s (w.alloc (.cells (stC ntL).toArray 9)) (hR.alloc _) (by omega)
  have hN := fun h => lx_note hbm s 0 0 h
  have hC := lx_count s 0
  have hC2 := lx_count (b ++ (s ++ 10 :: b)) 0
  have h2 := fun W (h : Rdy W) => Lex_any (b ++ (s ++ 10 :: b)) W h (by omega)
  have hE2 := lx_err_nil (b ++ (s ++ 10 :: b)) 0
  have hE := lx_err_nil s 0
  generalize lx s 0 = D at h1 hN hC hE
  generalize lx (b ++ (s ++ 10 :: b)) 0 = D2 at h2 hN hC2 hE2
  generalize b ++ (s ++ 10 :: b) = src at *
  clear hb hbm
  unfold notes_goal
  have hB0 : Below w.heap.size w (w.alloc (.cells (stC ntL).toArray 9)) := (Below.refl _ _).alloc (Nat.le_refl _) _
  have HN : Hid _ := hN
  have HE : Hid _ := hE
  have HE2 : Hid _ := hE2
  clear hN hE hE2
  obtain ⟨r, p, er⟩ := D
  obtain ⟨r2, p2, er2⟩ := D2
  dsimp only at h1 h2 hC hC2
  by_cases he : er = 0
  · obtain ⟨he2, hbr⟩ := HN.out he
    dsimp only at he2 hbr
    subst he he2
    have hbz : Hid (bz r2 = bz r) := by show _ = _; rw [bz_bar, bz_bar, hbr]
    clear HN HE HE2 hbr
    go_enter Tryz.func7, Tryz.ntmps7
    go_wp2_with fail
    refine h1.mono ?_
    rintro e w1 ⟨hp, hb1⟩
    obtain ⟨a1, cap1, rfl, ht1⟩ := lexPost_ok hp rfl
    dsimp only at ht1 ⊢
    have hB1 : Below w.heap.size w w1 := hB0.trans (hb1.mono hB0.size)
    have hR1 := hR.below hB1
    have h3 := h2 w1 hR1
    clear h1 h2 hp hb1 hB0
    go_wp2_with fail
    refine h3.mono ?_
    rintro e w3 ⟨hp, hb3⟩
    obtain ⟨a3, cap3, rfl, ht3⟩ := lexPost_ok hp rfl
    dsimp only at ht3 ⊢
    have hR3 := hR1.below hb3
    have hr3 := ht1.below hb3
    have hB3 := hB1.trans (hb3.mono hB1.size)
    have h4 := bare_any a3 cap3 r2 w3 (by omega) ht3
    clear h3 hp hb3 hR1 ht1 hB1
    go_wp2_with fail
    refine h4.mono ?_
    rintro e w4 ⟨⟨a4, cap4, rfl, ht4⟩, hb4⟩
    have hR4 := hR3.below hb4
    have hr4 := hr3.below hb4
    have hB4 := hB3.trans (hb4.mono hB3.size)
    have h5 := bare_any a1 cap1 r w4 (by omega) hr4
    clear h4 hb4 hR3 hr3 hB3 ht3
    go_wp2_with fail
    refine h5.mono ?_
    rintro e w5 ⟨⟨a5, cap5, rfl, ht5⟩, hb5⟩
    have hR5 := hR4.below hb5
    have hr5 := ht4.below hb5
    have hB5 := hB4.trans (hb5.mono hB4.size)
    have h6 := same_any a4 a5 cap4 cap5 (bz r2) (bz r) w5 (by rw [bz_len]; omega) hr5 ht5
    rw [decide_eq_true hbz.out] at h6
    clear h5 hb5 hR4 hr4 hB4 ht4 ht5 hr5
    go_wp2_with fail
    refine h6.mono ?_
    rintro e w6 ⟨rfl, hb6⟩
    have hR6 := hR5.below hb6
    have hB6 := hB5.trans (hb6.mono hB5.size)
    have h7 := awake_any w6 hR6
    clear h6 hb6 hR5 hB5
    go_wp2_with fail
    refine h7.mono ?_
    rintro e w7 ⟨rfl, hb7⟩
    have hB7 := hB6.trans (hb7.mono hB6.size)
    clear h7 hb7 hR6 hB6
    go_wp2
    go_ret
    exact ⟨rfl, hB7⟩
  · have he' : (er != 0) = true := by simpa using he
    have hs2 : ∀ e W, LexPost W.heap.size (r2, p2, er2) e W → True := fun _ _ _ => trivial
    clear hs2
    go_enter Tryz.func7, Tryz.ntmps7
    go_wp2_with fail
    refine h1.mono ?_
    rintro e w1 ⟨hp, hb1⟩
    unfold LexPost at hp
    rw [if_pos he] at hp
    subst hp
    have hB1 : Below w.heap.size w w1 := hB0.trans (hb1.mono hB0.size)
    have hR1 := hR.below hB1
    have h3 := h2 w1 hR1
    clear h1 h2 hb1 hB0
    go_wp2_with fail
    refine h3.mono ?_
    rintro e w3 ⟨hp, hb3⟩
    have hv : ∃ v1 v2 v3, e = .returned (.tuple #[v1, v2, v3]) := by
      unfold LexPost at hp
      split at hp
      · exact ⟨_, _, _, hp⟩
      · obtain ⟨a, cap, h, _⟩ := hp
        exact ⟨_, _, _, h⟩
    obtain ⟨v1, v2, v3, rfl⟩ := hv
    have hB3 := hB1.trans (hb3.mono hB1.size)
    have h4 := awake_any w3 (hR1.below hb3)
    clear h3 hp hb3 hB1 hR1
    go_wp2_with fail
    refine h4.mono ?_
    rintro e w4 ⟨rfl, hb4⟩
    have hB := hB3.trans (hb4.mono hB3.size)
    clear h4 hb4 hB3
    go_wp2
    go_ret
    exact ⟨rfl, hB⟩
set_option maxRecDepth 20000 in
set_option maxHeartbeats 4000000 in
theorem notes_2 (s : List UInt8) (n : Int) (w : World) (hR : Rdy w) (hl : s.length ≤ 2000000) (hm : (Int.tmod n 5 + 5).tmod 5 = 2) (hw : wrap64 (Int.tmod n 5 + 5) = Int.tmod n 5 + 5) : notes_goal s n w := by
  obtain ⟨b, hb⟩ : ∃ b : List UInt8, b = [47, 42, 32, 105, 116, 39, 115, 32, 42, 47] := ⟨_, rfl⟩
  have hbm : b ∈ ntL := by rw [hb]; decide
  have hbl : b.length ≤ 10 := by rw [hb]; decide
  have e1 : (⟨#[47, 42, 32, 105, 116, 39, 115, 32, 42, 47]⟩ : ByteArray) ++ bsA s = bsA (b ++ s) := by rw [hb]; exact app_bsA [47, 42, 32, 105, 116, 39, 115, 32, 42, 47] s
  have e2 : bsA (b ++ s) ++ (⟨#[10]⟩ : ByteArray) = bsA (b ++ (s ++ [10])) := by rw [← List.append_assoc]; exact app_bsA (b ++ s) [10]
  have e3 : bsA (b ++ (s ++ [10])) ++ (⟨#[47, 42, 32, 105, 116, 39, 115, 32, 42, 47]⟩ : ByteArray) = bsA (b ++ (s ++ 10 :: b)) := by
    rw [show b ++ (s ++ 10 :: b) = (b ++ (s ++ [10])) ++ b from by simp]
    have := app_bsA (b ++ (s ++ [10])) b
    rw [← this, hb]
    rfl
  have hz := bsA_size s
  have hz1 : (bsA (b ++ s)).size = b.length + s.length := by rw [bsA_size, List.length_append]
  have hz2 : (bsA (b ++ (s ++ [10]))).size = b.length + s.length + 1 := by rw [bsA_size]; simp; omega
  have hl3 : (b ++ (s ++ 10 :: b)).length ≤ 2000100 := by simp; omega
  have h1 := Lex_any s (w.alloc (.cells (stC ntL).toArray 9)) (hR.alloc _) (by omega)
  have hN := fun h => lx_note hbm s 0 0 h
  have hC := lx_count s 0
  have hC2 := lx_count (b ++ (s ++ 10 :: b)) 0
  have h2 := fun W (h : Rdy W) => Lex_any (b ++ (s ++ 10 :: b)) W h (by omega)
  have hE2 := lx_err_nil (b ++ (s ++ 10 :: b)) 0
  have hE := lx_err_nil s 0
  generalize lx s 0 = D at h1 hN hC hE
  generalize lx (b ++ (s ++ 10 :: b)) 0 = D2 at h2 hN hC2 hE2
  generalize b ++ (s ++ 10 :: b) = src at *
  clear hb hbm
  unfold notes_goal
  have hB0 : Below w.heap.size w (w.alloc (.cells (stC ntL).toArray 9)) := (Below.refl _ _).alloc (Nat.le_refl _) _
  have HN : Hid _ := hN
  have HE : Hid _ := hE
  have HE2 : Hid _ := hE2
  clear hN hE hE2
  obtain ⟨r, p, er⟩ := D
  obtain ⟨r2, p2, er2⟩ := D2
  dsimp only at h1 h2 hC hC2
  by_cases he : er = 0
  · obtain ⟨he2, hbr⟩ := HN.out he
    dsimp only at he2 hbr
    subst he he2
    have hbz : Hid (bz r2 = bz r) := by show _ = _; rw [bz_bar, bz_bar, hbr]
    clear HN HE HE2 hbr
    go_enter Tryz.func7, Tryz.ntmps7
    go_wp2_with fail
    refine h1.mono ?_
    rintro e w1 ⟨hp, hb1⟩
    obtain ⟨a1, cap1, rfl, ht1⟩ := lexPost_ok hp rfl
    dsimp only at ht1 ⊢
    have hB1 : Below w.heap.size w w1 := hB0.trans (hb1.mono hB0.size)
    have hR1 := hR.below hB1
    have h3 := h2 w1 hR1
    clear h1 h2 hp hb1 hB0
    go_wp2_with fail
    refine h3.mono ?_
    rintro e w3 ⟨hp, hb3⟩
    obtain ⟨a3, cap3, rfl, ht3⟩ := lexPost_ok hp rfl
    dsimp only at ht3 ⊢
    have hR3 := hR1.below hb3
    have hr3 := ht1.below hb3
    have hB3 := hB1.trans (hb3.mono hB1.size)
    have h4 := bare_any a3 cap3 r2 w3 (by omega) ht3
    clear h3 hp hb3 hR1 ht1 hB1
    go_wp2_with fail
    refine h4.mono ?_
    rintro e w4 ⟨⟨a4, cap4, rfl, ht4⟩, hb4⟩
    have hR4 := hR3.below hb4
    have hr4 := hr3.below hb4
    have hB4 := hB3.trans (hb4.mono hB3.size)
    have h5 := bare_any a1 cap1 r w4 (by omega) hr4
    clear h4 hb4 hR3 hr3 hB3 ht3
    go_wp2_with fail
    refine h5.mono ?_
    rintro e w5 ⟨⟨a5, cap5, rfl, ht5⟩, hb5⟩
    have hR5 := hR4.below hb5
    have hr5 := ht4.below hb5
    have hB5 := hB4.trans (hb5.mono hB4.size)
    have h6 := same_any a4 a5 cap4 cap5 (bz r2) (bz r) w5 (by rw [bz_len]; omega) hr5 ht5
    rw [decide_eq_true hbz.out] at h6
    clear h5 hb5 hR4 hr4 hB4 ht4 ht5 hr5
    go_wp2_with fail
    refine h6.mono ?_
    rintro e w6 ⟨rfl, hb6⟩
    have hR6 := hR5.below hb6
    have hB6 := hB5.trans (hb6.mono hB5.size)
    have h7 := awake_any w6 hR6
    clear h6 hb6 hR5 hB5
    go_wp2_with fail
    refine h7.mono ?_
    rintro e w7 ⟨rfl, hb7⟩
    have hB7 := hB6.trans (hb7.mono hB6.size)
    clear h7 hb7 hR6 hB6
    go_wp2
    go_ret
    exact ⟨rfl, hB7⟩
  · have he' : (er != 0) = true := by simpa using he
    have hs2 : ∀ e W, LexPost W.heap.size (r2, p2, er2) e W → True := fun _ _ _ => trivial
    clear hs2
    go_enter Tryz.func7, Tryz.ntmps7
    go_wp2_with fail
    refine h1.mono ?_
    rintro e w1 ⟨hp, hb1⟩
    unfold LexPost at hp
    rw [if_pos he] at hp
    subst hp
    have hB1 : Below w.heap.size w w1 := hB0.trans (hb1.mono hB0.size)
    have hR1 := hR.below hB1
    have h3 := h2 w1 hR1
    clear h1 h2 hb1 hB0
    go_wp2_with fail
    refine h3.mono ?_
    rintro e w3 ⟨hp, hb3⟩
    have hv : ∃ v1 v2 v3, e = .returned (.tuple #[v1, v2, v3]) := by
      unfold LexPost at hp
      split at hp
      · exact ⟨_, _, _, hp⟩
      · obtain ⟨a, cap, h, _⟩ := hp
        exact ⟨_, _, _, h⟩
    obtain ⟨v1, v2, v3, rfl⟩ := hv
    have hB3 := hB1.trans (hb3.mono hB1.size)
    have h4 := awake_any w3 (hR1.below hb3)
    clear h3 hp hb3 hB1 hR1
    go_wp2_with fail
    refine h4.mono ?_
    rintro e w4 ⟨rfl, hb4⟩
    have hB := hB3.trans (hb4.mono hB3.size)
    clear h4 hb4 hB3
    go_wp2
    go_ret
    exact ⟨rfl, hB⟩
set_option maxRecDepth 20000 in
set_option maxHeartbeats 4000000 in
theorem notes_3 (s : List UInt8) (n : Int) (w : World) (hR : Rdy w) (hl : s.length ≤ 2000000) (hm : (Int.tmod n 5 + 5).tmod 5 = 3) (hw : wrap64 (Int.tmod n 5 + 5) = Int.tmod n 5 + 5) : notes_goal s n w := by
  obtain ⟨b, hb⟩ : ∃ b : List UInt8, b = [45, 45, 32, 115, 111, 10] := ⟨_, rfl⟩
  have hbm : b ∈ ntL := by rw [hb]; decide
  have hbl : b.length ≤ 10 := by rw [hb]; decide
  have e1 : (⟨#[45, 45, 32, 115, 111, 10]⟩ : ByteArray) ++ bsA s = bsA (b ++ s) := by rw [hb]; exact app_bsA [45, 45, 32, 115, 111, 10] s
  have e2 : bsA (b ++ s) ++ (⟨#[10]⟩ : ByteArray) = bsA (b ++ (s ++ [10])) := by rw [← List.append_assoc]; exact app_bsA (b ++ s) [10]
  have e3 : bsA (b ++ (s ++ [10])) ++ (⟨#[45, 45, 32, 115, 111, 10]⟩ : ByteArray) = bsA (b ++ (s ++ 10 :: b)) := by
    rw [show b ++ (s ++ 10 :: b) = (b ++ (s ++ [10])) ++ b from by simp]
    have := app_bsA (b ++ (s ++ [10])) b
    rw [← this, hb]
    rfl
  have hz := bsA_size s
  have hz1 : (bsA (b ++ s)).size = b.length + s.length := by rw [bsA_size, List.length_append]
  have hz2 : (bsA (b ++ (s ++ [10]))).size = b.length + s.length + 1 := by rw [bsA_size]; simp; omega
  have hl3 : (b ++ (s ++ 10 :: b)).length ≤ 2000100 := by simp; omega
  have h1 := Lex_any s (w.alloc (.cells (stC ntL).toArray 9)) (hR.alloc _) (by omega)
  have hN := fun h => lx_note hbm s 0 0 h
  have hC := lx_count s 0
  have hC2 := lx_count (b ++ (s ++ 10 :: b)) 0
  have h2 := fun W (h : Rdy W) => Lex_any (b ++ (s ++ 10 :: b)) W h (by omega)
  have hE2 := lx_err_nil (b ++ (s ++ 10 :: b)) 0
  have hE := lx_err_nil s 0
  generalize lx s 0 = D at h1 hN hC hE
  generalize lx (b ++ (s ++ 10 :: b)) 0 = D2 at h2 hN hC2 hE2
  generalize b ++ (s ++ 10 :: b) = src at *
  clear hb hbm
  unfold notes_goal
  have hB0 : Below w.heap.size w (w.alloc (.cells (stC ntL).toArray 9)) := (Below.refl _ _).alloc (Nat.le_refl _) _
  have HN : Hid _ := hN
  have HE : Hid _ := hE
  have HE2 : Hid _ := hE2
  clear hN hE hE2
  obtain ⟨r, p, er⟩ := D
  obtain ⟨r2, p2, er2⟩ := D2
  dsimp only at h1 h2 hC hC2
  by_cases he : er = 0
  · obtain ⟨he2, hbr⟩ := HN.out he
    dsimp only at he2 hbr
    subst he he2
    have hbz : Hid (bz r2 = bz r) := by show _ = _; rw [bz_bar, bz_bar, hbr]
    clear HN HE HE2 hbr
    go_enter Tryz.func7, Tryz.ntmps7
    go_wp2_with fail
    refine h1.mono ?_
    rintro e w1 ⟨hp, hb1⟩
    obtain ⟨a1, cap1, rfl, ht1⟩ := lexPost_ok hp rfl
    dsimp only at ht1 ⊢
    have hB1 : Below w.heap.size w w1 := hB0.trans (hb1.mono hB0.size)
    have hR1 := hR.below hB1
    have h3 := h2 w1 hR1
    clear h1 h2 hp hb1 hB0
    go_wp2_with fail
    refine h3.mono ?_
    rintro e w3 ⟨hp, hb3⟩
    obtain ⟨a3, cap3, rfl, ht3⟩ := lexPost_ok hp rfl
    dsimp only at ht3 ⊢
    have hR3 := hR1.below hb3
    have hr3 := ht1.below hb3
    have hB3 := hB1.trans (hb3.mono hB1.size)
    have h4 := bare_any a3 cap3 r2 w3 (by omega) ht3
    clear h3 hp hb3 hR1 ht1 hB1
    go_wp2_with fail
    refine h4.mono ?_
    rintro e w4 ⟨⟨a4, cap4, rfl, ht4⟩, hb4⟩
    have hR4 := hR3.below hb4
    have hr4 := hr3.below hb4
    have hB4 := hB3.trans (hb4.mono hB3.size)
    have h5 := bare_any a1 cap1 r w4 (by omega) hr4
    clear h4 hb4 hR3 hr3 hB3 ht3
    go_wp2_with fail
    refine h5.mono ?_
    rintro e w5 ⟨⟨a5, cap5, rfl, ht5⟩, hb5⟩
    have hR5 := hR4.below hb5
    have hr5 := ht4.below hb5
    have hB5 := hB4.trans (hb5.mono hB4.size)
    have h6 := same_any a4 a5 cap4 cap5 (bz r2) (bz r) w5 (by rw [bz_len]; omega) hr5 ht5
    rw [decide_eq_true hbz.out] at h6
    clear h5 hb5 hR4 hr4 hB4 ht4 ht5 hr5
    go_wp2_with fail
    refine h6.mono ?_
    rintro e w6 ⟨rfl, hb6⟩
    have hR6 := hR5.below hb6
    have hB6 := hB5.trans (hb6.mono hB5.size)
    have h7 := awake_any w6 hR6
    clear h6 hb6 hR5 hB5
    go_wp2_with fail
    refine h7.mono ?_
    rintro e w7 ⟨rfl, hb7⟩
    have hB7 := hB6.trans (hb7.mono hB6.size)
    clear h7 hb7 hR6 hB6
    go_wp2
    go_ret
    exact ⟨rfl, hB7⟩
  · have he' : (er != 0) = true := by simpa using he
    have hs2 : ∀ e W, LexPost W.heap.size (r2, p2, er2) e W → True := fun _ _ _ => trivial
    clear hs2
    go_enter Tryz.func7, Tryz.ntmps7
    go_wp2_with fail
    refine h1.mono ?_
    rintro e w1 ⟨hp, hb1⟩
    unfold LexPost at hp
    rw [if_pos he] at hp
    subst hp
    have hB1 : Below w.heap.size w w1 := hB0.trans (hb1.mono hB0.size)
    have hR1 := hR.below hB1
    have h3 := h2 w1 hR1
    clear h1 h2 hb1 hB0
    go_wp2_with fail
    refine h3.mono ?_
    rintro e w3 ⟨hp, hb3⟩
    have hv : ∃ v1 v2 v3, e = .returned (.tuple #[v1, v2, v3]) := by
      unfold LexPost at hp
      split at hp
      · exact ⟨_, _, _, hp⟩
      · obtain ⟨a, cap, h, _⟩ := hp
        exact ⟨_, _, _, h⟩
    obtain ⟨v1, v2, v3, rfl⟩ := hv
    have hB3 := hB1.trans (hb3.mono hB1.size)
    have h4 := awake_any w3 (hR1.below hb3)
    clear h3 hp hb3 hB1 hR1
    go_wp2_with fail
    refine h4.mono ?_
    rintro e w4 ⟨rfl, hb4⟩
    have hB := hB3.trans (hb4.mono hB3.size)
    clear h4 hb4 hB3
    go_wp2
    go_ret
    exact ⟨rfl, hB⟩
set_option maxRecDepth 20000 in
set_option maxHeartbeats 4000000 in
theorem notes_4 (s : List UInt8) (n : Int) (w : World) (hR : Rdy w) (hl : s.length ≤ 2000000) (hm : (Int.tmod n 5 + 5).tmod 5 = 4) (hw : wrap64 (Int.tmod n 5 + 5) = Int.tmod n 5 + 5) : notes_goal s n w := by
  obtain ⟨b, hb⟩ : ∃ b : List UInt8, b = [9, 32, 13, 10] := ⟨_, rfl⟩
  have hbm : b ∈ ntL := by rw [hb]; decide
  have hbl : b.length ≤ 10 := by rw [hb]; decide
  have e1 : (⟨#[9, 32, 13, 10]⟩ : ByteArray) ++ bsA s = bsA (b ++ s) := by rw [hb]; exact app_bsA [9, 32, 13, 10] s
  have e2 : bsA (b ++ s) ++ (⟨#[10]⟩ : ByteArray) = bsA (b ++ (s ++ [10])) := by rw [← List.append_assoc]; exact app_bsA (b ++ s) [10]
  have e3 : bsA (b ++ (s ++ [10])) ++ (⟨#[9, 32, 13, 10]⟩ : ByteArray) = bsA (b ++ (s ++ 10 :: b)) := by
    rw [show b ++ (s ++ 10 :: b) = (b ++ (s ++ [10])) ++ b from by simp]
    have := app_bsA (b ++ (s ++ [10])) b
    rw [← this, hb]
    rfl
  have hz := bsA_size s
  have hz1 : (bsA (b ++ s)).size = b.length + s.length := by rw [bsA_size, List.length_append]
  have hz2 : (bsA (b ++ (s ++ [10]))).size = b.length + s.length + 1 := by rw [bsA_size]; simp; omega
  have hl3 : (b ++ (s ++ 10 :: b)).length ≤ 2000100 := by simp; omega
  have h1 := Lex_any s (w.alloc (.cells (stC ntL).toArray 9)) (hR.alloc _) (by omega)
  have hN := fun h => lx_note hbm s 0 0 h
  have hC := lx_count s 0
  have hC2 := lx_count (b ++ (s ++ 10 :: b)) 0
  have h2 := fun W (h : Rdy W) => Lex_any (b ++ (s ++ 10 :: b)) W h (by omega)
  have hE2 := lx_err_nil (b ++ (s ++ 10 :: b)) 0
  have hE := lx_err_nil s 0
  generalize lx s 0 = D at h1 hN hC hE
  generalize lx (b ++ (s ++ 10 :: b)) 0 = D2 at h2 hN hC2 hE2
  generalize b ++ (s ++ 10 :: b) = src at *
  clear hb hbm
  unfold notes_goal
  have hB0 : Below w.heap.size w (w.alloc (.cells (stC ntL).toArray 9)) := (Below.refl _ _).alloc (Nat.le_refl _) _
  have HN : Hid _ := hN
  have HE : Hid _ := hE
  have HE2 : Hid _ := hE2
  clear hN hE hE2
  obtain ⟨r, p, er⟩ := D
  obtain ⟨r2, p2, er2⟩ := D2
  dsimp only at h1 h2 hC hC2
  by_cases he : er = 0
  · obtain ⟨he2, hbr⟩ := HN.out he
    dsimp only at he2 hbr
    subst he he2
    have hbz : Hid (bz r2 = bz r) := by show _ = _; rw [bz_bar, bz_bar, hbr]
    clear HN HE HE2 hbr
    go_enter Tryz.func7, Tryz.ntmps7
    go_wp2_with fail
    refine h1.mono ?_
    rintro e w1 ⟨hp, hb1⟩
    obtain ⟨a1, cap1, rfl, ht1⟩ := lexPost_ok hp rfl
    dsimp only at ht1 ⊢
    have hB1 : Below w.heap.size w w1 := hB0.trans (hb1.mono hB0.size)
    have hR1 := hR.below hB1
    have h3 := h2 w1 hR1
    clear h1 h2 hp hb1 hB0
    go_wp2_with fail
    refine h3.mono ?_
    rintro e w3 ⟨hp, hb3⟩
    obtain ⟨a3, cap3, rfl, ht3⟩ := lexPost_ok hp rfl
    dsimp only at ht3 ⊢
    have hR3 := hR1.below hb3
    have hr3 := ht1.below hb3
    have hB3 := hB1.trans (hb3.mono hB1.size)
    have h4 := bare_any a3 cap3 r2 w3 (by omega) ht3
    clear h3 hp hb3 hR1 ht1 hB1
    go_wp2_with fail
    refine h4.mono ?_
    rintro e w4 ⟨⟨a4, cap4, rfl, ht4⟩, hb4⟩
    have hR4 := hR3.below hb4
    have hr4 := hr3.below hb4
    have hB4 := hB3.trans (hb4.mono hB3.size)
    have h5 := bare_any a1 cap1 r w4 (by omega) hr4
    clear h4 hb4 hR3 hr3 hB3 ht3
    go_wp2_with fail
    refine h5.mono ?_
    rintro e w5 ⟨⟨a5, cap5, rfl, ht5⟩, hb5⟩
    have hR5 := hR4.below hb5
    have hr5 := ht4.below hb5
    have hB5 := hB4.trans (hb5.mono hB4.size)
    have h6 := same_any a4 a5 cap4 cap5 (bz r2) (bz r) w5 (by rw [bz_len]; omega) hr5 ht5
    rw [decide_eq_true hbz.out] at h6
    clear h5 hb5 hR4 hr4 hB4 ht4 ht5 hr5
    go_wp2_with fail
    refine h6.mono ?_
    rintro e w6 ⟨rfl, hb6⟩
    have hR6 := hR5.below hb6
    have hB6 := hB5.trans (hb6.mono hB5.size)
    have h7 := awake_any w6 hR6
    clear h6 hb6 hR5 hB5
    go_wp2_with fail
    refine h7.mono ?_
    rintro e w7 ⟨rfl, hb7⟩
    have hB7 := hB6.trans (hb7.mono hB6.size)
    clear h7 hb7 hR6 hB6
    go_wp2
    go_ret
    exact ⟨rfl, hB7⟩
  · have he' : (er != 0) = true := by simpa using he
    have hs2 : ∀ e W, LexPost W.heap.size (r2, p2, er2) e W → True := fun _ _ _ => trivial
    clear hs2
    go_enter Tryz.func7, Tryz.ntmps7
    go_wp2_with fail
    refine h1.mono ?_
    rintro e w1 ⟨hp, hb1⟩
    unfold LexPost at hp
    rw [if_pos he] at hp
    subst hp
    have hB1 : Below w.heap.size w w1 := hB0.trans (hb1.mono hB0.size)
    have hR1 := hR.below hB1
    have h3 := h2 w1 hR1
    clear h1 h2 hb1 hB0
    go_wp2_with fail
    refine h3.mono ?_
    rintro e w3 ⟨hp, hb3⟩
    have hv : ∃ v1 v2 v3, e = .returned (.tuple #[v1, v2, v3]) := by
      unfold LexPost at hp
      split at hp
      · exact ⟨_, _, _, hp⟩
      · obtain ⟨a, cap, h, _⟩ := hp
        exact ⟨_, _, _, h⟩
    obtain ⟨v1, v2, v3, rfl⟩ := hv
    have hB3 := hB1.trans (hb3.mono hB1.size)
    have h4 := awake_any w3 (hR1.below hb3)
    clear h3 hp hb3 hB1 hR1
    go_wp2_with fail
    refine h4.mono ?_
    rintro e w4 ⟨rfl, hb4⟩
    have hB := hB3.trans (hb4.mono hB3.size)
    clear h4 hb4 hB3
    go_wp2
    go_ret
    exact ⟨rfl, hB⟩
theorem lexNotes_walk (s : List UInt8) (n : Int) (w : World) (hR : Rdy w) (hl : s.length ≤ 2000000) : Calls Tryz.prog 7 #[.string (bsA s), .int .i64 n] w fun e w' => e = .returned (.bool true) ∧ Below w.heap.size w w' := by
  obtain ⟨⟨i, hi, hm⟩, h1, h2⟩ := five n
  have hw : wrap64 (Int.tmod n 5 + 5) = Int.tmod n 5 + 5 := by unfold wrap64; omega
  match i, hi with
  | 0, _ => exact notes_0 s n w hR hl hm hw
  | 1, _ => exact notes_1 s n w hR hl hm hw
  | 2, _ => exact notes_2 s n w hR hl hm hw
  | 3, _ => exact notes_3 s n w hR hl hm hw
  | 4, _ => exact notes_4 s n w hR hl hm hw
end Go.Proofs.YthhbeejfnpcbhaaGreatDoor
