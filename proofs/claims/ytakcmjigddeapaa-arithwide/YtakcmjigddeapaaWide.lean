/- ArithWide is true: the law's walk. -/
import Derived.Test.YtakcmjigddeapaaSure
import Derived.Test.YtakcmjigddeapaaRulesMath
namespace Go.Proofs.Ytakcmjigddeapaa
open Go.ChangeShapes Go.WideShapes Go.ChangeAt Go.RowKit
attribute [local go_sem ↓] Go.wp_at_zero Go.wp_at_succ

theorem alike33 (z : Int → Int → Int) {n n' : Int} (hn : In n) (hn' : In n') (hz : fits (z n n') = true) : alikeS z 3 n 3 n' = (3, z n n', 0) := by
  have hk : kind2 3 3 = 3 := rfl
  have e3 : ∀ n : Int, up 3 3 n = n := fun n => by unfold up; rw [if_pos rfl]
  unfold alikeS
  rw [hk, e3, e3, fits_of_in hn, fits_of_in hn', fin_ok hz]
  rfl
theorem mul33 {n n' : Int} (hz : fits (T3 n n' 10000) = true) : mulS 3 n 3 n' = (3, T3 n n' 10000, 0) := by
  have hk : kind2 3 3 = 3 := rfl
  unfold mulS
  rw [st2_num (Or.inr rfl) (Or.inr rfl), hk, if_pos (show (3 : Int) = 3 ∧ (3 : Int) = 3 from ⟨rfl, rfl⟩), fin_ok hz]
  rfl
theorem wide_math {n : Int} (hn : In n) : mulS 3 n 3 10000 = (3, n, 0) ∧ divS 3 n 3 10000 = (3, n, 0) ∧
    ∃ h t r, mulS 3 n 3 5000 = (3, h, 0) ∧ addS 3 h 3 h = (3, t, 0) ∧ subS 3 n 3 t = (3, r, 0) ∧ In h ∧ In t ∧ -1 ≤ r ∧ r ≤ 1 := by
  have e1 : T3 n 10000 10000 = n := by unfold T3; exact Int.mul_tdiv_cancel n (by omega)
  have i1 : In 10000 := by unfold In; omega
  have hf := fits_of_in hn
  have eh := T3_eq n 5000 10000
  have hq : quo3 n 5000 10000 = n.natAbs / 2 := by
    unfold quo3
    show n.natAbs * 5000 / 10000 = n.natAbs / 2
    omega
  have hng : neg3 n 5000 10000 = decide (n < 0) := by unfold neg3; simp
  rw [hq, hng] at eh
  have hh : In (T3 n 5000 10000) ∧ In (T3 n 5000 10000 + T3 n 5000 10000) ∧ -1 ≤ n - (T3 n 5000 10000 + T3 n 5000 10000) ∧ n - (T3 n 5000 10000 + T3 n 5000 10000) ≤ 1 := by
    unfold In at *
    rcases Int.lt_or_le n 0 with hlt | hge
    · rw [if_pos (by simpa using hlt)] at eh; omega
    · rw [if_neg (by simpa using hge)] at eh; omega
  obtain ⟨h1, h2, h3, h4⟩ := hh
  refine ⟨?_, ?_, T3 n 5000 10000, T3 n 5000 10000 + T3 n 5000 10000, n - (T3 n 5000 10000 + T3 n 5000 10000), mul33 (fits_of_in h1), ?_, ?_, h1, h2, h3, h4⟩
  · rw [mul33 (by rw [e1]; exact hf), e1]
  · have hu : un2 3 3 10000 = (0, false) := rfl
    have hk : ¬ kind2 3 3 = 2 := by decide
    unfold divS
    rw [hu, if_neg (by simp), if_neg hk, alike33 _ hn i1 (by rw [e1]; exact hf), e1]
  · unfold addS
    rw [st2_num (Or.inr rfl) (Or.inr rfl), if_neg (by simp), alike33 _ h1 h1 (fits_of_in h2)]
  · unfold subS
    rw [st2_num (Or.inr rfl) (Or.inr rfl), if_neg (by simp), alike33 _ hn h2 (by apply fits_of_in; unfold In; omega)]

theorem bcell3 {W w1 : World} (hb : Below W.heap.size W w1) : (∀ b o, b < W.heap.size → w1.cell? ⟨b, o, none⟩ = W.cell? ⟨b, o, none⟩) ∧ (∀ b o, b < W.heap.size → w1.frozen? ⟨b, o, none⟩ = W.frozen? ⟨b, o, none⟩) ∧ (∀ b, b < W.heap.size → b < w1.heap.size) ∧ (∀ b, b < W.heap.size → ¬ b = w1.heap.size) ∧ (∀ b, b < W.heap.size → ¬ w1.heap.size = b) := by
  have := hb.size
  exact ⟨(bcell hb).1, (bcell hb).2, fun _ h => Nat.lt_of_lt_of_le h hb.size, fun _ _ => by omega, fun _ _ => by omega⟩

theorem Box.far {w : World} {p q : Nat} {k n : Int} {t : ByteArray} (h : Box w p k n t) (hne : p ≠ q) (o : Nat) (v : Value) : Box (w.setCell ⟨q, o, none⟩ v) p k n t := by
  have h0 := h.c0; have h1 := h.c1; have h2 := h.c2
  refine ⟨?_, ?_, ?_, ?_⟩
  · rw [World.cell?_setCell_far]; exact h0; simpa using hne.symm
  · rw [World.cell?_setCell_far]; exact h1; simpa using hne.symm
  · rw [World.cell?_setCell_far]; exact h2; simpa using hne.symm
  · have := h.lt; simpa [World.setCell] using this
theorem Box.put {w : World} {q : Nat} {k0 n0 : Int} {t0 : ByteArray} (h : Box w q k0 n0 t0) (k n : Int) (t : ByteArray) : Box (((w.setCell ⟨q, 0, none⟩ (.int .i64 k)).setCell ⟨q, 1, none⟩ (.int .i64 n)).setCell ⟨q, 2, none⟩ (.string t)) q k n t := by
  have h0 := h.c0; have h1 := h.c1; have h2 := h.c2
  refine ⟨by go_simp, by go_simp, by go_simp, ?_⟩
  have := h.lt; simpa [World.setCell] using this

set_option maxRecDepth 100000 in
set_option maxHeartbeats 8000000 in
theorem wide_walk (n : Int) (hn : In n) (w : World) : Calls Try.prog 5 #[.int .i64 n] w fun e w' => e = .returned (.bool true) ∧ Below w.heap.size w w' := by
  obtain ⟨m1, m2, h, t, r, m3, m4, m5, ih, it, hr1, hr2⟩ := wide_math hn
  have hA := fun w => Mul_any 3 n ⟨#[]⟩ 3 10000 ⟨#[]⟩ hn (by unfold In; omega) w
  have hB := fun w => Div_any 3 n ⟨#[]⟩ 3 10000 ⟨#[]⟩ hn (by unfold In; omega) w
  have hC := fun w => Mul_any 3 n ⟨#[]⟩ 3 5000 ⟨#[]⟩ hn (by unfold In; omega) w
  have hD := fun w => Add_any 3 h ⟨#[]⟩ 3 h ⟨#[]⟩ ih ih w
  have hE := fun w => Sub_any 3 n ⟨#[]⟩ 3 t ⟨#[]⟩ hn it w
  rw [m1] at hA
  rw [m2] at hB
  rw [m3] at hC
  rw [m4] at hD
  rw [m5] at hE
  have hr1' : ((-1 : Int) ≤ r) = True := by simp; omega
  have hr2' : (r ≤ (1 : Int)) = True := by simp; omega
  clear m1 m2 m3 m4 m5 hr1 hr2
  go_enter Try.func5, Try.ntmps5
  go_upto_region 2 with (go_at_call 25; refine (dec_any _ _).mono ?_; rintro e w' ⟨rfl, rfl⟩)
  have Aa : Box ((w.alloc (.cells #[.int .i64 3, .int .i64 n, .string ⟨#[]⟩] 23)).alloc (.cells #[.int .i64 3, .int .i64 n, .string ⟨#[]⟩] 23)) (w.heap.size + 1) 3 n ⟨#[]⟩ := ⟨by go_simp, by go_simp, by go_simp, by simp⟩
  go_cut [4, 5] from 16 to 21 (fun s1 s2 wx => ∃ q : Nat, s1 = .pointer (some ⟨q, 0, none⟩) ∧ s2 = .int .i64 0 ∧ Box wx q 3 (n) ⟨#[]⟩ ∧ Box wx (w.heap.size + 1) (3) (n) ⟨#[]⟩ ∧ Bel w.heap.size w wx)
  case first =>
    go_region_with (first | (go_at_call 25; refine (dec_any _ _).mono ?_; rintro e w' ⟨rfl, rfl⟩) | (go_at_call 13; refine (hA _).mono ?_; rintro e w' ⟨rfl, hb⟩; obtain ⟨hc, hf, hl, hn1, hn2⟩ := bcell3 hb))
    all_goals go_wp2_with fail
    all_goals go_meet
    all_goals exact ⟨_, rfl, rfl, (by first | exact Box.new _ _ _ _ | exact Box.put (k0 := 0) (n0 := 0) (t0 := ⟨#[]⟩) (Box.step ⟨by go_simp, by go_simp, by go_simp, by simp <;> omega⟩ hb) _ _ _), (by first | exact Box.alloc (Box.step (by repeat (first | exact Box.new _ _ _ _ | assumption | refine Box.alloc ?_ _ | refine Box.drew ?_ | refine Box.drewN ?_ _)) hb) _ | exact Box.far (Box.far (Box.far (Box.step (by repeat (first | exact Box.new _ _ _ _ | assumption | refine Box.alloc ?_ _ | refine Box.drew ?_ | refine Box.drewN ?_ _)) hb) (by omega) _ _) (by omega) _ _) (by omega) _ _), (by repeat (first | exact Bel.refl _ | assumption | refine Bel.drew ?_ | refine Bel.drewN ?_ _ | refine Bel.alloc ?_ _ | refine Bel.setCell ?_ (by simp <;> omega) _ | refine Bel.step ?_ hb))⟩
  case rest =>
  obtain ⟨q1, rfl, rfl, Ab1, Aa1, B1⟩ := hcut
  have xa1 := Aa1.c0; have ya1 := Aa1.c1; have za1 := Aa1.c2; have la1 := Aa1.lt
  have lb1 := Ab1.lt
  have sb1 := B1.le
  clear Aa
  generalize w.heap.size + 1 = pa at *
  go_upto_region 3 with (fail)
  go_cut [6, 7] from 22 to 27 (fun s1 s2 wx => ∃ q : Nat, s1 = .pointer (some ⟨q, 0, none⟩) ∧ s2 = .int .i64 0 ∧ Box wx q 3 (n) ⟨#[]⟩ ∧ Box wx (q1) (3) (n) ⟨#[]⟩ ∧ Box wx (pa) (3) (n) ⟨#[]⟩ ∧ Bel w.heap.size w wx)
  case first =>
    go_region_with (first | (go_at_call 25; refine (dec_any _ _).mono ?_; rintro e w' ⟨rfl, rfl⟩) | (go_at_call 15; refine (hB _).mono ?_; rintro e w' ⟨rfl, hb⟩; obtain ⟨hc, hf, hl, hn1, hn2⟩ := bcell3 hb))
    all_goals go_wp2_with fail
    all_goals go_meet
    all_goals exact ⟨_, rfl, rfl, (by first | exact Box.new _ _ _ _ | exact Box.put (k0 := 0) (n0 := 0) (t0 := ⟨#[]⟩) (Box.step ⟨by go_simp, by go_simp, by go_simp, by simp <;> omega⟩ hb) _ _ _), (by first | exact Box.alloc (Box.step (by repeat (first | exact Box.new _ _ _ _ | assumption | refine Box.alloc ?_ _ | refine Box.drew ?_ | refine Box.drewN ?_ _)) hb) _ | exact Box.far (Box.far (Box.far (Box.step (by repeat (first | exact Box.new _ _ _ _ | assumption | refine Box.alloc ?_ _ | refine Box.drew ?_ | refine Box.drewN ?_ _)) hb) (by omega) _ _) (by omega) _ _) (by omega) _ _), (by first | exact Box.alloc (Box.step (by repeat (first | exact Box.new _ _ _ _ | assumption | refine Box.alloc ?_ _ | refine Box.drew ?_ | refine Box.drewN ?_ _)) hb) _ | exact Box.far (Box.far (Box.far (Box.step (by repeat (first | exact Box.new _ _ _ _ | assumption | refine Box.alloc ?_ _ | refine Box.drew ?_ | refine Box.drewN ?_ _)) hb) (by omega) _ _) (by omega) _ _) (by omega) _ _), (by repeat (first | exact Bel.refl _ | assumption | refine Bel.drew ?_ | refine Bel.drewN ?_ _ | refine Bel.alloc ?_ _ | refine Bel.setCell ?_ (by simp <;> omega) _ | refine Bel.step ?_ hb))⟩
  case rest =>
  obtain ⟨q2, rfl, rfl, Ac2, Ab2, Aa2, B2⟩ := hcut
  have xa2 := Aa2.c0; have ya2 := Aa2.c1; have za2 := Aa2.c2; have la2 := Aa2.lt
  have lb2 := Ab2.lt
  have lc2 := Ac2.lt
  have sb2 := B2.le
  clear xa1 ya1 za1 la1 lb1 Ab1 Aa1 B1
  go_upto_region 4 with (fail)
  go_cut [8, 9] from 28 to 33 (fun s1 s2 wx => ∃ q : Nat, s1 = .pointer (some ⟨q, 0, none⟩) ∧ s2 = .int .i64 0 ∧ Box wx q 3 (h) ⟨#[]⟩ ∧ Box wx (q2) (3) (n) ⟨#[]⟩ ∧ Box wx (q1) (3) (n) ⟨#[]⟩ ∧ Box wx (pa) (3) (n) ⟨#[]⟩ ∧ Bel w.heap.size w wx)
  case first =>
    go_region_with (first | (go_at_call 25; refine (dec_any _ _).mono ?_; rintro e w' ⟨rfl, rfl⟩) | (go_at_call 13; refine (hC _).mono ?_; rintro e w' ⟨rfl, hb⟩; obtain ⟨hc, hf, hl, hn1, hn2⟩ := bcell3 hb))
    all_goals go_wp2_with fail
    all_goals go_meet
    all_goals exact ⟨_, rfl, rfl, (by first | exact Box.new _ _ _ _ | exact Box.put (k0 := 0) (n0 := 0) (t0 := ⟨#[]⟩) (Box.step ⟨by go_simp, by go_simp, by go_simp, by simp <;> omega⟩ hb) _ _ _), (by first | exact Box.alloc (Box.step (by repeat (first | exact Box.new _ _ _ _ | assumption | refine Box.alloc ?_ _ | refine Box.drew ?_ | refine Box.drewN ?_ _)) hb) _ | exact Box.far (Box.far (Box.far (Box.step (by repeat (first | exact Box.new _ _ _ _ | assumption | refine Box.alloc ?_ _ | refine Box.drew ?_ | refine Box.drewN ?_ _)) hb) (by omega) _ _) (by omega) _ _) (by omega) _ _), (by first | exact Box.alloc (Box.step (by repeat (first | exact Box.new _ _ _ _ | assumption | refine Box.alloc ?_ _ | refine Box.drew ?_ | refine Box.drewN ?_ _)) hb) _ | exact Box.far (Box.far (Box.far (Box.step (by repeat (first | exact Box.new _ _ _ _ | assumption | refine Box.alloc ?_ _ | refine Box.drew ?_ | refine Box.drewN ?_ _)) hb) (by omega) _ _) (by omega) _ _) (by omega) _ _), (by first | exact Box.alloc (Box.step (by repeat (first | exact Box.new _ _ _ _ | assumption | refine Box.alloc ?_ _ | refine Box.drew ?_ | refine Box.drewN ?_ _)) hb) _ | exact Box.far (Box.far (Box.far (Box.step (by repeat (first | exact Box.new _ _ _ _ | assumption | refine Box.alloc ?_ _ | refine Box.drew ?_ | refine Box.drewN ?_ _)) hb) (by omega) _ _) (by omega) _ _) (by omega) _ _), (by repeat (first | exact Bel.refl _ | assumption | refine Bel.drew ?_ | refine Bel.drewN ?_ _ | refine Bel.alloc ?_ _ | refine Bel.setCell ?_ (by simp <;> omega) _ | refine Bel.step ?_ hb))⟩
  case rest =>
  obtain ⟨q3, rfl, rfl, Ad3, Ac3, Ab3, Aa3, B3⟩ := hcut
  have xa3 := Aa3.c0; have ya3 := Aa3.c1; have za3 := Aa3.c2; have la3 := Aa3.lt
  have xd3 := Ad3.c0; have yd3 := Ad3.c1; have zd3 := Ad3.c2; have ld3 := Ad3.lt
  clear xa2 ya2 za2 la2 lb2 lc2 Ab2 Aa2 Ac2 B2
  go_wp2_with fail
  refine (hD _).mono ?_
  rintro e w4 ⟨rfl, hb4⟩
  have B4 : Bel w.heap.size w w4 := Bel.step (by repeat (first | exact Bel.refl _ | assumption | refine Bel.alloc ?_ _ | refine Bel.drew ?_ | refine Bel.drewN ?_ _)) hb4
  have Aa4 : Box w4 (pa) (3) (n) ⟨#[]⟩ := Box.step (by repeat (first | exact Box.new _ _ _ _ | assumption | refine Box.alloc ?_ _ | refine Box.drew ?_ | refine Box.drewN ?_ _)) hb4
  have Ab4 : Box w4 (q1) (3) (n) ⟨#[]⟩ := Box.step (by repeat (first | exact Box.new _ _ _ _ | assumption | refine Box.alloc ?_ _ | refine Box.drew ?_ | refine Box.drewN ?_ _)) hb4
  have Ac4 : Box w4 (q2) (3) (n) ⟨#[]⟩ := Box.step (by repeat (first | exact Box.new _ _ _ _ | assumption | refine Box.alloc ?_ _ | refine Box.drew ?_ | refine Box.drewN ?_ _)) hb4
  have Ad4 : Box w4 (q3) (3) (h) ⟨#[]⟩ := Box.step (by repeat (first | exact Box.new _ _ _ _ | assumption | refine Box.alloc ?_ _ | refine Box.drew ?_ | refine Box.drewN ?_ _)) hb4
  have xa4 := Aa4.c0; have ya4 := Aa4.c1; have za4 := Aa4.c2; have la4 := Aa4.lt
  have xb4 := Ab4.c0; have yb4 := Ab4.c1; have zb4 := Ab4.c2; have lb4 := Ab4.lt
  have xc4 := Ac4.c0; have yc4 := Ac4.c1; have zc4 := Ac4.c2; have lc4 := Ac4.lt
  have xd4 := Ad4.c0; have yd4 := Ad4.c1; have zd4 := Ad4.c2; have ld4 := Ad4.lt
  go_wp2_with fail
  refine (hE _).mono ?_
  rintro e w5 ⟨rfl, hb5⟩
  have B5 : Bel w.heap.size w w5 := Bel.step (by repeat (first | exact Bel.refl _ | assumption | refine Bel.alloc ?_ _ | refine Bel.drew ?_ | refine Bel.drewN ?_ _)) hb5
  have Aa5 : Box w5 (pa) (3) (n) ⟨#[]⟩ := Box.step (by repeat (first | exact Box.new _ _ _ _ | assumption | refine Box.alloc ?_ _ | refine Box.drew ?_ | refine Box.drewN ?_ _)) hb5
  have Ab5 : Box w5 (q1) (3) (n) ⟨#[]⟩ := Box.step (by repeat (first | exact Box.new _ _ _ _ | assumption | refine Box.alloc ?_ _ | refine Box.drew ?_ | refine Box.drewN ?_ _)) hb5
  have Ac5 : Box w5 (q2) (3) (n) ⟨#[]⟩ := Box.step (by repeat (first | exact Box.new _ _ _ _ | assumption | refine Box.alloc ?_ _ | refine Box.drew ?_ | refine Box.drewN ?_ _)) hb5
  have Ae5 : Box w5 (w4.heap.size) (3) (t) ⟨#[]⟩ := Box.step (by repeat (first | exact Box.new _ _ _ _ | assumption | refine Box.alloc ?_ _ | refine Box.drew ?_ | refine Box.drewN ?_ _)) hb5
  have xa5 := Aa5.c0; have ya5 := Aa5.c1; have za5 := Aa5.c2; have la5 := Aa5.lt
  have xb5 := Ab5.c0; have yb5 := Ab5.c1; have zb5 := Ab5.c2; have lb5 := Ab5.lt
  have xc5 := Ac5.c0; have yc5 := Ac5.c1; have zc5 := Ac5.c2; have lc5 := Ac5.lt
  have xe5 := Ae5.c0; have ye5 := Ae5.c1; have ze5 := Ae5.c2; have le5 := Ae5.lt
  go_wp2_with (go_at_call 23; refine (sure_any _).mono ?_; rintro e w' ⟨rfl, hb⟩)
  go_ret
  exact ⟨by simp, (Bel.step (by repeat (first | exact Bel.refl _ | assumption | refine Bel.alloc ?_ _ | refine Bel.drew ?_ | refine Bel.drewN ?_ _)) hb).out⟩
end Go.Proofs.Ytakcmjigddeapaa
