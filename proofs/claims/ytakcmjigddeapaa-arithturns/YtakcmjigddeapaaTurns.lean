/- ArithTurns is true: the law's walk. -/
import Derived.Test.YtakcmjigddeapaaSure
namespace Go.Proofs.Ytakcmjigddeapaa
open Go.ChangeShapes Go.WideShapes Go.ChangeAt Go.RowKit
attribute [local go_sem ↓] Go.wp_at_zero Go.wp_at_succ

theorem decS_2 (n : Int) : decS 2 n = fin 3 (n * 10000) := by simp [decS, st1, up]
theorem intS_3 (n : Int) : intS 3 n = (2, n.tdiv 10000, 0) := by simp [intS, st1]
theorem Dec_ok (n m : Int) (hn : In n) (hm : n * 10000 = m) (h : fits m = true) (w : World) : Calls Try.prog 19 #[.agg #[.int .i64 2, .int .i64 n, .string ⟨#[]⟩]] w fun e w' => e = .returned (.tuple #[.agg #[.int .i64 3, .int .i64 m, .string ⟨#[]⟩], .int .i64 0]) ∧ Below w.heap.size w w' := by
  have h' := Dec_any 2 n ⟨#[]⟩ hn w
  rw [decS_2, hm, fin, if_pos h] at h'
  exact h'
theorem Dec_over (n m : Int) (hn : In n) (hm : n * 10000 = m) (h : fits m = false) (w : World) : Calls Try.prog 19 #[.agg #[.int .i64 2, .int .i64 n, .string ⟨#[]⟩]] w fun e w' => e = .returned (.tuple #[.agg #[.int .i64 0, .int .i64 0, .string ⟨#[]⟩], .int .i64 20]) ∧ Below w.heap.size w w' := by
  have h' := Dec_any 2 n ⟨#[]⟩ hn w
  rw [decS_2, hm, fin, if_neg (by rw [h]; simp)] at h'
  exact h'
theorem Int_3 (m q : Int) (hm : In m) (hq : m.tdiv 10000 = q) (w : World) : Calls Try.prog 21 #[.agg #[.int .i64 3, .int .i64 m, .string ⟨#[]⟩]] w fun e w' => e = .returned (.tuple #[.agg #[.int .i64 2, .int .i64 q, .string ⟨#[]⟩], .int .i64 0]) ∧ Below w.heap.size w w' := by
  have h' := Int_any 3 m ⟨#[]⟩ hm w
  rw [intS_3, hq] at h'
  exact h'

set_option maxRecDepth 100000 in
set_option maxHeartbeats 4000000 in
theorem turns_walk (n : Int) (hn : In n) (w : World) : Calls Try.prog 6 #[.int .i64 n] w fun e w' => e = .returned (.bool true) ∧ Below w.heap.size w w' := by
  generalize hm : n * 10000 = m
  have hq : m.tdiv 10000 = n := by rw [← hm]; exact Int.mul_tdiv_cancel n (by omega)
  have ew : wrap64 n = n := wrap_in (fits_of_in hn)
  obtain ⟨q, hq2⟩ : ∃ q, n.tdiv 10000 = q := ⟨_, rfl⟩
  have ew2 : wrap64 q = q := by rw [← hq2]; exact wrap_in (tdiv_fits hn)
  have hI2 := Int_3 n q hn hq2
  have ew3 : IntKind.i64.wrap n = n := by rw [IntKind.wrap_i64]; unfold In at hn; omega
  have ew4 : IntKind.i64.wrap q = q := by have := in_of_fits (hq2 ▸ tdiv_fits hn); rw [IntKind.wrap_i64]; unfold In at this; omega
  cases hf : fits m with
  | true =>
    have hD := Dec_ok n m hn hm hf
    have hI := Int_3 m n (in_of_fits hf) hq
    clear hm hf
    go_enter Try.func6, Try.ntmps6
    go_wp2_with (first | (go_at_call 25; refine (dec_any _ _).mono ?_; rintro e w' ⟨rfl, rfl⟩) | (go_at_call 26; refine (num_any _ _).mono ?_; rintro e w' ⟨rfl, rfl⟩))
    refine (hD _).mono ?_
    rintro e w1 ⟨rfl, hb1⟩
    have B1 : Bel w.heap.size w w1 := Bel.step (by repeat (first | exact Bel.refl _ | assumption | refine Bel.alloc ?_ _ | refine Bel.drew ?_ | refine Bel.drewN ?_ _)) hb1
    go_wp2_with (first | (go_at_call 25; refine (dec_any _ _).mono ?_; rintro e w' ⟨rfl, rfl⟩) | (go_at_call 26; refine (num_any _ _).mono ?_; rintro e w' ⟨rfl, rfl⟩))
    refine (hI _).mono ?_
    rintro e w2 ⟨rfl, hb2⟩
    have B2 : Bel w.heap.size w w2 := Bel.step (by repeat (first | exact Bel.refl _ | assumption | refine Bel.alloc ?_ _ | refine Bel.drew ?_ | refine Bel.drewN ?_ _)) hb2
    have Ad2 : Box w2 (w1.heap.size) (3) (m) ⟨#[]⟩ := Box.step (by repeat (first | exact Box.new _ _ _ _ | assumption | refine Box.alloc ?_ _ | refine Box.drew ?_ | refine Box.drewN ?_ _)) hb2
    have xd2 := Ad2.c0; have yd2 := Ad2.c1; have zd2 := Ad2.c2; have ld2 := Ad2.lt
    go_wp2_with fail
    have Cd : Box (w2.alloc (.cells #[.int .i64 (2), .int .i64 (n), .string ⟨#[]⟩] 23)) (w1.heap.size) (3) (m) ⟨#[]⟩ := (by repeat (first | exact Box.new _ _ _ _ | assumption | refine Box.alloc ?_ _ | refine Box.drew ?_ | refine Box.drewN ?_ _))
    have Cb : Box (w2.alloc (.cells #[.int .i64 (2), .int .i64 (n), .string ⟨#[]⟩] 23)) (w2.heap.size) (2) (n) ⟨#[]⟩ := (by repeat (first | exact Box.new _ _ _ _ | assumption | refine Box.alloc ?_ _ | refine Box.drew ?_ | refine Box.drewN ?_ _))
    have CB : Bel w.heap.size w (w2.alloc (.cells #[.int .i64 (2), .int .i64 (n), .string ⟨#[]⟩] 23)) := (by repeat (first | exact Bel.refl _ | assumption | refine Bel.alloc ?_ _ | refine Bel.drew ?_ | refine Bel.drewN ?_ _))
    have S0 : (w2.alloc (.cells #[.int .i64 (2), .int .i64 (n), .string ⟨#[]⟩] 23)).cell? ⟨(w1.heap.size), 0, none⟩ = some (.int .i64 (3)) ∧ (w2.alloc (.cells #[.int .i64 (2), .int .i64 (n), .string ⟨#[]⟩] 23)).cell? ⟨(w1.heap.size), 1, none⟩ = some (.int .i64 (m)) ∧ (w2.alloc (.cells #[.int .i64 (2), .int .i64 (n), .string ⟨#[]⟩] 23)).cell? ⟨(w1.heap.size), 2, none⟩ = some (.string ⟨#[]⟩) ∧ (w2.alloc (.cells #[.int .i64 (2), .int .i64 (n), .string ⟨#[]⟩] 23)).cell? ⟨(w2.heap.size), 0, none⟩ = some (.int .i64 (2)) ∧ (w2.alloc (.cells #[.int .i64 (2), .int .i64 (n), .string ⟨#[]⟩] 23)).cell? ⟨(w2.heap.size), 1, none⟩ = some (.int .i64 (n)) ∧ (w2.alloc (.cells #[.int .i64 (2), .int .i64 (n), .string ⟨#[]⟩] 23)).cell? ⟨(w2.heap.size), 2, none⟩ = some (.string ⟨#[]⟩) ∧ (w1.heap.size) < (w2.alloc (.cells #[.int .i64 (2), .int .i64 (n), .string ⟨#[]⟩] 23)).heap.size ∧ (w2.heap.size) < (w2.alloc (.cells #[.int .i64 (2), .int .i64 (n), .string ⟨#[]⟩] 23)).heap.size ∧ Below w.heap.size w (w2.alloc (.cells #[.int .i64 (2), .int .i64 (n), .string ⟨#[]⟩] 23)) := ⟨Cd.c0, Cd.c1, Cd.c2, Cb.c0, Cb.c1, Cb.c2, Cd.lt, Cb.lt, CB.out⟩
    go_region_held3 (fun w' => w'.cell? ⟨(w1.heap.size), 0, none⟩ = some (.int .i64 (3)) ∧ w'.cell? ⟨(w1.heap.size), 1, none⟩ = some (.int .i64 (m)) ∧ w'.cell? ⟨(w1.heap.size), 2, none⟩ = some (.string ⟨#[]⟩) ∧ w'.cell? ⟨(w2.heap.size), 0, none⟩ = some (.int .i64 (2)) ∧ w'.cell? ⟨(w2.heap.size), 1, none⟩ = some (.int .i64 (n)) ∧ w'.cell? ⟨(w2.heap.size), 2, none⟩ = some (.string ⟨#[]⟩) ∧ (w1.heap.size) < w'.heap.size ∧ (w2.heap.size) < w'.heap.size ∧ Below w.heap.size w w') (first | exact keep2 (by assumption) hb | exact keep2d S0) (first | (go_at_call 25; refine (decB _ _).mono ?_; rintro e w' ⟨rfl, hb⟩) | (go_at_call 26; refine (numB _ _).mono ?_; rintro e w' ⟨rfl, hb⟩) | (go_at_call 23; refine (sure_any _).mono ?_; rintro e w' ⟨rfl, hb⟩))
    have BB := Bel.of (last2 (w := w) (by assumption))
    go_wp2_with (first | (go_at_call 25; refine (dec_any _ _).mono ?_; rintro e w' ⟨rfl, rfl⟩) | (go_at_call 26; refine (num_any _ _).mono ?_; rintro e w' ⟨rfl, rfl⟩))
    refine (hI2 _).mono ?_
    rintro e w3 ⟨rfl, hb3⟩
    have B3 : Bel w.heap.size w w3 := Bel.step (by repeat (first | exact Bel.refl _ | assumption | refine Bel.alloc ?_ _ | refine Bel.drew ?_ | refine Bel.drewN ?_ _)) hb3
    go_wp2_with fail
    have Cv : Box (w3.alloc (.cells #[.int .i64 (2), .int .i64 (q), .string ⟨#[]⟩] 23)) (w3.heap.size) (2) (q) ⟨#[]⟩ := (by repeat (first | exact Box.new _ _ _ _ | assumption | refine Box.alloc ?_ _ | refine Box.drew ?_ | refine Box.drewN ?_ _))
    have CB : Bel w.heap.size w (w3.alloc (.cells #[.int .i64 (2), .int .i64 (q), .string ⟨#[]⟩] 23)) := (by repeat (first | exact Bel.refl _ | assumption | refine Bel.alloc ?_ _ | refine Bel.drew ?_ | refine Bel.drewN ?_ _))
    have S0 : (w3.alloc (.cells #[.int .i64 (2), .int .i64 (q), .string ⟨#[]⟩] 23)).cell? ⟨(w3.heap.size), 0, none⟩ = some (.int .i64 (2)) ∧ (w3.alloc (.cells #[.int .i64 (2), .int .i64 (q), .string ⟨#[]⟩] 23)).cell? ⟨(w3.heap.size), 1, none⟩ = some (.int .i64 (q)) ∧ (w3.alloc (.cells #[.int .i64 (2), .int .i64 (q), .string ⟨#[]⟩] 23)).cell? ⟨(w3.heap.size), 2, none⟩ = some (.string ⟨#[]⟩) ∧ (w3.heap.size) < (w3.alloc (.cells #[.int .i64 (2), .int .i64 (q), .string ⟨#[]⟩] 23)).heap.size ∧ Below w.heap.size w (w3.alloc (.cells #[.int .i64 (2), .int .i64 (q), .string ⟨#[]⟩] 23)) := ⟨Cv.c0, Cv.c1, Cv.c2, Cv.lt, CB.out⟩
    go_region_held3 (fun w' => w'.cell? ⟨(w3.heap.size), 0, none⟩ = some (.int .i64 (2)) ∧ w'.cell? ⟨(w3.heap.size), 1, none⟩ = some (.int .i64 (q)) ∧ w'.cell? ⟨(w3.heap.size), 2, none⟩ = some (.string ⟨#[]⟩) ∧ (w3.heap.size) < w'.heap.size ∧ Below w.heap.size w w') (first | exact keep1 (by assumption) hb | exact keep1d S0) (first | (go_at_call 25; refine (decB _ _).mono ?_; rintro e w' ⟨rfl, hb⟩) | (go_at_call 26; refine (numB _ _).mono ?_; rintro e w' ⟨rfl, hb⟩) | (go_at_call 23; refine (sure_any _).mono ?_; rintro e w' ⟨rfl, hb⟩))
    go_wp2
    go_ret
    exact ⟨by simp, last1 (by assumption)⟩
  | false =>
    have hD := Dec_over n m hn hm hf
    have hbig : n ≤ -900000000000000 ∨ 900000000000000 ≤ n := by
      simp only [fits, decide_eq_false_iff_not] at hf
      omega
    clear hm hf hq
    rcases hbig with hbig | hbig
    · have hg : ((-900000000000000 : Int) < n) = False := by simp; omega
      clear hbig
      go_enter Try.func6, Try.ntmps6
      go_wp2_with (first | (go_at_call 25; refine (dec_any _ _).mono ?_; rintro e w' ⟨rfl, rfl⟩) | (go_at_call 26; refine (num_any _ _).mono ?_; rintro e w' ⟨rfl, rfl⟩))
      refine (hD _).mono ?_
      rintro e w1 ⟨rfl, hb1⟩
      have B1 : Bel w.heap.size w w1 := Bel.step (by repeat (first | exact Bel.refl _ | assumption | refine Bel.alloc ?_ _ | refine Bel.drew ?_ | refine Bel.drewN ?_ _)) hb1
      go_wp2_with (first | (go_at_call 25; refine (dec_any _ _).mono ?_; rintro e w' ⟨rfl, rfl⟩) | (go_at_call 26; refine (num_any _ _).mono ?_; rintro e w' ⟨rfl, rfl⟩))
      refine (hI2 _).mono ?_
      rintro e w2 ⟨rfl, hb2⟩
      have B2 : Bel w.heap.size w w2 := Bel.step (by repeat (first | exact Bel.refl _ | assumption | refine Bel.alloc ?_ _ | refine Bel.drew ?_ | refine Bel.drewN ?_ _)) hb2
      go_wp2_with fail
      have Cv : Box (w2.alloc (.cells #[.int .i64 (2), .int .i64 (q), .string ⟨#[]⟩] 23)) (w2.heap.size) (2) (q) ⟨#[]⟩ := (by repeat (first | exact Box.new _ _ _ _ | assumption | refine Box.alloc ?_ _ | refine Box.drew ?_ | refine Box.drewN ?_ _))
      have CB : Bel w.heap.size w (w2.alloc (.cells #[.int .i64 (2), .int .i64 (q), .string ⟨#[]⟩] 23)) := (by repeat (first | exact Bel.refl _ | assumption | refine Bel.alloc ?_ _ | refine Bel.drew ?_ | refine Bel.drewN ?_ _))
      have S0 : (w2.alloc (.cells #[.int .i64 (2), .int .i64 (q), .string ⟨#[]⟩] 23)).cell? ⟨(w2.heap.size), 0, none⟩ = some (.int .i64 (2)) ∧ (w2.alloc (.cells #[.int .i64 (2), .int .i64 (q), .string ⟨#[]⟩] 23)).cell? ⟨(w2.heap.size), 1, none⟩ = some (.int .i64 (q)) ∧ (w2.alloc (.cells #[.int .i64 (2), .int .i64 (q), .string ⟨#[]⟩] 23)).cell? ⟨(w2.heap.size), 2, none⟩ = some (.string ⟨#[]⟩) ∧ (w2.heap.size) < (w2.alloc (.cells #[.int .i64 (2), .int .i64 (q), .string ⟨#[]⟩] 23)).heap.size ∧ Below w.heap.size w (w2.alloc (.cells #[.int .i64 (2), .int .i64 (q), .string ⟨#[]⟩] 23)) := ⟨Cv.c0, Cv.c1, Cv.c2, Cv.lt, CB.out⟩
      go_region_held3 (fun w' => w'.cell? ⟨(w2.heap.size), 0, none⟩ = some (.int .i64 (2)) ∧ w'.cell? ⟨(w2.heap.size), 1, none⟩ = some (.int .i64 (q)) ∧ w'.cell? ⟨(w2.heap.size), 2, none⟩ = some (.string ⟨#[]⟩) ∧ (w2.heap.size) < w'.heap.size ∧ Below w.heap.size w w') (first | exact keep1 (by assumption) hb | exact keep1d S0) (first | (go_at_call 25; refine (decB _ _).mono ?_; rintro e w' ⟨rfl, hb⟩) | (go_at_call 26; refine (numB _ _).mono ?_; rintro e w' ⟨rfl, hb⟩) | (go_at_call 23; refine (sure_any _).mono ?_; rintro e w' ⟨rfl, hb⟩))
      go_wp2
      go_ret
      exact ⟨by simp, last1 (by assumption)⟩
    · have hg : (n < (900000000000000 : Int)) = False := by simp; omega
      have hg2 : ((-900000000000000 : Int) < n) = True := by simp; omega
      clear hbig
      go_enter Try.func6, Try.ntmps6
      go_wp2_with (first | (go_at_call 25; refine (dec_any _ _).mono ?_; rintro e w' ⟨rfl, rfl⟩) | (go_at_call 26; refine (num_any _ _).mono ?_; rintro e w' ⟨rfl, rfl⟩))
      refine (hD _).mono ?_
      rintro e w1 ⟨rfl, hb1⟩
      have B1 : Bel w.heap.size w w1 := Bel.step (by repeat (first | exact Bel.refl _ | assumption | refine Bel.alloc ?_ _ | refine Bel.drew ?_ | refine Bel.drewN ?_ _)) hb1
      go_wp2_with (first | (go_at_call 25; refine (dec_any _ _).mono ?_; rintro e w' ⟨rfl, rfl⟩) | (go_at_call 26; refine (num_any _ _).mono ?_; rintro e w' ⟨rfl, rfl⟩))
      refine (hI2 _).mono ?_
      rintro e w2 ⟨rfl, hb2⟩
      have B2 : Bel w.heap.size w w2 := Bel.step (by repeat (first | exact Bel.refl _ | assumption | refine Bel.alloc ?_ _ | refine Bel.drew ?_ | refine Bel.drewN ?_ _)) hb2
      go_wp2_with fail
      have Cv : Box (w2.alloc (.cells #[.int .i64 (2), .int .i64 (q), .string ⟨#[]⟩] 23)) (w2.heap.size) (2) (q) ⟨#[]⟩ := (by repeat (first | exact Box.new _ _ _ _ | assumption | refine Box.alloc ?_ _ | refine Box.drew ?_ | refine Box.drewN ?_ _))
      have CB : Bel w.heap.size w (w2.alloc (.cells #[.int .i64 (2), .int .i64 (q), .string ⟨#[]⟩] 23)) := (by repeat (first | exact Bel.refl _ | assumption | refine Bel.alloc ?_ _ | refine Bel.drew ?_ | refine Bel.drewN ?_ _))
      have S0 : (w2.alloc (.cells #[.int .i64 (2), .int .i64 (q), .string ⟨#[]⟩] 23)).cell? ⟨(w2.heap.size), 0, none⟩ = some (.int .i64 (2)) ∧ (w2.alloc (.cells #[.int .i64 (2), .int .i64 (q), .string ⟨#[]⟩] 23)).cell? ⟨(w2.heap.size), 1, none⟩ = some (.int .i64 (q)) ∧ (w2.alloc (.cells #[.int .i64 (2), .int .i64 (q), .string ⟨#[]⟩] 23)).cell? ⟨(w2.heap.size), 2, none⟩ = some (.string ⟨#[]⟩) ∧ (w2.heap.size) < (w2.alloc (.cells #[.int .i64 (2), .int .i64 (q), .string ⟨#[]⟩] 23)).heap.size ∧ Below w.heap.size w (w2.alloc (.cells #[.int .i64 (2), .int .i64 (q), .string ⟨#[]⟩] 23)) := ⟨Cv.c0, Cv.c1, Cv.c2, Cv.lt, CB.out⟩
      go_region_held3 (fun w' => w'.cell? ⟨(w2.heap.size), 0, none⟩ = some (.int .i64 (2)) ∧ w'.cell? ⟨(w2.heap.size), 1, none⟩ = some (.int .i64 (q)) ∧ w'.cell? ⟨(w2.heap.size), 2, none⟩ = some (.string ⟨#[]⟩) ∧ (w2.heap.size) < w'.heap.size ∧ Below w.heap.size w w') (first | exact keep1 (by assumption) hb | exact keep1d S0) (first | (go_at_call 25; refine (decB _ _).mono ?_; rintro e w' ⟨rfl, hb⟩) | (go_at_call 26; refine (numB _ _).mono ?_; rintro e w' ⟨rfl, hb⟩) | (go_at_call 23; refine (sure_any _).mono ?_; rintro e w' ⟨rfl, hb⟩))
      go_wp2
      go_ret
      exact ⟨by simp, last1 (by assumption)⟩
end Go.Proofs.Ytakcmjigddeapaa
