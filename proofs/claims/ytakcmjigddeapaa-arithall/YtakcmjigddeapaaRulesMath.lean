/- Sums and products the other way round, differences that undo sums, quotients and rests: the arithmetic. -/
import Derived.Test.YtakcmjigddeapaaOps
namespace Go.Proofs.Ytakcmjigddeapaa
open Go.RowKit

/-- The kind that a mark says. -/
def kd (d : Bool) : Int := if d then 3 else 2
theorem kd_cases (d : Bool) : kd d = 2 ∨ kd d = 3 := by cases d <;> simp [kd]
theorem st2_num {k k' : Int} (hk : k = 2 ∨ k = 3) (hk' : k' = 2 ∨ k' = 3) : st2 k k' = (0, false) := by
  rcases hk with rfl | rfl <;> rcases hk' with rfl | rfl <;> rfl
theorem kind2_comm (k k' : Int) : kind2 k k' = kind2 k' k := by unfold kind2; simp only [Or.comm]
theorem addS_comm {k n k' n' : Int} (hk : k = 2 ∨ k = 3) (hk' : k' = 2 ∨ k' = 3) : addS k' n' k n = addS k n k' n' := by
  unfold addS alikeS
  rw [st2_num hk hk', st2_num hk' hk, kind2_comm k' k, Bool.and_comm]
  dsimp only
  rw [Int.add_comm]
theorem mulS_comm {k n k' n' : Int} (hk : k = 2 ∨ k = 3) (hk' : k' = 2 ∨ k' = 3) : mulS k' n' k n = mulS k n k' n' := by
  unfold mulS T3
  rw [st2_num hk hk', st2_num hk' hk, kind2_comm k' k, Int.mul_comm n' n]
  simp only [And.comm]

theorem fin_ok {k x : Int} (h : fits x = true) : fin k x = (k, x, 0) := by unfold fin; rw [if_pos h]
/-- A sum, or that there is none; and what differences make of it. -/
theorem sum_cases {k n k' n' : Int} (hk : k = 2 ∨ k = 3) (hk' : k' = 2 ∨ k' = 3) :
    addS k n k' n' = (0, 0, 20) ∨ ∃ c X Z, addS k n k' n' = (c, Z, 0) ∧ In X ∧ In Z ∧ subS c Z k' n' = (c, X, 0) ∧ subS c X k n = (c, 0, 0) := by
  have hkind : kind2 k k' = 2 ∨ kind2 k k' = 3 := by unfold kind2; split <;> simp
  have e1 : kind2 (kind2 k k') k' = kind2 k k' := by
    unfold kind2; rcases hk with rfl | rfl <;> rcases hk' with rfl | rfl <;> rfl
  have e2 : kind2 (kind2 k k') k = kind2 k k' := by
    unfold kind2; rcases hk with rfl | rfl <;> rcases hk' with rfl | rfl <;> rfl
  have ha : addS k n k' n' = alikeS (fun x y => x + y) k n k' n' := by unfold addS; rw [st2_num hk hk']; rfl
  have hs1 : ∀ Z, subS (kind2 k k') Z k' n' = alikeS (fun x y => x - y) (kind2 k k') Z k' n' := by intro Z; unfold subS; rw [st2_num hkind hk']; rfl
  have hs2 : ∀ Z, subS (kind2 k k') Z k n = alikeS (fun x y => x - y) (kind2 k k') Z k n := by intro Z; unfold subS; rw [st2_num hkind hk]; rfl
  unfold alikeS at ha
  by_cases hf : (fits (up (kind2 k k') k n) && fits (up (kind2 k k') k' n')) = true
  · rw [if_pos hf] at ha
    simp only [Bool.and_eq_true] at hf
    generalize hX : up (kind2 k k') k n = X at *
    generalize hY : up (kind2 k k') k' n' = Y at *
    by_cases hz : fits (X + Y) = true
    · rw [fin_ok hz] at ha
      refine Or.inr ⟨_, X, _, ha, in_of_fits hf.1, in_of_fits hz, ?_, ?_⟩
      · rw [hs1]
        unfold alikeS
        rw [e1]
        have u1 : up (kind2 k k') (kind2 k k') (X + Y) = X + Y := by unfold up; rw [if_pos rfl]
        have u3 : X + Y - Y = X := by omega
        rw [u1, hY, hz, hf.2]
        dsimp only
        rw [u3]
        exact fin_ok hf.1
      · rw [hs2]
        unfold alikeS
        rw [e2]
        have u1 : up (kind2 k k') (kind2 k k') X = X := by unfold up; rw [if_pos rfl]
        have u3 : X - X = 0 := by omega
        rw [u1, hX, hf.1]
        dsimp only
        rw [u3]
        rfl
    · refine Or.inl ?_
      rw [ha]; unfold fin; rw [if_neg hz]
  · rw [if_neg hf] at ha
    exact Or.inl ha

/-- Whole quotients and rests. -/
theorem whole {x y : Int} (hx : In x) (hy : In y) (h0 : y ≠ 0) (hm : ¬ (x = -9223372036854775808 ∧ y = -1)) :
    ∃ q r m, divS 2 x 2 y = (2, q, 0) ∧ modS 2 x 2 y = (2, r, 0) ∧ mulS 2 q 2 y = (2, m, 0) ∧ addS 2 m 2 r = (2, x, 0) ∧ In q ∧ In r ∧ In m ∧ (r = 0 ∨ (decide (r < 0) == decide (x < 0)) = true) := by
  unfold In at hx hy
  have hq1 : (x.tdiv y).natAbs = x.natAbs / y.natAbs := Int.natAbs_tdiv x y
  have hle := Nat.div_le_self x.natAbs y.natAbs
  have hdm := Int.mul_tdiv_add_tmod x y
  have hr1 : (x.tmod y).natAbs = x.natAbs % y.natAbs := Int.natAbs_tmod x y
  have hr2 := Nat.mod_le x.natAbs y.natAbs
  have hrs : (x < 0 → x.tmod y ≤ 0) ∧ (0 ≤ x → 0 ≤ x.tmod y) := by
    refine ⟨fun h => ?_, fun h => Int.tmod_nonneg y h⟩
    have h3 := Int.tmod_nonneg y (show 0 ≤ -x by omega)
    rw [Int.neg_tmod] at h3; omega
  have hq : In (x.tdiv y) := by
    unfold In
    by_cases h1 : y.natAbs = 1
    · have h2 : y = 1 ∨ y = -1 := by omega
      rcases h2 with rfl | rfl
      · rw [Int.tdiv_one]; exact hx
      · rw [Int.tdiv_neg, Int.tdiv_one]; omega
    · have h2 : x.natAbs / y.natAbs ≤ x.natAbs / 2 := Nat.div_le_div_left (by omega) (by omega)
      omega
  have hr : In (x.tmod y) := by
    unfold In
    rcases Int.lt_or_le x 0 with h | h
    · have := hrs.1 h; omega
    · have := hrs.2 h; omega
  have e2 : ∀ n : Int, up 2 2 n = n := fun n => by unfold up; rw [if_pos rfl]
  have hmul : x.tdiv y * y = x - x.tmod y := by rw [Int.mul_comm]; omega
  have hmIn : In (x - x.tmod y) := by
    unfold In
    rcases Int.lt_or_le x 0 with h | h
    · have := hrs.1 h; omega
    · have := hrs.2 h; omega
  refine ⟨x.tdiv y, x.tmod y, x - x.tmod y, ?_, ?_, ?_, ?_, hq, hr, hmIn, ?_⟩
  · have hu : un2 2 2 y = (0, false) := by unfold un2; rw [st2_num (Or.inl rfl) (Or.inl rfl)]; simp [h0]
    have hT : T3 x 1 y = x.tdiv y := by unfold T3; rw [Int.mul_one]
    have hk : kind2 2 2 = 2 := rfl
    unfold divS alikeS
    rw [hu, hk, e2, e2, fits_of_in (show In x from hx), fits_of_in (show In y from hy)]
    dsimp only
    rw [hT, fin_ok (fits_of_in hq)]
    rfl
  · have hu : un2 2 2 y = (0, false) := by unfold un2; rw [st2_num (Or.inl rfl) (Or.inl rfl)]; simp [h0]
    have hk : kind2 2 2 = 2 := rfl
    unfold modS alikeS
    rw [hu, hk, e2, e2, fits_of_in (show In x from hx), fits_of_in (show In y from hy)]
    dsimp only
    rw [fin_ok (fits_of_in hr)]
    rfl
  · have hT : T3 (x.tdiv y) y 1 = x - x.tmod y := by unfold T3; rw [Int.tdiv_one, hmul]
    have hk : kind2 2 2 = 2 := rfl
    unfold mulS
    rw [st2_num (Or.inl rfl) (Or.inl rfl), hk, if_neg (show ¬ ((2 : Int) = 3 ∧ (2 : Int) = 3) by decide), hT, fin_ok (fits_of_in hmIn)]
    rfl
  · have hk : kind2 2 2 = 2 := rfl
    have hx2 : x - x.tmod y + x.tmod y = x := by omega
    unfold addS alikeS
    rw [st2_num (Or.inl rfl) (Or.inl rfl), hk, e2, e2, fits_of_in hmIn, fits_of_in hr]
    dsimp only
    rw [hx2, fin_ok (fits_of_in (show In x from hx))]
    rfl
  · by_cases hz : x.tmod y = 0
    · exact Or.inl hz
    · refine Or.inr ?_
      rw [beq_iff_eq, decide_eq_decide]
      rcases Int.lt_or_le x 0 with h | h
      · have := hrs.1 h; omega
      · have := hrs.2 h; omega
end Go.Proofs.Ytakcmjigddeapaa
