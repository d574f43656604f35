/- What the exported functions of package arith give, for any values. -/
import Derived.Test.YtjphmbgennadcaaGreatDoorArArith
namespace Go.Proofs.YtjphmbgennadcaaGreatDoor.Ar
open Go.ChangeShapes Go.WideShapes Go.ChangeAt Go.RowKit

theorem e28 : ∀ args w, (callFunc 114 args).run Tryz.prog w = .ok (.enter 114 args) w := enters_of Tryz.func114 (by kernel_rfl) rfl
theorem minus_fit (x y : Int) (w : World) (hx : In x) (hy : In y) : Calls Tryz.prog 114 #[.int .i64 x, .int .i64 y] w fun e w' => e = .returned (.tuple #[.int .i64 (wrap64 (x - y)), .bool (fits (x - y))]) ∧ Below w.heap.size w w' := by
  refine (minus_any x y w).mono ?_
  rintro e w' ⟨rfl, rfl⟩
  exact ⟨by rw [minus_ok hx hy], Below.refl _ _⟩
theorem up_ne {kd k n : Int} (h : n ≠ 0) : up kd k n ≠ 0 := by
  unfold up; split <;> omega
theorem number_sure (k n : Int) (w : World) : Calls Tryz.prog 115 #[.int .i64 k, .int .i64 n, .bool true] w fun e w' => e = .returned (.tuple #[.agg #[.int .i64 (((k : Int), (n : Int), (0 : Int))).1, .int .i64 (((k : Int), (n : Int), (0 : Int))).2.1, .string ⟨#[]⟩], .int .i64 (((k : Int), (n : Int), (0 : Int))).2.2]) ∧ Below w.heap.size w w' := by
  refine (number_ok k n w).mono ?_
  rintro e w' ⟨rfl, rfl⟩
  exact ⟨rfl, (Bel.alloc (Bel.refl _) _).out⟩
theorem tdiv_fits {n : Int} (hn : In n) : fits (n.tdiv 10000) = true := by
  apply fits_of_in
  unfold In at *
  have h1 : (n.tdiv 10000).natAbs = n.natAbs / 10000 := Int.natAbs_tdiv n 10000
  omega

set_option maxHeartbeats 1000000 in
theorem Neg_any (k n : Int) (t : ByteArray) (hn : In n) (w : World) : Calls Tryz.prog 82 #[.agg #[.int .i64 k, .int .i64 n, .string t]] w fun e w' => e = .returned (.tuple #[.agg #[.int .i64 (negS k n).1, .int .i64 (negS k n).2.1, .string ⟨#[]⟩], .int .i64 (negS k n).2.2]) ∧ Below w.heap.size w w' := by
  unfold negS
  have hs := settled1 k n t
  have hm := fun w => minus_fit 0 n w (by unfold In; omega) hn
  have hnum := fun w => number_fin k (wrap64 (0 - n)) (0 - n) w (fun h => wrap_in h)
  generalize 0 - n = m at *
  generalize wrap64 m = m' at *
  generalize st1 k = p at *
  obtain ⟨e0, d⟩ := p
  cases d with
  | true =>
    go_enter Tryz.func82, Tryz.ntmps82
    go_wp2_with fail
    refine (hs _ _ (by simp)).mono ?_
    rintro e w1 ⟨rfl, hb1⟩
    obtain ⟨hc1, hf1⟩ := bcell hb1
    go_wp2
    exact bodyPost_ret (v := .tuple #[.agg #[.int .i64 (((0 : Int), (0 : Int), e0)).1, .int .i64 (((0 : Int), (0 : Int), e0)).2.1, .string ⟨#[]⟩], .int .i64 (((0 : Int), (0 : Int), e0)).2.2]) (by simp [results, Tryz.results82, go_sem, hc1]) rfl ⟨rfl, (Bel.out (by repeat (first | exact Bel.refl _ | refine Bel.drew ?_ | refine Bel.drewN ?_ _ | refine Bel.alloc ?_ _ | refine Bel.setCell ?_ (by simp <;> omega) _ | refine Bel.step ?_ (by assumption))))⟩
  | false =>
    go_enter Tryz.func82, Tryz.ntmps82
    go_wp2_with fail
    refine (hs _ _ (by simp)).mono ?_
    rintro e w1 ⟨rfl, hb1⟩
    obtain ⟨hc1, hf1⟩ := bcell hb1
    go_wp2_with fail
    refine (hm _).mono ?_
    rintro e w2 ⟨rfl, hb2⟩
    have hz2 := bchain hb1 hb2
    obtain ⟨hc2, hf2⟩ := bcell hz2
    go_wp2_with fail
    refine (hnum _).mono ?_
    rintro e w3 ⟨rfl, hb3⟩
    have hz3 := bchain hz2 hb3
    obtain ⟨hc3, hf3⟩ := bcell hz3
    go_wp2
    exact bodyPost_ret (v := .tuple #[.agg #[.int .i64 (fin k m).1, .int .i64 (fin k m).2.1, .string ⟨#[]⟩], .int .i64 (fin k m).2.2]) (by simp [results, Tryz.results82, go_sem, hc3]) rfl ⟨rfl, (Bel.out (by repeat (first | exact Bel.refl _ | refine Bel.drew ?_ | refine Bel.drewN ?_ _ | refine Bel.alloc ?_ _ | refine Bel.setCell ?_ (by simp <;> omega) _ | refine Bel.step ?_ (by assumption))))⟩

set_option maxHeartbeats 1000000 in
theorem Dec_any (k n : Int) (t : ByteArray) (hn : In n) (w : World) : Calls Tryz.prog 99 #[.agg #[.int .i64 k, .int .i64 n, .string t]] w fun e w' => e = .returned (.tuple #[.agg #[.int .i64 (decS k n).1, .int .i64 (decS k n).2.1, .string ⟨#[]⟩], .int .i64 (decS k n).2.2]) ∧ Below w.heap.size w w' := by
  unfold decS
  have hs := settled1 k n t
  have hm := fun w => inKind_any 3 k n t w hn
  have hnum := fun w => number_fin 3 (inN 3 k n) (up 3 k n) w (fun h => up_in hn h)
  generalize st1 k = p at *
  obtain ⟨e0, d⟩ := p
  cases d with
  | true =>
    go_enter Tryz.func99, Tryz.ntmps99
    go_wp2_with fail
    refine (hs _ _ (by simp)).mono ?_
    rintro e w1 ⟨rfl, hb1⟩
    obtain ⟨hc1, hf1⟩ := bcell hb1
    go_wp2
    exact bodyPost_ret (v := .tuple #[.agg #[.int .i64 (((0 : Int), (0 : Int), e0)).1, .int .i64 (((0 : Int), (0 : Int), e0)).2.1, .string ⟨#[]⟩], .int .i64 (((0 : Int), (0 : Int), e0)).2.2]) (by simp [results, Tryz.results99, go_sem, hc1]) rfl ⟨rfl, (Bel.out (by repeat (first | exact Bel.refl _ | refine Bel.drew ?_ | refine Bel.drewN ?_ _ | refine Bel.alloc ?_ _ | refine Bel.setCell ?_ (by simp <;> omega) _ | refine Bel.step ?_ (by assumption))))⟩
  | false =>
    go_enter Tryz.func99, Tryz.ntmps99
    go_wp2_with fail
    refine (hs _ _ (by simp)).mono ?_
    rintro e w1 ⟨rfl, hb1⟩
    obtain ⟨hc1, hf1⟩ := bcell hb1
    go_wp2_with fail
    refine (hm _).mono ?_
    rintro e w2 ⟨rfl, hb2⟩
    have hz2 := bchain hb1 hb2
    obtain ⟨hc2, hf2⟩ := bcell hz2
    go_wp2_with fail
    refine (hnum _).mono ?_
    rintro e w3 ⟨rfl, hb3⟩
    have hz3 := bchain hz2 hb3
    obtain ⟨hc3, hf3⟩ := bcell hz3
    go_wp2
    exact bodyPost_ret (v := .tuple #[.agg #[.int .i64 (fin 3 (up 3 k n)).1, .int .i64 (fin 3 (up 3 k n)).2.1, .string ⟨#[]⟩], .int .i64 (fin 3 (up 3 k n)).2.2]) (by simp [results, Tryz.results99, go_sem, hc3]) rfl ⟨rfl, (Bel.out (by repeat (first | exact Bel.refl _ | refine Bel.drew ?_ | refine Bel.drewN ?_ _ | refine Bel.alloc ?_ _ | refine Bel.setCell ?_ (by simp <;> omega) _ | refine Bel.step ?_ (by assumption))))⟩

set_option maxHeartbeats 1000000 in
theorem Int_any (k n : Int) (t : ByteArray) (hn : In n) (w : World) : Calls Tryz.prog 100 #[.agg #[.int .i64 k, .int .i64 n, .string t]] w fun e w' => e = .returned (.tuple #[.agg #[.int .i64 (intS k n).1, .int .i64 (intS k n).2.1, .string ⟨#[]⟩], .int .i64 (intS k n).2.2]) ∧ Below w.heap.size w w' := by
  unfold intS
  have hs := settled1 k n t
  generalize st1 k = p at *
  obtain ⟨e0, d⟩ := p
  cases d with
  | true =>
    go_enter Tryz.func100, Tryz.ntmps100
    go_wp2_with fail
    refine (hs _ _ (by simp)).mono ?_
    rintro e w1 ⟨rfl, hb1⟩
    obtain ⟨hc1, hf1⟩ := bcell hb1
    go_wp2
    exact bodyPost_ret (v := .tuple #[.agg #[.int .i64 (((0 : Int), (0 : Int), e0)).1, .int .i64 (((0 : Int), (0 : Int), e0)).2.1, .string ⟨#[]⟩], .int .i64 (((0 : Int), (0 : Int), e0)).2.2]) (by simp [results, Tryz.results100, go_sem, hc1]) rfl ⟨rfl, (Bel.out (by repeat (first | exact Bel.refl _ | refine Bel.drew ?_ | refine Bel.drewN ?_ _ | refine Bel.alloc ?_ _ | refine Bel.setCell ?_ (by simp <;> omega) _ | refine Bel.step ?_ (by assumption))))⟩
  | false =>
    by_cases hk : k = 3
    · subst hk
      have hw : wrap64 (n.tdiv 10000) = n.tdiv 10000 := wrap_in (tdiv_fits hn)
      have hnum := number_sure 2 (n.tdiv 10000)
      go_enter Tryz.func100, Tryz.ntmps100
      go_wp2_with fail
      refine (hs _ _ (by simp)).mono ?_
      rintro e w1 ⟨rfl, hb1⟩
      obtain ⟨hc1, hf1⟩ := bcell hb1
      go_wp2_with fail
      refine (hnum _).mono ?_
      rintro e w2 ⟨rfl, hb2⟩
      have hz2 := bchain hb1 hb2
      obtain ⟨hc2, hf2⟩ := bcell hz2
      go_wp2
      exact bodyPost_ret (v := .tuple #[.agg #[.int .i64 (((2 : Int), n.tdiv 10000, (0 : Int))).1, .int .i64 (((2 : Int), n.tdiv 10000, (0 : Int))).2.1, .string ⟨#[]⟩], .int .i64 (((2 : Int), n.tdiv 10000, (0 : Int))).2.2]) (by simp [results, Tryz.results100, go_sem, hc2]) rfl ⟨rfl, (Bel.out (by repeat (first | exact Bel.refl _ | refine Bel.drew ?_ | refine Bel.drewN ?_ _ | refine Bel.alloc ?_ _ | refine Bel.setCell ?_ (by simp <;> omega) _ | refine Bel.step ?_ (by assumption))))⟩
    · have hnum := number_sure 2 n
      rw [if_neg hk]
      go_enter Tryz.func100, Tryz.ntmps100
      go_wp2_with fail
      refine (hs _ _ (by simp)).mono ?_
      rintro e w1 ⟨rfl, hb1⟩
      obtain ⟨hc1, hf1⟩ := bcell hb1
      go_wp2_with fail
      refine (hnum _).mono ?_
      rintro e w2 ⟨rfl, hb2⟩
      have hz2 := bchain hb1 hb2
      obtain ⟨hc2, hf2⟩ := bcell hz2
      go_wp2
      exact bodyPost_ret (v := .tuple #[.agg #[.int .i64 (((2 : Int), n, (0 : Int))).1, .int .i64 (((2 : Int), n, (0 : Int))).2.1, .string ⟨#[]⟩], .int .i64 (((2 : Int), n, (0 : Int))).2.2]) (by simp [results, Tryz.results100, go_sem, hc2]) rfl ⟨rfl, (Bel.out (by repeat (first | exact Bel.refl _ | refine Bel.drew ?_ | refine Bel.drewN ?_ _ | refine Bel.alloc ?_ _ | refine Bel.setCell ?_ (by simp <;> omega) _ | refine Bel.step ?_ (by assumption))))⟩

end Go.Proofs.YtjphmbgennadcaaGreatDoor.Ar
