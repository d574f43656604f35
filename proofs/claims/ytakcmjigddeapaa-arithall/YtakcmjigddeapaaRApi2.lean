/- The exported functions of the document's own answer, for any values: sums, differences, quotients, rests. -/
import Derived.Test.YtakcmjigddeapaaRApi
namespace Go.Proofs.Ytakcmjigddeapaa
open Go.ChangeShapes Go.WideShapes Go.ChangeAt Go.RowKit

set_option maxHeartbeats 4000000 in
theorem RAdd_any (k n : Int) (t : ByteArray) (k' n' : Int) (t' : ByteArray) (hn : In n) (hn' : In n') (w : World) : Calls Try.prog 10 #[.agg #[.int .i64 k, .int .i64 n, .string t], .agg #[.int .i64 k', .int .i64 n', .string t']] w fun e w' => e = .returned (.tuple #[.agg #[.int .i64 (addS k n k' n').1, .int .i64 (addS k n k' n').2.1, .string ⟨#[]⟩], .int .i64 (addS k n k' n').2.2]) ∧ Below w.heap.size w w' := by
  unfold addS
  have hs := first_any k n t k' n' t' false
  rw [fst_false] at hs
  cases hd : (st2 k k').2 with
  | true =>
    rw [hd] at hs
    generalize (st2 k k').1 = e0 at *
    go_enter Try.func10, Try.ntmps10
    go_wp2_with fail
    refine (hs _).mono ?_
    rintro e w1 ⟨rfl, hb1⟩
    obtain ⟨hc1, hf1⟩ := bcell hb1
    go_wp2
    exact bodyPost_ret (v := .tuple #[.agg #[.int .i64 (((0 : Int), (0 : Int), e0)).1, .int .i64 (((0 : Int), (0 : Int), e0)).2.1, .string ⟨#[]⟩], .int .i64 (((0 : Int), (0 : Int), e0)).2.2]) (by simp [results, Try.results10, go_sem, hc1]) rfl ⟨rfl, (Bel.out (by repeat (first | exact Bel.refl _ | refine Bel.drew ?_ | refine Bel.drewN ?_ _ | refine Bel.alloc ?_ _ | refine Bel.setCell ?_ (by simp <;> omega) _ | refine Bel.step ?_ (by assumption))))⟩
  | false =>
    obtain ⟨he, hk, hk'⟩ := st2_pair k k' hd
    rw [he] at hs
    clear hd he
    by_cases hii : k = 2 ∧ k' = 2
    · obtain ⟨rfl, rfl⟩ := hii
      rw [alike_22 _ hn hn']
      have hsum := fun w => sum_below n n' hn hn' w
      have hnum := fun w => of_fin 2 (wrap64 (n + n')) (n + n') w (fun h => wrap_in h)
      generalize n + n' = m at *
      generalize fin 2 m = R at *
      generalize fits m = fm at *
      generalize wrap64 m = m' at *
      go_enter Try.func10, Try.ntmps10
      go_wp2_with fail
      refine (hs _).mono ?_
      rintro e w1 ⟨rfl, hb1⟩
      obtain ⟨hc1, hf1⟩ := bcell hb1
      go_wp2_with fail
      refine (hsum _).mono ?_
      rintro e w2 ⟨rfl, hb2⟩
      have hz2 := bchain hb1 hb2
      obtain ⟨hc2, hf2⟩ := bcell hz2
      go_wp2_with fail
      refine (hnum _).mono ?_
      rintro e w3 ⟨rfl, hb3⟩
      have hz3 := bchain hz2 hb3
      obtain ⟨hc3, hf3⟩ := bcell hz3
      go_wp2
      exact bodyPost_ret (v := .tuple #[.agg #[.int .i64 (R).1, .int .i64 (R).2.1, .string ⟨#[]⟩], .int .i64 (R).2.2]) (by simp [results, Try.results10, go_sem, hc3]) rfl ⟨rfl, (Bel.out (by repeat (first | exact Bel.refl _ | refine Bel.drew ?_ | refine Bel.drewN ?_ _ | refine Bel.alloc ?_ _ | refine Bel.setCell ?_ (by simp <;> omega) _ | refine Bel.step ?_ (by assumption))))⟩
    · have hk3 : kind2 k k' = 3 := by
        unfold kind2; rcases hk with rfl | rfl <;> rcases hk' with rfl | rfl <;> simp at hii ⊢
      rw [alike_dd _ hk3]
      have hds := fun w => decs_any k n t k' n' t' hn hn' w
      have hsum := fun w => sum_below (rdN k n) (rdN k' n') (rdN_in hn) (rdN_in hn') w
      have hX := rdN_eq (k := k) (n := n)
      have hY := rdN_eq (k := k') (n := n')
      have hnot : (k == 2) = false ∨ ((k == 2) = true ∧ (k' == 2) = false) := by
        rcases hk with rfl | rfl <;> rcases hk' with rfl | rfl <;> simp at hii ⊢
      clear hk hk' hii hk3
      cases hok : (fits (up 3 k n) && fits (up 3 k' n')) with
      | true =>
        rw [hok] at hds
        simp only [Bool.and_eq_true] at hok
        rw [hX hok.1, hY hok.2] at hsum hds
        have hnum := fun w => of_fin 3 (wrap64 (up 3 k n + up 3 k' n')) (up 3 k n + up 3 k' n') w (fun h => wrap_in h)
        clear hX hY hok
        rw [if_pos rfl]
        generalize up 3 k n = X at *
        generalize up 3 k' n' = Y at *
        generalize X + Y = m at *
        generalize fin 3 m = R at *
        generalize fits m = fm at *
        generalize wrap64 m = m' at *
        rcases hnot with h2 | ⟨h2, h2'⟩
        · skip
          go_enter Try.func10, Try.ntmps10
          go_wp2_with fail
          refine (hs _).mono ?_
          rintro e w1 ⟨rfl, hb1⟩
          obtain ⟨hc1, hf1⟩ := bcell hb1
          go_wp2_with fail
          refine (hds _).mono ?_
          rintro e w2 ⟨rfl, hb2⟩
          have hz2 := bchain hb1 hb2
          obtain ⟨hc2, hf2⟩ := bcell hz2
          go_wp2_with fail
          refine (hsum _).mono ?_
          rintro e w3 ⟨rfl, hb3⟩
          have hz3 := bchain hz2 hb3
          obtain ⟨hc3, hf3⟩ := bcell hz3
          go_wp2_with fail
          refine (hnum _).mono ?_
          rintro e w4 ⟨rfl, hb4⟩
          have hz4 := bchain hz3 hb4
          obtain ⟨hc4, hf4⟩ := bcell hz4
          go_wp2
          exact bodyPost_ret (v := .tuple #[.agg #[.int .i64 (R).1, .int .i64 (R).2.1, .string ⟨#[]⟩], .int .i64 (R).2.2]) (by simp [results, Try.results10, go_sem, hc4]) rfl ⟨rfl, (Bel.out (by repeat (first | exact Bel.refl _ | refine Bel.drew ?_ | refine Bel.drewN ?_ _ | refine Bel.alloc ?_ _ | refine Bel.setCell ?_ (by simp <;> omega) _ | refine Bel.step ?_ (by assumption))))⟩
        · skip
          go_enter Try.func10, Try.ntmps10
          go_wp2_with fail
          refine (hs _).mono ?_
          rintro e w1 ⟨rfl, hb1⟩
          obtain ⟨hc1, hf1⟩ := bcell hb1
          go_wp2_with fail
          refine (hds _).mono ?_
          rintro e w2 ⟨rfl, hb2⟩
          have hz2 := bchain hb1 hb2
          obtain ⟨hc2, hf2⟩ := bcell hz2
          go_wp2_with fail
          refine (hsum _).mono ?_
          rintro e w3 ⟨rfl, hb3⟩
          have hz3 := bchain hz2 hb3
          obtain ⟨hc3, hf3⟩ := bcell hz3
          go_wp2_with fail
          refine (hnum _).mono ?_
          rintro e w4 ⟨rfl, hb4⟩
          have hz4 := bchain hz3 hb4
          obtain ⟨hc4, hf4⟩ := bcell hz4
          go_wp2
          exact bodyPost_ret (v := .tuple #[.agg #[.int .i64 (R).1, .int .i64 (R).2.1, .string ⟨#[]⟩], .int .i64 (R).2.2]) (by simp [results, Try.results10, go_sem, hc4]) rfl ⟨rfl, (Bel.out (by repeat (first | exact Bel.refl _ | refine Bel.drew ?_ | refine Bel.drewN ?_ _ | refine Bel.alloc ?_ _ | refine Bel.setCell ?_ (by simp <;> omega) _ | refine Bel.step ?_ (by assumption))))⟩
      | false =>
        rw [hok] at hds
        have hnum := of_over 3 (wrap64 (rdN k n + rdN k' n'))
        clear hX hY hok
        rw [if_neg (by simp)]
        generalize rdN k n = X at *
        generalize rdN k' n' = Y at *
        generalize X + Y = m at *
        generalize fits m = fm at *
        generalize wrap64 m = m' at *
        rcases hnot with h2 | ⟨h2, h2'⟩
        · skip
          go_enter Try.func10, Try.ntmps10
          go_wp2_with fail
          refine (hs _).mono ?_
          rintro e w1 ⟨rfl, hb1⟩
          obtain ⟨hc1, hf1⟩ := bcell hb1
          go_wp2_with fail
          refine (hds _).mono ?_
          rintro e w2 ⟨rfl, hb2⟩
          have hz2 := bchain hb1 hb2
          obtain ⟨hc2, hf2⟩ := bcell hz2
          go_wp2_with fail
          refine (hsum _).mono ?_
          rintro e w3 ⟨rfl, hb3⟩
          have hz3 := bchain hz2 hb3
          obtain ⟨hc3, hf3⟩ := bcell hz3
          go_wp2_with fail
          refine (hnum _).mono ?_
          rintro e w4 ⟨rfl, hb4⟩
          have hz4 := bchain hz3 hb4
          obtain ⟨hc4, hf4⟩ := bcell hz4
          go_wp2
          exact bodyPost_ret (v := .tuple #[.agg #[.int .i64 (((0 : Int), (0 : Int), (20 : Int))).1, .int .i64 (((0 : Int), (0 : Int), (20 : Int))).2.1, .string ⟨#[]⟩], .int .i64 (((0 : Int), (0 : Int), (20 : Int))).2.2]) (by simp [results, Try.results10, go_sem, hc4]) rfl ⟨rfl, (Bel.out (by repeat (first | exact Bel.refl _ | refine Bel.drew ?_ | refine Bel.drewN ?_ _ | refine Bel.alloc ?_ _ | refine Bel.setCell ?_ (by simp <;> omega) _ | refine Bel.step ?_ (by assumption))))⟩
        · skip
          go_enter Try.func10, Try.ntmps10
          go_wp2_with fail
          refine (hs _).mono ?_
          rintro e w1 ⟨rfl, hb1⟩
          obtain ⟨hc1, hf1⟩ := bcell hb1
          go_wp2_with fail
          refine (hds _).mono ?_
          rintro e w2 ⟨rfl, hb2⟩
          have hz2 := bchain hb1 hb2
          obtain ⟨hc2, hf2⟩ := bcell hz2
          go_wp2_with fail
          refine (hsum _).mono ?_
          rintro e w3 ⟨rfl, hb3⟩
          have hz3 := bchain hz2 hb3
          obtain ⟨hc3, hf3⟩ := bcell hz3
          go_wp2_with fail
          refine (hnum _).mono ?_
          rintro e w4 ⟨rfl, hb4⟩
          have hz4 := bchain hz3 hb4
          obtain ⟨hc4, hf4⟩ := bcell hz4
          go_wp2
          exact bodyPost_ret (v := .tuple #[.agg #[.int .i64 (((0 : Int), (0 : Int), (20 : Int))).1, .int .i64 (((0 : Int), (0 : Int), (20 : Int))).2.1, .string ⟨#[]⟩], .int .i64 (((0 : Int), (0 : Int), (20 : Int))).2.2]) (by simp [results, Try.results10, go_sem, hc4]) rfl ⟨rfl, (Bel.out (by repeat (first | exact Bel.refl _ | refine Bel.drew ?_ | refine Bel.drewN ?_ _ | refine Bel.alloc ?_ _ | refine Bel.setCell ?_ (by simp <;> omega) _ | refine Bel.step ?_ (by assumption))))⟩

set_option maxHeartbeats 4000000 in
theorem RSub_any (k n : Int) (t : ByteArray) (k' n' : Int) (t' : ByteArray) (hn : In n) (hn' : In n') (w : World) : Calls Try.prog 12 #[.agg #[.int .i64 k, .int .i64 n, .string t], .agg #[.int .i64 k', .int .i64 n', .string t']] w fun e w' => e = .returned (.tuple #[.agg #[.int .i64 (subS k n k' n').1, .int .i64 (subS k n k' n').2.1, .string ⟨#[]⟩], .int .i64 (subS k n k' n').2.2]) ∧ Below w.heap.size w w' := by
  unfold subS
  have hs := first_any k n t k' n' t' false
  rw [fst_false] at hs
  cases hd : (st2 k k').2 with
  | true =>
    rw [hd] at hs
    generalize (st2 k k').1 = e0 at *
    go_enter Try.func12, Try.ntmps12
    go_wp2_with fail
    refine (hs _).mono ?_
    rintro e w1 ⟨rfl, hb1⟩
    obtain ⟨hc1, hf1⟩ := bcell hb1
    go_wp2
    exact bodyPost_ret (v := .tuple #[.agg #[.int .i64 (((0 : Int), (0 : Int), e0)).1, .int .i64 (((0 : Int), (0 : Int), e0)).2.1, .string ⟨#[]⟩], .int .i64 (((0 : Int), (0 : Int), e0)).2.2]) (by simp [results, Try.results12, go_sem, hc1]) rfl ⟨rfl, (Bel.out (by repeat (first | exact Bel.refl _ | refine Bel.drew ?_ | refine Bel.drewN ?_ _ | refine Bel.alloc ?_ _ | refine Bel.setCell ?_ (by simp <;> omega) _ | refine Bel.step ?_ (by assumption))))⟩
  | false =>
    obtain ⟨he, hk, hk'⟩ := st2_pair k k' hd
    rw [he] at hs
    clear hd he
    by_cases hii : k = 2 ∧ k' = 2
    · obtain ⟨rfl, rfl⟩ := hii
      rw [alike_22 _ hn hn']
      have hsum := fun w => difference_below n n' hn hn' w
      have hnum := fun w => of_fin 2 (wrap64 (n - n')) (n - n') w (fun h => wrap_in h)
      generalize n - n' = m at *
      generalize fin 2 m = R at *
      generalize fits m = fm at *
      generalize wrap64 m = m' at *
      go_enter Try.func12, Try.ntmps12
      go_wp2_with fail
      refine (hs _).mono ?_
      rintro e w1 ⟨rfl, hb1⟩
      obtain ⟨hc1, hf1⟩ := bcell hb1
      go_wp2_with fail
      refine (hsum _).mono ?_
      rintro e w2 ⟨rfl, hb2⟩
      have hz2 := bchain hb1 hb2
      obtain ⟨hc2, hf2⟩ := bcell hz2
      go_wp2_with fail
      refine (hnum _).mono ?_
      rintro e w3 ⟨rfl, hb3⟩
      have hz3 := bchain hz2 hb3
      obtain ⟨hc3, hf3⟩ := bcell hz3
      go_wp2
      exact bodyPost_ret (v := .tuple #[.agg #[.int .i64 (R).1, .int .i64 (R).2.1, .string ⟨#[]⟩], .int .i64 (R).2.2]) (by simp [results, Try.results12, go_sem, hc3]) rfl ⟨rfl, (Bel.out (by repeat (first | exact Bel.refl _ | refine Bel.drew ?_ | refine Bel.drewN ?_ _ | refine Bel.alloc ?_ _ | refine Bel.setCell ?_ (by simp <;> omega) _ | refine Bel.step ?_ (by assumption))))⟩
    · have hk3 : kind2 k k' = 3 := by
        unfold kind2; rcases hk with rfl | rfl <;> rcases hk' with rfl | rfl <;> simp at hii ⊢
      rw [alike_dd _ hk3]
      have hds := fun w => decs_any k n t k' n' t' hn hn' w
      have hsum := fun w => difference_below (rdN k n) (rdN k' n') (rdN_in hn) (rdN_in hn') w
      have hX := rdN_eq (k := k) (n := n)
      have hY := rdN_eq (k := k') (n := n')
      have hnot : (k == 2) = false ∨ ((k == 2) = true ∧ (k' == 2) = false) := by
        rcases hk with rfl | rfl <;> rcases hk' with rfl | rfl <;> simp at hii ⊢
      clear hk hk' hii hk3
      cases hok : (fits (up 3 k n) && fits (up 3 k' n')) with
      | true =>
        rw [hok] at hds
        simp only [Bool.and_eq_true] at hok
        rw [hX hok.1, hY hok.2] at hsum hds
        have hnum := fun w => of_fin 3 (wrap64 (up 3 k n - up 3 k' n')) (up 3 k n - up 3 k' n') w (fun h => wrap_in h)
        clear hX hY hok
        rw [if_pos rfl]
        generalize up 3 k n = X at *
        generalize up 3 k' n' = Y at *
        generalize X - Y = m at *
        generalize fin 3 m = R at *
        generalize fits m = fm at *
        generalize wrap64 m = m' at *
        rcases hnot with h2 | ⟨h2, h2'⟩
        · skip
          go_enter Try.func12, Try.ntmps12
          go_wp2_with fail
          refine (hs _).mono ?_
          rintro e w1 ⟨rfl, hb1⟩
          obtain ⟨hc1, hf1⟩ := bcell hb1
          go_wp2_with fail
          refine (hds _).mono ?_
          rintro e w2 ⟨rfl, hb2⟩
          have hz2 := bchain hb1 hb2
          obtain ⟨hc2, hf2⟩ := bcell hz2
          go_wp2_with fail
          refine (hsum _).mono ?_
          rintro e w3 ⟨rfl, hb3⟩
          have hz3 := bchain hz2 hb3
          obtain ⟨hc3, hf3⟩ := bcell hz3
          go_wp2_with fail
          refine (hnum _).mono ?_
          rintro e w4 ⟨rfl, hb4⟩
          have hz4 := bchain hz3 hb4
          obtain ⟨hc4, hf4⟩ := bcell hz4
          go_wp2
          exact bodyPost_ret (v := .tuple #[.agg #[.int .i64 (R).1, .int .i64 (R).2.1, .string ⟨#[]⟩], .int .i64 (R).2.2]) (by simp [results, Try.results12, go_sem, hc4]) rfl ⟨rfl, (Bel.out (by repeat (first | exact Bel.refl _ | refine Bel.drew ?_ | refine Bel.drewN ?_ _ | refine Bel.alloc ?_ _ | refine Bel.setCell ?_ (by simp <;> omega) _ | refine Bel.step ?_ (by assumption))))⟩
        · skip
          go_enter Try.func12, Try.ntmps12
          go_wp2_with fail
          refine (hs _).mono ?_
          rintro e w1 ⟨rfl, hb1⟩
          obtain ⟨hc1, hf1⟩ := bcell hb1
          go_wp2_with fail
          refine (hds _).mono ?_
          rintro e w2 ⟨rfl, hb2⟩
          have hz2 := bchain hb1 hb2
          obtain ⟨hc2, hf2⟩ := bcell hz2
          go_wp2_with fail
          refine (hsum _).mono ?_
          rintro e w3 ⟨rfl, hb3⟩
          have hz3 := bchain hz2 hb3
          obtain ⟨hc3, hf3⟩ := bcell hz3
          go_wp2_with fail
          refine (hnum _).mono ?_
          rintro e w4 ⟨rfl, hb4⟩
          have hz4 := bchain hz3 hb4
          obtain ⟨hc4, hf4⟩ := bcell hz4
          go_wp2
          exact bodyPost_ret (v := .tuple #[.agg #[.int .i64 (R).1, .int .i64 (R).2.1, .string ⟨#[]⟩], .int .i64 (R).2.2]) (by simp [results, Try.results12, go_sem, hc4]) rfl ⟨rfl, (Bel.out (by repeat (first | exact Bel.refl _ | refine Bel.drew ?_ | refine Bel.drewN ?_ _ | refine Bel.alloc ?_ _ | refine Bel.setCell ?_ (by simp <;> omega) _ | refine Bel.step ?_ (by assumption))))⟩
      | false =>
        rw [hok] at hds
        have hnum := of_over 3 (wrap64 (rdN k n - rdN k' n'))
        clear hX hY hok
        rw [if_neg (by simp)]
        generalize rdN k n = X at *
        generalize rdN k' n' = Y at *
        generalize X - Y = m at *
        generalize fits m = fm at *
        generalize wrap64 m = m' at *
        rcases hnot with h2 | ⟨h2, h2'⟩
        · skip
          go_enter Try.func12, Try.ntmps12
          go_wp2_with fail
          refine (hs _).mono ?_
          rintro e w1 ⟨rfl, hb1⟩
          obtain ⟨hc1, hf1⟩ := bcell hb1
          go_wp2_with fail
          refine (hds _).mono ?_
          rintro e w2 ⟨rfl, hb2⟩
          have hz2 := bchain hb1 hb2
          obtain ⟨hc2, hf2⟩ := bcell hz2
          go_wp2_with fail
          refine (hsum _).mono ?_
          rintro e w3 ⟨rfl, hb3⟩
          have hz3 := bchain hz2 hb3
          obtain ⟨hc3, hf3⟩ := bcell hz3
          go_wp2_with fail
          refine (hnum _).mono ?_
          rintro e w4 ⟨rfl, hb4⟩
          have hz4 := bchain hz3 hb4
          obtain ⟨hc4, hf4⟩ := bcell hz4
          go_wp2
          exact bodyPost_ret (v := .tuple #[.agg #[.int .i64 (((0 : Int), (0 : Int), (20 : Int))).1, .int .i64 (((0 : Int), (0 : Int), (20 : Int))).2.1, .string ⟨#[]⟩], .int .i64 (((0 : Int), (0 : Int), (20 : Int))).2.2]) (by simp [results, Try.results12, go_sem, hc4]) rfl ⟨rfl, (Bel.out (by repeat (first | exact Bel.refl _ | refine Bel.drew ?_ | refine Bel.drewN ?_ _ | refine Bel.alloc ?_ _ | refine Bel.setCell ?_ (by simp <;> omega) _ | refine Bel.step ?_ (by assumption))))⟩
        · skip
          go_enter Try.func12, Try.ntmps12
          go_wp2_with fail
          refine (hs _).mono ?_
          rintro e w1 ⟨rfl, hb1⟩
          obtain ⟨hc1, hf1⟩ := bcell hb1
          go_wp2_with fail
          refine (hds _).mono ?_
          rintro e w2 ⟨rfl, hb2⟩
          have hz2 := bchain hb1 hb2
          obtain ⟨hc2, hf2⟩ := bcell hz2
          go_wp2_with fail
          refine (hsum _).mono ?_
          rintro e w3 ⟨rfl, hb3⟩
          have hz3 := bchain hz2 hb3
          obtain ⟨hc3, hf3⟩ := bcell hz3
          go_wp2_with fail
          refine (hnum _).mono ?_
          rintro e w4 ⟨rfl, hb4⟩
          have hz4 := bchain hz3 hb4
          obtain ⟨hc4, hf4⟩ := bcell hz4
          go_wp2
          exact bodyPost_ret (v := .tuple #[.agg #[.int .i64 (((0 : Int), (0 : Int), (20 : Int))).1, .int .i64 (((0 : Int), (0 : Int), (20 : Int))).2.1, .string ⟨#[]⟩], .int .i64 (((0 : Int), (0 : Int), (20 : Int))).2.2]) (by simp [results, Try.results12, go_sem, hc4]) rfl ⟨rfl, (Bel.out (by repeat (first | exact Bel.refl _ | refine Bel.drew ?_ | refine Bel.drewN ?_ _ | refine Bel.alloc ?_ _ | refine Bel.setCell ?_ (by simp <;> omega) _ | refine Bel.step ?_ (by assumption))))⟩
end Go.Proofs.Ytakcmjigddeapaa
