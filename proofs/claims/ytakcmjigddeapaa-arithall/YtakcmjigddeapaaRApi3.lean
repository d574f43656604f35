/- The exported functions of the document's own answer, for any values: quotients, rests. -/
import Derived.Test.YtakcmjigddeapaaRApi
import Derived.Deep.QuietTactic
import Derived.Test.YtakcmjigddeapaaBox
namespace Go.Proofs.Ytakcmjigddeapaa
open Go.ChangeShapes Go.WideShapes Go.ChangeAt Go.RowKit

theorem un2_pair {k k' n' : Int} (h : (un2 k k' n').2 = false) : un2 k k' n' = (0, false) ∧ n' ≠ 0 ∧ (k = 2 ∨ k = 3) ∧ (k' = 2 ∨ k' = 3) := by
  unfold un2 at *
  split at h
  · simp at h
  · rename_i hs
    split at h
    · simp at h
    · rename_i h0
      have := st2_pair k k' (by simpa using hs)
      exact ⟨by rw [if_neg hs, if_neg h0], h0, this.2.1, this.2.2⟩

set_option maxHeartbeats 4000000 in
theorem RDiv_any (k n : Int) (t : ByteArray) (k' n' : Int) (t' : ByteArray) (hn : In n) (hn' : In n') (w : World) : Calls Try.prog 16 #[.agg #[.int .i64 k, .int .i64 n, .string t], .agg #[.int .i64 k', .int .i64 n', .string t']] w fun e w' => e = .returned (.tuple #[.agg #[.int .i64 (divS k n k' n').1, .int .i64 (divS k n k' n').2.1, .string ⟨#[]⟩], .int .i64 (divS k n k' n').2.2]) ∧ Below w.heap.size w w' := by
  unfold divS
  have hs := first_any k n t k' n' t' true
  rw [fst_true] at hs
  cases hd : (un2 k k' n').2 with
  | true =>
    rw [hd] at hs
    generalize (un2 k k' n').1 = e0 at *
    go_enter Try.func16, Try.ntmps16
    go_wp2_with fail
    refine (hs _).mono ?_
    rintro e w1 ⟨rfl, hb1⟩
    obtain ⟨hc1, hf1⟩ := bcell hb1
    go_wp2
    exact bodyPost_ret (v := .tuple #[.agg #[.int .i64 (((0 : Int), (0 : Int), e0)).1, .int .i64 (((0 : Int), (0 : Int), e0)).2.1, .string ⟨#[]⟩], .int .i64 (((0 : Int), (0 : Int), e0)).2.2]) (by simp [results, Try.results16, go_sem, hc1]) rfl ⟨rfl, (Bel.out (by repeat (first | exact Bel.refl _ | refine Bel.drew ?_ | refine Bel.drewN ?_ _ | refine Bel.alloc ?_ _ | refine Bel.setCell ?_ (by simp <;> omega) _ | refine Bel.step ?_ (by assumption))))⟩
  | false =>
    obtain ⟨he, hne, hk, hk'⟩ := un2_pair hd
    rw [he] at hs
    clear hd he
    by_cases hii : k = 2 ∧ k' = 2
    · obtain ⟨rfl, rfl⟩ := hii
      rw [if_pos (show kind2 2 2 = 2 from rfl), alike_22 _ hn hn']
      have hmd := fun w => mulDiv_below n 1 n' hn (by unfold In; omega) hn' hne w
      have hnum := fun w => of_fin 2 (mdN n 1 n') (T3 n 1 n') w md_eq
      go_enter Try.func16, Try.ntmps16
      go_wp2_with fail
      refine (hs _).mono ?_
      rintro e w1 ⟨rfl, hb1⟩
      obtain ⟨hc1, hf1⟩ := bcell hb1
      go_wp2_with fail
      refine (hmd _).mono ?_
      rintro e w2 ⟨rfl, hb2⟩
      have hz2 := bchain hb1 hb2
      obtain ⟨hc2, hf2⟩ := bcell hz2
      go_wp2_with fail
      refine (hnum _).mono ?_
      rintro e w3 ⟨rfl, hb3⟩
      have hz3 := bchain hz2 hb3
      obtain ⟨hc3, hf3⟩ := bcell hz3
      go_wp2
      exact bodyPost_ret (v := .tuple #[.agg #[.int .i64 (fin 2 (T3 n 1 n')).1, .int .i64 (fin 2 (T3 n 1 n')).2.1, .string ⟨#[]⟩], .int .i64 (fin 2 (T3 n 1 n')).2.2]) (by simp [results, Try.results16, go_sem, hc3]) rfl ⟨rfl, (Bel.out (by repeat (first | exact Bel.refl _ | refine Bel.drew ?_ | refine Bel.drewN ?_ _ | refine Bel.alloc ?_ _ | refine Bel.setCell ?_ (by simp <;> omega) _ | refine Bel.step ?_ (by assumption))))⟩
    · have hk3 : kind2 k k' = 3 := by
        unfold kind2; rcases hk with rfl | rfl <;> rcases hk' with rfl | rfl <;> simp at hii ⊢
      rw [if_neg (show ¬ kind2 k k' = 2 by rw [hk3]; decide), alike_dd _ hk3]
      have hds := fun w => decs_any k n t k' n' t' hn hn' w
      have hX := rdN_eq (k := k) (n := n)
      have hY := rdN_eq (k := k') (n := n')
      have hYne : up 3 k' n' ≠ 0 := up_ne hne
      have hnot : (k == 2) = false ∨ ((k == 2) = true ∧ (k' == 2) = false) := by
        rcases hk with rfl | rfl <;> rcases hk' with rfl | rfl <;> simp at hii ⊢
      clear hk hk' hii hk3
      cases hok : (fits (up 3 k n) && fits (up 3 k' n')) with
      | true =>
        rw [hok] at hds
        simp only [Bool.and_eq_true] at hok
        rw [hX hok.1, hY hok.2] at hds
        have hmd := fun w => mulDiv_below (up 3 k n) 10000 (up 3 k' n') (in_of_fits hok.1) (by unfold In; omega) (in_of_fits hok.2) hYne w
        have hnum := fun w => of_fin 3 (mdN (up 3 k n) 10000 (up 3 k' n')) (T3 (up 3 k n) 10000 (up 3 k' n')) w md_eq
        clear hX hY hok hYne
        rw [if_pos rfl]
        generalize up 3 k n = X at *
        generalize up 3 k' n' = Y at *
        rcases hnot with h2 | ⟨h2, h2'⟩
        · skip
          go_enter Try.func16, Try.ntmps16
          go_wp2_with fail
          refine (hs _).mono ?_
          rintro e w1 ⟨rfl, hb1⟩
          obtain ⟨hc1, hf1⟩ := bcell hb1
          go_wp2_with fail
          refine (hds _).mono ?_
          rintro e w2 ⟨rfl, hb2⟩
          have hz2 := bchain hb1 hb2
          obtain ⟨hc2, hf2⟩ := bcell hz2
          go_wp2_with fail
          refine (hmd _).mono ?_
          rintro e w3 ⟨rfl, hb3⟩
          have hz3 := bchain hz2 hb3
          obtain ⟨hc3, hf3⟩ := bcell hz3
          go_wp2_with fail
          refine (hnum _).mono ?_
          rintro e w4 ⟨rfl, hb4⟩
          have hz4 := bchain hz3 hb4
          obtain ⟨hc4, hf4⟩ := bcell hz4
          go_wp2
          exact bodyPost_ret (v := .tuple #[.agg #[.int .i64 (fin 3 (T3 X 10000 Y)).1, .int .i64 (fin 3 (T3 X 10000 Y)).2.1, .string ⟨#[]⟩], .int .i64 (fin 3 (T3 X 10000 Y)).2.2]) (by simp [results, Try.results16, go_sem, hc4]) rfl ⟨rfl, (Bel.out (by repeat (first | exact Bel.refl _ | refine Bel.drew ?_ | refine Bel.drewN ?_ _ | refine Bel.alloc ?_ _ | refine Bel.setCell ?_ (by simp <;> omega) _ | refine Bel.step ?_ (by assumption))))⟩
        · skip
          go_enter Try.func16, Try.ntmps16
          go_wp2_with fail
          refine (hs _).mono ?_
          rintro e w1 ⟨rfl, hb1⟩
          obtain ⟨hc1, hf1⟩ := bcell hb1
          go_wp2_with fail
          refine (hds _).mono ?_
          rintro e w2 ⟨rfl, hb2⟩
          have hz2 := bchain hb1 hb2
          obtain ⟨hc2, hf2⟩ := bcell hz2
          go_wp2_with fail
          refine (hmd _).mono ?_
          rintro e w3 ⟨rfl, hb3⟩
          have hz3 := bchain hz2 hb3
          obtain ⟨hc3, hf3⟩ := bcell hz3
          go_wp2_with fail
          refine (hnum _).mono ?_
          rintro e w4 ⟨rfl, hb4⟩
          have hz4 := bchain hz3 hb4
          obtain ⟨hc4, hf4⟩ := bcell hz4
          go_wp2
          exact bodyPost_ret (v := .tuple #[.agg #[.int .i64 (fin 3 (T3 X 10000 Y)).1, .int .i64 (fin 3 (T3 X 10000 Y)).2.1, .string ⟨#[]⟩], .int .i64 (fin 3 (T3 X 10000 Y)).2.2]) (by simp [results, Try.results16, go_sem, hc4]) rfl ⟨rfl, (Bel.out (by repeat (first | exact Bel.refl _ | refine Bel.drew ?_ | refine Bel.drewN ?_ _ | refine Bel.alloc ?_ _ | refine Bel.setCell ?_ (by simp <;> omega) _ | refine Bel.step ?_ (by assumption))))⟩
      | false =>
        rw [hok] at hds
        clear hX hY hok
        rw [if_neg (by simp)]
        generalize rdN k n = X at *
        generalize rdN k' n' = Y at *
        rcases hnot with h2 | ⟨h2, h2'⟩
        · skip
          go_enter Try.func16, Try.ntmps16
          go_wp2_with fail
          refine (hs _).mono ?_
          rintro e w1 ⟨rfl, hb1⟩
          obtain ⟨hc1, hf1⟩ := bcell hb1
          go_wp2_with fail
          refine (hds _).mono ?_
          rintro e w2 ⟨rfl, hb2⟩
          have hz2 := bchain hb1 hb2
          obtain ⟨hc2, hf2⟩ := bcell hz2
          go_wp2
          exact bodyPost_ret (v := .tuple #[.agg #[.int .i64 (((0 : Int), (0 : Int), (20 : Int))).1, .int .i64 (((0 : Int), (0 : Int), (20 : Int))).2.1, .string ⟨#[]⟩], .int .i64 (((0 : Int), (0 : Int), (20 : Int))).2.2]) (by simp [results, Try.results16, go_sem, hc2]) rfl ⟨rfl, (Bel.out (by repeat (first | exact Bel.refl _ | refine Bel.drew ?_ | refine Bel.drewN ?_ _ | refine Bel.alloc ?_ _ | refine Bel.setCell ?_ (by simp <;> omega) _ | refine Bel.step ?_ (by assumption))))⟩
        · skip
          go_enter Try.func16, Try.ntmps16
          go_wp2_with fail
          refine (hs _).mono ?_
          rintro e w1 ⟨rfl, hb1⟩
          obtain ⟨hc1, hf1⟩ := bcell hb1
          go_wp2_with fail
          refine (hds _).mono ?_
          rintro e w2 ⟨rfl, hb2⟩
          have hz2 := bchain hb1 hb2
          obtain ⟨hc2, hf2⟩ := bcell hz2
          go_wp2
          exact bodyPost_ret (v := .tuple #[.agg #[.int .i64 (((0 : Int), (0 : Int), (20 : Int))).1, .int .i64 (((0 : Int), (0 : Int), (20 : Int))).2.1, .string ⟨#[]⟩], .int .i64 (((0 : Int), (0 : Int), (20 : Int))).2.2]) (by simp [results, Try.results16, go_sem, hc2]) rfl ⟨rfl, (Bel.out (by repeat (first | exact Bel.refl _ | refine Bel.drew ?_ | refine Bel.drewN ?_ _ | refine Bel.alloc ?_ _ | refine Bel.setCell ?_ (by simp <;> omega) _ | refine Bel.step ?_ (by assumption))))⟩

set_option maxHeartbeats 4000000 in
theorem RMod_any (k n : Int) (t : ByteArray) (k' n' : Int) (t' : ByteArray) (hn : In n) (hn' : In n') (w : World) : Calls Try.prog 18 #[.agg #[.int .i64 k, .int .i64 n, .string t], .agg #[.int .i64 k', .int .i64 n', .string t']] w fun e w' => e = .returned (.tuple #[.agg #[.int .i64 (modS k n k' n').1, .int .i64 (modS k n k' n').2.1, .string ⟨#[]⟩], .int .i64 (modS k n k' n').2.2]) ∧ Below w.heap.size w w' := by
  unfold modS
  have hs := first_any k n t k' n' t' true
  rw [fst_true] at hs
  cases hd : (un2 k k' n').2 with
  | true =>
    rw [hd] at hs
    generalize (un2 k k' n').1 = e0 at *
    go_enter Try.func18, Try.ntmps18
    go_wp2_with fail
    refine (hs _).mono ?_
    rintro e w1 ⟨rfl, hb1⟩
    obtain ⟨hc1, hf1⟩ := bcell hb1
    go_wp2
    exact bodyPost_ret (v := .tuple #[.agg #[.int .i64 (((0 : Int), (0 : Int), e0)).1, .int .i64 (((0 : Int), (0 : Int), e0)).2.1, .string ⟨#[]⟩], .int .i64 (((0 : Int), (0 : Int), e0)).2.2]) (by simp [results, Try.results18, go_sem, hc1]) rfl ⟨rfl, (Bel.out (by repeat (first | exact Bel.refl _ | refine Bel.drew ?_ | refine Bel.drewN ?_ _ | refine Bel.alloc ?_ _ | refine Bel.setCell ?_ (by simp <;> omega) _ | refine Bel.step ?_ (by assumption))))⟩
  | false =>
    obtain ⟨he, hne, hk, hk'⟩ := un2_pair hd
    rw [he] at hs
    clear hd he
    by_cases hii : k = 2 ∧ k' = 2
    · obtain ⟨rfl, rfl⟩ := hii
      rw [alike_22 _ hn hn', fin_ok (tmod_fits hn)]
      by_cases hm1 : n' = -1
      · subst hm1
        have e0 : n.tmod (-1) = 0 := by rw [Int.tmod_neg, Int.tmod_one]
        rw [e0]
        have hnum := of_ok 2 0
        go_enter Try.func18, Try.ntmps18
        go_wp2_with fail
        refine (hs _).mono ?_
        rintro e w1 ⟨rfl, hb1⟩
        obtain ⟨hc1, hf1⟩ := bcell hb1
        go_wp2_with fail
        go_quiet (fail)
        have hbq := (Bel.drewN (Bel.of hb1) nq).out
        obtain ⟨hcq, hfq⟩ := bcell hbq
        go_wp2_with fail
        refine (hnum _).mono ?_
        rintro e w2 ⟨rfl, hb2⟩
        have hz2 := bchain hbq hb2
        obtain ⟨hc2, hf2⟩ := bcell hz2
        go_wp2
        exact bodyPost_ret (v := .tuple #[.agg #[.int .i64 (((2 : Int), (0 : Int), (0 : Int))).1, .int .i64 (((2 : Int), (0 : Int), (0 : Int))).2.1, .string ⟨#[]⟩], .int .i64 (((2 : Int), (0 : Int), (0 : Int))).2.2]) (by simp [results, Try.results18, go_sem, hc2]) rfl ⟨rfl, (Bel.out (by repeat (first | exact Bel.refl _ | refine Bel.drew ?_ | refine Bel.drewN ?_ _ | refine Bel.alloc ?_ _ | refine Bel.setCell ?_ (by simp <;> omega) _ | refine Bel.step ?_ (by assumption))))⟩
      · have hm2 : (n' == -1) = false := by simpa using hm1
        have hnum := of_ok 2 (n.tmod n')
        go_enter Try.func18, Try.ntmps18
        go_wp2_with fail
        refine (hs _).mono ?_
        rintro e w1 ⟨rfl, hb1⟩
        obtain ⟨hc1, hf1⟩ := bcell hb1
        go_wp2_with fail
        go_quiet (fail)
        have hbq := (Bel.drewN (Bel.of hb1) nq).out
        obtain ⟨hcq, hfq⟩ := bcell hbq
        go_wp2_with fail
        refine (hnum _).mono ?_
        rintro e w2 ⟨rfl, hb2⟩
        have hz2 := bchain hbq hb2
        obtain ⟨hc2, hf2⟩ := bcell hz2
        go_wp2
        exact bodyPost_ret (v := .tuple #[.agg #[.int .i64 (((2 : Int), n.tmod n', (0 : Int))).1, .int .i64 (((2 : Int), n.tmod n', (0 : Int))).2.1, .string ⟨#[]⟩], .int .i64 (((2 : Int), n.tmod n', (0 : Int))).2.2]) (by simp [results, Try.results18, go_sem, hc2]) rfl ⟨rfl, (Bel.out (by repeat (first | exact Bel.refl _ | refine Bel.drew ?_ | refine Bel.drewN ?_ _ | refine Bel.alloc ?_ _ | refine Bel.setCell ?_ (by simp <;> omega) _ | refine Bel.step ?_ (by assumption))))⟩
    · have hk3 : kind2 k k' = 3 := by
        unfold kind2; rcases hk with rfl | rfl <;> rcases hk' with rfl | rfl <;> simp at hii ⊢
      rw [alike_dd _ hk3]
      have hds := fun w => decs_any k n t k' n' t' hn hn' w
      have hX := rdN_eq (k := k) (n := n)
      have hY := rdN_eq (k := k') (n := n')
      have hYne : up 3 k' n' ≠ 0 := up_ne hne
      have hnot : (k == 3) = true ∨ ((k == 3) = false ∧ (k' == 3) = true) := by
        rcases hk with rfl | rfl <;> rcases hk' with rfl | rfl <;> simp at hii ⊢
      clear hk hk' hii hk3 hne
      cases hok : (fits (up 3 k n) && fits (up 3 k' n')) with
      | true =>
        rw [hok] at hds
        simp only [Bool.and_eq_true] at hok
        rw [hX hok.1, hY hok.2] at hds
        rw [if_pos rfl, fin_ok (tmod_fits (in_of_fits hok.1))]
        clear hX hY hok
        generalize up 3 k n = X at *
        generalize up 3 k' n' = Y at *
        by_cases hm1 : Y = -1
        · subst hm1
          have e0 : X.tmod (-1) = 0 := by rw [Int.tmod_neg, Int.tmod_one]
          rw [e0]
          have hnum := of_ok 3 0
          rcases hnot with h2 | ⟨h2, h2'⟩
          · skip
            go_enter Try.func18, Try.ntmps18
            go_wp2_with fail
            refine (hs _).mono ?_
            rintro e w1 ⟨rfl, hb1⟩
            obtain ⟨hc1, hf1⟩ := bcell hb1
            go_wp2_with fail
            go_quiet (fail)
            have hbq := (Bel.drewN (Bel.of hb1) nq).out
            obtain ⟨hcq, hfq⟩ := bcell hbq
            go_wp2_with fail
            refine (hds _).mono ?_
            rintro e w2 ⟨rfl, hb2⟩
            have hz2 := bchain hbq hb2
            obtain ⟨hc2, hf2⟩ := bcell hz2
            go_wp2_with fail
            refine (hnum _).mono ?_
            rintro e w3 ⟨rfl, hb3⟩
            have hz3 := bchain hz2 hb3
            obtain ⟨hc3, hf3⟩ := bcell hz3
            go_wp2
            exact bodyPost_ret (v := .tuple #[.agg #[.int .i64 (((3 : Int), (0 : Int), (0 : Int))).1, .int .i64 (((3 : Int), (0 : Int), (0 : Int))).2.1, .string ⟨#[]⟩], .int .i64 (((3 : Int), (0 : Int), (0 : Int))).2.2]) (by simp [results, Try.results18, go_sem, hc3]) rfl ⟨rfl, (Bel.out (by repeat (first | exact Bel.refl _ | refine Bel.drew ?_ | refine Bel.drewN ?_ _ | refine Bel.alloc ?_ _ | refine Bel.setCell ?_ (by simp <;> omega) _ | refine Bel.step ?_ (by assumption))))⟩
          · skip
            go_enter Try.func18, Try.ntmps18
            go_wp2_with fail
            refine (hs _).mono ?_
            rintro e w1 ⟨rfl, hb1⟩
            obtain ⟨hc1, hf1⟩ := bcell hb1
            go_wp2_with fail
            go_quiet (fail)
            have hbq := (Bel.drewN (Bel.of hb1) nq).out
            obtain ⟨hcq, hfq⟩ := bcell hbq
            go_wp2_with fail
            refine (hds _).mono ?_
            rintro e w2 ⟨rfl, hb2⟩
            have hz2 := bchain hbq hb2
            obtain ⟨hc2, hf2⟩ := bcell hz2
            go_wp2_with fail
            refine (hnum _).mono ?_
            rintro e w3 ⟨rfl, hb3⟩
            have hz3 := bchain hz2 hb3
            obtain ⟨hc3, hf3⟩ := bcell hz3
            go_wp2
            exact bodyPost_ret (v := .tuple #[.agg #[.int .i64 (((3 : Int), (0 : Int), (0 : Int))).1, .int .i64 (((3 : Int), (0 : Int), (0 : Int))).2.1, .string ⟨#[]⟩], .int .i64 (((3 : Int), (0 : Int), (0 : Int))).2.2]) (by simp [results, Try.results18, go_sem, hc3]) rfl ⟨rfl, (Bel.out (by repeat (first | exact Bel.refl _ | refine Bel.drew ?_ | refine Bel.drewN ?_ _ | refine Bel.alloc ?_ _ | refine Bel.setCell ?_ (by simp <;> omega) _ | refine Bel.step ?_ (by assumption))))⟩
        · have hm2 : (Y == -1) = false := by simpa using hm1
          have hnum := of_ok 3 (X.tmod Y)
          rcases hnot with h2 | ⟨h2, h2'⟩
          · skip
            go_enter Try.func18, Try.ntmps18
            go_wp2_with fail
            refine (hs _).mono ?_
            rintro e w1 ⟨rfl, hb1⟩
            obtain ⟨hc1, hf1⟩ := bcell hb1
            go_wp2_with fail
            go_quiet (fail)
            have hbq := (Bel.drewN (Bel.of hb1) nq).out
            obtain ⟨hcq, hfq⟩ := bcell hbq
            go_wp2_with fail
            refine (hds _).mono ?_
            rintro e w2 ⟨rfl, hb2⟩
            have hz2 := bchain hbq hb2
            obtain ⟨hc2, hf2⟩ := bcell hz2
            go_wp2_with fail
            refine (hnum _).mono ?_
            rintro e w3 ⟨rfl, hb3⟩
            have hz3 := bchain hz2 hb3
            obtain ⟨hc3, hf3⟩ := bcell hz3
            go_wp2
            exact bodyPost_ret (v := .tuple #[.agg #[.int .i64 (((3 : Int), X.tmod Y, (0 : Int))).1, .int .i64 (((3 : Int), X.tmod Y, (0 : Int))).2.1, .string ⟨#[]⟩], .int .i64 (((3 : Int), X.tmod Y, (0 : Int))).2.2]) (by simp [results, Try.results18, go_sem, hc3]) rfl ⟨rfl, (Bel.out (by repeat (first | exact Bel.refl _ | refine Bel.drew ?_ | refine Bel.drewN ?_ _ | refine Bel.alloc ?_ _ | refine Bel.setCell ?_ (by simp <;> omega) _ | refine Bel.step ?_ (by assumption))))⟩
          · skip
            go_enter Try.func18, Try.ntmps18
            go_wp2_with fail
            refine (hs _).mono ?_
            rintro e w1 ⟨rfl, hb1⟩
            obtain ⟨hc1, hf1⟩ := bcell hb1
            go_wp2_with fail
            go_quiet (fail)
            have hbq := (Bel.drewN (Bel.of hb1) nq).out
            obtain ⟨hcq, hfq⟩ := bcell hbq
            go_wp2_with fail
            refine (hds _).mono ?_
            rintro e w2 ⟨rfl, hb2⟩
            have hz2 := bchain hbq hb2
            obtain ⟨hc2, hf2⟩ := bcell hz2
            go_wp2_with fail
            refine (hnum _).mono ?_
            rintro e w3 ⟨rfl, hb3⟩
            have hz3 := bchain hz2 hb3
            obtain ⟨hc3, hf3⟩ := bcell hz3
            go_wp2
            exact bodyPost_ret (v := .tuple #[.agg #[.int .i64 (((3 : Int), X.tmod Y, (0 : Int))).1, .int .i64 (((3 : Int), X.tmod Y, (0 : Int))).2.1, .string ⟨#[]⟩], .int .i64 (((3 : Int), X.tmod Y, (0 : Int))).2.2]) (by simp [results, Try.results18, go_sem, hc3]) rfl ⟨rfl, (Bel.out (by repeat (first | exact Bel.refl _ | refine Bel.drew ?_ | refine Bel.drewN ?_ _ | refine Bel.alloc ?_ _ | refine Bel.setCell ?_ (by simp <;> omega) _ | refine Bel.step ?_ (by assumption))))⟩
      | false =>
        rw [hok] at hds
        clear hX hY hok
        rw [if_neg (by simp)]
        generalize rdN k n = X at *
        generalize rdN k' n' = Y at *
        rcases hnot with h2 | ⟨h2, h2'⟩
        · skip
          go_enter Try.func18, Try.ntmps18
          go_wp2_with fail
          refine (hs _).mono ?_
          rintro e w1 ⟨rfl, hb1⟩
          obtain ⟨hc1, hf1⟩ := bcell hb1
          go_wp2_with fail
          go_quiet (fail)
          have hbq := (Bel.drewN (Bel.of hb1) nq).out
          obtain ⟨hcq, hfq⟩ := bcell hbq
          go_wp2_with fail
          refine (hds _).mono ?_
          rintro e w2 ⟨rfl, hb2⟩
          have hz2 := bchain hbq hb2
          obtain ⟨hc2, hf2⟩ := bcell hz2
          go_wp2
          exact bodyPost_ret (v := .tuple #[.agg #[.int .i64 (((0 : Int), (0 : Int), (20 : Int))).1, .int .i64 (((0 : Int), (0 : Int), (20 : Int))).2.1, .string ⟨#[]⟩], .int .i64 (((0 : Int), (0 : Int), (20 : Int))).2.2]) (by simp [results, Try.results18, go_sem, hc2]) rfl ⟨rfl, (Bel.out (by repeat (first | exact Bel.refl _ | refine Bel.drew ?_ | refine Bel.drewN ?_ _ | refine Bel.alloc ?_ _ | refine Bel.setCell ?_ (by simp <;> omega) _ | refine Bel.step ?_ (by assumption))))⟩
        · skip
          go_enter Try.func18, Try.ntmps18
          go_wp2_with fail
          refine (hs _).mono ?_
          rintro e w1 ⟨rfl, hb1⟩
          obtain ⟨hc1, hf1⟩ := bcell hb1
          go_wp2_with fail
          go_quiet (fail)
          have hbq := (Bel.drewN (Bel.of hb1) nq).out
          obtain ⟨hcq, hfq⟩ := bcell hbq
          go_wp2_with fail
          refine (hds _).mono ?_
          rintro e w2 ⟨rfl, hb2⟩
          have hz2 := bchain hbq hb2
          obtain ⟨hc2, hf2⟩ := bcell hz2
          go_wp2
          exact bodyPost_ret (v := .tuple #[.agg #[.int .i64 (((0 : Int), (0 : Int), (20 : Int))).1, .int .i64 (((0 : Int), (0 : Int), (20 : Int))).2.1, .string ⟨#[]⟩], .int .i64 (((0 : Int), (0 : Int), (20 : Int))).2.2]) (by simp [results, Try.results18, go_sem, hc2]) rfl ⟨rfl, (Bel.out (by repeat (first | exact Bel.refl _ | refine Bel.drew ?_ | refine Bel.drewN ?_ _ | refine Bel.alloc ?_ _ | refine Bel.setCell ?_ (by simp <;> omega) _ | refine Bel.step ?_ (by assumption))))⟩
end Go.Proofs.Ytakcmjigddeapaa
