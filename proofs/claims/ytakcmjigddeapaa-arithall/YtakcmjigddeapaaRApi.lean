/- The exported functions of the document's own answer, for any values: the changes of one value, the products. -/
import Derived.Test.YtakcmjigddeapaaRLow
import Derived.Test.YtakcmjigddeapaaRSum
import Derived.Test.YtakcmjigddeapaaRMul
import Derived.Test.YtakcmjigddeapaaRulesMath
import Derived.Test.YtakcmjigddeapaaApi
namespace Go.Proofs.Ytakcmjigddeapaa
open Go.ChangeShapes Go.WideShapes Go.ChangeAt Go.RowKit

theorem st1_cases (k : Int) : st1 k = (0, false) ∨ st1 k = (0, true) ∨ st1 k = (22, true) := by
  unfold st1; split
  · exact Or.inl rfl
  · split
    · exact Or.inr (Or.inl rfl)
    · exact Or.inr (Or.inr rfl)
theorem st1_num {k : Int} (h : (st1 k).2 = false) : k = 2 ∨ k = 3 := by
  unfold st1 at h; split at h
  · assumption
  · split at h <;> simp at h
theorem st2_self (k : Int) : st2 k k = st1 k := by
  unfold st2
  rcases st1_cases k with h | h | h <;> rw [h] <;> rfl
theorem st2_pair (k k' : Int) : (st2 k k').2 = false → st2 k k' = (0, false) ∧ (k = 2 ∨ k = 3) ∧ (k' = 2 ∨ k' = 3) := by
  intro h
  have e : st2 k k' = if (st1 k).1 = 22 ∨ (st1 k').1 = 22 then (22, true) else (0, (st1 k).2 || (st1 k').2) := rfl
  rcases st1_cases k with h1 | h1 | h1 <;> rcases st1_cases k' with h2 | h2 | h2 <;> rw [h1, h2] at e <;> rw [e] at h <;> simp at h
  exact ⟨by rw [e]; rfl, st1_num (by rw [h1]), st1_num (by rw [h2])⟩
theorem fst_false (k k' n' : Int) : fst3 k k' n' false = st2 k k' := by
  unfold fst3
  cases h : (st2 k k').2 with
  | true => rw [if_pos rfl, ← h]
  | false => rw [if_neg (by simp), (st2_pair k k' h).1]; rfl
theorem fst_true (k k' n' : Int) : fst3 k k' n' true = un2 k k' n' := by
  unfold fst3 un2
  simp only [Bool.true_and, decide_eq_true_eq]
theorem md_eq {a b d : Int} (h : fits (T3 a b d) = true) : mdN a b d = T3 a b d := by unfold mdN; rw [if_pos h]
theorem mulDiv_below (a b d : Int) (ha : In a) (hb : In b) (hd : In d) (h0 : d ≠ 0) (w : World) :
    Calls Try.prog 39 #[.int .i64 a, .int .i64 b, .int .i64 d] w fun e w' => e = .returned (.tuple #[.int .i64 (mdN a b d), .bool (fits (T3 a b d))]) ∧ Below w.heap.size w w' := by
  refine (mulDiv_any a b d ha hb hd h0 w).mono ?_
  rintro e w' ⟨rfl, rfl⟩
  exact ⟨rfl, Below.refl _ _⟩
theorem sum_below (a b : Int) (ha : In a) (hb : In b) (w : World) : Calls Try.prog 34 #[.int .i64 a, .int .i64 b] w fun e w' => e = .returned (.tuple #[.int .i64 (wrap64 (a + b)), .bool (fits (a + b))]) ∧ Below w.heap.size w w' := by
  refine (sum_any a b ha hb w).mono ?_
  rintro e w' ⟨rfl, rfl⟩
  exact ⟨rfl, Below.refl _ _⟩
theorem difference_below (a b : Int) (ha : In a) (hb : In b) (w : World) : Calls Try.prog 36 #[.int .i64 a, .int .i64 b] w fun e w' => e = .returned (.tuple #[.int .i64 (wrap64 (a - b)), .bool (fits (a - b))]) ∧ Below w.heap.size w w' := by
  refine (difference_any a b ha hb w).mono ?_
  rintro e w' ⟨rfl, rfl⟩
  exact ⟨rfl, Below.refl _ _⟩
/-- What 'alike' says, by kinds. -/
theorem alike_22 (z : Int → Int → Int) {n n' : Int} (hn : In n) (hn' : In n') : alikeS z 2 n 2 n' = fin 2 (z n n') := by
  have hk : kind2 2 2 = 2 := rfl
  have e2 : ∀ n : Int, up 2 2 n = n := fun n => by unfold up; rw [if_pos rfl]
  unfold alikeS
  rw [hk, e2, e2, fits_of_in hn, fits_of_in hn']
  rfl
theorem alike_dd (z : Int → Int → Int) {k n k' n' : Int} (h : kind2 k k' = 3) : alikeS z k n k' n' = if fits (up 3 k n) && fits (up 3 k' n') then fin 3 (z (up 3 k n) (up 3 k' n')) else (0, 0, 20) := by
  unfold alikeS; rw [h]

set_option maxHeartbeats 4000000 in
theorem RNeg_any (k n : Int) (t : ByteArray) (hn : In n) (w : World) : Calls Try.prog 8 #[.agg #[.int .i64 k, .int .i64 n, .string t]] w fun e w' => e = .returned (.tuple #[.agg #[.int .i64 (negS k n).1, .int .i64 (negS k n).2.1, .string ⟨#[]⟩], .int .i64 (negS k n).2.2]) ∧ Below w.heap.size w w' := by
  unfold negS
  have hs := first_any k n t k n t false
  rw [fst_false, st2_self] at hs
  have hb : (n != -9223372036854775808) = fits (0 - n) := by
    unfold In at hn; unfold fits; rw [Bool.eq_iff_iff]; simp; omega
  have hm : wrap64 (-n) = wrap64 (0 - n) := by rw [Int.zero_sub]
  have hnum := fun w => of_fin k (wrap64 (0 - n)) (0 - n) w (fun h => wrap_in h)
  generalize 0 - n = m at *
  generalize wrap64 m = m' at *
  generalize fin k m = R at *
  generalize fits m = fm at *
  generalize st1 k = p at *
  obtain ⟨e0, d⟩ := p
  cases d with
  | true =>
    go_enter Try.func8, Try.ntmps8
    go_wp2_with fail
    refine (hs _).mono ?_
    rintro e w1 ⟨rfl, hb1⟩
    obtain ⟨hc1, hf1⟩ := bcell hb1
    go_wp2
    exact bodyPost_ret (v := .tuple #[.agg #[.int .i64 (((0 : Int), (0 : Int), e0)).1, .int .i64 (((0 : Int), (0 : Int), e0)).2.1, .string ⟨#[]⟩], .int .i64 (((0 : Int), (0 : Int), e0)).2.2]) (by simp [results, Try.results8, go_sem, hc1]) rfl ⟨rfl, (Bel.out (by repeat (first | exact Bel.refl _ | refine Bel.drew ?_ | refine Bel.drewN ?_ _ | refine Bel.alloc ?_ _ | refine Bel.setCell ?_ (by simp <;> omega) _ | refine Bel.step ?_ (by assumption))))⟩
  | false =>
    go_enter Try.func8, Try.ntmps8
    go_wp2_with fail
    refine (hs _).mono ?_
    rintro e w1 ⟨rfl, hb1⟩
    obtain ⟨hc1, hf1⟩ := bcell hb1
    go_wp2_with fail
    refine (hnum _).mono ?_
    rintro e w2 ⟨rfl, hb2⟩
    have hz2 := bchain hb1 hb2
    obtain ⟨hc2, hf2⟩ := bcell hz2
    go_wp2
    exact bodyPost_ret (v := .tuple #[.agg #[.int .i64 (R).1, .int .i64 (R).2.1, .string ⟨#[]⟩], .int .i64 (R).2.2]) (by simp [results, Try.results8, go_sem, hc2]) rfl ⟨rfl, (Bel.out (by repeat (first | exact Bel.refl _ | refine Bel.drew ?_ | refine Bel.drewN ?_ _ | refine Bel.alloc ?_ _ | refine Bel.setCell ?_ (by simp <;> omega) _ | refine Bel.step ?_ (by assumption))))⟩

set_option maxHeartbeats 4000000 in
theorem RDec_any (k n : Int) (t : ByteArray) (hn : In n) (w : World) : Calls Try.prog 20 #[.agg #[.int .i64 k, .int .i64 n, .string t]] w fun e w' => e = .returned (.tuple #[.agg #[.int .i64 (decS k n).1, .int .i64 (decS k n).2.1, .string ⟨#[]⟩], .int .i64 (decS k n).2.2]) ∧ Below w.heap.size w w' := by
  unfold decS
  have hs := first_any k n t k n t false
  rw [fst_false, st2_self] at hs
  have hd := fun w => rdec_any k n t hn w
  have hnum := fun w => of_fin 3 (rdN k n) (up 3 k n) w (fun h => rdN_eq h)
  generalize rdN k n = X at *
  generalize fin 3 (up 3 k n) = R at *
  generalize fits (up 3 k n) = fm at *
  generalize st1 k = p at *
  obtain ⟨e0, d⟩ := p
  cases d with
  | true =>
    go_enter Try.func20, Try.ntmps20
    go_wp2_with fail
    refine (hs _).mono ?_
    rintro e w1 ⟨rfl, hb1⟩
    obtain ⟨hc1, hf1⟩ := bcell hb1
    go_wp2
    exact bodyPost_ret (v := .tuple #[.agg #[.int .i64 (((0 : Int), (0 : Int), e0)).1, .int .i64 (((0 : Int), (0 : Int), e0)).2.1, .string ⟨#[]⟩], .int .i64 (((0 : Int), (0 : Int), e0)).2.2]) (by simp [results, Try.results20, go_sem, hc1]) rfl ⟨rfl, (Bel.out (by repeat (first | exact Bel.refl _ | refine Bel.drew ?_ | refine Bel.drewN ?_ _ | refine Bel.alloc ?_ _ | refine Bel.setCell ?_ (by simp <;> omega) _ | refine Bel.step ?_ (by assumption))))⟩
  | false =>
    go_enter Try.func20, Try.ntmps20
    go_wp2_with fail
    refine (hs _).mono ?_
    rintro e w1 ⟨rfl, hb1⟩
    obtain ⟨hc1, hf1⟩ := bcell hb1
    go_wp2_with fail
    refine (hd _).mono ?_
    rintro e w2 ⟨rfl, hb2⟩
    have hz2 := bchain hb1 hb2
    obtain ⟨hc2, hf2⟩ := bcell hz2
    go_wp2_with fail
    refine (hnum _).mono ?_
    rintro e w3 ⟨rfl, hb3⟩
    have hz3 := bchain hz2 hb3
    obtain ⟨hc3, hf3⟩ := bcell hz3
    go_wp2
    exact bodyPost_ret (v := .tuple #[.agg #[.int .i64 (R).1, .int .i64 (R).2.1, .string ⟨#[]⟩], .int .i64 (R).2.2]) (by simp [results, Try.results20, go_sem, hc3]) rfl ⟨rfl, (Bel.out (by repeat (first | exact Bel.refl _ | refine Bel.drew ?_ | refine Bel.drewN ?_ _ | refine Bel.alloc ?_ _ | refine Bel.setCell ?_ (by simp <;> omega) _ | refine Bel.step ?_ (by assumption))))⟩

set_option maxHeartbeats 4000000 in
theorem RInt_any (k n : Int) (t : ByteArray) (hn : In n) (w : World) : Calls Try.prog 22 #[.agg #[.int .i64 k, .int .i64 n, .string t]] w fun e w' => e = .returned (.tuple #[.agg #[.int .i64 (intS k n).1, .int .i64 (intS k n).2.1, .string ⟨#[]⟩], .int .i64 (intS k n).2.2]) ∧ Below w.heap.size w w' := by
  unfold intS
  have hs := first_any k n t k n t false
  rw [fst_false, st2_self] at hs
  generalize st1 k = p at *
  obtain ⟨e0, d⟩ := p
  cases d with
  | true =>
    go_enter Try.func22, Try.ntmps22
    go_wp2_with fail
    refine (hs _).mono ?_
    rintro e w1 ⟨rfl, hb1⟩
    obtain ⟨hc1, hf1⟩ := bcell hb1
    go_wp2
    exact bodyPost_ret (v := .tuple #[.agg #[.int .i64 (((0 : Int), (0 : Int), e0)).1, .int .i64 (((0 : Int), (0 : Int), e0)).2.1, .string ⟨#[]⟩], .int .i64 (((0 : Int), (0 : Int), e0)).2.2]) (by simp [results, Try.results22, go_sem, hc1]) rfl ⟨rfl, (Bel.out (by repeat (first | exact Bel.refl _ | refine Bel.drew ?_ | refine Bel.drewN ?_ _ | refine Bel.alloc ?_ _ | refine Bel.setCell ?_ (by simp <;> omega) _ | refine Bel.step ?_ (by assumption))))⟩
  | false =>
    by_cases hk : k = 3
    · subst hk
      have hw : wrap64 (n.tdiv 10000) = n.tdiv 10000 := wrap_in (tdiv_fits hn)
      have hnum := of_ok 2 (n.tdiv 10000)
      go_enter Try.func22, Try.ntmps22
      go_wp2_with fail
      refine (hs _).mono ?_
      rintro e w1 ⟨rfl, hb1⟩
      obtain ⟨hc1, hf1⟩ := bcell hb1
      go_wp2_with fail
      refine (hnum _).mono ?_
      rintro e w2 ⟨rfl, hb2⟩
      have hz2 := bchain hb1 hb2
      obtain ⟨hc2, hf2⟩ := bcell hz2
      go_wp2
      exact bodyPost_ret (v := .tuple #[.agg #[.int .i64 (((2 : Int), n.tdiv 10000, (0 : Int))).1, .int .i64 (((2 : Int), n.tdiv 10000, (0 : Int))).2.1, .string ⟨#[]⟩], .int .i64 (((2 : Int), n.tdiv 10000, (0 : Int))).2.2]) (by simp [results, Try.results22, go_sem, hc2]) rfl ⟨rfl, (Bel.out (by repeat (first | exact Bel.refl _ | refine Bel.drew ?_ | refine Bel.drewN ?_ _ | refine Bel.alloc ?_ _ | refine Bel.setCell ?_ (by simp <;> omega) _ | refine Bel.step ?_ (by assumption))))⟩
    · have hnum := of_ok 2 n
      rw [if_neg hk]
      go_enter Try.func22, Try.ntmps22
      go_wp2_with fail
      refine (hs _).mono ?_
      rintro e w1 ⟨rfl, hb1⟩
      obtain ⟨hc1, hf1⟩ := bcell hb1
      go_wp2_with fail
      refine (hnum _).mono ?_
      rintro e w2 ⟨rfl, hb2⟩
      have hz2 := bchain hb1 hb2
      obtain ⟨hc2, hf2⟩ := bcell hz2
      go_wp2
      exact bodyPost_ret (v := .tuple #[.agg #[.int .i64 (((2 : Int), n, (0 : Int))).1, .int .i64 (((2 : Int), n, (0 : Int))).2.1, .string ⟨#[]⟩], .int .i64 (((2 : Int), n, (0 : Int))).2.2]) (by simp [results, Try.results22, go_sem, hc2]) rfl ⟨rfl, (Bel.out (by repeat (first | exact Bel.refl _ | refine Bel.drew ?_ | refine Bel.drewN ?_ _ | refine Bel.alloc ?_ _ | refine Bel.setCell ?_ (by simp <;> omega) _ | refine Bel.step ?_ (by assumption))))⟩

set_option maxHeartbeats 4000000 in
theorem RMul_any (k n : Int) (t : ByteArray) (k' n' : Int) (t' : ByteArray) (hn : In n) (hn' : In n') (w : World) : Calls Try.prog 14 #[.agg #[.int .i64 k, .int .i64 n, .string t], .agg #[.int .i64 k', .int .i64 n', .string t']] w fun e w' => e = .returned (.tuple #[.agg #[.int .i64 (mulS k n k' n').1, .int .i64 (mulS k n k' n').2.1, .string ⟨#[]⟩], .int .i64 (mulS k n k' n').2.2]) ∧ Below w.heap.size w w' := by
  unfold mulS
  have hs := first_any k n t k' n' t' false
  rw [fst_false] at hs
  have hmd := fun d w (hd : In d) (h0 : d ≠ 0) => mulDiv_below n n' d hn hn' hd h0 w
  cases hd : (st2 k k').2 with
  | true =>
    rw [hd] at hs
    generalize (st2 k k').1 = e0 at *
    go_enter Try.func14, Try.ntmps14
    go_wp2_with fail
    refine (hs _).mono ?_
    rintro e w1 ⟨rfl, hb1⟩
    obtain ⟨hc1, hf1⟩ := bcell hb1
    go_wp2
    exact bodyPost_ret (v := .tuple #[.agg #[.int .i64 (((0 : Int), (0 : Int), e0)).1, .int .i64 (((0 : Int), (0 : Int), e0)).2.1, .string ⟨#[]⟩], .int .i64 (((0 : Int), (0 : Int), e0)).2.2]) (by simp [results, Try.results14, go_sem, hc1]) rfl ⟨rfl, (Bel.out (by repeat (first | exact Bel.refl _ | refine Bel.drew ?_ | refine Bel.drewN ?_ _ | refine Bel.alloc ?_ _ | refine Bel.setCell ?_ (by simp <;> omega) _ | refine Bel.step ?_ (by assumption))))⟩
  | false =>
    obtain ⟨he, hk, hk'⟩ := st2_pair k k' hd
    rw [he] at hs
    clear hd he
    rcases hk with rfl | rfl <;> rcases hk' with rfl | rfl
    · have hnum := fun w => of_fin 2 (mdN n n' 1) (T3 n n' 1) w md_eq
      go_enter Try.func14, Try.ntmps14
      go_wp2_with fail
      refine (hs _).mono ?_
      rintro e w1 ⟨rfl, hb1⟩
      obtain ⟨hc1, hf1⟩ := bcell hb1
      go_wp2_with fail
      refine (hmd _ _ (by unfold In; omega) (by omega)).mono ?_
      rintro e w2 ⟨rfl, hb2⟩
      have hz2 := bchain hb1 hb2
      obtain ⟨hc2, hf2⟩ := bcell hz2
      go_wp2_with fail
      refine (hnum _).mono ?_
      rintro e w3 ⟨rfl, hb3⟩
      have hz3 := bchain hz2 hb3
      obtain ⟨hc3, hf3⟩ := bcell hz3
      go_wp2
      exact bodyPost_ret (v := .tuple #[.agg #[.int .i64 (fin 2 (T3 n n' 1)).1, .int .i64 (fin 2 (T3 n n' 1)).2.1, .string ⟨#[]⟩], .int .i64 (fin 2 (T3 n n' 1)).2.2]) (by simp [results, Try.results14, go_sem, hc3]) rfl ⟨rfl, (Bel.out (by repeat (first | exact Bel.refl _ | refine Bel.drew ?_ | refine Bel.drewN ?_ _ | refine Bel.alloc ?_ _ | refine Bel.setCell ?_ (by simp <;> omega) _ | refine Bel.step ?_ (by assumption))))⟩
    · have hnum := fun w => of_fin 3 (mdN n n' 1) (T3 n n' 1) w md_eq
      go_enter Try.func14, Try.ntmps14
      go_wp2_with fail
      refine (hs _).mono ?_
      rintro e w1 ⟨rfl, hb1⟩
      obtain ⟨hc1, hf1⟩ := bcell hb1
      go_wp2_with fail
      refine (hmd _ _ (by unfold In; omega) (by omega)).mono ?_
      rintro e w2 ⟨rfl, hb2⟩
      have hz2 := bchain hb1 hb2
      obtain ⟨hc2, hf2⟩ := bcell hz2
      go_wp2_with fail
      refine (hnum _).mono ?_
      rintro e w3 ⟨rfl, hb3⟩
      have hz3 := bchain hz2 hb3
      obtain ⟨hc3, hf3⟩ := bcell hz3
      go_wp2
      exact bodyPost_ret (v := .tuple #[.agg #[.int .i64 (fin 3 (T3 n n' 1)).1, .int .i64 (fin 3 (T3 n n' 1)).2.1, .string ⟨#[]⟩], .int .i64 (fin 3 (T3 n n' 1)).2.2]) (by simp [results, Try.results14, go_sem, hc3]) rfl ⟨rfl, (Bel.out (by repeat (first | exact Bel.refl _ | refine Bel.drew ?_ | refine Bel.drewN ?_ _ | refine Bel.alloc ?_ _ | refine Bel.setCell ?_ (by simp <;> omega) _ | refine Bel.step ?_ (by assumption))))⟩
    · have hnum := fun w => of_fin 3 (mdN n n' 1) (T3 n n' 1) w md_eq
      go_enter Try.func14, Try.ntmps14
      go_wp2_with fail
      refine (hs _).mono ?_
      rintro e w1 ⟨rfl, hb1⟩
      obtain ⟨hc1, hf1⟩ := bcell hb1
      go_wp2_with fail
      refine (hmd _ _ (by unfold In; omega) (by omega)).mono ?_
      rintro e w2 ⟨rfl, hb2⟩
      have hz2 := bchain hb1 hb2
      obtain ⟨hc2, hf2⟩ := bcell hz2
      go_wp2_with fail
      refine (hnum _).mono ?_
      rintro e w3 ⟨rfl, hb3⟩
      have hz3 := bchain hz2 hb3
      obtain ⟨hc3, hf3⟩ := bcell hz3
      go_wp2
      exact bodyPost_ret (v := .tuple #[.agg #[.int .i64 (fin 3 (T3 n n' 1)).1, .int .i64 (fin 3 (T3 n n' 1)).2.1, .string ⟨#[]⟩], .int .i64 (fin 3 (T3 n n' 1)).2.2]) (by simp [results, Try.results14, go_sem, hc3]) rfl ⟨rfl, (Bel.out (by repeat (first | exact Bel.refl _ | refine Bel.drew ?_ | refine Bel.drewN ?_ _ | refine Bel.alloc ?_ _ | refine Bel.setCell ?_ (by simp <;> omega) _ | refine Bel.step ?_ (by assumption))))⟩
    · have hnum := fun w => of_fin 3 (mdN n n' 10000) (T3 n n' 10000) w md_eq
      go_enter Try.func14, Try.ntmps14
      go_wp2_with fail
      refine (hs _).mono ?_
      rintro e w1 ⟨rfl, hb1⟩
      obtain ⟨hc1, hf1⟩ := bcell hb1
      go_wp2_with fail
      refine (hmd _ _ (by unfold In; omega) (by omega)).mono ?_
      rintro e w2 ⟨rfl, hb2⟩
      have hz2 := bchain hb1 hb2
      obtain ⟨hc2, hf2⟩ := bcell hz2
      go_wp2_with fail
      refine (hnum _).mono ?_
      rintro e w3 ⟨rfl, hb3⟩
      have hz3 := bchain hz2 hb3
      obtain ⟨hc3, hf3⟩ := bcell hz3
      go_wp2
      exact bodyPost_ret (v := .tuple #[.agg #[.int .i64 (fin 3 (T3 n n' 10000)).1, .int .i64 (fin 3 (T3 n n' 10000)).2.1, .string ⟨#[]⟩], .int .i64 (fin 3 (T3 n n' 10000)).2.2]) (by simp [results, Try.results14, go_sem, hc3]) rfl ⟨rfl, (Bel.out (by repeat (first | exact Bel.refl _ | refine Bel.drew ?_ | refine Bel.drewN ?_ _ | refine Bel.alloc ?_ _ | refine Bel.setCell ?_ (by simp <;> omega) _ | refine Bel.step ?_ (by assumption))))⟩
end Go.Proofs.Ytakcmjigddeapaa
