/- What the exported functions of package arith give, for any values. -/
import Derived.Test.YtakcmjigddeapaaArith
namespace Go.Proofs.Ytakcmjigddeapaa
open Go.ChangeShapes Go.WideShapes Go.ChangeAt Go.RowKit

theorem e33 : ∀ args w, (callFunc 33 args).run Try.prog w = .ok (.enter 33 args) w := enters_of Try.func33 (by kernel_rfl) rfl
theorem e28 : ∀ args w, (callFunc 28 args).run Try.prog w = .ok (.enter 28 args) w := enters_of Try.func28 (by kernel_rfl) rfl
theorem e41 : ∀ args w, (callFunc 41 args).run Try.prog w = .ok (.enter 41 args) w := enters_of Try.func41 (by kernel_rfl) rfl
theorem e42 : ∀ args w, (callFunc 42 args).run Try.prog w = .ok (.enter 42 args) w := enters_of Try.func42 (by kernel_rfl) rfl
theorem e43 : ∀ args w, (callFunc 43 args).run Try.prog w = .ok (.enter 43 args) w := enters_of Try.func43 (by kernel_rfl) rfl

theorem plus_fit (x y : Int) (w : World) (hx : In x) (hy : In y) : Calls Try.prog 33 #[.int .i64 x, .int .i64 y] w fun e w' => e = .returned (.tuple #[.int .i64 (wrap64 (x + y)), .bool (fits (x + y))]) ∧ Below w.heap.size w w' := by
  refine (plus_any x y w).mono ?_
  rintro e w' ⟨rfl, rfl⟩
  exact ⟨by rw [plus_ok hx hy], Below.refl _ _⟩
theorem minus_fit (x y : Int) (w : World) (hx : In x) (hy : In y) : Calls Try.prog 28 #[.int .i64 x, .int .i64 y] w fun e w' => e = .returned (.tuple #[.int .i64 (wrap64 (x - y)), .bool (fits (x - y))]) ∧ Below w.heap.size w w' := by
  refine (minus_any x y w).mono ?_
  rintro e w' ⟨rfl, rfl⟩
  exact ⟨by rw [minus_ok hx hy], Below.refl _ _⟩
theorem rest_fit (x y : Int) (w : World) (hx : In x) (h0 : y ≠ 0) : Calls Try.prog 43 #[.int .i64 x, .int .i64 y] w fun e w' => e = .returned (.tuple #[.int .i64 (x.tmod y), .bool (fits (x.tmod y))]) ∧ Below w.heap.size w w' := by
  refine (rest_any x y h0 w).mono ?_
  rintro e w' ⟨rfl, rfl⟩
  exact ⟨by rw [tmod_fits hx], Below.refl _ _⟩
theorem up_ne {kd k n : Int} (h : n ≠ 0) : up kd k n ≠ 0 := by
  unfold up; split <;> omega
theorem number_sure (k n : Int) (w : World) : Calls Try.prog 29 #[.int .i64 k, .int .i64 n, .bool true] w fun e w' => e = .returned (.tuple #[.agg #[.int .i64 (((k : Int), (n : Int), (0 : Int))).1, .int .i64 (((k : Int), (n : Int), (0 : Int))).2.1, .string ⟨#[]⟩], .int .i64 (((k : Int), (n : Int), (0 : Int))).2.2]) ∧ Below w.heap.size w w' := by
  refine (number_ok k n w).mono ?_
  rintro e w' ⟨rfl, rfl⟩
  exact ⟨rfl, (Bel.alloc (Bel.refl _) _).out⟩
theorem tdiv_fits {n : Int} (hn : In n) : fits (n.tdiv 10000) = true := by
  apply fits_of_in
  unfold In at *
  have h1 : (n.tdiv 10000).natAbs = n.natAbs / 10000 := Int.natAbs_tdiv n 10000
  omega

theorem alike_add (k n : Int) (t : ByteArray) (k' n' : Int) (t' : ByteArray) (hn : In n) (hn' : In n') (w : World) : Calls Try.prog 32 #[.func (.func 33) #[] #[], .agg #[.int .i64 k, .int .i64 n, .string t], .agg #[.int .i64 k', .int .i64 n', .string t']] w fun e w' => e = .returned (.tuple #[.agg #[.int .i64 (alikeS (fun x y => x + y) k n k' n').1, .int .i64 (alikeS (fun x y => x + y) k n k' n').2.1, .string ⟨#[]⟩], .int .i64 (alikeS (fun x y => x + y) k n k' n').2.2]) ∧ Below w.heap.size w w' :=
  alike_any 33 e33 k n t k' n' t' hn hn' (fun x y => wrap64 (x + y)) (fun x y => x + y) (fun x y w hx hy _ _ => plus_fit x y w hx hy) (fun _ _ h => wrap_in h) w
theorem alike_sub (k n : Int) (t : ByteArray) (k' n' : Int) (t' : ByteArray) (hn : In n) (hn' : In n') (w : World) : Calls Try.prog 32 #[.func (.func 28) #[] #[], .agg #[.int .i64 k, .int .i64 n, .string t], .agg #[.int .i64 k', .int .i64 n', .string t']] w fun e w' => e = .returned (.tuple #[.agg #[.int .i64 (alikeS (fun x y => x - y) k n k' n').1, .int .i64 (alikeS (fun x y => x - y) k n k' n').2.1, .string ⟨#[]⟩], .int .i64 (alikeS (fun x y => x - y) k n k' n').2.2]) ∧ Below w.heap.size w w' :=
  alike_any 28 e28 k n t k' n' t' hn hn' (fun x y => wrap64 (x - y)) (fun x y => x - y) (fun x y w hx hy _ _ => minus_fit x y w hx hy) (fun _ _ h => wrap_in h) w
theorem alike_quo (k n : Int) (t : ByteArray) (k' n' : Int) (t' : ByteArray) (hn : In n) (hn' : In n') (h0 : n' ≠ 0) (w : World) : Calls Try.prog 32 #[.func (.func 41) #[] #[], .agg #[.int .i64 k, .int .i64 n, .string t], .agg #[.int .i64 k', .int .i64 n', .string t']] w fun e w' => e = .returned (.tuple #[.agg #[.int .i64 (alikeS (fun x y => T3 x 1 y) k n k' n').1, .int .i64 (alikeS (fun x y => T3 x 1 y) k n k' n').2.1, .string ⟨#[]⟩], .int .i64 (alikeS (fun x y => T3 x 1 y) k n k' n').2.2]) ∧ Below w.heap.size w w' :=
  alike_any 41 e41 k n t k' n' t' hn hn' (fun x y => shN x 1 y) (fun x y => T3 x 1 y) (fun x y w hx hy _ hy' => quotient_any x y hx hy (by rw [hy']; exact up_ne h0) w) (fun _ _ h => shN_eq _ _ _ h) w
theorem alike_dec (k n : Int) (t : ByteArray) (k' n' : Int) (t' : ByteArray) (hn : In n) (hn' : In n') (h0 : n' ≠ 0) (w : World) : Calls Try.prog 32 #[.func (.func 42) #[] #[], .agg #[.int .i64 k, .int .i64 n, .string t], .agg #[.int .i64 k', .int .i64 n', .string t']] w fun e w' => e = .returned (.tuple #[.agg #[.int .i64 (alikeS (fun x y => T3 x 10000 y) k n k' n').1, .int .i64 (alikeS (fun x y => T3 x 10000 y) k n k' n').2.1, .string ⟨#[]⟩], .int .i64 (alikeS (fun x y => T3 x 10000 y) k n k' n').2.2]) ∧ Below w.heap.size w w' :=
  alike_any 42 e42 k n t k' n' t' hn hn' (fun x y => shN x 10000 y) (fun x y => T3 x 10000 y) (fun x y w hx hy _ hy' => decQuotient_any x y hx hy (by rw [hy']; exact up_ne h0) w) (fun _ _ h => shN_eq _ _ _ h) w
theorem alike_mod (k n : Int) (t : ByteArray) (k' n' : Int) (t' : ByteArray) (hn : In n) (hn' : In n') (h0 : n' ≠ 0) (w : World) : Calls Try.prog 32 #[.func (.func 43) #[] #[], .agg #[.int .i64 k, .int .i64 n, .string t], .agg #[.int .i64 k', .int .i64 n', .string t']] w fun e w' => e = .returned (.tuple #[.agg #[.int .i64 (alikeS (fun x y => x.tmod y) k n k' n').1, .int .i64 (alikeS (fun x y => x.tmod y) k n k' n').2.1, .string ⟨#[]⟩], .int .i64 (alikeS (fun x y => x.tmod y) k n k' n').2.2]) ∧ Below w.heap.size w w' :=
  alike_any 43 e43 k n t k' n' t' hn hn' (fun x y => x.tmod y) (fun x y => x.tmod y) (fun x y w hx _ _ hy' => rest_fit x y w hx (by rw [hy']; exact up_ne h0)) (fun _ _ _ => rfl) w

set_option maxHeartbeats 1000000 in
theorem Add_any (k n : Int) (t : ByteArray) (k' n' : Int) (t' : ByteArray) (hn : In n) (hn' : In n') (w : World) : Calls Try.prog 9 #[.agg #[.int .i64 k, .int .i64 n, .string t], .agg #[.int .i64 k', .int .i64 n', .string t']] w fun e w' => e = .returned (.tuple #[.agg #[.int .i64 (addS k n k' n').1, .int .i64 (addS k n k' n').2.1, .string ⟨#[]⟩], .int .i64 (addS k n k' n').2.2]) ∧ Below w.heap.size w w' := by
  unfold addS
  have hs := settled2 k n t k' n' t'
  have ha := alike_add k n t k' n' t' hn hn'
  generalize st2 k k' = p at *
  obtain ⟨e0, d⟩ := p
  cases d with
  | true =>
    go_enter Try.func9, Try.ntmps9
    go_wp2_with fail
    refine (hs _ _ (by simp)).mono ?_
    rintro e w1 ⟨rfl, hb1⟩
    obtain ⟨hc1, hf1⟩ := bcell hb1
    go_wp2
    exact bodyPost_ret (v := .tuple #[.agg #[.int .i64 (((0 : Int), (0 : Int), e0)).1, .int .i64 (((0 : Int), (0 : Int), e0)).2.1, .string ⟨#[]⟩], .int .i64 (((0 : Int), (0 : Int), e0)).2.2]) (by simp [results, Try.results9, go_sem, hc1]) rfl ⟨rfl, (Bel.out (by repeat (first | exact Bel.refl _ | refine Bel.drew ?_ | refine Bel.drewN ?_ _ | refine Bel.alloc ?_ _ | refine Bel.setCell ?_ (by simp <;> omega) _ | refine Bel.step ?_ (by assumption))))⟩
  | false =>
    go_enter Try.func9, Try.ntmps9
    go_wp2_with fail
    refine (hs _ _ (by simp)).mono ?_
    rintro e w1 ⟨rfl, hb1⟩
    obtain ⟨hc1, hf1⟩ := bcell hb1
    go_wp2_with fail
    refine (ha _).mono ?_
    rintro e w2 ⟨rfl, hb2⟩
    have hz2 := bchain hb1 hb2
    obtain ⟨hc2, hf2⟩ := bcell hz2
    go_wp2
    exact bodyPost_ret (v := .tuple #[.agg #[.int .i64 (alikeS (fun x y => x + y) k n k' n').1, .int .i64 (alikeS (fun x y => x + y) k n k' n').2.1, .string ⟨#[]⟩], .int .i64 (alikeS (fun x y => x + y) k n k' n').2.2]) (by simp [results, Try.results9, go_sem, hc2]) rfl ⟨rfl, (Bel.out (by repeat (first | exact Bel.refl _ | refine Bel.drew ?_ | refine Bel.drewN ?_ _ | refine Bel.alloc ?_ _ | refine Bel.setCell ?_ (by simp <;> omega) _ | refine Bel.step ?_ (by assumption))))⟩

set_option maxHeartbeats 1000000 in
theorem Sub_any (k n : Int) (t : ByteArray) (k' n' : Int) (t' : ByteArray) (hn : In n) (hn' : In n') (w : World) : Calls Try.prog 11 #[.agg #[.int .i64 k, .int .i64 n, .string t], .agg #[.int .i64 k', .int .i64 n', .string t']] w fun e w' => e = .returned (.tuple #[.agg #[.int .i64 (subS k n k' n').1, .int .i64 (subS k n k' n').2.1, .string ⟨#[]⟩], .int .i64 (subS k n k' n').2.2]) ∧ Below w.heap.size w w' := by
  unfold subS
  have hs := settled2 k n t k' n' t'
  have ha := alike_sub k n t k' n' t' hn hn'
  generalize st2 k k' = p at *
  obtain ⟨e0, d⟩ := p
  cases d with
  | true =>
    go_enter Try.func11, Try.ntmps11
    go_wp2_with fail
    refine (hs _ _ (by simp)).mono ?_
    rintro e w1 ⟨rfl, hb1⟩
    obtain ⟨hc1, hf1⟩ := bcell hb1
    go_wp2
    exact bodyPost_ret (v := .tuple #[.agg #[.int .i64 (((0 : Int), (0 : Int), e0)).1, .int .i64 (((0 : Int), (0 : Int), e0)).2.1, .string ⟨#[]⟩], .int .i64 (((0 : Int), (0 : Int), e0)).2.2]) (by simp [results, Try.results11, go_sem, hc1]) rfl ⟨rfl, (Bel.out (by repeat (first | exact Bel.refl _ | refine Bel.drew ?_ | refine Bel.drewN ?_ _ | refine Bel.alloc ?_ _ | refine Bel.setCell ?_ (by simp <;> omega) _ | refine Bel.step ?_ (by assumption))))⟩
  | false =>
    go_enter Try.func11, Try.ntmps11
    go_wp2_with fail
    refine (hs _ _ (by simp)).mono ?_
    rintro e w1 ⟨rfl, hb1⟩
    obtain ⟨hc1, hf1⟩ := bcell hb1
    go_wp2_with fail
    refine (ha _).mono ?_
    rintro e w2 ⟨rfl, hb2⟩
    have hz2 := bchain hb1 hb2
    obtain ⟨hc2, hf2⟩ := bcell hz2
    go_wp2
    exact bodyPost_ret (v := .tuple #[.agg #[.int .i64 (alikeS (fun x y => x - y) k n k' n').1, .int .i64 (alikeS (fun x y => x - y) k n k' n').2.1, .string ⟨#[]⟩], .int .i64 (alikeS (fun x y => x - y) k n k' n').2.2]) (by simp [results, Try.results11, go_sem, hc2]) rfl ⟨rfl, (Bel.out (by repeat (first | exact Bel.refl _ | refine Bel.drew ?_ | refine Bel.drewN ?_ _ | refine Bel.alloc ?_ _ | refine Bel.setCell ?_ (by simp <;> omega) _ | refine Bel.step ?_ (by assumption))))⟩

set_option maxHeartbeats 1000000 in
theorem Div_any (k n : Int) (t : ByteArray) (k' n' : Int) (t' : ByteArray) (hn : In n) (hn' : In n') (w : World) : Calls Try.prog 15 #[.agg #[.int .i64 k, .int .i64 n, .string t], .agg #[.int .i64 k', .int .i64 n', .string t']] w fun e w' => e = .returned (.tuple #[.agg #[.int .i64 (divS k n k' n').1, .int .i64 (divS k n k' n').2.1, .string ⟨#[]⟩], .int .i64 (divS k n k' n').2.2]) ∧ Below w.heap.size w w' := by
  unfold divS
  have hu := undivided_any k n t k' n' t'
  by_cases h0 : (un2 k k' n').2 = true
  · generalize un2 k k' n' = p at *
    obtain ⟨e0, d⟩ := p
    simp only at h0
    subst h0
    go_enter Try.func15, Try.ntmps15
    go_wp2_with fail
    refine (hu _).mono ?_
    rintro e w1 ⟨rfl, hb1⟩
    obtain ⟨hc1, hf1⟩ := bcell hb1
    go_wp2
    exact bodyPost_ret (v := .tuple #[.agg #[.int .i64 (((0 : Int), (0 : Int), e0)).1, .int .i64 (((0 : Int), (0 : Int), e0)).2.1, .string ⟨#[]⟩], .int .i64 (((0 : Int), (0 : Int), e0)).2.2]) (by simp [results, Try.results15, go_sem, hc1]) rfl ⟨rfl, (Bel.out (by repeat (first | exact Bel.refl _ | refine Bel.drew ?_ | refine Bel.drewN ?_ _ | refine Bel.alloc ?_ _ | refine Bel.setCell ?_ (by simp <;> omega) _ | refine Bel.step ?_ (by assumption))))⟩
  · have hne : n' ≠ 0 := by
      intro h; apply h0; unfold un2; rw [if_pos h]; split <;> rfl
    have hd : (un2 k k' n').2 = false := by simpa using h0
    generalize un2 k k' n' = p at *
    obtain ⟨e0, d⟩ := p
    simp only at hd
    subst hd
    clear h0
    have hc := common2 k n t k' n' t'
    by_cases hk : kind2 k k' = 2
    · have ha := alike_quo k n t k' n' t' hn hn' hne
      rw [hk] at hc
      rw [if_pos hk]
      go_enter Try.func15, Try.ntmps15
      go_wp2_with fail
      refine (hu _).mono ?_
      rintro e w1 ⟨rfl, hb1⟩
      obtain ⟨hc1, hf1⟩ := bcell hb1
      go_wp2_with fail
      refine (hc _ _ (by simp)).mono ?_
      rintro e w2 ⟨rfl, hb2⟩
      have hz2 := bchain hb1 hb2
      obtain ⟨hc2, hf2⟩ := bcell hz2
      go_wp2_with fail
      refine (ha _).mono ?_
      rintro e w3 ⟨rfl, hb3⟩
      have hz3 := bchain hz2 hb3
      obtain ⟨hc3, hf3⟩ := bcell hz3
      go_wp2
      exact bodyPost_ret (v := .tuple #[.agg #[.int .i64 (alikeS (fun x y => T3 x 1 y) k n k' n').1, .int .i64 (alikeS (fun x y => T3 x 1 y) k n k' n').2.1, .string ⟨#[]⟩], .int .i64 (alikeS (fun x y => T3 x 1 y) k n k' n').2.2]) (by simp [results, Try.results15, go_sem, hc3]) rfl ⟨rfl, (Bel.out (by repeat (first | exact Bel.refl _ | refine Bel.drew ?_ | refine Bel.drewN ?_ _ | refine Bel.alloc ?_ _ | refine Bel.setCell ?_ (by simp <;> omega) _ | refine Bel.step ?_ (by assumption))))⟩
    · have ha := alike_dec k n t k' n' t' hn hn' hne
      rw [if_neg hk]
      go_enter Try.func15, Try.ntmps15
      go_wp2_with fail
      refine (hu _).mono ?_
      rintro e w1 ⟨rfl, hb1⟩
      obtain ⟨hc1, hf1⟩ := bcell hb1
      go_wp2_with fail
      refine (hc _ _ (by simp)).mono ?_
      rintro e w2 ⟨rfl, hb2⟩
      have hz2 := bchain hb1 hb2
      obtain ⟨hc2, hf2⟩ := bcell hz2
      go_wp2_with fail
      refine (ha _).mono ?_
      rintro e w3 ⟨rfl, hb3⟩
      have hz3 := bchain hz2 hb3
      obtain ⟨hc3, hf3⟩ := bcell hz3
      go_wp2
      exact bodyPost_ret (v := .tuple #[.agg #[.int .i64 (alikeS (fun x y => T3 x 10000 y) k n k' n').1, .int .i64 (alikeS (fun x y => T3 x 10000 y) k n k' n').2.1, .string ⟨#[]⟩], .int .i64 (alikeS (fun x y => T3 x 10000 y) k n k' n').2.2]) (by simp [results, Try.results15, go_sem, hc3]) rfl ⟨rfl, (Bel.out (by repeat (first | exact Bel.refl _ | refine Bel.drew ?_ | refine Bel.drewN ?_ _ | refine Bel.alloc ?_ _ | refine Bel.setCell ?_ (by simp <;> omega) _ | refine Bel.step ?_ (by assumption))))⟩

set_option maxHeartbeats 1000000 in
theorem Mod_any (k n : Int) (t : ByteArray) (k' n' : Int) (t' : ByteArray) (hn : In n) (hn' : In n') (w : World) : Calls Try.prog 17 #[.agg #[.int .i64 k, .int .i64 n, .string t], .agg #[.int .i64 k', .int .i64 n', .string t']] w fun e w' => e = .returned (.tuple #[.agg #[.int .i64 (modS k n k' n').1, .int .i64 (modS k n k' n').2.1, .string ⟨#[]⟩], .int .i64 (modS k n k' n').2.2]) ∧ Below w.heap.size w w' := by
  unfold modS
  have hu := undivided_any k n t k' n' t'
  by_cases h0 : (un2 k k' n').2 = true
  · generalize un2 k k' n' = p at *
    obtain ⟨e0, d⟩ := p
    simp only at h0
    subst h0
    go_enter Try.func17, Try.ntmps17
    go_wp2_with fail
    refine (hu _).mono ?_
    rintro e w1 ⟨rfl, hb1⟩
    obtain ⟨hc1, hf1⟩ := bcell hb1
    go_wp2
    exact bodyPost_ret (v := .tuple #[.agg #[.int .i64 (((0 : Int), (0 : Int), e0)).1, .int .i64 (((0 : Int), (0 : Int), e0)).2.1, .string ⟨#[]⟩], .int .i64 (((0 : Int), (0 : Int), e0)).2.2]) (by simp [results, Try.results17, go_sem, hc1]) rfl ⟨rfl, (Bel.out (by repeat (first | exact Bel.refl _ | refine Bel.drew ?_ | refine Bel.drewN ?_ _ | refine Bel.alloc ?_ _ | refine Bel.setCell ?_ (by simp <;> omega) _ | refine Bel.step ?_ (by assumption))))⟩
  · have hne : n' ≠ 0 := by
      intro h; apply h0; unfold un2; rw [if_pos h]; split <;> rfl
    have hd : (un2 k k' n').2 = false := by simpa using h0
    generalize un2 k k' n' = p at *
    obtain ⟨e0, d⟩ := p
    simp only at hd
    subst hd
    clear h0
    have ha := alike_mod k n t k' n' t' hn hn' hne
    go_enter Try.func17, Try.ntmps17
    go_wp2_with fail
    refine (hu _).mono ?_
    rintro e w1 ⟨rfl, hb1⟩
    obtain ⟨hc1, hf1⟩ := bcell hb1
    go_wp2_with fail
    refine (ha _).mono ?_
    rintro e w2 ⟨rfl, hb2⟩
    have hz2 := bchain hb1 hb2
    obtain ⟨hc2, hf2⟩ := bcell hz2
    go_wp2
    exact bodyPost_ret (v := .tuple #[.agg #[.int .i64 (alikeS (fun x y => x.tmod y) k n k' n').1, .int .i64 (alikeS (fun x y => x.tmod y) k n k' n').2.1, .string ⟨#[]⟩], .int .i64 (alikeS (fun x y => x.tmod y) k n k' n').2.2]) (by simp [results, Try.results17, go_sem, hc2]) rfl ⟨rfl, (Bel.out (by repeat (first | exact Bel.refl _ | refine Bel.drew ?_ | refine Bel.drewN ?_ _ | refine Bel.alloc ?_ _ | refine Bel.setCell ?_ (by simp <;> omega) _ | refine Bel.step ?_ (by assumption))))⟩

set_option maxHeartbeats 1000000 in
theorem Neg_any (k n : Int) (t : ByteArray) (hn : In n) (w : World) : Calls Try.prog 7 #[.agg #[.int .i64 k, .int .i64 n, .string t]] w fun e w' => e = .returned (.tuple #[.agg #[.int .i64 (negS k n).1, .int .i64 (negS k n).2.1, .string ⟨#[]⟩], .int .i64 (negS k n).2.2]) ∧ Below w.heap.size w w' := by
  unfold negS
  have hs := settled1 k n t
  have hm := fun w => minus_fit 0 n w (by unfold In; omega) hn
  have hnum := fun w => number_fin k (wrap64 (0 - n)) (0 - n) w (fun h => wrap_in h)
  generalize 0 - n = m at *
  generalize wrap64 m = m' at *
  generalize st1 k = p at *
  obtain ⟨e0, d⟩ := p
  cases d with
  | true =>
    go_enter Try.func7, Try.ntmps7
    go_wp2_with fail
    refine (hs _ _ (by simp)).mono ?_
    rintro e w1 ⟨rfl, hb1⟩
    obtain ⟨hc1, hf1⟩ := bcell hb1
    go_wp2
    exact bodyPost_ret (v := .tuple #[.agg #[.int .i64 (((0 : Int), (0 : Int), e0)).1, .int .i64 (((0 : Int), (0 : Int), e0)).2.1, .string ⟨#[]⟩], .int .i64 (((0 : Int), (0 : Int), e0)).2.2]) (by simp [results, Try.results7, go_sem, hc1]) rfl ⟨rfl, (Bel.out (by repeat (first | exact Bel.refl _ | refine Bel.drew ?_ | refine Bel.drewN ?_ _ | refine Bel.alloc ?_ _ | refine Bel.setCell ?_ (by simp <;> omega) _ | refine Bel.step ?_ (by assumption))))⟩
  | false =>
    go_enter Try.func7, Try.ntmps7
    go_wp2_with fail
    refine (hs _ _ (by simp)).mono ?_
    rintro e w1 ⟨rfl, hb1⟩
    obtain ⟨hc1, hf1⟩ := bcell hb1
    go_wp2_with fail
    refine (hm _).mono ?_
    rintro e w2 ⟨rfl, hb2⟩
    have hz2 := bchain hb1 hb2
    obtain ⟨hc2, hf2⟩ := bcell hz2
    go_wp2_with fail
    refine (hnum _).mono ?_
    rintro e w3 ⟨rfl, hb3⟩
    have hz3 := bchain hz2 hb3
    obtain ⟨hc3, hf3⟩ := bcell hz3
    go_wp2
    exact bodyPost_ret (v := .tuple #[.agg #[.int .i64 (fin k m).1, .int .i64 (fin k m).2.1, .string ⟨#[]⟩], .int .i64 (fin k m).2.2]) (by simp [results, Try.results7, go_sem, hc3]) rfl ⟨rfl, (Bel.out (by repeat (first | exact Bel.refl _ | refine Bel.drew ?_ | refine Bel.drewN ?_ _ | refine Bel.alloc ?_ _ | refine Bel.setCell ?_ (by simp <;> omega) _ | refine Bel.step ?_ (by assumption))))⟩

set_option maxHeartbeats 1000000 in
theorem Dec_any (k n : Int) (t : ByteArray) (hn : In n) (w : World) : Calls Try.prog 19 #[.agg #[.int .i64 k, .int .i64 n, .string t]] w fun e w' => e = .returned (.tuple #[.agg #[.int .i64 (decS k n).1, .int .i64 (decS k n).2.1, .string ⟨#[]⟩], .int .i64 (decS k n).2.2]) ∧ Below w.heap.size w w' := by
  unfold decS
  have hs := settled1 k n t
  have hm := fun w => inKind_any 3 k n t w hn
  have hnum := fun w => number_fin 3 (inN 3 k n) (up 3 k n) w (fun h => up_in hn h)
  generalize st1 k = p at *
  obtain ⟨e0, d⟩ := p
  cases d with
  | true =>
    go_enter Try.func19, Try.ntmps19
    go_wp2_with fail
    refine (hs _ _ (by simp)).mono ?_
    rintro e w1 ⟨rfl, hb1⟩
    obtain ⟨hc1, hf1⟩ := bcell hb1
    go_wp2
    exact bodyPost_ret (v := .tuple #[.agg #[.int .i64 (((0 : Int), (0 : Int), e0)).1, .int .i64 (((0 : Int), (0 : Int), e0)).2.1, .string ⟨#[]⟩], .int .i64 (((0 : Int), (0 : Int), e0)).2.2]) (by simp [results, Try.results19, go_sem, hc1]) rfl ⟨rfl, (Bel.out (by repeat (first | exact Bel.refl _ | refine Bel.drew ?_ | refine Bel.drewN ?_ _ | refine Bel.alloc ?_ _ | refine Bel.setCell ?_ (by simp <;> omega) _ | refine Bel.step ?_ (by assumption))))⟩
  | false =>
    go_enter Try.func19, Try.ntmps19
    go_wp2_with fail
    refine (hs _ _ (by simp)).mono ?_
    rintro e w1 ⟨rfl, hb1⟩
    obtain ⟨hc1, hf1⟩ := bcell hb1
    go_wp2_with fail
    refine (hm _).mono ?_
    rintro e w2 ⟨rfl, hb2⟩
    have hz2 := bchain hb1 hb2
    obtain ⟨hc2, hf2⟩ := bcell hz2
    go_wp2_with fail
    refine (hnum _).mono ?_
    rintro e w3 ⟨rfl, hb3⟩
    have hz3 := bchain hz2 hb3
    obtain ⟨hc3, hf3⟩ := bcell hz3
    go_wp2
    exact bodyPost_ret (v := .tuple #[.agg #[.int .i64 (fin 3 (up 3 k n)).1, .int .i64 (fin 3 (up 3 k n)).2.1, .string ⟨#[]⟩], .int .i64 (fin 3 (up 3 k n)).2.2]) (by simp [results, Try.results19, go_sem, hc3]) rfl ⟨rfl, (Bel.out (by repeat (first | exact Bel.refl _ | refine Bel.drew ?_ | refine Bel.drewN ?_ _ | refine Bel.alloc ?_ _ | refine Bel.setCell ?_ (by simp <;> omega) _ | refine Bel.step ?_ (by assumption))))⟩

set_option maxHeartbeats 1000000 in
theorem Int_any (k n : Int) (t : ByteArray) (hn : In n) (w : World) : Calls Try.prog 21 #[.agg #[.int .i64 k, .int .i64 n, .string t]] w fun e w' => e = .returned (.tuple #[.agg #[.int .i64 (intS k n).1, .int .i64 (intS k n).2.1, .string ⟨#[]⟩], .int .i64 (intS k n).2.2]) ∧ Below w.heap.size w w' := by
  unfold intS
  have hs := settled1 k n t
  generalize st1 k = p at *
  obtain ⟨e0, d⟩ := p
  cases d with
  | true =>
    go_enter Try.func21, Try.ntmps21
    go_wp2_with fail
    refine (hs _ _ (by simp)).mono ?_
    rintro e w1 ⟨rfl, hb1⟩
    obtain ⟨hc1, hf1⟩ := bcell hb1
    go_wp2
    exact bodyPost_ret (v := .tuple #[.agg #[.int .i64 (((0 : Int), (0 : Int), e0)).1, .int .i64 (((0 : Int), (0 : Int), e0)).2.1, .string ⟨#[]⟩], .int .i64 (((0 : Int), (0 : Int), e0)).2.2]) (by simp [results, Try.results21, go_sem, hc1]) rfl ⟨rfl, (Bel.out (by repeat (first | exact Bel.refl _ | refine Bel.drew ?_ | refine Bel.drewN ?_ _ | refine Bel.alloc ?_ _ | refine Bel.setCell ?_ (by simp <;> omega) _ | refine Bel.step ?_ (by assumption))))⟩
  | false =>
    by_cases hk : k = 3
    · subst hk
      have hw : wrap64 (n.tdiv 10000) = n.tdiv 10000 := wrap_in (tdiv_fits hn)
      have hnum := number_sure 2 (n.tdiv 10000)
      go_enter Try.func21, Try.ntmps21
      go_wp2_with fail
      refine (hs _ _ (by simp)).mono ?_
      rintro e w1 ⟨rfl, hb1⟩
      obtain ⟨hc1, hf1⟩ := bcell hb1
      go_wp2_with fail
      refine (hnum _).mono ?_
      rintro e w2 ⟨rfl, hb2⟩
      have hz2 := bchain hb1 hb2
      obtain ⟨hc2, hf2⟩ := bcell hz2
      go_wp2
      exact bodyPost_ret (v := .tuple #[.agg #[.int .i64 (((2 : Int), n.tdiv 10000, (0 : Int))).1, .int .i64 (((2 : Int), n.tdiv 10000, (0 : Int))).2.1, .string ⟨#[]⟩], .int .i64 (((2 : Int), n.tdiv 10000, (0 : Int))).2.2]) (by simp [results, Try.results21, go_sem, hc2]) rfl ⟨rfl, (Bel.out (by repeat (first | exact Bel.refl _ | refine Bel.drew ?_ | refine Bel.drewN ?_ _ | refine Bel.alloc ?_ _ | refine Bel.setCell ?_ (by simp <;> omega) _ | refine Bel.step ?_ (by assumption))))⟩
    · have hnum := number_sure 2 n
      rw [if_neg hk]
      go_enter Try.func21, Try.ntmps21
      go_wp2_with fail
      refine (hs _ _ (by simp)).mono ?_
      rintro e w1 ⟨rfl, hb1⟩
      obtain ⟨hc1, hf1⟩ := bcell hb1
      go_wp2_with fail
      refine (hnum _).mono ?_
      rintro e w2 ⟨rfl, hb2⟩
      have hz2 := bchain hb1 hb2
      obtain ⟨hc2, hf2⟩ := bcell hz2
      go_wp2
      exact bodyPost_ret (v := .tuple #[.agg #[.int .i64 (((2 : Int), n, (0 : Int))).1, .int .i64 (((2 : Int), n, (0 : Int))).2.1, .string ⟨#[]⟩], .int .i64 (((2 : Int), n, (0 : Int))).2.2]) (by simp [results, Try.results21, go_sem, hc2]) rfl ⟨rfl, (Bel.out (by repeat (first | exact Bel.refl _ | refine Bel.drew ?_ | refine Bel.drewN ?_ _ | refine Bel.alloc ?_ _ | refine Bel.setCell ?_ (by simp <;> omega) _ | refine Bel.step ?_ (by assumption))))⟩

set_option maxHeartbeats 1000000 in
theorem Mul_any (k n : Int) (t : ByteArray) (k' n' : Int) (t' : ByteArray) (hn : In n) (hn' : In n') (w : World) : Calls Try.prog 13 #[.agg #[.int .i64 k, .int .i64 n, .string t], .agg #[.int .i64 k', .int .i64 n', .string t']] w fun e w' => e = .returned (.tuple #[.agg #[.int .i64 (mulS k n k' n').1, .int .i64 (mulS k n k' n').2.1, .string ⟨#[]⟩], .int .i64 (mulS k n k' n').2.2]) ∧ Below w.heap.size w w' := by
  unfold mulS
  have hs := settled2 k n t k' n' t'
  have hc := common2 k n t k' n' t'
  have hnum := fun d w => number_fin (kind2 k k') (shN n n' d) (T3 n n' d) w (shN_eq n n' d)
  have hsh := fun d w (hd : In d) (h0 : d ≠ 0) => share_any n n' d hn hn' hd h0 w
  generalize st2 k k' = p at *
  generalize kind2 k k' = kd at *
  obtain ⟨e0, d⟩ := p
  cases d with
  | true =>
    go_enter Try.func13, Try.ntmps13
    go_wp2_with fail
    refine (hs _ _ (by simp)).mono ?_
    rintro e w1 ⟨rfl, hb1⟩
    obtain ⟨hc1, hf1⟩ := bcell hb1
    go_wp2
    exact bodyPost_ret (v := .tuple #[.agg #[.int .i64 (((0 : Int), (0 : Int), e0)).1, .int .i64 (((0 : Int), (0 : Int), e0)).2.1, .string ⟨#[]⟩], .int .i64 (((0 : Int), (0 : Int), e0)).2.2]) (by simp [results, Try.results13, go_sem, hc1]) rfl ⟨rfl, (Bel.out (by repeat (first | exact Bel.refl _ | refine Bel.drew ?_ | refine Bel.drewN ?_ _ | refine Bel.alloc ?_ _ | refine Bel.setCell ?_ (by simp <;> omega) _ | refine Bel.step ?_ (by assumption))))⟩
  | false =>
    by_cases hk : k = 3
    · subst hk
      by_cases hk' : k' = 3
      · subst hk'
        go_enter Try.func13, Try.ntmps13
        go_wp2_with fail
        refine (hs _ _ (by simp)).mono ?_
        rintro e w1 ⟨rfl, hb1⟩
        obtain ⟨hc1, hf1⟩ := bcell hb1
        go_wp2_with fail
        refine (hsh _ _ (by unfold In; omega) (by omega)).mono ?_
        rintro e w2 ⟨rfl, hb2⟩
        have hz2 := bchain hb1 hb2
        obtain ⟨hc2, hf2⟩ := bcell hz2
        go_wp2_with fail
        refine (hc _ _ (by simp)).mono ?_
        rintro e w3 ⟨rfl, hb3⟩
        have hz3 := bchain hz2 hb3
        obtain ⟨hc3, hf3⟩ := bcell hz3
        go_wp2_with fail
        refine (hnum _ _).mono ?_
        rintro e w4 ⟨rfl, hb4⟩
        have hz4 := bchain hz3 hb4
        obtain ⟨hc4, hf4⟩ := bcell hz4
        go_wp2
        exact bodyPost_ret (v := .tuple #[.agg #[.int .i64 (fin kd (T3 n n' 10000)).1, .int .i64 (fin kd (T3 n n' 10000)).2.1, .string ⟨#[]⟩], .int .i64 (fin kd (T3 n n' 10000)).2.2]) (by simp [results, Try.results13, go_sem, hc4]) rfl ⟨rfl, (Bel.out (by repeat (first | exact Bel.refl _ | refine Bel.drew ?_ | refine Bel.drewN ?_ _ | refine Bel.alloc ?_ _ | refine Bel.setCell ?_ (by simp <;> omega) _ | refine Bel.step ?_ (by assumption))))⟩
      · rw [if_neg (show ¬ ((3 : Int) = 3 ∧ k' = 3) from fun h => hk' h.2)]
        go_enter Try.func13, Try.ntmps13
        go_wp2_with fail
        refine (hs _ _ (by simp)).mono ?_
        rintro e w1 ⟨rfl, hb1⟩
        obtain ⟨hc1, hf1⟩ := bcell hb1
        go_wp2_with fail
        refine (hsh _ _ (by unfold In; omega) (by omega)).mono ?_
        rintro e w2 ⟨rfl, hb2⟩
        have hz2 := bchain hb1 hb2
        obtain ⟨hc2, hf2⟩ := bcell hz2
        go_wp2_with fail
        refine (hc _ _ (by simp)).mono ?_
        rintro e w3 ⟨rfl, hb3⟩
        have hz3 := bchain hz2 hb3
        obtain ⟨hc3, hf3⟩ := bcell hz3
        go_wp2_with fail
        refine (hnum _ _).mono ?_
        rintro e w4 ⟨rfl, hb4⟩
        have hz4 := bchain hz3 hb4
        obtain ⟨hc4, hf4⟩ := bcell hz4
        go_wp2
        exact bodyPost_ret (v := .tuple #[.agg #[.int .i64 (fin kd (T3 n n' 1)).1, .int .i64 (fin kd (T3 n n' 1)).2.1, .string ⟨#[]⟩], .int .i64 (fin kd (T3 n n' 1)).2.2]) (by simp [results, Try.results13, go_sem, hc4]) rfl ⟨rfl, (Bel.out (by repeat (first | exact Bel.refl _ | refine Bel.drew ?_ | refine Bel.drewN ?_ _ | refine Bel.alloc ?_ _ | refine Bel.setCell ?_ (by simp <;> omega) _ | refine Bel.step ?_ (by assumption))))⟩
    · rw [if_neg (show ¬ (k = 3 ∧ k' = 3) from fun h => hk h.1)]
      go_enter Try.func13, Try.ntmps13
      go_wp2_with fail
      refine (hs _ _ (by simp)).mono ?_
      rintro e w1 ⟨rfl, hb1⟩
      obtain ⟨hc1, hf1⟩ := bcell hb1
      go_wp2_with fail
      refine (hsh _ _ (by unfold In; omega) (by omega)).mono ?_
      rintro e w2 ⟨rfl, hb2⟩
      have hz2 := bchain hb1 hb2
      obtain ⟨hc2, hf2⟩ := bcell hz2
      go_wp2_with fail
      refine (hc _ _ (by simp)).mono ?_
      rintro e w3 ⟨rfl, hb3⟩
      have hz3 := bchain hz2 hb3
      obtain ⟨hc3, hf3⟩ := bcell hz3
      go_wp2_with fail
      refine (hnum _ _).mono ?_
      rintro e w4 ⟨rfl, hb4⟩
      have hz4 := bchain hz3 hb4
      obtain ⟨hc4, hf4⟩ := bcell hz4
      go_wp2
      exact bodyPost_ret (v := .tuple #[.agg #[.int .i64 (fin kd (T3 n n' 1)).1, .int .i64 (fin kd (T3 n n' 1)).2.1, .string ⟨#[]⟩], .int .i64 (fin kd (T3 n n' 1)).2.2]) (by simp [results, Try.results13, go_sem, hc4]) rfl ⟨rfl, (Bel.out (by repeat (first | exact Bel.refl _ | refine Bel.drew ?_ | refine Bel.drewN ?_ _ | refine Bel.alloc ?_ _ | refine Bel.setCell ?_ (by simp <;> omega) _ | refine Bel.step ?_ (by assumption))))⟩
end Go.Proofs.Ytakcmjigddeapaa
