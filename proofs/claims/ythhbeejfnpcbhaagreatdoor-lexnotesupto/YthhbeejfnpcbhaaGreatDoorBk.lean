/- The text of a token, and that it is read as it was. -/
import Derived.Test.YthhbeejfnpcbhaaGreatDoorSf
import Derived.Test.YthhbeejfnpcbhaaGreatDoorDig
namespace Go.Proofs.YthhbeejfnpcbhaaGreatDoor
open Go.ChangeShapes Go.WideShapes Go.ChangeAt Go.RowKit

/-- The text of a token. -/
def shP (t : Tk) : List UInt8 :=
  if t.1 = 1 ∨ t.1 = 2 ∨ t.1 = 6 then t.2.1
  else if t.1 = 3 then Lib.itoa t.2.2
  else if t.1 = 4 then decS t.2.2
  else if t.1 = 5 then (if t.2.1.length ≤ 1024 ∧ Lib.validD t.2.1 = true then 39 :: (dbl t.2.1 ++ [39]) else [])
  else if t.1 = 7 then Lib.itoa t.2.2 ++ [109, 115] else []
/-- Its text is read as it. -/
def Gd (t : Tk) : Prop := stp (shP t) = 0 ∧ shP t ≠ [] ∧ tokP (shP t) = (t, ((shP t).length : Int), 0)
theorem stp_head {c : UInt8} (r : List UInt8) (h1 : blB c.toNat = false) (h2 : c ≠ 45) (h3 : c ≠ 47) : stp (c :: r) = 0 := by
  have p1 : Lib.hasPrefix (c :: r) [45, 45] = false := by
    simp [Lib.hasPrefix, List.isPrefixOf, show ((45 : UInt8) == c) = false from by simpa using fun e => h2 e.symm]
  have p2 : Lib.hasPrefix (c :: r) [47, 42] = false := by
    simp [Lib.hasPrefix, List.isPrefixOf, show ((47 : UInt8) == c) = false from by simpa using fun e => h3 e.symm]
  unfold stp
  rw [if_neg (by simp), if_neg (by simp [h1]), p1, p2]
  rfl
theorem ldN_all {p : Nat → Bool} : ∀ {l : List UInt8}, (∀ c ∈ l, p c.toNat = true) → ldN p l = l.length
  | [], _ => rfl
  | c :: r, h => by
    have ih := ldN_all (p := p) (l := r) (fun x hx => h x (by simp [hx]))
    unfold ldN at ih ⊢
    rw [List.takeWhile_cons, if_pos (h c (by simp))]
    simp [ih]
theorem ldN_all_app {p : Nat → Bool} {l : List UInt8} (h : ∀ c ∈ l, p c.toNat = true) {d : UInt8} (hd : p d.toNat = false) (x : List UInt8) : ldN p (l ++ d :: x) = l.length := by
  rw [ldN_app hd, ldN_all h]
theorem dg_of {l : List UInt8} (h : Dgs l) : ∀ c ∈ l, dgB c.toNat = true := fun c hc => by
  have := h c hc
  unfold dgB
  simp [this.1, this.2]
theorem dg_head {c : UInt8} (h : 48 ≤ c.toNat ∧ c.toNat ≤ 57) : ltB c.toNat = false ∧ dgB c.toNat = true ∧ blB c.toNat = false ∧ c ≠ 45 ∧ c ≠ 47 := by
  refine ⟨?_, by unfold dgB; simp [h.1, h.2], ?_, ?_, ?_⟩
  · unfold ltB; simp; omega
  · unfold blB; simp; omega
  · rintro rfl; exact absurd h.1 (by decide)
  · rintro rfl; exact absurd h.1 (by decide)
/-- Digits ahead of what is no digit. -/
theorem tok_num {d : List UInt8} (hd : Dgs d) (hne : d ≠ []) (x : List UInt8) : tokP (d ++ x) = numP (d ++ x) ∧ stp (d ++ x) = 0 := by
  cases d with
  | nil => exact absurd rfl hne
  | cons c r =>
    obtain ⟨h1, h2, h3, h4, h5⟩ := dg_head (hd c (by simp))
    refine ⟨?_, stp_head _ h3 h4 h5⟩
    unfold tokP
    rw [List.cons_append, List.headD_cons, if_neg (by simp [h1]), if_pos h2]
theorem ngh_digits (n : Nat) (x : List UInt8) (hx : ∀ c y, x = c :: y → dgB c.toNat = false) : nghB (Lib.decDigits n ++ x) = false := by
  by_cases h : n < 10
  · rw [Lib.decDigits_one h]
    cases x with
    | nil => rfl
    | cons c y =>
      show (_ == 48 && dgB c.toNat) = false
      rw [hx c y rfl, Bool.and_false]
  · obtain ⟨c, r, e, hc⟩ := digits_first n n (Nat.le_refl _) (by omega)
    rw [e]
    cases hr : r ++ x with
    | nil => rw [List.cons_append, hr]; rfl
    | cons d y =>
      rw [List.cons_append, hr]
      show (c == 48 && dgB d.toNat) = false
      rw [show (c == 48) = false from by simpa using hc, Bool.false_and]
theorem whl_dec (k : Int) (n : Nat) (h : n ≤ 9223372036854775807) : whlP k (Lib.decDigits n) = ((k, [], (n : Int)), 0) := by
  unfold whlP; rw [atoi_dec n h]
theorem itoa_nat (n : Nat) : Lib.itoa (n : Int) = Lib.decDigits n := by
  unfold Lib.itoa
  rw [if_neg (by omega)]
  simp
theorem num_ok {l : List UInt8} {t : Tk} {n : Nat} (ha : amtP l = (t, n, 0)) (hg : nghB l = false) (hn : n = l.length) : numP l = (t, (l.length : Int), 0) := by
  have e : numE l = 0 := by
    unfold numE
    rw [ha, hg]
    simp [hn, ldN]
  unfold numP
  rw [e, ha, hn]
  rfl
theorem gd_int (n : Nat) (h : n ≤ 9223372036854775807) : Gd (3, [], (n : Int)) := by
  have es : shP (3, [], (n : Int)) = Lib.decDigits n := by unfold shP; simp [itoa_nat]
  have hl := ldN_all (dg_of (digits_dgs n))
  have ed : dgs (Lib.decDigits n) = Lib.decDigits n := by unfold dgs; rw [hl]; simp
  have er : rst (Lib.decDigits n) = [] := by unfold rst; rw [hl]; simp
  have ht := tok_num (digits_dgs n) (digits_ne n) []
  rw [List.append_nil] at ht
  have hg := ngh_digits n [] (fun c y e => by cases e)
  rw [List.append_nil] at hg
  have ha : amtP (Lib.decDigits n) = ((3, [], (n : Int)), (Lib.decDigits n).length, 0) := by
    unfold amtP unt
    rw [er, ed, whl_dec 3 n h]
    rfl
  refine ⟨by rw [es]; exact ht.2, by rw [es]; exact digits_ne n, ?_⟩
  rw [es, ht.1, num_ok ha hg rfl]
theorem gd_per (n : Nat) (h : n ≤ 1099511627776) : Gd (7, [], (n : Int)) := by
  have es : shP (7, [], (n : Int)) = Lib.decDigits n ++ [109, 115] := by unfold shP; simp [itoa_nat]
  have hl := ldN_all_app (dg_of (digits_dgs n)) (d := 109) rfl [115]
  have ed : dgs (Lib.decDigits n ++ [109, 115]) = Lib.decDigits n := by unfold dgs; rw [hl]; simp
  have er : rst (Lib.decDigits n ++ [109, 115]) = [109, 115] := by unfold rst; rw [hl]; simp
  have ht := tok_num (digits_dgs n) (digits_ne n) [109, 115]
  have hg := ngh_digits n [109, 115] (fun c y e => by injection e with e1 e2; subst e1; rfl)
  have eu : unt (Lib.decDigits n ++ [109, 115]) = [109, 115] := by unfold unt; rw [er]; rfl
  have em : msN [109, 115] = 1 := rfl
  have ha : amtP (Lib.decDigits n ++ [109, 115]) = ((7, [], (n : Int)), (Lib.decDigits n ++ [109, 115]).length, 0) := by
    unfold amtP
    rw [eu, em, ed, if_pos (by omega)]
    unfold perP
    rw [whl_dec 7 n (by omega)]
    rw [if_neg (by simp; omega)]
    simp
  refine ⟨by rw [es]; exact ht.2, by rw [es]; simp, ?_⟩
  rw [es, ht.1, num_ok ha hg rfl]
theorem gd_dec (n : Nat) (h : n ≤ 9223372036854775807) : Gd (4, [], (n : Int)) := by
  have es : shP (4, [], (n : Int)) = Lib.decDigits (n / 10000) ++ 46 :: behL n := by
    unfold shP decS
    simp only [show ¬ ((n : Int) < 0) from by omega, if_false, Int.toNat_natCast]
    simp [decL_eq]
  have hl := ldN_all_app (dg_of (digits_dgs (n / 10000))) (d := 46) rfl (behL n)
  have ed : dgs (Lib.decDigits (n / 10000) ++ 46 :: behL n) = Lib.decDigits (n / 10000) := by unfold dgs; rw [hl]; simp
  have er : rst (Lib.decDigits (n / 10000) ++ 46 :: behL n) = 46 :: behL n := by unfold rst; rw [hl]; simp
  have ht := tok_num (digits_dgs (n / 10000)) (digits_ne _) (46 :: behL n)
  have hg := ngh_digits (n / 10000) (46 :: behL n) (fun c y e => by injection e with e1 e2; subst e1; rfl)
  have eu : unt (Lib.decDigits (n / 10000) ++ 46 :: behL n) = [] := by
    unfold unt; rw [er]
    have : ldN ptB (46 :: behL n) = 0 := by unfold ldN; rw [List.takeWhile_cons, if_neg (by decide)]; rfl
    rw [this]; rfl
  have em : msN [] = 0 := rfl
  have hb := beh_len n
  have ef : frcL (46 :: behL n) = behL n := by
    unfold frcL
    have hp : Lib.hasPrefix (46 :: behL n) [46] = true := by simp [Lib.hasPrefix, List.isPrefixOf]
    rw [if_pos hp, List.tail_cons, ldN_all (dg_of (beh_dgs n))]
    simp
  have hv : val (Lib.decDigits (n / 10000) ++ restL n) = n := by
    rw [valA_app, val_digits _ _ (Nat.le_refl _), valA_eq, rest_len, rest_val]
    omega
  have hD : Dgs (Lib.decDigits (n / 10000) ++ restL n) := fun c hc => by
    rcases List.mem_append.1 hc with h' | h'
    · exact digits_dgs _ c h'
    · exact rest_dgs n c h'
  have hw : decP (Lib.decDigits (n / 10000)) (behL n) = ((4, [], (n : Int)), 0) := by
    unfold decP
    rw [if_neg (by omega), repl_rep, List.append_assoc, beh_back]
    unfold whlP
    rw [atoi_digits (by simp [digits_ne]) hD (by rw [hv]; exact h), hv]
  have ha : amtP (Lib.decDigits (n / 10000) ++ 46 :: behL n) = ((4, [], (n : Int)), (Lib.decDigits (n / 10000) ++ 46 :: behL n).length, 0) := by
    unfold amtP
    rw [eu, em, er, ef, ed, hw, if_neg (by omega), if_pos (by intro e; rw [e] at hb; simp at hb)]
    simp
    omega
  refine ⟨by rw [es]; exact ht.2, by rw [es]; simp, ?_⟩
  rw [es, ht.1, num_ok ha hg rfl]
theorem qu_dbl : ∀ x : List UInt8, quF (dbl x ++ [39]) = some (x, (dbl x).length + 1)
  | [] => rfl
  | c :: r => by
    have ih := qu_dbl r
    by_cases hc : c = 39
    · subst hc
      rw [dbl, if_pos rfl]
      simp only [List.cons_append]
      rw [quF, if_pos rfl, if_pos rfl, ih]
      simp
    · rw [dbl, if_neg hc]
      simp only [List.cons_append]
      cases hd : dbl r ++ [39] with
      | nil => simp at hd
      | cons d y =>
        rw [quF, if_neg hc, ← hd, ih]
        simp
theorem gd_txt (x : List UInt8) (h1 : x.length ≤ 1024) (h2 : Lib.validD x = true) : Gd (5, x, 0) := by
  have es : shP (5, x, 0) = 39 :: (dbl x ++ [39]) := by unfold shP; simp [h1, h2]
  refine ⟨by rw [es]; exact stp_head _ rfl (by decide) (by decide), by rw [es]; simp, ?_⟩
  rw [es]
  unfold tokP
  rw [List.headD_cons, if_neg (by decide), if_neg (by decide), if_pos rfl]
  unfold txtP
  rw [List.tail_cons, qu_dbl]
  simp only
  rw [if_neg (by simp [h2]; omega)]
  simp
theorem gd_nam (x : List UInt8) (hne : x ≠ []) (h0 : ltB (x.headD 0).toNat = true) (hp : ∀ c ∈ x, ptB c.toNat = true) (hw : wdL.contains (Lib.toLowerA x) = false) : Gd (1, x, 0) := by
  have es : shP (1, x, 0) = x := by unfold shP; simp
  have hl := ldN_all hp
  refine ⟨?_, by rw [es]; exact hne, ?_⟩
  · rw [es]
    cases x with
    | nil => exact absurd rfl hne
    | cons c r =>
      rw [List.headD_cons] at h0
      refine stp_head r ?_ ?_ ?_
      · unfold ltB at h0; unfold blB; simp at h0 ⊢; omega
      · rintro rfl; exact absurd h0 (by decide)
      · rintro rfl; exact absurd h0 (by decide)
  · rw [es]
    unfold tokP
    rw [if_pos h0]
    unfold namP
    rw [hl, List.take_length, hw]
    rfl
theorem gd_wrd : ∀ x ∈ wdL, Gd (2, x, 0) := by
  have h : ∀ x ∈ wdL, stp x = 0 ∧ x ≠ [] ∧ tokP x = ((2, x, 0), (x.length : Int), 0) := by decide +kernel
  intro x hx
  have es : shP (2, x, 0) = x := by unfold shP; simp
  unfold Gd
  rw [es]
  exact h x hx
/-- The signs. -/
def sgL : List (List UInt8) := [[60, 61], [62, 61], [33, 61], [45, 62], [60], [62], [61], [43], [45], [42], [47], [37], [40], [41], [44], [46], [59], [91], [93], [35]]
theorem gd_sgn : ∀ x ∈ sgL, Gd (6, x, 0) := by
  have h : ∀ x ∈ sgL, stp x = 0 ∧ x ≠ [] ∧ tokP x = ((6, x, 0), (x.length : Int), 0) := by decide +kernel
  intro x hx
  have es : shP (6, x, 0) = x := by unfold shP; simp
  unfold Gd
  rw [es]
  exact h x hx
theorem short_mem : ∀ (l : List UInt8) (c : UInt8), Lib.indexByte l c ≥ 0 → c ∈ l
  | [], c, h => by simp [Lib.indexByte] at h
  | d :: l, c, h => by
    by_cases hd : d = c
    · simp [hd]
    · have hm : Lib.indexByte l c ≥ 0 := by
        have g := Lib.indexByte_ge l c
        have e : Lib.indexByte (d :: l) c = if Lib.indexByte l c == -1 then -1 else Lib.indexByte l c + 1 := by simp only [Lib.indexByte]; rw [if_neg (by simpa using hd)]
        by_cases hm : Lib.indexByte l c = -1
        · rw [e, hm] at h; simp at h
        · omega
      exact List.mem_cons_of_mem _ (short_mem l c hm)
theorem sgn_mem {c : UInt8} {r : List UInt8} (h : sgnN (c :: r) ≠ 0) : (c :: r).take (sgnN (c :: r)) ∈ sgL := by
  unfold sgnN at h ⊢
  split
  · next h2 =>
    unfold sgn2 at h2
    simp only [Bool.and_eq_true, Bool.or_eq_true, beq_iff_eq] at h2
    rcases h2.2 with ((e | e) | e) | e <;> rw [e] <;> decide
  · next h2 =>
    rw [if_neg h2] at h
    split
    · next h1 =>
      have hm := short_mem _ _ h1
      rw [List.headD_cons] at hm
      have e : (c :: r).take 1 = [c] := rfl
      rw [e]
      revert hm
      have : ∀ c ∈ shortS, [c] ∈ sgL := by decide
      exact this c
    · next h1 => rw [if_neg h1] at h; exact absurd rfl h
theorem whl_nat {k : Int} {c : UInt8} {r : List UInt8} (hc : 48 ≤ c.toNat ∧ c.toNat ≤ 57) (h : (whlP k (c :: r)).2 = 0) : ∃ n : Nat, n ≤ 9223372036854775807 ∧ (whlP k (c :: r)).1 = (k, [], (n : Int)) := by
  unfold whlP at h ⊢
  cases ha : Lib.atoiAll (c :: r) with
  | ok v =>
    have hb := atoi_nonneg hc ha
    exact ⟨v.toNat, by omega, by simp only; rw [Int.toNat_of_nonneg hb.1]⟩
  | «syntax» => rw [ha] at h; cases h
  | range => rw [ha] at h; cases h
/-- What is read of a token is read so of its text. -/
theorem tok_gd {l : List UInt8} (hl : l ≠ []) (h : (tokP l).2.2 = 0) : Gd (tokP l).1 := by
  cases l with
  | nil => exact absurd rfl hl
  | cons c r =>
    unfold tokP at h ⊢
    rw [List.headD_cons] at h ⊢
    split
    · next hc =>
      have hp : ∀ d ∈ (c :: r).take (ldN ptB (c :: r)), ptB d.toNat = true := by
        have e : (c :: r).take (ldN ptB (c :: r)) = (c :: r).takeWhile fun c => ptB c.toNat := by
          unfold ldN
          exact (List.prefix_iff_eq_take.1 (List.takeWhile_prefix _)).symm
        rw [e]
        exact fun d hd => List.all_eq_true.1 (List.all_takeWhile (p := fun c : UInt8 => ptB c.toNat) (l := c :: r)) d hd
      have h1 := ldN_pos (p := ptB) (l := c :: r) (by simp) (by rw [List.headD_cons]; unfold ptB; rw [hc]; rfl)
      obtain ⟨m, hm⟩ : ∃ m, ldN ptB (c :: r) = m + 1 := ⟨_, (Nat.sub_add_cancel h1).symm⟩
      unfold namP
      split
      · next hw => exact gd_wrd _ (by simpa using hw)
      · next hw =>
        refine gd_nam _ ?_ ?_ hp (by simpa using hw)
        · rw [hm]; simp
        · rw [hm]; simpa using hc
    · next hc0 =>
      rw [if_neg hc0] at h
      split
      · next hc =>
        rw [if_pos hc] at h
        have hd : 48 ≤ c.toNat ∧ c.toNat ≤ 57 := by unfold dgB at hc; simpa using hc
        have h1 := ldN_pos (p := dgB) (l := c :: r) (by simp) (by rw [List.headD_cons]; exact hc)
        obtain ⟨m, hm⟩ : ∃ m, ldN dgB (c :: r) = m + 1 := ⟨_, (Nat.sub_add_cancel h1).symm⟩
        have hdg : dgs (c :: r) = c :: r.take m := by unfold dgs; rw [hm]; rfl
        unfold numP at h ⊢
        split
        · next he => rw [if_pos he] at h; exact absurd h he
        · next he =>
          have he' : numE (c :: r) = 0 := Decidable.not_not.1 he
          unfold numE at he'
          split at he'
          · cases he'
          · unfold amtP at he' ⊢
            rw [hdg] at he' ⊢
            simp only
            split
            · next hu =>
              rw [if_pos hu] at he'
              simp only at he'
              unfold perP at he' ⊢
              split at he'
              · cases he'
              · next hq =>
                rw [if_neg hq]
                have hq2 : ¬ (whlP 7 (c :: r.take m)).2 ≠ 0 := fun e => hq (Or.inl e)
                have hq3 : ¬ (whlP 7 (c :: r.take m)).1.2.2 > 1099511627776 / msN (unt (c :: r)) := fun e => hq (Or.inr e)
                obtain ⟨n, hn, e⟩ := whl_nat (k := 7) (r := r.take m) hd (Decidable.not_not.1 hq2)
                rw [e] at hq3 ⊢
                simp only at hq3 ⊢
                have hle : (n : Int) ≤ 1099511627776 / msN (unt (c :: r)) := by omega
                have hmul : (n : Int) * msN (unt (c :: r)) ≤ 1099511627776 := (Int.le_ediv_iff_mul_le hu).1 hle
                have hpos : 0 ≤ (n : Int) * msN (unt (c :: r)) := Int.mul_nonneg (by omega) (by omega)
                obtain ⟨q, hq⟩ : ∃ q : Nat, (n : Int) * msN (unt (c :: r)) = q := ⟨_, (Int.toNat_of_nonneg hpos).symm⟩
                rw [hq]
                exact gd_per q (by omega)
            · next hu =>
              rw [if_neg hu] at he'
              split
              · next hf =>
                rw [if_pos hf] at he'
                simp only at he'
                unfold decP at he' ⊢
                split
                · next h4 => rw [if_pos h4] at he'; cases he'
                · next h4 =>
                  rw [if_neg h4] at he'
                  simp only [List.cons_append] at he' ⊢
                  obtain ⟨n, hn, e⟩ := whl_nat (k := 4) hd he'
                  rw [e]
                  exact gd_dec n hn
              · next hf =>
                rw [if_neg hf] at he'
                obtain ⟨n, hn, e⟩ := whl_nat (k := 3) hd he'
                simp only
                rw [e]
                exact gd_int n hn
      · next hc1 =>
        rw [if_neg hc1] at h
        split
        · next hc =>
          rw [if_pos hc] at h
          unfold txtP at h ⊢
          cases hq : quF (c :: r).tail with
          | none => rw [hq] at h; cases h
          | some p =>
            obtain ⟨x, n⟩ := p
            rw [hq] at h
            simp only at h ⊢
            split
            · next he => rw [if_pos he] at h; cases h
            · next he =>
              simp only [not_or, Nat.not_lt, Bool.not_eq_false] at he
              exact gd_txt x he.1 he.2
        · next hc =>
          rw [if_neg hc] at h
          unfold sgnP at h ⊢
          split
          · next he => rw [if_pos he] at h; cases h
          · next he => exact gd_sgn _ (sgn_mem he)
theorem lx_gd (l : List UInt8) (a : Int) (h : (lx l a).2.2 = 0) : ∀ t ∈ bar (lx l a).1, Gd t := by
  induction hn : l.length using Nat.strongRecOn generalizing l a with
  | _ n IH =>
    subst hn
    obtain ⟨h1, ⟨h2, h3⟩ | ⟨h2, h3, h4, h5⟩⟩ := lx_cases h
    · rw [h3]; intro t ht; cases ht
    · have hs := sk_le l
      have ht := tok_ok h2 h3
      have hd : (l.drop ((sk l).1 + (tokP (l.drop (sk l).1)).2.1.toNat)).length < l.length := by simp at ht ⊢; omega
      have ih := IH _ hd _ _ h4 rfl
      rw [h5]
      intro t hm
      simp only [bar, List.map_cons, List.mem_cons] at hm ih
      rcases hm with rfl | hm
      · exact tok_gd h2 h3
      · exact ih t hm
theorem lx_nil (a : Int) : lx [] a = ([], 0, 0) := lx_end rfl rfl
theorem lx_one {t : Tk} (h : Gd t) (a : Int) : lx (shP t) a = ([(t, a)], 0, 0) := by
  obtain ⟨h1, h2, h3⟩ := h
  have hk : sk (shP t) = (0, true) := by rw [sk_stop (by omega), h1]; rfl
  have e0 : (shP t).drop (sk (shP t)).1 = shP t := by rw [hk]; rfl
  rw [lx_go (by rw [hk]) (by rw [e0]; exact h2) (by rw [e0, h3])]
  simp only [e0, h3]
  simp only [hk]
  have e1 : (shP t).drop (0 + ((shP t).length : Int).toNat) = [] := by apply List.drop_eq_nil_of_le; simp
  rw [e1, lx_nil]
  simp
/-- Tokens with a blank between any two. -/
def js : List Tk → List UInt8
  | [] => []
  | [t] => shP t
  | t :: u :: r => shP t ++ 32 :: js (u :: r)
theorem lx_js : ∀ (ts : List Tk) (a : Int), (∀ t ∈ ts, Gd t) → (lx (js ts) a).2.2 = 0 ∧ bar (lx (js ts) a).1 = ts
  | [], a, _ => by rw [js, lx_nil]; exact ⟨rfl, rfl⟩
  | [t], a, h => by rw [js, lx_one (h t (by simp))]; exact ⟨rfl, rfl⟩
  | t :: u :: r, a, h => by
    obtain ⟨h1, h2, h3⟩ := h t (by simp)
    have hs : stp (shP t ++ 32 :: js (u :: r)) = 0 := stp0_app (Or.inr rfl) h2 _ h1
    have hk : sk (shP t ++ 32 :: js (u :: r)) = (0, true) := by rw [sk_stop (by omega), hs]; rfl
    have ht := tok_app (c := 32) (Or.inr rfl) h2 (js (u :: r)) (by rw [h3])
    have e0 : (shP t ++ 32 :: js (u :: r)).drop (sk (shP t ++ 32 :: js (u :: r))).1 = shP t ++ 32 :: js (u :: r) := by rw [hk]; rfl
    have e1 : (shP t ++ 32 :: js (u :: r)).drop (0 + ((shP t).length : Int).toNat) = 32 :: js (u :: r) := by simp
    have hb : ∀ b, lx (32 :: js (u :: r)) b = lx (js (u :: r)) (b + 1) := fun b => by
      have := lx_pre (b := [32]) (l := js (u :: r)) (a := b) (by
        have := sk_bl (c := 32) rfl (js (u :: r))
        exact this)
      exact this
    have ih := fun b => lx_js (u :: r) b (fun x hx => h x (by simp at hx ⊢; exact Or.inr hx))
    rw [js, lx_go (by rw [hk]) (by rw [e0]; simp) (by rw [e0, ht, h3])]
    simp only [e0, ht, h3]
    simp only [hk]
    rw [e1]
    simp only [hb]
    rw [if_neg (by rw [(ih _).1]; simp)]
    refine ⟨rfl, ?_⟩
    have := (ih (a + ((0 : Nat) : Int) + ((shP t).length : Int) + 1)).2
    simp only [bar, List.map_cons] at this ⊢
    rw [this]
end Go.Proofs.YthhbeejfnpcbhaaGreatDoor
