/- How long what is read and shown is. -/
import Derived.Test.YthhbeejfnpcbhaaGreatDoorBk
import Derived.Test.YthhbeejfnpcbhaaGreatDoorDec
import Derived.Test.YthhbeejfnpcbhaaGreatDoorShl
namespace Go.Proofs.YthhbeejfnpcbhaaGreatDoor
open Go.ChangeShapes Go.WideShapes Go.ChangeAt Go.RowKit

theorem lx_count (l : List UInt8) (a : Int) : (lx l a).1.length ≤ l.length := by
  induction hn : l.length using Nat.strongRecOn generalizing l a with
  | _ n IH =>
    subst hn
    by_cases h : (lx l a).2.2 = 0
    · obtain ⟨h1, ⟨h2, h3⟩ | ⟨h2, h3, h4, h5⟩⟩ := lx_cases h
      · rw [h3]; exact Nat.zero_le _
      · have hs := sk_le l
        have ht := tok_ok h2 h3
        have hd : (l.drop ((sk l).1 + (tokP (l.drop (sk l).1)).2.1.toNat)).length < l.length := by simp at ht ⊢; omega
        have ih := IH _ hd (l.drop ((sk l).1 + (tokP (l.drop (sk l).1)).2.1.toNat)) (a + (sk l).1 + (tokP (l.drop (sk l).1)).2.1) rfl
        rw [h5, List.length_cons]
        omega
    · rw [lx_cmb]
      unfold cmb
      rw [if_pos h]
      by_cases h1 : (sk l).2 = false
      · rw [lx_bad h1]; exact Nat.zero_le _
      · have h1' : (sk l).2 = true := by simpa using h1
        by_cases h2 : l.drop (sk l).1 = []
        · rw [lx_end h1' h2]; exact Nat.zero_le _
        · by_cases h3 : (tokP (l.drop (sk l).1)).2.2 = 0
          · have hs := sk_le l
            have ht := tok_ok h2 h3
            have hd : (l.drop ((sk l).1 + (tokP (l.drop (sk l).1)).2.1.toNat)).length < l.length := by simp at ht ⊢; omega
            have ih := IH _ hd (l.drop ((sk l).1 + (tokP (l.drop (sk l).1)).2.1.toNat)) (a + (sk l).1 + (tokP (l.drop (sk l).1)).2.1) rfl
            rw [lx_go h1' h2 h3] at h ⊢
            split at h
            · next hx => rw [if_pos hx]; omega
            · exact absurd rfl h
          · rw [lx_err h1' h2 h3]; exact Nat.zero_le _
theorem lx_err_nil (l : List UInt8) (a : Int) (h : (lx l a).2.2 ≠ 0) : (lx l a).1 = [] := by
  induction hn : l.length using Nat.strongRecOn generalizing l a with
  | _ n IH =>
    subst hn
    by_cases h1 : (sk l).2 = false
    · rw [lx_bad h1]
    · have h1' : (sk l).2 = true := by simpa using h1
      by_cases h2 : l.drop (sk l).1 = []
      · rw [lx_end h1' h2]
      · by_cases h3 : (tokP (l.drop (sk l).1)).2.2 = 0
        · have hs := sk_le l
          have ht := tok_ok h2 h3
          have hd : (l.drop ((sk l).1 + (tokP (l.drop (sk l).1)).2.1.toNat)).length < l.length := by simp at ht ⊢; omega
          rw [lx_go h1' h2 h3] at h ⊢
          split at h
          · next hx => rw [if_pos hx]; exact IH _ hd _ _ hx rfl
          · exact absurd rfl h
        · rw [lx_err h1' h2 h3]
/-- The number of a token is an int from 0 on; its text is no longer than it. -/
def Rg (t : Tk) (k : Int) : Prop := 0 ≤ t.2.2 ∧ t.2.2 ≤ 9223372036854775807 ∧ (t.2.1.length : Int) ≤ k
theorem tok_rg {l : List UInt8} (hl : l ≠ []) (h : (tokP l).2.2 = 0) : Rg (tokP l).1 (tokP l).2.1 := by
  cases l with
  | nil => exact absurd rfl hl
  | cons c r =>
    unfold tokP at h ⊢
    rw [List.headD_cons] at h ⊢
    split
    · unfold namP
      split
      · refine ⟨by simp, by simp, ?_⟩
        simp only [Lib.toLowerA, List.length_map]
        exact Int.le_refl _
      · exact ⟨by simp, by simp, Int.le_refl _⟩
    · next hc0 =>
      rw [if_neg hc0] at h
      split
      · next hc =>
        rw [if_pos hc] at h
        have hd : 48 ≤ c.toNat ∧ c.toNat ≤ 57 := by unfold dgB at hc; simpa using hc
        have h1 := ldN_pos (p := dgB) (l := c :: r) (by simp) (by rw [List.headD_cons]; exact hc)
        obtain ⟨m, hm⟩ : ∃ m, ldN dgB (c :: r) = m + 1 := ⟨_, (Nat.sub_add_cancel h1).symm⟩
        have hdg : dgs (c :: r) = c :: r.take m := by unfold dgs; rw [hm]; rfl
        unfold numP at h ⊢
        split
        · next he => rw [if_pos he] at h; exact absurd h he
        · next he =>
          have he' : numE (c :: r) = 0 := Decidable.not_not.1 he
          unfold numE at he'
          split at he'
          · cases he'
          · unfold amtP at he' ⊢
            rw [hdg] at he' ⊢
            simp only
            split
            · next hu =>
              rw [if_pos hu] at he'
              simp only at he'
              unfold perP at he' ⊢
              split at he'
              · cases he'
              · next hq =>
                rw [if_neg hq]
                have hq2 : ¬ (whlP 7 (c :: r.take m)).2 ≠ 0 := fun e => hq (Or.inl e)
                have hq3 : ¬ (whlP 7 (c :: r.take m)).1.2.2 > 1099511627776 / msN (unt (c :: r)) := fun e => hq (Or.inr e)
                obtain ⟨n, hn, e⟩ := whl_nat (k := 7) (r := r.take m) hd (Decidable.not_not.1 hq2)
                rw [e] at hq3 ⊢
                simp only at hq3 ⊢
                have hle : (n : Int) ≤ 1099511627776 / msN (unt (c :: r)) := by omega
                have hmul : (n : Int) * msN (unt (c :: r)) ≤ 1099511627776 := (Int.le_ediv_iff_mul_le hu).1 hle
                have hpos : 0 ≤ (n : Int) * msN (unt (c :: r)) := Int.mul_nonneg (by omega) (by omega)
                exact ⟨hpos, by simp only; omega, by simp only [List.length_nil]; omega⟩
            · next hu =>
              rw [if_neg hu] at he'
              split
              · next hf =>
                rw [if_pos hf] at he'
                simp only at he'
                unfold decP at he' ⊢
                split
                · next h4 => rw [if_pos h4] at he'; cases he'
                · next h4 =>
                  rw [if_neg h4] at he'
                  simp only [List.cons_append] at he' ⊢
                  obtain ⟨n, hn, e⟩ := whl_nat (k := 4) hd he'
                  rw [e]
                  exact ⟨by simp only; omega, by simp only; omega, by simp only [List.length_nil]; omega⟩
              · next hf =>
                rw [if_neg hf] at he'
                obtain ⟨n, hn, e⟩ := whl_nat (k := 3) hd he'
                simp only
                rw [e]
                exact ⟨by simp only; omega, by simp only; omega, by simp only [List.length_nil]; omega⟩
      · next hc1 =>
        rw [if_neg hc1] at h
        split
        · next hc =>
          rw [if_pos hc] at h
          unfold txtP at h ⊢
          cases hq : quF (c :: r).tail with
          | none => rw [hq] at h; cases h
          | some p =>
            obtain ⟨x, n⟩ := p
            have := quF_spec _ _ _ hq
            rw [hq] at h
            simp only at h ⊢
            split
            · next he => rw [if_pos he] at h; cases h
            · exact ⟨by simp, by simp, by simp only; omega⟩
        · next hc =>
          rw [if_neg hc] at h
          unfold sgnP at h ⊢
          split
          · next he => rw [if_pos he] at h; cases h
          · refine ⟨by simp, by simp, ?_⟩
            simp only [List.length_take]
            omega
theorem itoa_len {n : Int} (h0 : 0 ≤ n) (h1 : n ≤ 9223372036854775807) : (Lib.itoa n).length ≤ 20 := by
  unfold Lib.itoa
  rw [if_neg (by omega)]
  exact digits20 _ (by omega)
theorem shP_len {t : Tk} (h0 : 0 ≤ t.2.2) (h1 : t.2.2 ≤ 9223372036854775807) : (shP t).length ≤ 2 * t.2.1.length + 26 := by
  unfold shP
  split
  · omega
  · split
    · have := itoa_len h0 h1; omega
    · split
      · unfold decS
        rw [if_neg (by omega), decL_eq, List.length_append, List.length_cons]
        have := digits20 (t.2.2.toNat / 10000) (by omega)
        have := beh_len t.2.2.toNat
        omega
      · split
        · split
          · have := dbl_len t.2.1
            simp; omega
          · simp
        · split
          · have := itoa_len h0 h1
            simp; omega
          · simp
theorem js_cons_len (t : Tk) (ts : List Tk) : (js (t :: ts)).length ≤ (shP t).length + 1 + (js ts).length := by
  cases ts with
  | nil => simp [js]
  | cons u r => simp [js]; omega
/-- What is read, shown again. -/
theorem lx_show (l : List UInt8) (a : Int) (h : (lx l a).2.2 = 0) : (js (bar (lx l a).1)).length ≤ 29 * l.length ∧ ∀ t ∈ (lx l a).1, 0 ≤ t.1.2.2 ∧ t.1.2.2 ≤ 9223372036854775807 ∧ t.1.2.1.length ≤ l.length := by
  induction hn : l.length using Nat.strongRecOn generalizing l a with
  | _ n IH =>
    subst hn
    obtain ⟨h1, ⟨h2, h3⟩ | ⟨h2, h3, h4, h5⟩⟩ := lx_cases h
    · rw [h3]; exact ⟨Nat.zero_le _, fun t ht => by cases ht⟩
    · have hs := sk_le l
      have ht := tok_ok h2 h3
      have hg := tok_rg h2 h3
      have hld : (l.drop (sk l).1).length = l.length - (sk l).1 := List.length_drop ..
      have hd : (l.drop ((sk l).1 + (tokP (l.drop (sk l).1)).2.1.toNat)).length = l.length - ((sk l).1 + (tokP (l.drop (sk l).1)).2.1.toNat) := List.length_drop ..
      have hdd : (l.drop ((sk l).1 + (tokP (l.drop (sk l).1)).2.1.toNat)).length < l.length := by omega
      obtain ⟨i1, i2⟩ := IH _ hdd _ _ h4 rfl
      rw [h5]
      have hsh := shP_len hg.1 hg.2.1
      have hgl := hg.2.2
      constructor
      · have := js_cons_len (tokP (l.drop (sk l).1)).1 (bar (lx (l.drop ((sk l).1 + (tokP (l.drop (sk l).1)).2.1.toNat)) (a + (sk l).1 + (tokP (l.drop (sk l).1)).2.1)).1)
        show (js ((tokP (l.drop (sk l).1)).1 :: bar _)).length ≤ _
        omega
      · intro t hm
        simp only [List.mem_cons] at hm
        rcases hm with rfl | hm
        · exact ⟨hg.1, hg.2.1, by simp only; omega⟩
        · have := i2 t hm
          exact ⟨this.1, this.2.1, by omega⟩
theorem shw_lx (l : List UInt8) (a : Int) (h : (lx l a).2.2 = 0) : shwP (bar (lx l a).1) = js (bar (lx l a).1) := by
  have hg := lx_gd l a h
  unfold shwP
  rw [if_pos]
  rw [List.all_eq_true]
  intro t ht
  have h1 := lx_one (hg t ht) 0
  unfold okP sayP
  rw [h1]
  simp
end Go.Proofs.YthhbeejfnpcbhaaGreatDoor
