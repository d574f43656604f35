/- Valid texts are rows of runes. -/
import Derived.Test.YtjphmbgennadcaaGreatDoorSub
import Derived.Test.YtjphmbgennadcaaGreatDoorRunes
namespace Go.Proofs.YtjphmbgennadcaaGreatDoor
set_option maxHeartbeats 4000000
set_option maxRecDepth 20000
set_option linter.unusedSimpArgs false
open Go.ChangeShapes Go.WideShapes Go.ChangeAt Go.RowKit


/-- One rune's bytes. -/
def isR : List UInt8 → Prop
  | [a] => a.toNat < 128
  | [a, b] => a.toNat / 32 = 6 ∧ b.toNat / 64 = 2 ∧ a.toNat % 32 * 64 + b.toNat % 64 ≥ 128
  | [a, b, c] => a.toNat / 16 = 14 ∧ b.toNat / 64 = 2 ∧ c.toNat / 64 = 2 ∧ (a.toNat % 16 * 4096 + b.toNat % 64 * 64 + c.toNat % 64) ≥ 2048 ∧ ((a.toNat % 16 * 4096 + b.toNat % 64 * 64 + c.toNat % 64) < 55296 ∨ (57344 ≤ (a.toNat % 16 * 4096 + b.toNat % 64 * 64 + c.toNat % 64) ∧ (a.toNat % 16 * 4096 + b.toNat % 64 * 64 + c.toNat % 64) ≤ 1114111))
  | [a, b, c, d] => a.toNat / 8 = 30 ∧ b.toNat / 64 = 2 ∧ c.toNat / 64 = 2 ∧ d.toNat / 64 = 2 ∧ (a.toNat % 8 * 262144 + b.toNat % 64 * 4096 + c.toNat % 64 * 64 + d.toNat % 64) ≥ 65536 ∧ ((a.toNat % 8 * 262144 + b.toNat % 64 * 4096 + c.toNat % 64 * 64 + d.toNat % 64) < 55296 ∨ (57344 ≤ (a.toNat % 8 * 262144 + b.toNat % 64 * 4096 + c.toNat % 64 * 64 + d.toNat % 64) ∧ (a.toNat % 8 * 262144 + b.toNat % 64 * 4096 + c.toNat % 64 * 64 + d.toNat % 64) ≤ 1114111))
  | _ => False

theorem isR_len {c : List UInt8} (h : isR c) : 1 ≤ c.length ∧ c.length ≤ 4 := by
  unfold isR at h
  split at h <;> simp_all
/-- The decoder at a rune: its width, and that it is one. -/
theorem dec_isR {c : List UInt8} (h : isR c) (m : List UInt8) : (Lib.decodeL (c ++ m)).2 = c.length ∧ ¬ ((Lib.decodeL (c ++ m)).1 = 65533 ∧ (Lib.decodeL (c ++ m)).2 = 1) := by
  rw [Lib.decodeL_N]
  unfold isR at h
  split at h
  · rename_i a
    simp only [List.cons_append, List.nil_append, List.length_cons, List.getD_cons_zero]
    unfold Lib.decodeN
    rw [if_pos h]
    simp only [List.length_nil]
    exact ⟨trivial, by omega⟩
  · rename_i a b
    obtain ⟨h1, h2, h3⟩ := h
    simp only [List.cons_append, List.nil_append, List.length_cons, List.getD_cons_zero, List.getD_cons_succ]
    unfold Lib.decodeN
    rw [if_neg (by omega), if_pos ⟨h1, by omega, h2⟩, if_pos h3]
    exact ⟨rfl, by simp⟩
  · rename_i a b c
    obtain ⟨h1, h2, h3, h4, h5⟩ := h
    simp only [List.cons_append, List.nil_append, List.length_cons, List.getD_cons_zero, List.getD_cons_succ]
    unfold Lib.decodeN
    rw [if_neg (by omega), if_neg (by omega), if_pos ⟨h1, ⟨by omega, h2⟩, by omega, h3⟩, if_pos ⟨h4, h5⟩]
    exact ⟨rfl, by simp⟩
  · rename_i a b c d
    obtain ⟨h1, h2, h3, h4, h5, h6⟩ := h
    simp only [List.cons_append, List.nil_append, List.length_cons, List.getD_cons_zero, List.getD_cons_succ]
    unfold Lib.decodeN
    rw [if_neg (by omega), if_neg (by omega), if_neg (by omega), if_pos ⟨h1, ⟨by omega, h2⟩, ⟨by omega, h3⟩, by omega, h4⟩, if_pos ⟨h5, h6⟩]
    exact ⟨rfl, by simp⟩
  · exact h.elim
theorem four (l : List UInt8) (h : 4 ≤ l.length) : ∃ a b c d m, l = a :: b :: c :: d :: m := by
  match l, h with
  | a :: b :: c :: d :: m, _ => exact ⟨_, _, _, _, _, rfl⟩
theorem isR4 {a b c d : UInt8} (h : a.toNat / 8 = 30 ∧ b.toNat / 64 = 2 ∧ c.toNat / 64 = 2 ∧ d.toNat / 64 = 2 ∧ (a.toNat % 8 * 262144 + b.toNat % 64 * 4096 + c.toNat % 64 * 64 + d.toNat % 64) ≥ 65536 ∧ ((a.toNat % 8 * 262144 + b.toNat % 64 * 4096 + c.toNat % 64 * 64 + d.toNat % 64) < 55296 ∨ (57344 ≤ (a.toNat % 8 * 262144 + b.toNat % 64 * 4096 + c.toNat % 64 * 64 + d.toNat % 64) ∧ (a.toNat % 8 * 262144 + b.toNat % 64 * 4096 + c.toNat % 64 * 64 + d.toNat % 64) ≤ 1114111))) : isR [a, b, c, d] := h
theorem isR_of {l : List UInt8} (hne : l ≠ []) (h : ¬ ((Lib.decodeL l).1 = 65533 ∧ (Lib.decodeL l).2 = 1)) : isR (l.take (Lib.decodeL l).2) := by
  have hN := Lib.decodeL_N l
  have hw := rwd_le hne
  unfold rwd at hw
  rw [hN] at h hw ⊢
  unfold Lib.decodeN at h hw ⊢
  split at h
  · rename_i h0
    rw [if_pos h0]
    match l, hne with
    | a :: m, _ => simpa [isR] using h0
  · rename_i h0
    rw [if_neg h0] at hw ⊢
    split at h
    · rename_i h1
      rw [if_pos h1] at hw ⊢
      split at h
      · rename_i h2
        rw [if_pos h2] at hw ⊢
        match l, hw with
        | a :: b :: m, _ => exact ⟨h1.1, h1.2.2, h2⟩
      · simp at h
    · rename_i h1
      rw [if_neg h1] at hw ⊢
      split at h
      · rename_i h2
        rw [if_pos h2] at hw ⊢
        split at h
        · rename_i h3
          rw [if_pos h3] at hw ⊢
          have hw3 : 3 ≤ l.length := hw
          clear hw h hN
          match l, hw3 with
          | a :: b :: c :: m, _ => exact ⟨h2.1, h2.2.1.2, h2.2.2.2, h3.1, h3.2⟩
        · simp at h
      · rename_i h2
        rw [if_neg h2] at hw ⊢
        split at h
        · rename_i h3
          rw [if_pos h3] at hw ⊢
          split at h
          · rename_i h4
            rw [if_pos h4] at hw ⊢
            have hw4 : 4 ≤ l.length := hw
            clear hw h hN
            obtain ⟨a, b, c, d, m, rfl⟩ := four l hw4
            have g := h3.1
            have g1 := h3.2.1.2
            have g2 := h3.2.2.1.2
            have g3 := h3.2.2.2.2
            have g4 := h4.1
            have g5 := h4.2
            simp only [List.getD_cons_zero, List.getD_cons_succ] at g g1 g2 g3 g4 g5
            exact isR4 ⟨g, g1, g2, g3, g4, g5⟩
          · simp at h
        · simp at h
theorem vd_cons {c : List UInt8} (h : isR c) (m : List UInt8) : Lib.validD (c ++ m) = Lib.validD m := by
  have hl := isR_len h
  have hne : c ++ m ≠ [] := by intro e; have := congrArg List.length e; simp at this; rw [this.1] at hl; simp at hl
  obtain ⟨h1, h2⟩ := dec_isR h m
  rw [vd_step _ hne, if_neg h2, h1, List.drop_left]
theorem rwd_isR {c : List UInt8} (h : isR c) (m : List UInt8) : rwd (c ++ m) = c.length := (dec_isR h m).1
/-- A valid text is a row of runes. -/
theorem runes_of : ∀ (n : Nat) (l : List UInt8), l.length ≤ n → Lib.validD l = true → ∃ cs : List (List UInt8), (∀ c ∈ cs, isR c) ∧ l = cs.flatten
  | 0, l, h, _ => ⟨[], by simp, by have : l = [] := List.length_eq_zero_iff.1 (by omega); simp [this]⟩
  | n + 1, l, h, hv => by
    by_cases hne : l = []
    · exact ⟨[], by simp, by simp [hne]⟩
    · rw [vd_step l hne] at hv
      split at hv
      · cases hv
      · rename_i hd
        have hw := rwd_le hne
        have hp := rwd_pos l
        have h1 := isR_of hne hd
        obtain ⟨cs, hc, e⟩ := runes_of n (l.drop (Lib.decodeL l).2) (by rw [List.length_drop]; unfold rwd at hp; omega) hv
        refine ⟨l.take (Lib.decodeL l).2 :: cs, ?_, ?_⟩
        · intro c hc'
          rcases List.mem_cons.1 hc' with rfl | hc'
          · exact h1
          · exact hc c hc'
        · rw [List.flatten_cons, ← e, List.take_append_drop]
theorem valid_flat : ∀ (cs : List (List UInt8)), (∀ c ∈ cs, isR c) → Lib.validD cs.flatten = true
  | [], _ => rfl
  | c :: cs, h => by rw [List.flatten_cons, vd_cons (h c List.mem_cons_self)]; exact valid_flat cs (fun x hx => h x (List.mem_cons_of_mem _ hx))
theorem valid_iff (l : List UInt8) : Lib.validD l = true ↔ ∃ cs : List (List UInt8), (∀ c ∈ cs, isR c) ∧ l = cs.flatten :=
  ⟨runes_of l.length l (Nat.le_refl _), fun ⟨cs, h, e⟩ => by rw [e]; exact valid_flat cs h⟩
theorem szF_flat : ∀ (n : Nat) (cs : List (List UInt8)), (∀ c ∈ cs, isR c) → szF n cs.flatten = (cs.take n).flatten.length
  | 0, _, _ => by simp [szF]
  | n + 1, [], _ => by simp [szF]
  | n + 1, c :: cs, h => by
    have hc := h c List.mem_cons_self
    have hl := isR_len hc
    have hne : (c ++ cs.flatten).isEmpty = false := by cases c with | nil => simp at hl | cons x y => rfl
    rw [List.flatten_cons, szF, hne, rwd_isR hc, List.drop_left, szF_flat n cs (fun x hx => h x (List.mem_cons_of_mem _ hx))]
    simp
theorem split_flat (n : Nat) (cs : List (List UInt8)) (h : ∀ c ∈ cs, isR c) : cs.flatten.take (szF n cs.flatten) = (cs.take n).flatten ∧ cs.flatten.drop (szF n cs.flatten) = (cs.drop n).flatten := by
  have e : cs.flatten = (cs.take n).flatten ++ (cs.drop n).flatten := by rw [← List.flatten_append, List.take_append_drop]
  rw [szF_flat n cs h]
  generalize hk : (cs.take n).flatten = a at *
  rw [e]
  exact ⟨List.take_left, List.drop_left⟩
theorem count_from (s : ByteArray) : ∀ (fuel pos : Nat) (cs : List (List UInt8)), (∀ c ∈ cs, isR c) → s.data.toList.drop pos = cs.flatten → cs.length ≤ fuel → Lib.runeCountFrom s fuel pos = cs.length
  | 0, _, cs, _, _, h => by
    have : cs = [] := List.length_eq_zero_iff.1 (by omega)
    subst this; rfl
  | f + 1, pos, [], _, e, _ => by
    have hl := congrArg List.length e
    rw [List.length_drop, Array.length_toList] at hl
    have : ¬ pos < s.size := by
      have h1 : s.data.size = s.size := rfl
      simp at hl; omega
    rw [Lib.runeCountFrom_end s _ pos this]; rfl
  | f + 1, pos, c :: cs, h, e, hf => by
    have hc := h c List.mem_cons_self
    have hl := isR_len hc
    rw [List.flatten_cons] at e
    have hlen := congrArg List.length e
    rw [List.length_drop, Array.length_toList, List.length_append] at hlen
    have hp : pos < s.size := by have h1 : s.data.size = s.size := rfl; omega
    have hd : (Utf8.decode s pos).2 = c.length := by
      rw [← Lib.decodeL_drop, e]
      exact (dec_isR hc _).1
    have e2 : s.data.toList.drop (pos + c.length) = cs.flatten := by rw [← List.drop_drop, e, List.drop_left]
    rw [Lib.runeCountFrom, if_pos hp, hd, count_from s f (pos + c.length) cs (fun x hx => h x (List.mem_cons_of_mem _ hx)) e2 (by simp at hf; omega)]
    simp; omega
theorem flat_len : ∀ (cs : List (List UInt8)), (∀ c ∈ cs, isR c) → cs.length ≤ cs.flatten.length
  | [], _ => by simp
  | c :: cs, h => by
    have := isR_len (h c List.mem_cons_self)
    have ih := flat_len cs (fun x hx => h x (List.mem_cons_of_mem _ hx))
    rw [List.flatten_cons, List.length_append, List.length_cons]; omega
theorem count_flat (cs : List (List UInt8)) (h : ∀ c ∈ cs, isR c) : Lib.runeCount (bsA cs.flatten) = cs.length := by
  unfold Lib.runeCount
  exact count_from _ _ 0 cs h (by rw [bsA_list, List.drop_zero]) (by rw [bsA_size]; exact flat_len cs h)
theorem valid_append {a b : List UInt8} (ha : Lib.validD a = true) (hb : Lib.validD b = true) : Lib.validD (a ++ b) = true := by
  obtain ⟨cs, h1, rfl⟩ := (valid_iff a).1 ha
  obtain ⟨ds, h2, rfl⟩ := (valid_iff b).1 hb
  exact (valid_iff _).2 ⟨cs ++ ds, fun c hc => by rcases List.mem_append.1 hc with h | h; exact h1 c h; exact h2 c h, by simp⟩
theorem valid_sub {l : List UInt8} (x y : Int) (h : Lib.validD l = true) : Lib.validD (subL x y l) = true := by
  obtain ⟨cs, h1, rfl⟩ := (valid_iff l).1 h
  have hd : ∀ n, ∀ c ∈ cs.drop n, isR c := fun n c hc => h1 c (List.mem_of_mem_drop hc)
  unfold subL
  rw [(split_flat x.toNat cs h1).2, (split_flat y.toNat _ (hd _)).1]
  exact valid_flat _ (fun c hc => hd _ c (List.mem_of_mem_take hc))
end Go.Proofs.YtjphmbgennadcaaGreatDoor
