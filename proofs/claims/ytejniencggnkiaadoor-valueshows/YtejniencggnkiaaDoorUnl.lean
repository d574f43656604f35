/- Two values that may be have the same text only if they are the same: over plain lists of bytes. -/
import Derived.Test.YtejniencggnkiaaDoorShow
namespace Go.Proofs.YtejniencggnkiaaDoor
open Go.Lib

/-- The number that digits write. -/
def val (l : List UInt8) : Nat := l.foldl (fun a c => 10 * a + (c.toNat - 48)) 0
theorem val_snoc (l : List UInt8) (c : UInt8) : val (l ++ [c]) = 10 * val l + (c.toNat - 48) := by unfold val; rw [List.foldl_append]; rfl
theorem dig_toNat {d : Nat} (h : d < 10) : (UInt8.ofNat (48 + d)).toNat = 48 + d := by
  rw [UInt8.toNat_ofNat']; omega
theorem val_digits : ∀ (b u : Nat), u ≤ b → val (decDigits u) = u
  | 0, u, h => by
    have : u = 0 := by omega
    subst this
    rw [decDigits, dif_pos (by omega)]; rfl
  | b + 1, u, h => by
    by_cases h10 : u < 10
    · rw [decDigits, dif_pos h10]
      show 10 * 0 + ((UInt8.ofNat (48 + u)).toNat - 48) = u
      rw [dig_toNat h10]; omega
    · rw [decDigits, dif_neg h10, val_snoc, val_digits b (u / 10) (by omega), dig_toNat (by omega)]
      omega
theorem digits_inj {u v : Nat} (h : decDigits u = decDigits v) : u = v := by
  have := congrArg val h
  rw [val_digits u u (Nat.le_refl _), val_digits v v (Nat.le_refl _)] at this
  exact this
theorem digits_range : ∀ (b u : Nat), u ≤ b → ∀ c ∈ decDigits u, 48 ≤ c.toNat ∧ c.toNat ≤ 57
  | 0, u, h => by
    have : u = 0 := by omega
    subst this
    rw [decDigits, dif_pos (by omega)]
    intro c hc
    rw [List.mem_singleton] at hc
    subst hc; decide
  | b + 1, u, h => by
    by_cases h10 : u < 10
    · rw [decDigits, dif_pos h10]
      intro c hc
      rw [List.mem_singleton] at hc
      subst hc
      rw [dig_toNat h10]; omega
    · rw [decDigits, dif_neg h10]
      intro c hc
      rcases List.mem_append.1 hc with h' | h'
      · exact digits_range b (u / 10) (by omega) c h'
      · rw [List.mem_singleton] at h'
        subst h'
        rw [dig_toNat (by omega)]; omega
theorem digits_ne (u : Nat) : decDigits u ≠ [] := fun e => by
  have := decDigits_length u
  rw [e] at this
  have h1 : 1 ≤ nDigits u := by
    rw [nDigits]; split <;> omega
  simp at this; omega
/-- The first digit. -/
theorem digits_head (u : Nat) : ∃ c r, decDigits u = c :: r ∧ 48 ≤ c.toNat ∧ c.toNat ≤ 57 := by
  cases h : decDigits u with
  | nil => exact absurd h (digits_ne u)
  | cons c r => exact ⟨c, r, rfl, digits_range u u (Nat.le_refl _) c (by rw [h]; simp)⟩

theorem itoa_inj {n m : Int} (h : itoa n = itoa m) : n = m := by
  unfold itoa at h
  by_cases hn : n < 0 <;> by_cases hm : m < 0
  · rw [if_pos hn, if_pos hm] at h
    have := digits_inj (List.cons.inj h).2
    omega
  · rw [if_pos hn, if_neg hm] at h
    obtain ⟨c, r, e, h1, _⟩ := digits_head m.toNat
    rw [e] at h
    have := (List.cons.inj h).1
    subst this; exact absurd h1 (by decide)
  · rw [if_neg hn, if_pos hm] at h
    obtain ⟨c, r, e, h1, _⟩ := digits_head n.toNat
    rw [e] at h
    have := (List.cons.inj h).1
    subst this; exact absurd h1 (by decide)
  · rw [if_neg hn, if_neg hm] at h
    have := digits_inj h
    omega

theorem trim_back (l : List UInt8) (c : UInt8) : trimRightB l c ++ List.replicate (l.length - (trimRightB l c).length) c = l := by
  have h := List.takeWhile_append_dropWhile (p := fun x => x == c) (l := l.reverse)
  have h2 := congrArg List.reverse h
  rw [List.reverse_append, List.reverse_reverse] at h2
  have h3 : (l.reverse.takeWhile (fun x => x == c)).reverse = List.replicate (l.length - (trimRightB l c).length) c := by
    have hl : (l.reverse.takeWhile (fun x => x == c)).length = l.length - (trimRightB l c).length := by
      have hh : (l.reverse.takeWhile (fun x => x == c)).length + (l.reverse.dropWhile (fun x => x == c)).length = l.length := by
        rw [← List.length_append, List.takeWhile_append_dropWhile, List.length_reverse]
      unfold trimRightB
      rw [List.length_reverse]
      omega
    have hall : ∀ x ∈ l.reverse.takeWhile (fun x => x == c), x = c := fun x hx => by
      have := List.all_takeWhile (p := fun x => x == c) (l := l.reverse)
      have := List.all_eq_true.1 this x hx
      simpa using this
    rw [List.eq_replicate_iff.2 ⟨hl, hall⟩, List.reverse_replicate]
  rw [h3] at h2
  exact h2
theorem trim_inj {l l' : List UInt8} {c : UInt8} (hl : l.length = l'.length) (h : trimRightB l c = trimRightB l' c) : l = l' := by
  rw [← trim_back l c, ← trim_back l' c, h, hl]

theorem cut_inj {a a' b b' : List UInt8} (ha : ∀ c ∈ a, c ≠ 46) (ha' : ∀ c ∈ a', c ≠ 46) (h : a ++ 46 :: b = a' ++ 46 :: b') : a = a' ∧ b = b' := by
  induction a generalizing a' with
  | nil =>
    cases a' with
    | nil => exact ⟨rfl, (List.cons.inj h).2⟩
    | cons x r =>
      have := (List.cons.inj h).1
      exact absurd this.symm (ha' x (by simp))
  | cons y s ih =>
    cases a' with
    | nil =>
      have := (List.cons.inj h).1
      exact absurd this (ha y (by simp))
    | cons x r =>
      obtain ⟨e1, e2⟩ := List.cons.inj h
      obtain ⟨i1, i2⟩ := ih (fun c hc => ha c (by simp [hc])) (fun c hc => ha' c (by simp [hc])) e2
      exact ⟨by rw [e1, i1], i2⟩

theorem digits_no46 (u : Nat) : ∀ c ∈ decDigits u, c ≠ 46 := fun c hc e => by
  have := digits_range u u (Nat.le_refl _) c hc
  subst e
  exact absurd this.1 (by decide)
theorem digits_1 (x : Nat) (h : x < 10000) : (decDigits (10000 + x)).take 1 = [49] := by
  rw [decDigits, dif_neg (by omega), decDigits, dif_neg (by omega), decDigits, dif_neg (by omega), decDigits, dif_neg (by omega)]
  rw [show (10000 + x) / 10 / 10 / 10 / 10 = 1 from by omega]
  rw [decDigits, dif_pos (by omega)]
  rfl
theorem rest_inj {u v : Nat} (h : restL u = restL v) : u % 10000 = v % 10000 := by
  unfold restL at h
  have e : decDigits (10000 + u % 10000) = decDigits (10000 + v % 10000) := by
    rw [← List.take_append_drop 1 (decDigits (10000 + u % 10000)), ← List.take_append_drop 1 (decDigits (10000 + v % 10000)), digits_1 _ (by omega), digits_1 _ (by omega), h]
  have := digits_inj e
  omega
theorem rest_len (u : Nat) : (restL u).length = 4 := by unfold restL; rw [List.length_drop, digits5]
theorem decL_inj {u v : Nat} (h : decL u = decL v) : u = v := by
  unfold decL at h
  simp only [List.append_assoc, List.singleton_append] at h
  obtain ⟨h1, h2⟩ := cut_inj (digits_no46 _) (digits_no46 _) h
  have e1 := digits_inj h1
  have hu := rest_len u
  have hv := rest_len v
  obtain ⟨a1, a2⟩ := List.append_inj h2 (by simp [hu, hv])
  have a3 := trim_inj (by simp [hu, hv]) a2
  have e2 : restL u = restL v := by rw [← List.take_append_drop 1 (restL u), ← List.take_append_drop 1 (restL v), a1, a3]
  have := rest_inj e2
  omega
theorem decL_head (u : Nat) : ∃ c r, decL u = c :: r ∧ 48 ≤ c.toNat ∧ c.toNat ≤ 57 := by
  obtain ⟨c, r, e, h1, h2⟩ := digits_head (u / 10000)
  unfold decL
  rw [e]
  exact ⟨c, _, rfl, h1, h2⟩
theorem decS_inj {n m : Int} (h : decS n = decS m) : n = m := by
  unfold decS at h
  by_cases hn : n < 0 <;> by_cases hm : m < 0
  · rw [if_pos hn, if_pos hm] at h
    have := decL_inj (List.cons.inj h).2
    omega
  · rw [if_pos hn, if_neg hm] at h
    obtain ⟨c, r, e, h1, _⟩ := decL_head m.toNat
    rw [e] at h
    have := (List.cons.inj h).1
    subst this; exact absurd h1 (by decide)
  · rw [if_neg hn, if_pos hm] at h
    obtain ⟨c, r, e, h1, _⟩ := decL_head n.toNat
    rw [e] at h
    have := (List.cons.inj h).1
    subst this; exact absurd h1 (by decide)
  · rw [if_neg hn, if_neg hm] at h
    have := decL_inj h
    omega
theorem decL_46 (u : Nat) : (46 : UInt8) ∈ decL u := by unfold decL; simp
theorem decS_46 (n : Int) : (46 : UInt8) ∈ decS n := by
  unfold decS; split
  · exact List.mem_cons_of_mem _ (decL_46 _)
  · exact decL_46 _
theorem itoa_46 (n : Int) : (46 : UInt8) ∉ itoa n := by
  unfold itoa; split
  · intro h
    rcases List.mem_cons.1 h with e | e
    · exact absurd e (by decide)
    · exact digits_no46 _ _ e rfl
  · intro e; exact digits_no46 _ _ e rfl
theorem dbl_inj : ∀ {l l' : List UInt8}, dbl l = dbl l' → l = l'
  | [], [], _ => rfl
  | [], c :: l, h => by unfold dbl at h; split at h <;> simp at h
  | c :: l, [], h => by unfold dbl at h; split at h <;> simp at h
  | c :: l, c' :: l', h => by
    unfold dbl at h
    by_cases e : c = 39 <;> by_cases e' : c' = 39
    · rw [if_pos e, if_pos e'] at h
      rw [e, e', dbl_inj (List.cons.inj (List.cons.inj h).2).2]
    · rw [if_pos e, if_neg e'] at h
      exact absurd (List.cons.inj h).1.symm e'
    · rw [if_neg e, if_pos e'] at h
      exact absurd (List.cons.inj h).1 e
    · rw [if_neg e, if_neg e'] at h
      rw [(List.cons.inj h).1, dbl_inj (List.cons.inj h).2]

/-- The first byte of a text, by its kind. -/
theorem itoa_head (n : Int) : ∃ c r, itoa n = c :: r ∧ 45 ≤ c.toNat ∧ c.toNat ≤ 57 := by
  unfold itoa; split
  · exact ⟨45, _, rfl, by decide, by decide⟩
  · obtain ⟨c, r, e, h1, h2⟩ := digits_head n.toNat
    exact ⟨c, r, e, by omega, by omega⟩
theorem decS_head (n : Int) : ∃ c r, decS n = c :: r ∧ 45 ≤ c.toNat ∧ c.toNat ≤ 57 := by
  unfold decS; split
  · exact ⟨45, _, rfl, by decide, by decide⟩
  · obtain ⟨c, r, e, h1, h2⟩ := decL_head n.toNat
    exact ⟨c, r, e, by omega, by omega⟩
def tagOf (c : UInt8) : Int := if c = 110 then 0 else if c = 116 then 1 else if c = 102 then 1 else if c = 39 then 4 else 2
theorem tag_num {c : UInt8} (h1 : 45 ≤ c.toNat) (h2 : c.toNat ≤ 57) : tagOf c = 2 := by
  unfold tagOf
  have a1 : c ≠ 110 := fun e => by subst e; exact absurd h2 (by decide)
  have a2 : c ≠ 116 := fun e => by subst e; exact absurd h2 (by decide)
  have a3 : c ≠ 102 := fun e => by subst e; exact absurd h2 (by decide)
  have a4 : c ≠ 39 := fun e => by subst e; exact absurd h1 (by decide)
  rw [if_neg a1, if_neg a2, if_neg a3, if_neg a4]
theorem head_tag {k n : Int} {t : ByteArray} (h : mayS k n t = true) : ∃ c r, showS k n t = c :: r ∧ tagOf c = if k = 3 then 2 else k := by
  rcases mayS_kinds h with rfl | rfl | rfl | rfl | rfl
  · exact ⟨110, _, showS_0 h, by decide⟩
  · rw [showS_1 h]
    cases (lg 1 n == 1)
    · exact ⟨102, [97, 108, 115, 101], by decide, by decide⟩
    · exact ⟨116, [114, 117, 101], by decide, by decide⟩
  · obtain ⟨c, r, e, h1, h2⟩ := itoa_head n
    exact ⟨c, r, by rw [showS_2 h, e], by rw [tag_num h1 h2]; rfl⟩
  · obtain ⟨c, r, e, h1, h2⟩ := decS_head n
    exact ⟨c, r, by rw [showS_3 h, e], by rw [tag_num h1 h2]; rfl⟩
  · exact ⟨39, _, showS_4 h, by decide⟩
theorem emp_eq {t : ByteArray} (h : t.toList.isEmpty = true) : t = ⟨#[]⟩ := by
  rw [Lib.toList_data] at h
  apply str_ext
  have := List.isEmpty_iff.1 h
  rw [this]
theorem may_0 {n : Int} {t : ByteArray} (h : mayS 0 n t = true) : n = 0 ∧ t = ⟨#[]⟩ := by
  have h : (n == 0 && t.toList.isEmpty) = true := h
  simp only [Bool.and_eq_true, beq_iff_eq] at h
  exact ⟨h.1, emp_eq h.2⟩
theorem may_1 {n : Int} {t : ByteArray} (h : mayS 1 n t = true) : (n = 0 ∨ n = 1) ∧ t = ⟨#[]⟩ := by
  have h : ((n == 0 || n == 1) && t.toList.isEmpty) = true := h
  simp only [Bool.and_eq_true, Bool.or_eq_true, beq_iff_eq] at h
  exact ⟨h.1, emp_eq h.2⟩
theorem may_2 {n : Int} {t : ByteArray} (h : mayS 2 n t = true) : t = ⟨#[]⟩ := emp_eq h
theorem may_3 {n : Int} {t : ByteArray} (h : mayS 3 n t = true) : t = ⟨#[]⟩ := emp_eq h
theorem may_4 {n : Int} {t : ByteArray} (h : mayS 4 n t = true) : n = 0 := by
  have h : (n == 0 && (decide ((t.size : Int) ≤ 1024) && Lib.validD t.data.toList)) = true := h
  simp only [Bool.and_eq_true, beq_iff_eq] at h
  exact h.1
theorem unlike {k n k' n' : Int} {t t' : ByteArray} (h : mayS k n t = true) (h' : mayS k' n' t' = true) (e : showS k n t = showS k' n' t') : k = k' ∧ n = n' ∧ t = t' := by
  obtain ⟨c, r, e1, g1⟩ := head_tag h
  obtain ⟨c', r', e2, g2⟩ := head_tag h'
  have ec : c = c' := by rw [e1, e2] at e; exact (List.cons.inj e).1
  subst ec
  rw [g1] at g2
  clear e1 e2 g1
  rcases mayS_kinds h with rfl | rfl | rfl | rfl | rfl <;> rcases mayS_kinds h' with rfl | rfl | rfl | rfl | rfl
  all_goals first
    | (exact absurd g2 (by decide))
    | skip
  · obtain ⟨a, b⟩ := may_0 h
    obtain ⟨a', b'⟩ := may_0 h'
    exact ⟨rfl, by rw [a, a'], by rw [b, b']⟩
  · obtain ⟨a, b⟩ := may_1 h
    obtain ⟨a', b'⟩ := may_1 h'
    rw [showS_1 h, showS_1 h'] at e
    refine ⟨rfl, ?_, by rw [b, b']⟩
    rcases a with rfl | rfl <;> rcases a' with rfl | rfl
    · rfl
    · exact absurd e (by decide)
    · exact absurd e (by decide)
    · rfl
  · rw [showS_2 h, showS_2 h'] at e
    exact ⟨rfl, itoa_inj e, by rw [may_2 h, may_2 h']⟩
  · rw [showS_2 h, showS_3 h'] at e
    exact absurd (e ▸ decS_46 n') (itoa_46 n)
  · rw [showS_3 h, showS_2 h'] at e
    exact absurd (e ▸ decS_46 n) (itoa_46 n')
  · rw [showS_3 h, showS_3 h'] at e
    exact ⟨rfl, decS_inj e, by rw [may_3 h, may_3 h']⟩
  · rw [showS_4 h, showS_4 h'] at e
    have e3 := dbl_inj (List.append_cancel_right (List.cons.inj e).2)
    exact ⟨rfl, by rw [may_4 h, may_4 h'], str_ext e3⟩
end Go.Proofs.YtejniencggnkiaaDoor
