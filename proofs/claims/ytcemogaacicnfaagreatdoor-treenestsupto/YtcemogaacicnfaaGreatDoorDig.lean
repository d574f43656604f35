/- Digits and the texts of numbers and of texts, as plain lists of bytes. -/
import Derived.Lib.Replace
import Derived.Lib.ReplaceLaws
import Derived.Lib.ItoaNum
import Derived.Lib.TrimByte
import Derived.Lib.IndexBytes
import Derived.Lib.Repeat
import Derived.Lib.AtoiAllCases
namespace Go.Proofs.YtcemogaacicnfaaGreatDoor
open Go.Lib

/-- Every quote doubled. -/
def dbl : List UInt8 → List UInt8
  | [] => []
  | c :: l => if c = 39 then 39 :: 39 :: dbl l else c :: dbl l
theorem dbl_len : ∀ l : List UInt8, (dbl l).length ≤ 2 * l.length
  | [] => by simp [dbl]
  | c :: l => by
    have := dbl_len l
    unfold dbl
    split <;> simp <;> omega

theorem replaceK_dbl : ∀ l : List UInt8, replaceK [39] [39, 39] (count l [39]) l = dbl l
  | [] => by rw [count_one]; rfl
  | c :: l => by
    have ih := replaceK_dbl l
    by_cases hc : c = 39
    · subst hc
      have hi : index (39 :: l) [39] = (0 : Nat) := by rw [index_one]; rfl
      rw [count_cons_eq, Nat.add_comm, replaceK_hit _ _ _ _ 0 hi]
      simp [dbl, ih]
    · rw [count_cons_ne c 39 l hc]
      rw [show dbl (c :: l) = c :: dbl l from by rw [dbl, if_neg hc], ← ih]
      cases hk : count l [39] with
      | zero => rfl
      | succ k =>
        obtain ⟨i, hi⟩ := index_of_count (s := l) (old := [39]) (by omega)
        have hi' : index (c :: l) [39] = ((i + 1 : Nat) : Int) := by
          rw [index_one] at hi ⊢
          have hcb : (c == 39) = false := by simpa using hc
          simp only [indexByte, hcb, hi]
          have : ((i : Int) == -1) = false := by simp
          simp [this]
        rw [replaceK_hit _ _ _ _ _ hi', replaceK_hit _ _ _ _ _ hi]
        simp
theorem replaceAll_dbl (l : List UInt8) : replaceAll l [39] [39, 39] = dbl l := by
  unfold replaceAll replace
  rw [if_neg (by decide)]
  have e : replaceNum l [39] (-1) = count l [39] := by unfold replaceNum; rw [if_pos (Or.inl (by omega))]
  rw [e]
  exact replaceK_dbl l
/-- The four digits behind the point. -/
def restL (u : Nat) : List UInt8 := (Lib.decDigits (10000 + u % 10000)).drop 1
/-- A decimal's text without its sign. -/
def decL (u : Nat) : List UInt8 := Lib.decDigits (u / 10000) ++ [46] ++ (restL u).take 1 ++ Lib.trimRightB ((restL u).drop 1) 48
def decS (n : Int) : List UInt8 := if n < 0 then 45 :: decL n.natAbs else decL n.toNat

theorem digits5 (u : Nat) : (Lib.decDigits (10000 + u % 10000)).length = 5 := by
  rw [Lib.decDigits_length]
  exact Lib.nDigits_unique 4 _ (by omega) (by omega)
/-- The number that digits write. -/
def val (l : List UInt8) : Nat := l.foldl (fun a c => 10 * a + (c.toNat - 48)) 0
theorem val_snoc (l : List UInt8) (c : UInt8) : val (l ++ [c]) = 10 * val l + (c.toNat - 48) := by unfold val; rw [List.foldl_append]; rfl
theorem dig_toNat {d : Nat} (h : d < 10) : (UInt8.ofNat (48 + d)).toNat = 48 + d := by
  rw [UInt8.toNat_ofNat']; omega
theorem val_digits : ∀ (b u : Nat), u ≤ b → val (decDigits u) = u
  | 0, u, h => by
    have : u = 0 := by omega
    subst this
    rw [decDigits, dif_pos (by omega)]; rfl
  | b + 1, u, h => by
    by_cases h10 : u < 10
    · rw [decDigits, dif_pos h10]
      show 10 * 0 + ((UInt8.ofNat (48 + u)).toNat - 48) = u
      rw [dig_toNat h10]; omega
    · rw [decDigits, dif_neg h10, val_snoc, val_digits b (u / 10) (by omega), dig_toNat (by omega)]
      omega
theorem digits_range : ∀ (b u : Nat), u ≤ b → ∀ c ∈ decDigits u, 48 ≤ c.toNat ∧ c.toNat ≤ 57
  | 0, u, h => by
    have : u = 0 := by omega
    subst this
    rw [decDigits, dif_pos (by omega)]
    intro c hc
    rw [List.mem_singleton] at hc
    subst hc; decide
  | b + 1, u, h => by
    by_cases h10 : u < 10
    · rw [decDigits, dif_pos h10]
      intro c hc
      rw [List.mem_singleton] at hc
      subst hc
      rw [dig_toNat h10]; omega
    · rw [decDigits, dif_neg h10]
      intro c hc
      rcases List.mem_append.1 hc with h' | h'
      · exact digits_range b (u / 10) (by omega) c h'
      · rw [List.mem_singleton] at h'
        subst h'
        rw [dig_toNat (by omega)]; omega
theorem digits_ne (u : Nat) : decDigits u ≠ [] := fun e => by
  have := decDigits_length u
  rw [e] at this
  have h1 : 1 ≤ nDigits u := by
    rw [nDigits]; split <;> omega
  simp at this; omega
theorem trim_back (l : List UInt8) (c : UInt8) : trimRightB l c ++ List.replicate (l.length - (trimRightB l c).length) c = l := by
  have h := List.takeWhile_append_dropWhile (p := fun x => x == c) (l := l.reverse)
  have h2 := congrArg List.reverse h
  rw [List.reverse_append, List.reverse_reverse] at h2
  have h3 : (l.reverse.takeWhile (fun x => x == c)).reverse = List.replicate (l.length - (trimRightB l c).length) c := by
    have hl : (l.reverse.takeWhile (fun x => x == c)).length = l.length - (trimRightB l c).length := by
      have hh : (l.reverse.takeWhile (fun x => x == c)).length + (l.reverse.dropWhile (fun x => x == c)).length = l.length := by
        rw [← List.length_append, List.takeWhile_append_dropWhile, List.length_reverse]
      unfold trimRightB
      rw [List.length_reverse]
      omega
    have hall : ∀ x ∈ l.reverse.takeWhile (fun x => x == c), x = c := fun x hx => by
      have := List.all_takeWhile (p := fun x => x == c) (l := l.reverse)
      have := List.all_eq_true.1 this x hx
      simpa using this
    rw [List.eq_replicate_iff.2 ⟨hl, hall⟩, List.reverse_replicate]
  rw [h3] at h2
  exact h2
theorem digits_1 (x : Nat) (h : x < 10000) : (decDigits (10000 + x)).take 1 = [49] := by
  rw [decDigits, dif_neg (by omega), decDigits, dif_neg (by omega), decDigits, dif_neg (by omega), decDigits, dif_neg (by omega)]
  rw [show (10000 + x) / 10 / 10 / 10 / 10 = 1 from by omega]
  rw [decDigits, dif_pos (by omega)]
  rfl
theorem rest_len (u : Nat) : (restL u).length = 4 := by unfold restL; rw [List.length_drop, digits5]

/-- Digits behind a number. -/
def valA (a : Nat) (l : List UInt8) : Nat := l.foldl (fun a c => 10 * a + (c.toNat - 48)) a
theorem valA_ge : ∀ (l : List UInt8) (a : Nat), a ≤ valA a l
  | [], a => Nat.le_refl _
  | c :: r, a => by
    have := valA_ge r (10 * a + (c.toNat - 48))
    show a ≤ valA (10 * a + (c.toNat - 48)) r
    omega
theorem valA_eq : ∀ (l : List UInt8) (a : Nat), valA a l = a * 10 ^ l.length + valA 0 l
  | [], a => by simp [valA]
  | c :: r, a => by
    have h1 := valA_eq r (10 * a + (c.toNat - 48))
    have h2 := valA_eq r (10 * 0 + (c.toNat - 48))
    show valA (10 * a + (c.toNat - 48)) r = _ + valA (10 * 0 + (c.toNat - 48)) r
    rw [h1, h2, List.length_cons, Nat.pow_succ, Nat.add_mul, Nat.add_mul]
    have : 10 * a * 10 ^ r.length = a * (10 ^ r.length * 10) := by rw [Nat.mul_comm 10 a, Nat.mul_assoc, Nat.mul_comm 10]
    omega
theorem valA_app (a b : List UInt8) : val (a ++ b) = valA (val a) b := by unfold val valA; rw [List.foldl_append]
def Dgs (l : List UInt8) : Prop := ∀ c ∈ l, 48 ≤ c.toNat ∧ c.toNat ≤ 57
theorem parse_ok : ∀ (l : List UInt8) (a : Nat), Dgs l → valA a l < 18446744073709551616 → parseUint10 a l = .ok (valA a l)
  | [], a, _, _ => rfl
  | c :: r, a, hd, hv => by
    have hc := hd c (by simp)
    have e : valA a (c :: r) = valA (10 * a + (c.toNat - 48)) r := rfl
    rw [e] at hv ⊢
    have hg := valA_ge r (10 * a + (c.toNat - 48))
    have ih := parse_ok r (10 * a + (c.toNat - 48)) (fun x hx => hd x (by simp [hx])) hv
    rw [parseUint10, if_pos hc, if_neg (by omega), if_neg (by omega), Nat.mul_comm a 10, ih]
theorem atoi_digits {l : List UInt8} (hl : l ≠ []) (hd : Dgs l) (hv : val l ≤ 9223372036854775807) : atoiAll l = .ok (val l : Int) := by
  cases l with
  | nil => exact absurd rfl hl
  | cons c r =>
    have hc := hd c (by simp)
    have hp : parseMag (c :: r) = .ok (val (c :: r)) := by
      unfold parseMag
      rw [if_neg hl]
      exact parse_ok (c :: r) 0 hd (by have e : valA 0 (c :: r) = val (c :: r) := rfl
                                       omega)
    rw [atoiAll_plain c r (by omega) (by omega), hp]
    simp only [signless]
    rw [if_neg (by omega)]
theorem atoi_nonneg {c : UInt8} {r : List UInt8} {v : Int} (hc : 48 ≤ c.toNat ∧ c.toNat ≤ 57) (h : atoiAll (c :: r) = .ok v) : 0 ≤ v ∧ v ≤ 9223372036854775807 := by
  have hb := atoiAll_bounds h
  rw [atoiAll_plain c r (by omega) (by omega)] at h
  refine ⟨?_, hb.2⟩
  unfold signless at h
  split at h
  · cases h
  · cases h
  · split at h
    · cases h
    · injection h with h; omega
theorem digits_dgs (n : Nat) : Dgs (decDigits n) := digits_range n n (Nat.le_refl _)
theorem atoi_dec (n : Nat) (h : n ≤ 9223372036854775807) : atoiAll (decDigits n) = .ok (n : Int) := by
  rw [atoi_digits (digits_ne n) (digits_dgs n) (by rw [val_digits n n (Nat.le_refl _)]; exact h), val_digits n n (Nat.le_refl _)]
/-- No nought ahead of other digits. -/
theorem digits_first : ∀ (b n : Nat), n ≤ b → 1 ≤ n → ∃ c r, decDigits n = c :: r ∧ c ≠ 48
  | 0, n, h, h1 => by omega
  | b + 1, n, h, h1 => by
    by_cases h10 : n < 10
    · refine ⟨_, _, by rw [decDigits, dif_pos h10], ?_⟩
      intro e
      have := congrArg UInt8.toNat e
      rw [dig_toNat h10] at this
      have e48 : (48 : UInt8).toNat = 48 := rfl
      omega
    · obtain ⟨c, r, e, hc⟩ := digits_first b (n / 10) (by omega) (by omega)
      exact ⟨c, r ++ [UInt8.ofNat (48 + n % 10)], by rw [decDigits, dif_neg h10, e]; rfl, hc⟩
theorem repl_rep (c : UInt8) : ∀ n : Nat, repeatL [c] n = List.replicate n c
  | 0 => rfl
  | n + 1 => by
    rw [List.replicate_succ, ← repl_rep c n]
    first | rfl | simp [repeatL]
theorem rest_cons (n : Nat) : decDigits (10000 + n % 10000) = 49 :: restL n := by
  rw [← List.take_append_drop 1 (decDigits (10000 + n % 10000)), digits_1 _ (by omega)]
  rfl
theorem rest_dgs (n : Nat) : Dgs (restL n) := fun c hc => digits_dgs (10000 + n % 10000) c (by rw [rest_cons]; simp [hc])
theorem rest_val (n : Nat) : valA 0 (restL n) = n % 10000 := by
  have h := val_digits (10000 + n % 10000) _ (Nat.le_refl _)
  rw [rest_cons] at h
  have e : val (49 :: restL n) = valA 1 (restL n) := rfl
  rw [e, valA_eq, rest_len] at h
  omega
/-- The digits that are shown behind the point. -/
def behL (n : Nat) : List UInt8 := (restL n).take 1 ++ trimRightB ((restL n).drop 1) 48
theorem beh_len (n : Nat) : 1 ≤ (behL n).length ∧ (behL n).length ≤ 4 := by
  have h4 := rest_len n
  have ht : (trimRightB ((restL n).drop 1) 48).length ≤ ((restL n).drop 1).length := by
    unfold trimRightB
    rw [List.length_reverse]
    have := (List.dropWhile_sublist (fun x => x == (48 : UInt8)) (l := ((restL n).drop 1).reverse)).length_le
    simpa using this
  unfold behL
  simp at ht ⊢
  omega
theorem beh_back (n : Nat) : behL n ++ List.replicate (4 - (behL n).length) 48 = restL n := by
  have h4 := rest_len n
  have hb := trim_back ((restL n).drop 1) 48
  have hl : ((restL n).take 1).length = 1 := by rw [List.length_take]; omega
  have hd : ((restL n).drop 1).length = 3 := by rw [List.length_drop]; omega
  have e : 4 - (behL n).length = ((restL n).drop 1).length - (trimRightB ((restL n).drop 1) 48).length := by
    unfold behL; rw [List.length_append, hl, hd]; omega
  rw [e]
  unfold behL
  rw [List.append_assoc, hb, List.take_append_drop]
theorem beh_dgs (n : Nat) : Dgs (behL n) := fun c hc => rest_dgs n c (by rw [← beh_back]; simp [hc])
theorem decL_eq (n : Nat) : decL n = decDigits (n / 10000) ++ 46 :: behL n := by
  unfold decL behL
  simp
end Go.Proofs.YtcemogaacicnfaaGreatDoor
