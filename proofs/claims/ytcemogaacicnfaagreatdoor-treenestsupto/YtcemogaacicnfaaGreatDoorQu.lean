/- Texts in quotes, as plain lists of bytes: where they end, and what they say. -/
import Derived.Lib.Replace
import Derived.Lib.ReplaceLaws
import Derived.Lib.IndexBytes
import Derived.Lib.Strings
namespace Go.Proofs.YtcemogaacicnfaaGreatDoor
open Go.Lib

/-- What a text says and how many bytes it has behind its first quote. -/
def quF : List UInt8 → Option (List UInt8 × Nat)
  | [] => none
  | [c] => if c = 39 then some ([], 1) else none
  | c :: d :: r => if c = 39 then (if d = 39 then (quF r).map (fun p => (39 :: p.1, p.2 + 2)) else some ([], 1)) else (quF (d :: r)).map (fun p => (c :: p.1, p.2 + 1))
/-- Two quotes made one. -/
def hlv : List UInt8 → List UInt8
  | [] => []
  | [c] => [c]
  | c :: d :: r => if c = 39 ∧ d = 39 then 39 :: hlv r else c :: hlv (d :: r)
theorem replaceK_hlv : ∀ l : List UInt8, replaceK [39, 39] [39] (count l [39, 39]) l = hlv l
  | [] => rfl
  | [c] => by
    have h : index [c] [39, 39] = -1 := by simp [index]
    rw [count_miss h]
    rfl
  | c :: d :: r => by
    by_cases h : c = 39 ∧ d = 39
    · obtain ⟨rfl, rfl⟩ := h
      have hi : index (39 :: 39 :: r) [39, 39] = (0 : Nat) := by simp [index]
      have ih := replaceK_hlv r
      rw [count_hit (by simp) hi, Nat.add_comm, replaceK_hit _ _ _ _ 0 hi]
      simp [hlv, ih]
    · have ih := replaceK_hlv (d :: r)
      have hp : ([39, 39] : List UInt8).isPrefixOf (c :: d :: r) = false := by
        simp only [List.isPrefixOf, Bool.and_true]
        rcases Decidable.not_and_iff_or_not.1 h with h | h
        · simp [show ¬ (39 : UInt8) = c from fun e => h e.symm]
        · simp [show ¬ (39 : UInt8) = d from fun e => h e.symm]
      rw [show hlv (c :: d :: r) = c :: hlv (d :: r) from by rw [hlv, if_neg h], ← ih]
      rcases index_spec (d :: r) [39, 39] with ⟨hm, _⟩ | ⟨i, hi, _⟩
      · have hm' : index (c :: d :: r) [39, 39] = -1 := by rw [index, hp, hm]; rfl
        rw [count_miss hm, count_miss hm']
        rfl
      · have hi' : index (c :: d :: r) [39, 39] = ((i + 1 : Nat) : Int) := by
          rw [index, hp, hi]
          have : ((i : Int) == -1) = false := by simp
          simp [this]
        have e : i + 1 + 2 = (i + 2) + 1 := by omega
        rw [count_hit (by simp) hi, count_hit (by simp) hi', Nat.add_comm 1, Nat.add_comm 1, replaceK_hit _ _ _ _ _ hi', replaceK_hit _ _ _ _ _ hi]
        simp [e]
theorem replaceAll_hlv (l : List UInt8) : replaceAll l [39, 39] [39] = hlv l := by
  unfold replaceAll replace
  rw [if_neg (by decide)]
  have e : replaceNum l [39, 39] (-1) = count l [39, 39] := by unfold replaceNum; rw [if_pos (Or.inl (by omega))]
  rw [e]
  exact replaceK_hlv l
theorem hlv_cons {c : UInt8} (h : c ≠ 39) (l : List UInt8) : hlv (c :: l) = c :: hlv l := by
  cases l with
  | nil => rfl
  | cons d r => rw [hlv, if_neg (fun e => h e.1)]
theorem quF_spec : ∀ (l x : List UInt8) (n : Nat), quF l = some (x, n) → 1 ≤ n ∧ n ≤ l.length ∧ hlv (l.take (n - 1)) = x ∧ l[n - 1]? = some 39 ∧ x.length + 1 ≤ n ∧ l[n]? ≠ some 39
  | [], x, n, h => by cases h
  | [c], x, n, h => by
    rw [quF] at h
    split at h
    · next hc => injection h with h; injection h with h1 h2; subst h1 h2 hc; simp [hlv]
    · cases h
  | c :: d :: r, x, n, h => by
    rw [quF] at h
    split at h
    · next hc =>
      subst hc
      split at h
      · next hd =>
        subst hd
        cases hq : quF r with
        | none => rw [hq] at h; cases h
        | some p =>
          obtain ⟨y, m⟩ := p
          rw [hq] at h
          simp only [Option.map_some, Option.some.injEq, Prod.mk.injEq] at h
          obtain ⟨rfl, rfl⟩ := h
          obtain ⟨i1, i2, i3, i4, i5, i6⟩ := quF_spec r y m hq
          have e : m + 2 - 1 = (m - 1) + 1 + 1 := by omega
          refine ⟨by omega, by simp; omega, ?_, ?_, by simp; omega, ?_⟩
          · rw [e, List.take_succ_cons, List.take_succ_cons, hlv, if_pos ⟨rfl, rfl⟩, i3]
          · rw [e]; simpa using i4
          · simpa using i6
      · next hd =>
        injection h with h
        injection h with h1 h2
        subst h1 h2
        refine ⟨by omega, by simp, rfl, rfl, by simp, ?_⟩
        simpa using hd
    · next hc =>
      cases hq : quF (d :: r) with
      | none => rw [hq] at h; cases h
      | some p =>
        obtain ⟨y, m⟩ := p
        rw [hq] at h
        simp only [Option.map_some, Option.some.injEq, Prod.mk.injEq] at h
        obtain ⟨rfl, rfl⟩ := h
        obtain ⟨i1, i2, i3, i4, i5, i6⟩ := quF_spec (d :: r) y m hq
        have e : m + 1 - 1 = (m - 1) + 1 := by omega
        refine ⟨by omega, by simp at i2 ⊢; omega, ?_, ?_, by simp; omega, ?_⟩
        · rw [e, List.take_succ_cons, hlv_cons hc, i3]
        · rw [e]; simpa using i4
        · simpa using i6
end Go.Proofs.YtcemogaacicnfaaGreatDoor
