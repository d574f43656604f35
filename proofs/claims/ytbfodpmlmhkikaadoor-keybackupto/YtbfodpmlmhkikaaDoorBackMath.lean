/- Rows are read as they were written, and bytes are written as they were read. -/
import Derived.Test.YtbfodpmlmhkikaaDoorDcd
namespace Go.Proofs.YtbfodpmlmhkikaaDoor
open Go.ChangeShapes Go.WideShapes Go.ChangeAt Go.RowKit

theorem leN_leB (s n : Nat) : leN (leB s n) = n % 256 ^ s := by
  induction s generalizing n with
  | zero => simp [leB, leN, Nat.mod_one]
  | succ s ih =>
    have h1 : (UInt8.ofNat (n % 256)).toNat = n % 256 := by rw [UInt8.toNat_ofNat']; omega
    simp only [leB, leN, ih, h1]
    rw [Nat.pow_succ, Nat.mul_comm (256 ^ s) 256, Nat.mod_mul]
theorem leB_leN (l : List UInt8) : leB l.length (leN l) = l := by
  induction l with
  | nil => rfl
  | cons b l ih =>
    have hb : b.toNat < 256 := b.toNat_lt
    simp only [List.length_cons, leB, leN]
    have h1 : (b.toNat + 256 * leN l) % 256 = b.toNat := by omega
    have h2 : (b.toNat + 256 * leN l) / 256 = leN l := by omega
    rw [h1, h2, ih]
    simp
theorem i64_u64 {n : Int} (h1 : -9223372036854775808 ≤ n) (h2 : n ≤ 9223372036854775807) : i64 (u64 n) = n := by
  unfold i64 u64
  simp [IntKind.wrap, IntKind.bits, IntKind.signed]
  omega
theorem u64_i64 {x : Nat} (h : x < 18446744073709551616) : u64 (i64 x) = x := by
  unfold i64 u64
  simp [IntKind.wrap, IntKind.bits, IntKind.signed]
  omega
theorem u64_lt (n : Int) : u64 n < 18446744073709551616 := by unfold u64; omega
theorem i64_range (x : Nat) : -9223372036854775808 ≤ i64 x ∧ i64 x ≤ 9223372036854775807 := by
  unfold i64
  simp [IntKind.wrap, IntKind.bits, IntKind.signed]
  omega
theorem ba_nil {t : ByteArray} (h : t.toList = []) : t = ⟨#[]⟩ := by
  rw [ByteArray.toList_eq] at h
  exact ba_ext (by rw [h])
theorem bsA_of (t : ByteArray) : bsA t.data.toList = t := ba_ext (by rw [bsA_list])
theorem take_app {l t : List UInt8} {n : Nat} (h : l.length = n) : (l ++ t).take n = l ∧ (l ++ t).drop n = t := by
  subst h; simp
/-- A value that may be: its bytes are read as it. -/
theorem cut_enc {v : Val} (hm : mayV v = true) (h1 : -9223372036854775808 ≤ v.2.1) (h2 : v.2.1 ≤ 9223372036854775807) : ∃ b l0, encV v = b :: l0 ∧ ∀ tl, cutV b (l0 ++ tl) = some (v, tl) := by
  obtain ⟨k, n, t⟩ := v
  dsimp only at h1 h2
  rcases may_cases hm with ⟨e1, e2, e3⟩ | ⟨e1, e2, e3⟩ | ⟨e1, e3⟩ | ⟨e1, e3⟩ | ⟨e1, e2, e3, e4⟩
  · dsimp only at e1 e2 e3; subst e1 e2
    obtain rfl := ba_nil e3
    exact ⟨0, [], rfl, fun tl => rfl⟩
  · dsimp only at e1 e2 e3; subst e1
    obtain rfl := ba_nil e3
    refine ⟨1, leB 1 (u64 n), rfl, fun tl => ?_⟩
    have hl := leB_len 1 (u64 n)
    obtain ⟨t1, t2⟩ := take_app (t := tl) hl
    unfold cutV
    rw [if_pos rfl, if_neg (by rw [List.length_append, hl]; omega), t1, t2, leN_leB]
    have : u64 n % 256 ^ 1 = u64 n := by unfold u64; rcases e2 with rfl | rfl <;> rfl
    rw [this, i64_u64 h1 h2]
  · dsimp only at e1 e3; subst e1
    obtain rfl := ba_nil e3
    refine ⟨2, leB 8 (u64 n), rfl, fun tl => ?_⟩
    have hl := leB_len 8 (u64 n)
    obtain ⟨t1, t2⟩ := take_app (t := tl) hl
    unfold cutV
    rw [if_neg (by decide), if_pos rfl, if_neg (by rw [List.length_append, hl]; omega), t1, t2, leN_leB]
    rw [Nat.mod_eq_of_lt (u64_lt n), i64_u64 h1 h2]
  · dsimp only at e1 e3; subst e1
    obtain rfl := ba_nil e3
    refine ⟨3, leB 8 (u64 n), rfl, fun tl => ?_⟩
    have hl := leB_len 8 (u64 n)
    obtain ⟨t1, t2⟩ := take_app (t := tl) hl
    unfold cutV
    rw [if_neg (by decide), if_neg (by decide), if_pos rfl, if_neg (by rw [List.length_append, hl]; omega), t1, t2, leN_leB]
    rw [Nat.mod_eq_of_lt (u64_lt n), i64_u64 h1 h2]
  · dsimp only at e1 e2 e3 e4; subst e1 e2
    refine ⟨4, leB 2 t.size ++ t.data.toList, rfl, fun tl => ?_⟩
    have hl := leB_len 2 t.size
    have hts : t.data.toList.length = t.size := by rw [Array.length_toList]; rfl
    rw [List.append_assoc]
    obtain ⟨t1, t2⟩ := take_app (t := t.data.toList ++ tl) hl
    have hx : leN (leB 2 t.size) = t.size := by rw [leN_leB]; exact Nat.mod_eq_of_lt (by omega)
    obtain ⟨t3, t4⟩ := take_app (t := tl) hts
    unfold cutV
    rw [if_neg (by decide), if_neg (by decide), if_neg (by decide), if_pos rfl, if_neg (by rw [List.length_append, hl]; omega), t1, t2, hx, t3, t4, if_neg (by rw [List.length_append]; omega), bsA_of]
/-- What is read is written as it was. -/
theorem enc_cut {b : UInt8} {l : List UInt8} {v : Val} {l' : List UInt8} (hc : cutV b l = some (v, l')) (hm : mayV v = true) : encV v ++ l' = b :: l ∧ -9223372036854775808 ≤ v.2.1 ∧ v.2.1 ≤ 9223372036854775807 := by
  unfold cutV at hc
  split at hc
  · subst b
    split at hc
    · cases hc
    · rename_i hl
      injection hc with hc; injection hc with e1 e2; subst e1 e2
      refine ⟨?_, i64_range _⟩
      have ht : (l.take 1).length = 1 := by rw [List.length_take]; omega
      have hx : leN (l.take 1) < 18446744073709551616 := Nat.lt_trans (leN_lt _) (by rw [ht]; decide)
      show [1] ++ leB 1 (u64 (i64 (leN (l.take 1)))) ++ l.drop 1 = _
      rw [u64_i64 hx]
      have := leB_leN (l.take 1)
      rw [ht] at this
      rw [this, List.append_assoc, List.take_append_drop]; rfl
  · split at hc
    · subst b
      split at hc
      · cases hc
      · rename_i hl
        injection hc with hc; injection hc with e1 e2; subst e1 e2
        refine ⟨?_, i64_range _⟩
        have ht : (l.take 8).length = 8 := by rw [List.length_take]; omega
        have hx : leN (l.take 8) < 18446744073709551616 := by have := leN_lt (l.take 8); rw [ht] at this; exact this
        show [2] ++ leB 8 (u64 (i64 (leN (l.take 8)))) ++ l.drop 8 = _
        rw [u64_i64 hx]
        have := leB_leN (l.take 8)
        rw [ht] at this
        rw [this]; simp
    · split at hc
      · subst b
        split at hc
        · cases hc
        · rename_i hl
          injection hc with hc; injection hc with e1 e2; subst e1 e2
          refine ⟨?_, i64_range _⟩
          have ht : (l.take 8).length = 8 := by rw [List.length_take]; omega
          have hx : leN (l.take 8) < 18446744073709551616 := by have := leN_lt (l.take 8); rw [ht] at this; exact this
          show [3] ++ leB 8 (u64 (i64 (leN (l.take 8)))) ++ l.drop 8 = _
          rw [u64_i64 hx]
          have := leB_leN (l.take 8)
          rw [ht] at this
          rw [this]; simp
      · split at hc
        · subst b
          split at hc
          · cases hc
          · split at hc
            · cases hc
            · rename_i hl hn
              injection hc with hc; injection hc with e1 e2; subst e1 e2
              refine ⟨?_, show (-9223372036854775808 : Int) ≤ 0 by decide, show (0 : Int) ≤ 9223372036854775807 by decide⟩
              have ht : (l.take 2).length = 2 := by rw [List.length_take]; omega
              have hbs : (bsA ((l.drop 2).take (leN (l.take 2)))).size = leN (l.take 2) := by rw [bsA_size, List.length_take]; omega
              show [4] ++ leB 2 (bsA ((l.drop 2).take (leN (l.take 2)))).size ++ (bsA ((l.drop 2).take (leN (l.take 2)))).data.toList ++ (l.drop 2).drop (leN (l.take 2)) = _
              rw [hbs, bsA_list]
              have := leB_leN (l.take 2)
              rw [ht] at this
              rw [this, List.append_assoc, List.take_append_drop, List.append_assoc, List.take_append_drop]
              rfl
        · rename_i b1 b2 b3 b4
          injection hc with hc; injection hc with e1 e2; subst e1 e2
          refine ⟨?_, show (-9223372036854775808 : Int) ≤ 0 by decide, show (0 : Int) ≤ 9223372036854775807 by decide⟩
          have hb : b = 0 := by
            have u : ∀ c : UInt8, b ≠ c → b.toNat ≠ c.toNat := fun c h e => h (UInt8.toNat_inj.1 e)
            have u1 := u 1 b1; have u2 := u 2 b2; have u3 := u 3 b3; have u4 := u 4 b4
            rcases may_cases hm with ⟨e1, _⟩ | ⟨e1, _⟩ | ⟨e1, _⟩ | ⟨e1, _⟩ | ⟨e1, _⟩ <;> dsimp only at e1
            · apply UInt8.toNat_inj.1; simp; omega
            · simp at u1; omega
            · simp at u2; omega
            · simp at u3; omega
            · simp at u4; omega
          subst hb; rfl
theorem IntR_cons {v : Val} {r : List Val} (h : IntR (v :: r)) : (-9223372036854775808 ≤ v.2.1 ∧ v.2.1 ≤ 9223372036854775807) ∧ IntR r := by
  refine ⟨h 0 (by simp), fun i hi => ?_⟩
  have := h (i + 1) (by simpa using hi)
  simpa [nAt] using this
theorem encR_cons (v : Val) (r : List Val) : encR (v :: r) = encV v ++ encR r := by simp [encR]
/-- Decode of Encode. -/
theorem dec_enc {r : List Val} (hm : mayR r = true) (hI : IntR r) : ∀ n, (encR r).length ≤ n → decF n (encR r) = some r := by
  induction r with
  | nil => intro n _; cases n <;> rfl
  | cons v r ih =>
    intro n hn
    simp only [mayR, List.all_cons, Bool.and_eq_true] at hm
    obtain ⟨h1, h2⟩ := IntR_cons hI
    obtain ⟨b, l0, e1, e2⟩ := cut_enc hm.1 h1.1 h1.2
    rw [encR_cons, e1] at hn ⊢
    cases n with
    | zero => simp at hn
    | succ n =>
      rw [List.cons_append]
      simp only [decF, e2, hm.1, if_true]
      rw [ih hm.2 h2 n (by simp at hn; omega)]; rfl
/-- Encode of Decode. -/
theorem enc_dec : ∀ (n : Nat) (l : List UInt8) (r : List Val), decF n l = some r → encR r = l ∧ mayR r = true ∧ IntR r
  | n, [], r, h => by
    have : r = [] := by cases n <;> simpa [decF] using h.symm
    subst this; exact ⟨rfl, rfl, fun i hi => by simp at hi⟩
  | 0, _ :: _, r, h => by simp [decF] at h
  | n + 1, b :: l, r, h => by
    simp only [decF] at h
    split at h
    · cases h
    · rename_i v l' hc
      split at h
      · rename_i hm
        obtain ⟨r', hr', rfl⟩ := Option.map_eq_some_iff.1 h
        obtain ⟨i1, i2, i3⟩ := enc_dec n l' r' hr'
        obtain ⟨j1, j2, j3⟩ := enc_cut hc hm
        refine ⟨by rw [encR_cons, i1]; exact j1, by simp only [mayR, List.all_cons, hm, Bool.true_and]; exact i2, fun i hi => ?_⟩
        cases i with
        | zero => exact ⟨j2, j3⟩
        | succ i => have := i3 i (by simpa using hi); simpa [nAt] using this
      · cases h
theorem decS_enc {r : List Val} (hm : mayR r = true) (hI : IntR r) : decS (encR r) = some r := dec_enc hm hI _ (Nat.le_refl _)
theorem decS_inv {l : List UInt8} {r : List Val} (h : decS l = some r) : encR r = l ∧ mayR r = true ∧ IntR r := enc_dec _ _ _ h
/-- Two rows have the same bytes only if they are the same. -/
theorem enc_inj {r r' : List Val} (hm : mayR r = true) (hI : IntR r) (hm' : mayR r' = true) (hI' : IntR r') : (bsA (encR r) = bsA (encR r')) ↔ r = r' := by
  constructor
  · intro h
    have e : encR r = encR r' := by rw [← bsA_list (encR r), h, bsA_list]
    have h1 := decS_enc hm hI
    rw [e, decS_enc hm' hI'] at h1
    injection h1 with h1; exact h1.symm
  · rintro rfl; rfl
end Go.Proofs.YtbfodpmlmhkikaaDoor
