/- The arithmetic of a quotient of 128 bits by 64, digit by digit of 32 bits. -/
import Derived.Lib.BitFns
import Derived.Laws.Bits64b
namespace Go.Proofs.YtjphmbgennadcaaGreatDoor.Ar

/-- One digit: what a guess (q, r) keeps while it is mended. -/
structure Guess (X y a b u q r : Nat) : Prop where
  hy : y = a * 4294967296 + b
  hb : b < 4294967296
  ha : 2147483648 ≤ a
  ha' : a < 4294967296
  hX : X < y
  hu : u < 4294967296
  hq : q * a + r = X
  hr : r < 4294967296
  hQ : (X * 4294967296 + u) / y ≤ q
  hle : q ≤ 4294967297

theorem Guess.start {X y a b u : Nat} (hy : y = a * 4294967296 + b) (hb : b < 4294967296) (ha : 2147483648 ≤ a) (ha' : a < 4294967296) (hX : X < y) (hu : u < 4294967296) : Guess X y a b u (X / a) (X - X / a * a) := by
  have hay : a * 4294967296 ≤ y := by omega
  have h1 := Nat.div_add_mod X a
  have h2 := Nat.mod_lt X (show 0 < a by omega)
  have h3 : a * (X / a) = X / a * a := Nat.mul_comm _ _
  have hr : X - X / a * a = X % a := by omega
  refine ⟨hy, hb, ha, ha', hX, hu, by omega, by omega, ?_, ?_⟩
  · have hmod : X + 1 ≤ (X / a + 1) * a := by rw [Nat.add_mul]; omega
    have h4 := Nat.mul_le_mul_right 4294967296 hmod
    have h5 := Nat.mul_le_mul_left (X / a + 1) hay
    rw [← Nat.mul_assoc] at h5
    have h6 : X * 4294967296 + u < (X / a + 1) * y := by omega
    have := (Nat.div_lt_iff_lt_mul (show 0 < y by omega)).mpr h6
    omega
  · have h7 : X < 4294967298 * a := by omega
    have := (Nat.div_lt_iff_lt_mul (show 0 < a by omega)).mpr h7
    omega

theorem Guess.bound {X y a b u q r : Nat} (g : Guess X y a b u q r) : q * b < 18446744073709551616 := by
  have h1 := g.hle; have h2 := g.hb
  have : q * b ≤ 4294967297 * 4294967295 := Nat.mul_le_mul (by omega) (by omega)
  omega

theorem Guess.prod {X y a b u q r : Nat} (g : Guess X y a b u q r) : q * y = (X - r) * 4294967296 + q * b := by
  have h1 := g.hq
  rw [g.hy, Nat.mul_add, ← Nat.mul_assoc, show X - r = q * a by omega]

theorem Guess.done {X y a b u q r : Nat} (g : Guess X y a b u q r) (h : q * b ≤ 4294967296 * r + u) : q = (X * 4294967296 + u) / y := by
  have h1 := g.prod; have h2 := g.hq; have h3 := g.hQ; have h4 := g.hX
  have : q ≤ (X * 4294967296 + u) / y := (Nat.le_div_iff_mul_le (by omega)).mpr (by omega)
  omega

theorem Guess.down {X y a b u q r : Nat} (g : Guess X y a b u q r) (h : 4294967296 ≤ q ∨ 4294967296 * r + u < q * b) : 1 ≤ q ∧ (X * 4294967296 + u) / y ≤ q - 1 ∧ (q - 1) * a + (r + a) = X := by
  have h1 := g.prod; have h2 := g.hq; have h4 := g.hX; have h5 := g.hu
  have hlt : X * 4294967296 + u < q * y := by
    rcases h with h | h
    · have : 4294967296 * y ≤ q * y := Nat.mul_le_mul_right _ h
      omega
    · omega
  have h6 := (Nat.div_lt_iff_lt_mul (show 0 < y by omega)).mpr hlt
  have h7 : 1 ≤ q := Nat.lt_of_le_of_lt (Nat.zero_le _) h6
  refine ⟨h7, by omega, ?_⟩
  rw [Nat.sub_mul]
  have : 1 * a ≤ q * a := Nat.mul_le_mul_right _ h7
  omega

theorem Guess.next {X y a b u q r : Nat} (g : Guess X y a b u q r) (h : 4294967296 ≤ q ∨ 4294967296 * r + u < q * b) (hr : r + a < 4294967296) : Guess X y a b u (q - 1) (r + a) := by
  obtain ⟨h1, h2, h3⟩ := g.down h
  have := g.hle
  exact ⟨g.hy, g.hb, g.ha, g.ha', g.hX, g.hu, h3, hr, h2, by omega⟩

theorem Guess.last {X y a b u q r : Nat} (g : Guess X y a b u q r) (h : 4294967296 ≤ q ∨ 4294967296 * r + u < q * b) (hr : 4294967296 ≤ r + a) : q - 1 = (X * 4294967296 + u) / y := by
  obtain ⟨h1, h2, h3⟩ := g.down h
  have hy := g.hy; have hb := g.hb; have hX := g.hX; have hu := g.hu
  have hq : q - 1 < 4294967296 := by
    rcases Nat.lt_or_ge (q - 1) 4294967296 with h | h
    · exact h
    · have : 4294967296 * a ≤ (q - 1) * a := Nat.mul_le_mul_right _ h
      omega
  have hp : (q - 1) * b ≤ 4294967295 * 4294967295 := Nat.mul_le_mul (by omega) (by omega)
  have h5 : (q - 1) * y = (q - 1) * a * 4294967296 + (q - 1) * b := by rw [hy, Nat.mul_add, ← Nat.mul_assoc]
  have h6 : (q - 1) ≤ (X * 4294967296 + u) / y := (Nat.le_div_iff_mul_le (by omega)).mpr (by omega)
  omega

theorem quot_lt {X y u : Nat} (hX : X < y) (hu : u < 4294967296) : (X * 4294967296 + u) / y < 4294967296 :=
  (Nat.div_lt_iff_lt_mul (by omega)).mpr (by omega)

/-- What is left over behind a digit. -/
theorem left_over (U : Nat) {y : Nat} (hy : 0 < y) : U - U / y * y = U % y ∧ U / y * y ≤ U ∧ U % y < y := by
  have h1 := Nat.div_add_mod U y
  have h2 := Nat.mod_lt U hy
  rw [Nat.mul_comm] at h1
  exact ⟨by omega, by omega, h2⟩

/-- Two digits make the quotient. -/
theorem two_digits (U v : Nat) {y : Nat} (hy : 0 < y) : (U * 4294967296 + v) / y = U / y * 4294967296 + (U % y * 4294967296 + v) / y := by
  have h1 := Nat.div_add_mod U y
  have h2 : U * 4294967296 + v = y * (U / y * 4294967296) + (U % y * 4294967296 + v) := by
    rw [← Nat.mul_assoc]; omega
  rw [h2, Nat.mul_add_div hy]

/-- A number that is pushed to the left with its divisor. -/
theorem pushed (hi lo s : Nat) (hs : s ≤ 64) :
    (hi * 2 ^ s + lo / 2 ^ (64 - s)) * 18446744073709551616 + lo * 2 ^ s % 18446744073709551616 = (hi * 18446744073709551616 + lo) * 2 ^ s := by
  have e : 2 ^ (64 - s) * 2 ^ s = 18446744073709551616 := by rw [← Nat.pow_add, show 64 - s + s = 64 by omega]
  have h1 : lo * 2 ^ s / 18446744073709551616 = lo / 2 ^ (64 - s) := by
    rw [← e, Nat.mul_div_mul_right _ _ (Nat.two_pow_pos s)]
  have h2 := Nat.div_add_mod (lo * 2 ^ s) 18446744073709551616
  rw [h1] at h2
  have h3 : (hi * 18446744073709551616 + lo) * 2 ^ s = hi * 2 ^ s * 18446744073709551616 + lo * 2 ^ s := by
    rw [Nat.add_mul, Nat.mul_right_comm]
  omega

theorem bitLen_lt : ∀ (f x : Nat), x < 2 ^ f → x < 2 ^ Lib.bitLenAux f x
  | 0, x, h => by simpa [Lib.bitLenAux] using h
  | f + 1, x, h => by
    simp only [Lib.bitLenAux]
    by_cases h0 : x = 0
    · simp [h0]
    · rw [if_neg h0, Nat.pow_add]
      have := bitLen_lt f (x / 2) (by rw [Nat.pow_succ] at h; omega)
      omega
theorem bitLen_ge : ∀ (f x : Nat), x ≠ 0 → x < 2 ^ f → 1 ≤ Lib.bitLenAux f x ∧ 2 ^ Lib.bitLenAux f x ≤ 2 * x
  | 0, x, h0, h => by simp at h; omega
  | f + 1, x, h0, h => by
    simp only [Lib.bitLenAux, if_neg h0]
    refine ⟨by omega, ?_⟩
    rw [Nat.pow_add]
    by_cases h1 : x / 2 = 0
    · rw [h1]
      have : Lib.bitLenAux f 0 = 0 := by cases f <;> simp [Lib.bitLenAux]
      rw [this]; omega
    · have := (bitLen_ge f (x / 2) h1 (by rw [Nat.pow_succ] at h; omega)).2
      omega

/-- The divisor pushed to the left: its highest bit is set. -/
theorem normed (y : Nat) (h0 : y ≠ 0) (hy : y < 18446744073709551616) : Lib.bitLen y ≤ 64 ∧ 1 ≤ Lib.bitLen y ∧ 9223372036854775808 ≤ y * 2 ^ (64 - Lib.bitLen y) ∧ y * 2 ^ (64 - Lib.bitLen y) < 18446744073709551616 := by
  have hle := Lib.bitLen_le y 64 (by omega) hy
  have h1 := bitLen_lt 64 y hy
  have h2 := bitLen_ge 64 y h0 hy
  have e : Lib.bitLen y = Lib.bitLenAux 64 y := rfl
  rw [← e] at h1 h2
  have hp : 2 ^ Lib.bitLen y * 2 ^ (64 - Lib.bitLen y) = 18446744073709551616 := by rw [← Nat.pow_add, show Lib.bitLen y + (64 - Lib.bitLen y) = 64 by omega]
  refine ⟨hle, h2.1, ?_, ?_⟩
  · have h3 := Nat.mul_le_mul_right (2 ^ (64 - Lib.bitLen y)) h2.2
    rw [hp, Nat.mul_assoc] at h3
    omega
  · have h3 := Nat.mul_lt_mul_of_pos_right h1 (Nat.two_pow_pos (64 - Lib.bitLen y))
    omega
end Go.Proofs.YtjphmbgennadcaaGreatDoor.Ar
