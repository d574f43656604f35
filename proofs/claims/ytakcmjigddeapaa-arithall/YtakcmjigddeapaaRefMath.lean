/- A product of 128 bits out of four of 64, and a quotient bit by bit: the arithmetic of the document's own answer. -/
import Derived.Test.YtakcmjigddeapaaDiv
namespace Go.Proofs.Ytakcmjigddeapaa
open Go.RowKit

/-- The halves of a product, as the walk calls them. -/
structure Halves (x y xl xh yl yh ll lh hl llh lhl hll mid ms lll lo hh lhh hlh midh hi : Nat) : Prop where
  exl : bits .and .u64 (x : Int) 4294967295 = (xl : Int)
  eyl : bits .and .u64 (y : Int) 4294967295 = (yl : Int)
  exh : (x : Int) / 4294967296 = (xh : Int)
  eyh : (y : Int) / 4294967296 = (yh : Int)
  ell : IntKind.u64.wrap ((xl : Int) * (yl : Int)) = (ll : Int)
  elh : IntKind.u64.wrap ((xl : Int) * (yh : Int)) = (lh : Int)
  ehl : IntKind.u64.wrap ((xh : Int) * (yl : Int)) = (hl : Int)
  ellh : (ll : Int) / 4294967296 = (llh : Int)
  elhl : bits .and .u64 (lh : Int) 4294967295 = (lhl : Int)
  ehll : bits .and .u64 (hl : Int) 4294967295 = (hll : Int)
  emid : IntKind.u64.wrap (IntKind.u64.wrap ((llh : Int) + (lhl : Int)) + (hll : Int)) = (mid : Int)
  ems : IntKind.u64.wrap ((mid : Int) * 4294967296) = (ms : Int)
  elll : bits .and .u64 (ll : Int) 4294967295 = (lll : Int)
  elo : bits .or .u64 (ms : Int) (lll : Int) = (lo : Int)
  ehh : IntKind.u64.wrap ((xh : Int) * (yh : Int)) = (hh : Int)
  elhh : (lh : Int) / 4294967296 = (lhh : Int)
  ehlh : (hl : Int) / 4294967296 = (hlh : Int)
  emidh : (mid : Int) / 4294967296 = (midh : Int)
  ehi : IntKind.u64.wrap (IntKind.u64.wrap (IntKind.u64.wrap ((hh : Int) + (lhh : Int)) + (hlh : Int)) + (midh : Int)) = (hi : Int)
  hN : hi * 18446744073709551616 + lo = x * y
  hhi : hi < 18446744073709551616
  hlo : lo < 18446744073709551616

theorem mulw (a b : Nat) (h : a * b < 18446744073709551616) : IntKind.u64.wrap ((a : Int) * (b : Int)) = ((a * b : Nat) : Int) := by
  rw [show (a : Int) * (b : Int) = ((a * b : Nat) : Int) by simp, wrapU _ h]
theorem wrapS (a : Nat) : IntKind.u64.wrap ((a : Int) * 4294967296) = ((a % 4294967296 * 4294967296 : Nat) : Int) := by
  rw [IntKind.wrap_u64]; omega
theorem orS (a b : Nat) (hb : b < 4294967296) (ha : a < 4294967296) : bits .or .u64 ((a * 4294967296 : Nat) : Int) (b : Int) = ((a * 4294967296 + b : Nat) : Int) := by
  rw [bits_or_u64_nat _ _ (by omega) (by omega)]
  have h := Nat.two_pow_add_eq_or_of_lt (i := 32) (show b < 2 ^ 32 from hb) a
  rw [show (2 : Nat) ^ 32 * a = a * 4294967296 from Nat.mul_comm _ _] at h
  rw [← h]

theorem schoolbook (xh xl yh yl : Nat) : (xh * 4294967296 + xl) * (yh * 4294967296 + yl) = xh * yh * 18446744073709551616 + (xl * yh + xh * yl) * 4294967296 + xl * yl := by
  rw [Nat.add_mul, Nat.mul_add, Nat.mul_add]
  have e1 : xh * 4294967296 * (yh * 4294967296) = xh * yh * 18446744073709551616 := by
    rw [Nat.mul_mul_mul_comm]
  have e2 : xh * 4294967296 * yl = xh * yl * 4294967296 := Nat.mul_right_comm _ _ _
  have e3 : xl * (yh * 4294967296) = xl * yh * 4294967296 := (Nat.mul_assoc _ _ _).symm
  rw [e1, e2, e3]
  omega

theorem back (x : Nat) : x / 4294967296 * 4294967296 + x % 4294967296 = x := by omega
theorem high (x : Nat) : (x : Int) / 4294967296 = ((x / 4294967296 : Nat) : Int) := by omega

theorem halves_of (x y : Nat) (hx : x < 18446744073709551616) (hy : y < 18446744073709551616) :
    ∃ xl xh yl yh ll lh hl llh lhl hll mid ms lll lo hh lhh hlh midh hi, Halves x y xl xh yl yh ll lh hl llh lhl hll mid ms lll lo hh lhh hlh midh hi := by
  have b1 : x % 4294967296 < 4294967296 := Nat.mod_lt _ (by omega)
  have b2 : y % 4294967296 < 4294967296 := Nat.mod_lt _ (by omega)
  have b3 : x / 4294967296 < 4294967296 := by omega
  have b4 : y / 4294967296 < 4294967296 := by omega
  have hprod := schoolbook (x / 4294967296) (x % 4294967296) (y / 4294967296) (y % 4294967296)
  rw [back x, back y] at hprod
  have exl := andN x hx
  have eyl := andN y hy
  have exh := high x
  have eyh := high y
  generalize x % 4294967296 = xl at *
  generalize y % 4294967296 = yl at *
  generalize x / 4294967296 = xh at *
  generalize y / 4294967296 = yh at *
  have m1 : xl * yl ≤ 4294967295 * 4294967295 := Nat.mul_le_mul (by omega) (by omega)
  have m2 : xl * yh ≤ 4294967295 * 4294967295 := Nat.mul_le_mul (by omega) (by omega)
  have m3 : xh * yl ≤ 4294967295 * 4294967295 := Nat.mul_le_mul (by omega) (by omega)
  have m4 : xh * yh ≤ 4294967295 * 4294967295 := Nat.mul_le_mul (by omega) (by omega)
  have ell := mulw xl yl (by omega)
  have elh := mulw xl yh (by omega)
  have ehl := mulw xh yl (by omega)
  have ehh := mulw xh yh (by omega)
  have hxy : x * y < 18446744073709551616 * 18446744073709551616 := Nat.mul_lt_mul'' hx hy
  clear hx hy
  generalize hP : x * y = P at *
  generalize xl * yl = ll at *
  generalize xl * yh = lh at *
  generalize xh * yl = hl at *
  generalize xh * yh = hh at *
  refine ⟨xl, xh, yl, yh, ll, lh, hl, ll / 4294967296, lh % 4294967296, hl % 4294967296, ll / 4294967296 + lh % 4294967296 + hl % 4294967296, (ll / 4294967296 + lh % 4294967296 + hl % 4294967296) % 4294967296 * 4294967296, ll % 4294967296, (ll / 4294967296 + lh % 4294967296 + hl % 4294967296) % 4294967296 * 4294967296 + ll % 4294967296, hh, lh / 4294967296, hl / 4294967296, (ll / 4294967296 + lh % 4294967296 + hl % 4294967296) / 4294967296, hh + lh / 4294967296 + hl / 4294967296 + (ll / 4294967296 + lh % 4294967296 + hl % 4294967296) / 4294967296, ?_⟩
  refine ⟨exl, eyl, exh, eyh, ell, elh, ehl, by omega, andN _ (by omega), andN _ (by omega), ?_, wrapS _, andN _ (by omega), orS _ _ (by omega) (by omega), ehh, by omega, by omega, by omega, ?_, by omega, by omega, by omega⟩
  · simp only [IntKind.wrap_u64]; omega
  · simp only [IntKind.wrap_u64]; omega

/-- What the loop keeps: j bits are still to come. -/
def RInv (N z j rem q : Nat) (over : Bool) : Prop := rem = N / 2 ^ j % z ∧ q = N / 2 ^ j / z % 18446744073709551616 ∧ over = decide (18446744073709551616 ≤ N / 2 ^ j / z)

theorem rinv_start (N z : Nat) (hN : N < 2 ^ 128) : RInv N z 128 0 0 false := by
  unfold RInv
  rw [Nat.div_eq_of_lt hN]
  simp

theorem rinv_bit (N i : Nat) : N / 2 ^ i = 2 * (N / 2 ^ (i + 1)) + N / 2 ^ i % 2 := by
  have : N / 2 ^ (i + 1) = N / 2 ^ i / 2 := by rw [Nat.pow_succ, Nat.div_div_eq_div_mul]
  rw [this]; omega

theorem rinv_low {N z i rem q : Nat} {over : Bool} (hz : 0 < z) (h : RInv N z (i + 1) rem q over) (hb : 2 * rem + N / 2 ^ i % 2 < z) :
    RInv N z i (2 * rem + N / 2 ^ i % 2) (2 * q % 18446744073709551616) (over || decide (q / 9223372036854775808 = 1)) := by
  obtain ⟨h1, h2, h3⟩ := h
  have hbit := rinv_bit N i
  have hdm := Nat.div_add_mod (N / 2 ^ (i + 1)) z
  generalize N / 2 ^ (i + 1) = M at *
  generalize N / 2 ^ i % 2 = b at *
  have e : N / 2 ^ i = z * (2 * (M / z)) + (2 * rem + b) := by
    rw [hbit, h1, Nat.mul_left_comm]; omega
  unfold RInv
  rw [e, Nat.mul_add_mod, Nat.mul_add_div hz, Nat.mod_eq_of_lt hb, Nat.div_eq_of_lt hb]
  generalize M / z = Q at *
  refine ⟨rfl, by omega, ?_⟩
  rw [h3, Bool.eq_iff_iff]
  simp only [Bool.or_eq_true, decide_eq_true_eq]
  omega
theorem rinv_high {N z i rem q : Nat} {over : Bool} (hz : 0 < z) (h : RInv N z (i + 1) rem q over) (hb : z ≤ 2 * rem + N / 2 ^ i % 2) :
    RInv N z i (2 * rem + N / 2 ^ i % 2 - z) (2 * q % 18446744073709551616 + 1) (over || decide (q / 9223372036854775808 = 1)) := by
  obtain ⟨h1, h2, h3⟩ := h
  have hbit := rinv_bit N i
  have hb2 : N / 2 ^ i % 2 < 2 := Nat.mod_lt _ (by omega)
  have hdm := Nat.div_add_mod (N / 2 ^ (i + 1)) z
  have hr := Nat.mod_lt (N / 2 ^ (i + 1)) hz
  generalize N / 2 ^ (i + 1) = M at *
  generalize N / 2 ^ i % 2 = b at *
  have hlt : 2 * rem + b - z < z := by omega
  have e : N / 2 ^ i = z * (2 * (M / z) + 1) + (2 * rem + b - z) := by
    rw [hbit, h1, Nat.mul_add, Nat.mul_left_comm]; omega
  unfold RInv
  rw [e, Nat.mul_add_mod, Nat.mul_add_div hz, Nat.mod_eq_of_lt hlt, Nat.div_eq_of_lt hlt]
  generalize M / z = Q at *
  refine ⟨rfl, by omega, ?_⟩
  rw [h3, Bool.eq_iff_iff]
  simp only [Bool.or_eq_true, decide_eq_true_eq]
  omega
theorem RInv.rem_lt {N z j rem q : Nat} {over : Bool} (hz : 0 < z) (h : RInv N z j rem q over) : rem < z := by rw [h.1]; exact Nat.mod_lt _ hz
theorem RInv.q_lt {N z j rem q : Nat} {over : Bool} (h : RInv N z j rem q over) : q < 18446744073709551616 := by rw [h.2.1]; exact Nat.mod_lt _ (by omega)

theorem bit_low (hi lo i : Nat) (hi' : i < 64) : lo / 2 ^ i % 2 = (hi * 18446744073709551616 + lo) / 2 ^ i % 2 := by
  have e : hi * 18446744073709551616 = hi * 2 ^ (63 - i) * 2 * 2 ^ i := by
    rw [Nat.mul_assoc, Nat.mul_assoc]
    congr 1
    rw [← Nat.pow_succ', ← Nat.pow_add, show 63 - i + (i + 1) = 64 by omega]
  rw [e, Nat.add_comm, Nat.add_mul_div_right _ _ (Nat.two_pow_pos i)]
  omega
theorem bit_high (hi lo i : Nat) (hlo : lo < 18446744073709551616) (hi' : 64 ≤ i) : hi / 2 ^ (i - 64) % 2 = (hi * 18446744073709551616 + lo) / 2 ^ i % 2 := by
  have e : (2 : Nat) ^ i = 18446744073709551616 * 2 ^ (i - 64) := by
    rw [show (18446744073709551616 : Nat) = 2 ^ 64 from rfl, ← Nat.pow_add, show 64 + (i - 64) = i by omega]
  rw [e, ← Nat.div_div_eq_div_mul, Nat.add_comm, Nat.add_mul_div_right _ _ (by omega), Nat.div_eq_of_lt hlo, Nat.zero_add]
end Go.Proofs.Ytakcmjigddeapaa
