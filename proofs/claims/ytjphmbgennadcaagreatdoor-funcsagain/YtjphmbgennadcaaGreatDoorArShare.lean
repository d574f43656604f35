/- share: a times b divided by c, towards 0. -/
import Derived.Test.YtjphmbgennadcaaGreatDoorArDiv
namespace Go.Proofs.YtjphmbgennadcaaGreatDoor.Ar
open Go.ChangeShapes Go.WideShapes Go.ChangeAt Go.RowKit

/-- What is an int. -/
def fits (x : Int) : Bool := decide (-9223372036854775808 ≤ x ∧ x ≤ 9223372036854775807)
def neg3 (a b c : Int) : Bool := (decide (a < 0) != decide (b < 0)) != decide (c < 0)
def quo3 (a b c : Int) : Nat := a.natAbs * b.natAbs / c.natAbs
/-- What share gives, whether it is an int or not. -/
def shN (a b c : Int) : Int := if c.natAbs ≤ a.natAbs * b.natAbs / 18446744073709551616 then 0 else if neg3 a b c then wrap64 (IntKind.u64.wrap (-(quo3 a b c : Int))) else wrap64 (quo3 a b c : Int)
/-- a times b divided by c, towards 0. -/
def T3 (a b c : Int) : Int := (a * b).tdiv c

theorem abs_neg {a : Int} (h : a < 0) : a = -(a.natAbs : Int) := by omega
theorem abs_pos {a : Int} (h : ¬ a < 0) : a = (a.natAbs : Int) := by omega
theorem T3_eq (a b c : Int) : T3 a b c = if neg3 a b c then -(quo3 a b c : Int) else (quo3 a b c : Int) := by
  unfold T3 neg3 quo3
  have key : ∀ x y z : Nat, ((x : Int) * (y : Int)).tdiv (z : Int) = ((x * y / z : Nat) : Int) := by
    intro x y z; rw [← Int.natCast_mul]; exact (Int.ofNat_tdiv _ _).symm
  by_cases ha : a < 0 <;> by_cases hb : b < 0 <;> by_cases hc : c < 0
  all_goals
    first | have ea := abs_neg ha | have ea := abs_pos ha
    first | have eb := abs_neg hb | have eb := abs_pos hb
    first | have ec := abs_neg hc | have ec := abs_pos hc
    generalize a.natAbs = x at *
    generalize b.natAbs = y at *
    generalize c.natAbs = z at *
    simp only [ha, hb, hc, decide_true, decide_false]
    rw [ea, eb, ec]
    simp only [Int.neg_mul, Int.mul_neg, Int.neg_tdiv, Int.tdiv_neg, Int.neg_neg, key]
    simp

theorem div_any (hi lo y : Nat) (hlo : lo < 18446744073709551616) (hy : y < 18446744073709551616) (h1 : hi < y) (w : World) :
    Calls Tryz.prog 155 #[.int .u64 hi, .int .u64 lo, .int .u64 y] w fun e w' => (∃ r : Int, e = .returned (.tuple #[.int .u64 (((hi * 18446744073709551616 + lo) / y : Nat) : Int), .int .u64 r])) ∧ Below w.heap.size w w' := by
  rcases Nat.eq_zero_or_pos hi with h | h
  · subst h
    rw [Nat.zero_mul, Nat.zero_add]
    exact div_zero lo y hlo hy h1 w
  · refine (div_more hi lo y hlo hy h h1 w).mono ?_
    rintro e w' ⟨he, rfl⟩
    exact ⟨he, Below.refl _ _⟩

theorem fits_T3 (a b c : Int) : fits (T3 a b c) = if neg3 a b c then decide ((quo3 a b c : Int) ≤ 9223372036854775808) else decide ((quo3 a b c : Int) ≤ 9223372036854775807) := by
  rw [T3_eq]
  unfold fits
  cases neg3 a b c <;> simp <;> omega

theorem wide (a b c : Int) (h0 : c ≠ 0) (h : c.natAbs ≤ a.natAbs * b.natAbs / 18446744073709551616) : fits (T3 a b c) = false := by
  have h2 : 18446744073709551616 ≤ quo3 a b c := by
    unfold quo3
    have h3 := (Nat.le_div_iff_mul_le (by omega)).mp h
    exact (Nat.le_div_iff_mul_le (by omega)).mpr (by rw [Nat.mul_comm]; exact h3)
  rw [fits_T3]
  cases neg3 a b c <;> simp <;> omega

/-- The product's halves and the quotient, by name. -/
theorem share_parts (a b c : Int) (bA : a.natAbs < 18446744073709551616) (bB : b.natAbs < 18446744073709551616) (bC : c.natAbs < 18446744073709551616) :
    ∃ H L : Nat, Hid (H = a.natAbs * b.natAbs / 18446744073709551616) ∧
      (∀ w, Calls Tryz.prog 153 #[.int .u64 a.natAbs, .int .u64 b.natAbs] w fun e w' => e = .returned (.tuple #[.int .u64 (H : Int), .int .u64 (L : Int)]) ∧ w' = w) ∧
      (H < c.natAbs → ∀ w, Calls Tryz.prog 155 #[.int .u64 H, .int .u64 L, .int .u64 c.natAbs] w fun e w' => (∃ r : Int, e = .returned (.tuple #[.int .u64 (quo3 a b c : Int), .int .u64 r])) ∧ Below w.heap.size w w') := by
  refine ⟨_, _, rfl, fun w => Tryz.bits_Mul64 _ _ bA bB w, fun h w => ?_⟩
  have e : a.natAbs * b.natAbs / 18446744073709551616 * 18446744073709551616 + a.natAbs * b.natAbs % 18446744073709551616 = a.natAbs * b.natAbs := by
    rw [Nat.mul_comm]; exact Nat.div_add_mod _ _
  have := div_any _ (a.natAbs * b.natAbs % 18446744073709551616) _ (Nat.mod_lt _ (by omega)) bC h w
  rw [e] at this
  exact this

set_option maxHeartbeats 2000000 in
theorem share_any (a b c : Int) (ha : In a) (hb : In b) (hc : In c) (h0 : c ≠ 0) (w : World) :
    Calls Tryz.prog 140 #[.int .i64 a, .int .i64 b, .int .i64 c] w fun e w' => e = .returned (.tuple #[.int .i64 (shN a b c), .bool (fits (T3 a b c))]) ∧ Below w.heap.size w w' := by
  have bA : a.natAbs < 18446744073709551616 := by unfold In at ha; omega
  have bB : b.natAbs < 18446744073709551616 := by unfold In at hb; omega
  have bC : c.natAbs < 18446744073709551616 := by unfold In at hc; omega
  have hwide := wide a b c h0
  have hfits := fits_T3 a b c
  have hshN : shN a b c = if c.natAbs ≤ a.natAbs * b.natAbs / 18446744073709551616 then 0 else if neg3 a b c then wrap64 (IntKind.u64.wrap (-(quo3 a b c : Int))) else wrap64 (quo3 a b c : Int) := rfl
  obtain ⟨H, L, hH, hmul, hdiv⟩ := share_parts a b c bA bB bC
  rw [← hH.out] at hwide hshN
  generalize hx : quo3 a b c = q at *
  clear bA bB bC hx
  by_cases hw : c.natAbs ≤ H
  · rw [if_pos hw] at hshN
    have hi : ((c.natAbs : Int) ≤ (H : Int)) = True := by simp only [eq_iff_iff, iff_true]; exact Int.ofNat_le.mpr hw
    rw [hshN, hwide hw]
    clear hshN hwide hfits hdiv hw
    go_enter Tryz.func140, Tryz.ntmps140
    go_wp2_with (first
      | (go_at_call 154; refine (size_any _ (by assumption) _).mono ?_; rintro e w' ⟨rfl, rfl⟩)
      | (go_at_call 153; refine (hmul _).mono ?_; rintro e w' ⟨rfl, rfl⟩))
    go_ret2
    exact ⟨rfl, Below.refl _ _⟩
  · rw [if_neg hw] at hshN
    have hi : ((c.natAbs : Int) ≤ (H : Int)) = False := by simp only [eq_iff_iff, iff_false]; exact fun h => hw (Int.ofNat_le.mp h)
    have hd := hdiv (Nat.lt_of_not_le hw)
    rw [hshN, hfits]
    clear hshN hwide hfits hdiv hw
    cases hng : neg3 a b c with
    | true =>
      have hn : (!((!(decide (a < 0) == decide (b < 0))) == decide (c < 0))) = true := hng
      clear hng
      go_enter Tryz.func140, Tryz.ntmps140
      go_wp2_with (first
        | (go_at_call 154; refine (size_any _ (by assumption) _).mono ?_; rintro e w' ⟨rfl, rfl⟩)
        | (go_at_call 153; refine (hmul _).mono ?_; rintro e w' ⟨rfl, rfl⟩)
        | (go_at_call 155; refine (hd _).mono ?_; rintro e w' ⟨⟨r, rfl⟩, hb⟩))
      go_ret2
      exact ⟨rfl, by assumption⟩
    | false =>
      have hn : (!((!(decide (a < 0) == decide (b < 0))) == decide (c < 0))) = false := hng
      clear hng
      go_enter Tryz.func140, Tryz.ntmps140
      go_wp2_with (first
        | (go_at_call 154; refine (size_any _ (by assumption) _).mono ?_; rintro e w' ⟨rfl, rfl⟩)
        | (go_at_call 153; refine (hmul _).mono ?_; rintro e w' ⟨rfl, rfl⟩)
        | (go_at_call 155; refine (hd _).mono ?_; rintro e w' ⟨⟨r, rfl⟩, hb⟩))
      go_ret2
      exact ⟨rfl, by assumption⟩

/-- Where it is an int, it is the quotient. -/
theorem shN_eq (a b c : Int) (h : fits (T3 a b c) = true) : shN a b c = T3 a b c := by
  by_cases hc : c = 0
  · subst hc; simp [shN, T3]
  · have hw : ¬ c.natAbs ≤ a.natAbs * b.natAbs / 18446744073709551616 := by
      intro hw; rw [wide a b c hc hw] at h; exact absurd h (by simp)
    have ht := T3_eq a b c
    rw [fits_T3] at h
    unfold shN
    rw [if_neg hw, ht]
    cases hn : neg3 a b c <;> rw [hn] at h <;> simp at h ⊢ <;> simp only [wrap64, IntKind.wrap_u64] <;> omega
theorem in_of_fits {x : Int} (h : fits x = true) : In x := by simpa [fits, In] using h
theorem fits_of_in {x : Int} (h : In x) : fits x = true := by simpa [fits, In] using h
theorem in_shN (a b c : Int) : In (shN a b c) := by
  unfold shN In
  split
  · omega
  · split <;> simp only [wrap64] <;> omega
end Go.Proofs.YtjphmbgennadcaaGreatDoor.Ar
