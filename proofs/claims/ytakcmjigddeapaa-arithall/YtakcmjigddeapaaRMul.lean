/- The document's own answer: a times b divided by d, bit by bit. -/
import Derived.Test.YtakcmjigddeapaaShare
import Derived.Test.YtakcmjigddeapaaRefMath
namespace Go.Proofs.Ytakcmjigddeapaa
open Go.ChangeShapes Go.WideShapes Go.ChangeAt Go.RowKit

set_option maxHeartbeats 400000 in
theorem refSize_any (n : Int) (hn : In n) (w : World) : Calls Try.prog 50 #[.int .i64 n] w fun e w' => e = .returned (.int .u64 ((n.natAbs : Nat) : Int)) ∧ w' = w := by
  unfold In at hn
  rcases Int.lt_or_le n 0 with h | h
  · go_enter Try.func50, Try.ntmps50
    go_wp2
    go_ret
    exact ⟨by simp [IntKind.wrap_u64]; omega, rfl⟩
  · go_enter Try.func50, Try.ntmps50
    go_wp2
    go_ret
    exact ⟨by simp; omega, rfl⟩

theorem and63 : ∀ i : Fin 128, bits .and .i64 (i.val : Int) 63 = ((i.val % 64 : Nat) : Int) := by decide +kernel
theorem and1 (s : Nat) (h : s < 18446744073709551616) : bits .and .u64 (s : Int) 1 = ((s % 2 : Nat) : Int) := by
  have h := bits_and_u64_nat s 1 h (by omega)
  rw [Nat.and_one_is_mod] at h
  exact h
theorem or1 (a b : Nat) (hb : b < 2) (ha : 2 * a < 18446744073709551616) : bits .or .u64 ((2 * a : Nat) : Int) (b : Int) = ((2 * a + b : Nat) : Int) := by
  rw [bits_or_u64_nat _ _ ha (by omega)]
  have h := Nat.two_pow_add_eq_or_of_lt (i := 1) (show b < 2 ^ 1 from hb) a
  rw [show (2 : Nat) ^ 1 * a = 2 * a from rfl] at h
  rw [← h]

/-- A round's numbers, as the walk calls them. -/
structure Bit (hi lo z rem q i c s1 b1 b q2 r2 r3 t : Nat) : Prop where
  ec : bits .and .i64 (i : Int) 63 = (c : Int)
  ewc : IntKind.u64.wrap (c : Int) = (c : Int)
  es1 : (lo : Int) / 2 ^ min c 64 = (s1 : Int)
  eb1 : bits .and .u64 (s1 : Int) 1 = (b1 : Int)
  eq2 : IntKind.u64.wrap ((q : Int) * 2) = (q2 : Int)
  er2 : IntKind.u64.wrap ((rem : Int) * 2) = (r2 : Int)
  er3 : bits .or .u64 (r2 : Int) (b : Int) = (r3 : Int)
  et : (q : Int) / 9223372036854775808 = (t : Int)
  eq3 : bits .or .u64 (q2 : Int) 1 = ((q2 + 1 : Nat) : Int)
  er4 : z ≤ r3 → IntKind.u64.wrap ((r3 : Int) - (z : Int)) = ((r3 - z : Nat) : Int)
  hq2 : q2 = 2 * q % 18446744073709551616
  hr3 : r3 = 2 * rem + (hi * 18446744073709551616 + lo) / 2 ^ i % 2
  ht : t = q / 9223372036854775808
  hb : i < 64 → b = b1
  hd : 64 ≤ i → ∃ d s2 : Nat, wrap64 ((i : Int) - 64) = (d : Int) ∧ IntKind.u64.wrap (d : Int) = (d : Int) ∧ (hi : Int) / 2 ^ min d 64 = (s2 : Int) ∧ bits .and .u64 (s2 : Int) 1 = (b : Int)
theorem bit_of (hi lo z rem q i : Nat) (hhi : hi < 18446744073709551616) (hlo : lo < 18446744073709551616) (hz : z ≤ 9223372036854775808) (hrem : rem < z) (hi' : i < 128) :
    ∃ c s1 b1 b q2 r2 r3 t, Bit hi lo z rem q i c s1 b1 b q2 r2 r3 t := by
  have hb2 : (hi * 18446744073709551616 + lo) / 2 ^ i % 2 < 2 := Nat.mod_lt _ (by omega)
  have hs1 : lo / 2 ^ (i % 64) < 18446744073709551616 := Nat.lt_of_le_of_lt (Nat.div_le_self _ _) hlo
  have hlow := bit_low hi lo i
  have hhigh := bit_high hi lo i hlo
  have h1 : 2 * q % 18446744073709551616 = 2 * (q % 9223372036854775808) := by omega
  refine ⟨i % 64, lo / 2 ^ (i % 64), lo / 2 ^ (i % 64) % 2, (hi * 18446744073709551616 + lo) / 2 ^ i % 2, 2 * q % 18446744073709551616, 2 * rem, 2 * rem + (hi * 18446744073709551616 + lo) / 2 ^ i % 2, q / 9223372036854775808, ?_⟩
  generalize hbb : (hi * 18446744073709551616 + lo) / 2 ^ i % 2 = b at hb2 hlow hhigh ⊢
  refine ⟨and63 ⟨i, hi'⟩, wrapU _ (by omega), ?_, and1 _ hs1, ?_, ?_, or1 _ _ hb2 (by omega), by omega, ?_, ?_, rfl, by rw [hbb], rfl, ?_, ?_⟩
  · rw [show min (i % 64) 64 = i % 64 by omega]; simp
  · rw [IntKind.wrap_u64]; omega
  · rw [IntKind.wrap_u64]; omega
  · rw [h1]; exact or1 _ 1 (by omega) (by omega)
  · intro h; rw [IntKind.wrap_u64]; omega
  · intro h; rw [← hlow h, show i % 64 = i by omega]
  · intro h
    refine ⟨i - 64, hi / 2 ^ (i - 64), ?_, wrapU _ (by omega), ?_, ?_⟩
    · simp only [wrap64]; omega
    · rw [show min (i - 64) 64 = i - 64 by omega]; simp
    · rw [← hhigh h]; exact and1 _ (Nat.lt_of_le_of_lt (Nat.div_le_self _ _) hhi)

/-- What mulDiv gives. -/
def mdN (a b d : Int) : Int := if fits (T3 a b d) then T3 a b d else 0

set_option maxRecDepth 100000 in
set_option maxHeartbeats 8000000 in
theorem mulDiv_any (a b d : Int) (ha : In a) (hb : In b) (hd : In d) (h0 : d ≠ 0) (w : World) :
    Calls Try.prog 39 #[.int .i64 a, .int .i64 b, .int .i64 d] w fun e w' => e = .returned (.tuple #[.int .i64 (mdN a b d), .bool (fits (T3 a b d))]) ∧ w' = w := by
  have hA : a.natAbs < 18446744073709551616 := by unfold In at ha; omega
  have hB : b.natAbs < 18446744073709551616 := by unfold In at hb; omega
  have hz : d.natAbs ≤ 9223372036854775808 := by unfold In at hd; omega
  have hz0 : 0 < d.natAbs := by omega
  obtain ⟨xl, xh, yl, yh, ll, lh, hl, llh, lhl, hll, mid, ms, lll, lo, hh, lhh, hlh, midh, hi, H⟩ := halves_of a.natAbs b.natAbs hA hB
  have hsA := refSize_any a ha
  have hsB := refSize_any b hb
  have hsD := refSize_any d hd
  generalize hz' : d.natAbs = z at *
  generalize hx' : a.natAbs = x at *
  generalize hy' : b.natAbs = y at *
  have e1 := H.exl; have e2 := H.eyl; have e3 := H.exh; have e4 := H.eyh; have e5 := H.ell; have e6 := H.elh; have e7 := H.ehl; have e8 := H.ellh; have e9 := H.elhl; have e10 := H.ehll; have e11 := H.emid; have e12 := H.ems; have e13 := H.elll; have e14 := H.elo; have e15 := H.ehh; have e16 := H.elhh; have e17 := H.ehlh; have e18 := H.emidh; have e19 := H.ehi
  go_enter Try.func39, Try.ntmps39
  go_wp2_with (first | (go_at_call_of 50 (Value.int .i64 a); refine (hsA _).mono ?_; rintro e w' ⟨rfl, hw⟩; rw [hw]) | (go_at_call_of 50 (Value.int .i64 b); refine (hsB _).mono ?_; rintro e w' ⟨rfl, hw⟩; rw [hw]) | (go_at_call_of 50 (Value.int .i64 d); refine (hsD _).mono ?_; rintro e w' ⟨rfl, hw⟩; rw [hw]))
  clear e1 e2 e3 e4 e5 e6 e7 e8 e9 e10 e11 e12 e13 e14 e15 e16 e17 e18 e19 hsA hsB hsD
  have hN := H.hN; have hhi := H.hhi; have hlo := H.hlo
  have hst : Hid (RInv (hi * 18446744073709551616 + lo) z 128 0 0 false) := rinv_start _ _ (by omega)
  have HN : Hid (hi * 18446744073709551616 + lo = x * y) := hN
  have Hhi : Hid (hi < 18446744073709551616) := hhi
  have Hlo : Hid (lo < 18446744073709551616) := hlo
  have Hz : Hid (z ≤ 9223372036854775808) := hz
  clear hN hhi hlo H hz hA hB
  go_loop [18, 19, 20, 21] (fun s18 s19 s20 s21 => ∃ (j rem q : Nat) (over : Bool), j ≤ 128 ∧ s18 = .int .u64 rem ∧ s19 = .int .u64 q ∧ s20 = .bool over ∧ s21 = .int .i64 ((j : Int) - 1) ∧ RInv (hi * 18446744073709551616 + lo) z j rem q over) (fun _ _ _ s21 => (intOf s21 + 1).toNat)
  case atStart => exact ⟨128, 0, 0, false, by omega, rfl, rfl, rfl, rfl, hst.out⟩
  case round =>
    obtain ⟨j, rem, q, over, hj, rfl, rfl, rfl, rfl, hI⟩ := hrel
    have HI : Hid (RInv (hi * 18446744073709551616 + lo) z j rem q over) := hI
    clear hI
    rcases j with _ | i
    · have hN0 : hi * 18446744073709551616 + lo = x * y := HN.out
      have hI := HI.out
      rw [hN0] at hI
      have hqq : quo3 a b d = x * y / z := by unfold quo3; rw [hx', hy', hz']
      unfold RInv at hI
      rw [Nat.pow_zero, Nat.div_one, ← hqq] at hI
      obtain ⟨_, hq, hov⟩ := hI
      have hF := fits_T3 a b d
      have hT := T3_eq a b d
      have hmd : mdN a b d = if fits (T3 a b d) then T3 a b d else 0 := rfl
      clear hN0 hqq HI HN hst Hhi Hlo Hz hj
      generalize quo3 a b d = Q at *
      have e0 : (((0 : Nat) : Int) - 1) = -1 := rfl
      rw [e0]
      cases over with
      | true =>
        have hQ : 18446744073709551616 ≤ Q := by simpa using hov.symm
        have hfit : fits (T3 a b d) = false := by rw [hF]; split <;> simp <;> omega
        rw [hfit] at hmd
        have HF2 : Hid _ := hfit; have HM : Hid _ := hmd
        clear hov hQ hfit hmd hF hT hq
        go_wp2
        go_ret2
        exact ⟨by rw [HM.out, HF2.out]; rfl, rfl⟩
      | false =>
        have hQ : Q < 18446744073709551616 := by simpa using hov.symm
        have hq' : q = Q := by omega
        subst hq'
        clear hov hq
        rcases Nat.lt_or_ge 9223372036854775808 q with hc | hc
        · have hfit : fits (T3 a b d) = false := by rw [hF]; split <;> simp <;> omega
          rw [hfit] at hmd
          have HF2 : Hid _ := hfit; have HM : Hid _ := hmd
          have hg : ((9223372036854775808 : Int) < (q : Int)) = True := by simp; omega
          clear hQ hfit hmd hF hT hc
          go_wp2
          go_ret2
          exact ⟨by rw [HM.out, HF2.out]; rfl, rfl⟩
        · have hg : ((9223372036854775808 : Int) < (q : Int)) = False := by simp; omega
          cases hng : neg3 a b d with
          | true =>
            have hn : (!((!(decide (a < 0) == decide (b < 0))) == decide (d < 0))) = true := hng
            have hfit : fits (T3 a b d) = true := by rw [hF, hng]; simp; omega
            rw [hfit, hT, hng] at hmd
            have hmd2 : mdN a b d = wrap64 (IntKind.u64.wrap (-(q : Int))) := by
              rw [hmd]; simp only [if_true, wrap64, IntKind.wrap_u64]; omega
            have HF2 : Hid _ := hfit; have HM : Hid _ := hmd2
            by_cases he : q = 9223372036854775808
            · have hz2 : ((q : Int) == 9223372036854775808) = true := by rw [he]; rfl
              clear hQ hfit hmd hmd2 hF hT hc he hng
              go_wp2
              go_ret2
              exact ⟨by rw [HM.out, HF2.out]; rfl, rfl⟩
            · have hz2 : ((q : Int) == 9223372036854775808) = false := by simp; omega
              clear hQ hfit hmd hmd2 hF hT hc he hng
              go_wp2
              go_ret2
              exact ⟨by rw [HM.out, HF2.out]; rfl, rfl⟩
          | false =>
            have hn : (!((!(decide (a < 0) == decide (b < 0))) == decide (d < 0))) = false := hng
            by_cases he : q = 9223372036854775808
            · have hz2 : ((q : Int) == 9223372036854775808) = true := by rw [he]; rfl
              have hfit : fits (T3 a b d) = false := by rw [hF, hng]; simp; omega
              rw [hfit] at hmd
              have HF2 : Hid _ := hfit; have HM : Hid _ := hmd
              clear hQ hfit hmd hF hT hc he hng
              go_wp2
              go_ret2
              exact ⟨by rw [HM.out, HF2.out]; rfl, rfl⟩
            · have hz2 : ((q : Int) == 9223372036854775808) = false := by simp; omega
              have hfit : fits (T3 a b d) = true := by rw [hF, hng]; simp; omega
              rw [hfit, hT, hng] at hmd
              have hmd2 : mdN a b d = wrap64 (q : Int) := by
                rw [hmd]; simp only [Bool.false_eq_true, if_false, if_true, wrap64]; omega
              have HF2 : Hid _ := hfit; have HM : Hid _ := hmd2
              clear hQ hfit hmd hmd2 hF hT hc he hng
              go_wp2
              go_ret2
              exact ⟨by rw [HM.out, HF2.out]; rfl, rfl⟩
    · have ei : ((i + 1 : Nat) : Int) - 1 = (i : Int) := by omega
      rw [ei]
      obtain ⟨c, s1, b1, bb, q2, r2, r3, t, n⟩ := bit_of hi lo z rem q i Hhi.out Hlo.out Hz.out (HI.out.rem_lt hz0) (by omega)
      have g1 := n.ec; have g2 := n.ewc; have g3 := n.es1; have g4 := n.eb1; have g5 := n.eq2; have g6 := n.er2; have g7 := n.er3; have g8 := n.et; have g9 := n.eq3
      have HJ : Hid (i < 128) := (by omega : i < 128)
      have ew : wrap64 ((i : Int) - 1) = (i : Int) - 1 := by simp only [wrap64]; omega
      have HT : Hid (((t : Int) == 1) = (false || decide (q / 9223372036854775808 = 1))) := by
        have ht := n.ht
        show ((t : Int) == 1) = (false || decide (q / 9223372036854775808 = 1))
        rw [← ht, Bool.eq_iff_iff]; simp; omega
      clear ei hj
      rcases Nat.lt_or_ge i 64 with hge | hge
      rotate_left
      · have hg : (64 ≤ (i : Int)) = True := by simp; omega
        obtain ⟨d2, s2, f1, f2, f3, f4⟩ := n.hd hge
        clear hge
        cases over with
        | true =>
          rcases Nat.lt_or_ge r3 z with hr | hr
          · have hri : ((z : Int) ≤ (r3 : Int)) = False := by simp; omega
            have hnew : Hid _ := rinv_low hz0 HI.out (by rw [← n.hr3]; exact hr)
            clear hr
            go_wp2
            go_round
            case rel => exact ⟨i, r3, q2, true, by have := HJ.out; omega, rfl, rfl, rfl, by rw [ew], by have h := hnew.out; rw [← n.hr3, ← n.hq2] at h; rw [Bool.true_or] at h; exact h⟩
            case measure => simp [intOf]; omega
          · have hri : ((z : Int) ≤ (r3 : Int)) = True := by simp; omega
            have er4 := n.er4 hr
            have hnew : Hid _ := rinv_high hz0 HI.out (by rw [← n.hr3]; exact hr)
            generalize hr4 : r3 - z = r4 at *
            generalize hq3 : q2 + 1 = q3 at *
            clear hr
            go_wp2
            go_round
            case rel => exact ⟨i, r4, q3, true, by have := HJ.out; omega, rfl, rfl, rfl, by rw [ew], by have h := hnew.out; rw [← n.hr3, ← n.hq2, hr4, hq3] at h; rw [Bool.true_or] at h; exact h⟩
            case measure => simp [intOf]; omega
        | false =>
          rcases Nat.lt_or_ge r3 z with hr | hr
          · have hri : ((z : Int) ≤ (r3 : Int)) = False := by simp; omega
            have hnew : Hid _ := rinv_low hz0 HI.out (by rw [← n.hr3]; exact hr)
            clear hr
            go_wp2
            go_round
            case rel => exact ⟨i, r3, q2, ((t : Int) == 1), by have := HJ.out; omega, rfl, rfl, rfl, by rw [ew], by have h := hnew.out; rw [← n.hr3, ← n.hq2] at h; rw [HT.out]; exact h⟩
            case measure => simp [intOf]; omega
          · have hri : ((z : Int) ≤ (r3 : Int)) = True := by simp; omega
            have er4 := n.er4 hr
            have hnew : Hid _ := rinv_high hz0 HI.out (by rw [← n.hr3]; exact hr)
            generalize hr4 : r3 - z = r4 at *
            generalize hq3 : q2 + 1 = q3 at *
            clear hr
            go_wp2
            go_round
            case rel => exact ⟨i, r4, q3, ((t : Int) == 1), by have := HJ.out; omega, rfl, rfl, rfl, by rw [ew], by have h := hnew.out; rw [← n.hr3, ← n.hq2, hr4, hq3] at h; rw [HT.out]; exact h⟩
            case measure => simp [intOf]; omega
      · have hg : (64 ≤ (i : Int)) = False := by simp; omega
        have hbb := n.hb hge
        subst hbb
        clear hge
        cases over with
        | true =>
          rcases Nat.lt_or_ge r3 z with hr | hr
          · have hri : ((z : Int) ≤ (r3 : Int)) = False := by simp; omega
            have hnew : Hid _ := rinv_low hz0 HI.out (by rw [← n.hr3]; exact hr)
            clear hr
            go_wp2
            go_round
            case rel => exact ⟨i, r3, q2, true, by have := HJ.out; omega, rfl, rfl, rfl, by rw [ew], by have h := hnew.out; rw [← n.hr3, ← n.hq2] at h; rw [Bool.true_or] at h; exact h⟩
            case measure => simp [intOf]; omega
          · have hri : ((z : Int) ≤ (r3 : Int)) = True := by simp; omega
            have er4 := n.er4 hr
            have hnew : Hid _ := rinv_high hz0 HI.out (by rw [← n.hr3]; exact hr)
            generalize hr4 : r3 - z = r4 at *
            generalize hq3 : q2 + 1 = q3 at *
            clear hr
            go_wp2
            go_round
            case rel => exact ⟨i, r4, q3, true, by have := HJ.out; omega, rfl, rfl, rfl, by rw [ew], by have h := hnew.out; rw [← n.hr3, ← n.hq2, hr4, hq3] at h; rw [Bool.true_or] at h; exact h⟩
            case measure => simp [intOf]; omega
        | false =>
          rcases Nat.lt_or_ge r3 z with hr | hr
          · have hri : ((z : Int) ≤ (r3 : Int)) = False := by simp; omega
            have hnew : Hid _ := rinv_low hz0 HI.out (by rw [← n.hr3]; exact hr)
            clear hr
            go_wp2
            go_round
            case rel => exact ⟨i, r3, q2, ((t : Int) == 1), by have := HJ.out; omega, rfl, rfl, rfl, by rw [ew], by have h := hnew.out; rw [← n.hr3, ← n.hq2] at h; rw [HT.out]; exact h⟩
            case measure => simp [intOf]; omega
          · have hri : ((z : Int) ≤ (r3 : Int)) = True := by simp; omega
            have er4 := n.er4 hr
            have hnew : Hid _ := rinv_high hz0 HI.out (by rw [← n.hr3]; exact hr)
            generalize hr4 : r3 - z = r4 at *
            generalize hq3 : q2 + 1 = q3 at *
            clear hr
            go_wp2
            go_round
            case rel => exact ⟨i, r4, q3, ((t : Int) == 1), by have := HJ.out; omega, rfl, rfl, rfl, by rw [ew], by have h := hnew.out; rw [← n.hr3, ← n.hq2, hr4, hq3] at h; rw [HT.out]; exact h⟩
            case measure => simp [intOf]; omega
end Go.Proofs.Ytakcmjigddeapaa
