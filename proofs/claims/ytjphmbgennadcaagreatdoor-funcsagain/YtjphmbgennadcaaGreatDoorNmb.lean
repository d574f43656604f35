/- The functions of numbers. -/
import Derived.Test.YtjphmbgennadcaaGreatDoorKsf
import Derived.Test.YtjphmbgennadcaaGreatDoorArApi
import Derived.Test.YtjphmbgennadcaaGreatDoorCmp
namespace Go.Proofs.YtjphmbgennadcaaGreatDoor
set_option maxHeartbeats 4000000
set_option linter.unusedSimpArgs false
open Go.ChangeShapes Go.WideShapes Go.ChangeAt Go.RowKit


abbrev I64 (n : Int) : Prop := -9223372036854775808 ≤ n ∧ n ≤ 9223372036854775807
theorem ret_w {a b : Int} (h : a = b) : Ending.returned (.tuple #[.agg #[.int .i64 2, .int .i64 a, .string ⟨#[]⟩], .int .i64 0]) = .returned (.tuple #[.agg #[.int .i64 2, .int .i64 b, .string ⟨#[]⟩], .int .i64 0]) := by rw [h]
theorem ret_ii {a b c d : Int} (h1 : a = c) (h2 : b = d) : Ending.returned (.tuple #[.int .i64 a, .int .i64 b]) = .returned (.tuple #[.int .i64 c, .int .i64 d]) := by rw [h1, h2]
theorem whole_any (n : Int) (w : World) : Calls Tryz.prog 84 #[.int .i64 n] w fun e w' => e = .returned (.tuple #[.agg #[.int .i64 2, .int .i64 n, .string ⟨#[]⟩], .int .i64 0]) ∧ Below w.heap.size w w' := by
  go_enter Tryz.func84, Tryz.ntmps84
  go_wp2
  exact bodyPost_ret (v := .tuple #[.agg #[.int .i64 2, .int .i64 n, .string ⟨#[]⟩], .int .i64 0]) (by simp [results, Tryz.results84, go_sem]) rfl ⟨rfl, (Bel.out (by repeat (first | exact Bel.refl _ | assumption | refine Bel.drew ?_ | refine Bel.drewN ?_ _ | refine Bel.alloc ?_ _ | refine Bel.setCell ?_ (by simp <;> omega) _ | refine Bel.step ?_ (by assumption))))⟩
theorem text10_any (s : ByteArray) (w : World) : Calls Tryz.prog 89 #[.string s] w fun e w' => e = .returned (.tuple #[.agg #[.int .i64 4, .int .i64 0, .string s], .int .i64 0]) ∧ Below w.heap.size w w' := by
  go_enter Tryz.func89, Tryz.ntmps89
  go_wp2
  exact bodyPost_ret (v := .tuple #[.agg #[.int .i64 4, .int .i64 0, .string s], .int .i64 0]) (by simp [results, Tryz.results89, go_sem]) rfl ⟨rfl, (Bel.out (by repeat (first | exact Bel.refl _ | assumption | refine Bel.drew ?_ | refine Bel.drewN ?_ _ | refine Bel.alloc ?_ _ | refine Bel.setCell ?_ (by simp <;> omega) _ | refine Bel.step ?_ (by assumption))))⟩
def cutP (k n : Int) : Int × Int := if k = 2 then (n, 0) else (n.tdiv 10000, n.tmod 10000)
theorem cut_any (k n : Int) (t : ByteArray) (hn : I64 n) (w : World) : Calls Tryz.prog 83 #[.agg #[.int .i64 k, .int .i64 n, .string t]] w fun e w' => e = .returned (.tuple #[.int .i64 (cutP k n).1, .int .i64 (cutP k n).2]) ∧ Below w.heap.size w w' := by
  by_cases h2 : k = 2
  · subst h2
    go_enter Tryz.func83, Tryz.ntmps83
    go_wp2
    go_ret2
    exact ⟨rfl, (Bel.out (by repeat (first | exact Bel.refl _ | assumption | refine Bel.drew ?_ | refine Bel.drewN ?_ _ | refine Bel.alloc ?_ _ | refine Bel.setCell ?_ (by simp <;> omega) _ | refine Bel.step ?_ (by assumption))))⟩
  · have e2 : (k == 2) = false := by simpa using h2
    have HN : Hid (cutP k n = (n.tdiv 10000, n.tmod 10000)) := by show _ = _; unfold cutP; rw [if_neg h2]
    have hq := Ar.tdiv_fits hn
    have hw1 : wrap64 (n.tdiv 10000) = n.tdiv 10000 := Ar.wrap_in hq
    clear h2 hq hn
    go_enter Tryz.func83, Tryz.ntmps83
    go_wp2
    go_quiet (fail)
    go_wp2
    go_ret2
    exact ⟨ret_ii (by rw [HN.out]; first | exact hw1 | rfl) (by rw [HN.out]), (Bel.out (by repeat (first | exact Bel.refl _ | assumption | refine Bel.drew ?_ | refine Bel.drewN ?_ _ | refine Bel.alloc ?_ _ | refine Bel.setCell ?_ (by simp <;> omega) _ | refine Bel.step ?_ (by assumption))))⟩
/-- How far a whole part is from where an int ends. -/
theorem cut_far {k n : Int} (hn : I64 n) : (0 < (cutP k n).2 → (cutP k n).1 ≤ 922337203685477) ∧ ((cutP k n).2 < 0 → -922337203685477 ≤ (cutP k n).1) ∧ -10000 < (cutP k n).2 ∧ (cutP k n).2 < 10000 ∧ -9223372036854775808 ≤ (cutP k n).1 ∧ (cutP k n).1 ≤ 9223372036854775807 := by
  unfold cutP
  by_cases h : k = 2
  · rw [if_pos h]; simp; exact hn
  · rw [if_neg h]
    have := tmod_of n
    rcases tdiv_of n with ⟨h, e⟩ | ⟨h, e⟩
    all_goals simp only; omega
def ceilP (k n : Int) : Int := if 0 < (cutP k n).2 then (cutP k n).1 + 1 else (cutP k n).1
def florP (k n : Int) : Int := if (cutP k n).2 < 0 then (cutP k n).1 - 1 else (cutP k n).1
def rndP (k n : Int) : Int := if 10000 ≤ 2 * (cutP k n).2 then (cutP k n).1 + 1 else if 2 * (cutP k n).2 ≤ -10000 then (cutP k n).1 - 1 else (cutP k n).1
theorem toDec_any (b off cap : Nat) (k n : Int) (t : ByteArray) (w : World) (hn : I64 n) (hc : w.cell? ⟨b, off, none⟩ = some (.int .i64 k) ∧ w.cell? ⟨b, off + 1, none⟩ = some (.int .i64 n) ∧ w.cell? ⟨b, off + 2, none⟩ = some (.string t)) :
    Calls Tryz.prog 60 #[.slice (some ⟨b, off, none⟩) 1 cap] w fun e w' => e = .returned (.tuple #[.agg #[.int .i64 (Ar.decS k n).1, .int .i64 (Ar.decS k n).2.1, .string ⟨#[]⟩], .int .i64 (Ar.decS k n).2.2]) ∧ Below w.heap.size w w' := by
  have hbl := cell_lt hc.1
  obtain ⟨c0, c1, c2⟩ := hc
  have hcall := fun w => Ar.Dec_any k n t hn w
  generalize Ar.decS k n = q at *
  obtain ⟨q1, q2, q3⟩ := q
  go_enter Tryz.func60, Tryz.ntmps60
  go_wp2_with fail
  refine (hcall _).mono ?_
  rintro e w1 ⟨rfl, hb1⟩
  obtain ⟨hc1, hf1⟩ := bcell hb1
  go_wp2
  exact bodyPost_ret (v := .tuple #[.agg #[.int .i64 q1, .int .i64 q2, .string ⟨#[]⟩], .int .i64 q3]) (by simp [results, Tryz.results60, go_sem, hc1]) rfl ⟨rfl, (Bel.out (by repeat (first | exact Bel.refl _ | assumption | refine Bel.drew ?_ | refine Bel.drewN ?_ _ | refine Bel.alloc ?_ _ | refine Bel.setCell ?_ (by simp <;> omega) _ | refine Bel.step ?_ (by assumption))))⟩
theorem toInt_any (b off cap : Nat) (k n : Int) (t : ByteArray) (w : World) (hn : I64 n) (hc : w.cell? ⟨b, off, none⟩ = some (.int .i64 k) ∧ w.cell? ⟨b, off + 1, none⟩ = some (.int .i64 n) ∧ w.cell? ⟨b, off + 2, none⟩ = some (.string t)) :
    Calls Tryz.prog 61 #[.slice (some ⟨b, off, none⟩) 1 cap] w fun e w' => e = .returned (.tuple #[.agg #[.int .i64 (Ar.intS k n).1, .int .i64 (Ar.intS k n).2.1, .string ⟨#[]⟩], .int .i64 (Ar.intS k n).2.2]) ∧ Below w.heap.size w w' := by
  have hbl := cell_lt hc.1
  obtain ⟨c0, c1, c2⟩ := hc
  have hcall := fun w => Ar.Int_any k n t hn w
  generalize Ar.intS k n = q at *
  obtain ⟨q1, q2, q3⟩ := q
  go_enter Tryz.func61, Tryz.ntmps61
  go_wp2_with fail
  refine (hcall _).mono ?_
  rintro e w1 ⟨rfl, hb1⟩
  obtain ⟨hc1, hf1⟩ := bcell hb1
  go_wp2
  exact bodyPost_ret (v := .tuple #[.agg #[.int .i64 q1, .int .i64 q2, .string ⟨#[]⟩], .int .i64 q3]) (by simp [results, Tryz.results61, go_sem, hc1]) rfl ⟨rfl, (Bel.out (by repeat (first | exact Bel.refl _ | assumption | refine Bel.drew ?_ | refine Bel.drewN ?_ _ | refine Bel.alloc ?_ _ | refine Bel.setCell ?_ (by simp <;> omega) _ | refine Bel.step ?_ (by assumption))))⟩
def absP (k n : Int) (t : ByteArray) : Int × Int × ByteArray × Int := if n < 0 then ((Ar.negS k n).1, (Ar.negS k n).2.1, ⟨#[]⟩, (Ar.negS k n).2.2) else (k, n, t, 0)
theorem abs_any (b off cap : Nat) (k n : Int) (t : ByteArray) (w : World) (hn : I64 n) (hc : w.cell? ⟨b, off, none⟩ = some (.int .i64 k) ∧ w.cell? ⟨b, off + 1, none⟩ = some (.int .i64 n) ∧ w.cell? ⟨b, off + 2, none⟩ = some (.string t)) :
    Calls Tryz.prog 42 #[.slice (some ⟨b, off, none⟩) 1 cap] w fun e w' => e = .returned (.tuple #[.agg #[.int .i64 (absP k n t).1, .int .i64 (absP k n t).2.1, .string (absP k n t).2.2.1], .int .i64 (absP k n t).2.2.2]) ∧ Below w.heap.size w w' := by
  have hbl := cell_lt hc.1
  obtain ⟨c0, c1, c2⟩ := hc
  have hcall := fun w => Ar.Neg_any k n t hn w
  generalize hQ : Ar.negS k n = q at *
  have HQ : Hid _ := hQ
  clear hQ
  obtain ⟨q1, q2, q3⟩ := q
  rcases Int.lt_or_le n 0 with h0 | h0
  · have HN : Hid (absP k n t = (q1, q2, ⟨#[]⟩, q3)) := by show _ = _; unfold absP; rw [if_pos h0, HQ.out]
    generalize absP k n t = A at HN ⊢
    obtain rfl := HN.out
    go_enter Tryz.func42, Tryz.ntmps42
    go_wp2_with fail
    refine (hcall _).mono ?_
    rintro e w1 ⟨rfl, hb1⟩
    obtain ⟨hc1, hf1⟩ := bcell hb1
    go_wp2
    exact bodyPost_ret (v := .tuple #[.agg #[.int .i64 q1, .int .i64 q2, .string ⟨#[]⟩], .int .i64 q3]) (by simp [results, Tryz.results42, go_sem, hc1]) rfl ⟨rfl, (Bel.out (by repeat (first | exact Bel.refl _ | assumption | refine Bel.drew ?_ | refine Bel.drewN ?_ _ | refine Bel.alloc ?_ _ | refine Bel.setCell ?_ (by simp <;> omega) _ | refine Bel.step ?_ (by assumption))))⟩
  · have HN : Hid (absP k n t = (k, n, t, 0)) := by show _ = _; unfold absP; rw [if_neg (by omega)]
    generalize absP k n t = A at HN ⊢
    obtain rfl := HN.out
    go_enter Tryz.func42, Tryz.ntmps42
    go_wp2
    exact bodyPost_ret (v := .tuple #[.agg #[.int .i64 k, .int .i64 n, .string t], .int .i64 0]) (by simp [results, Tryz.results42, go_sem]) rfl ⟨rfl, (Bel.out (by repeat (first | exact Bel.refl _ | assumption | refine Bel.drew ?_ | refine Bel.drewN ?_ _ | refine Bel.alloc ?_ _ | refine Bel.setCell ?_ (by simp <;> omega) _ | refine Bel.step ?_ (by assumption))))⟩
theorem sign_any (b off cap : Nat) (k n : Int) (t : ByteArray) (w : World)  (hc : w.cell? ⟨b, off, none⟩ = some (.int .i64 k) ∧ w.cell? ⟨b, off + 1, none⟩ = some (.int .i64 n) ∧ w.cell? ⟨b, off + 2, none⟩ = some (.string t)) :
    Calls Tryz.prog 57 #[.slice (some ⟨b, off, none⟩) 1 cap] w fun e w' => e = .returned (.tuple #[.agg #[.int .i64 2, .int .i64 (Lib.compareInt n 0), .string ⟨#[]⟩], .int .i64 0]) ∧ Below w.heap.size w w' := by
  have hbl := cell_lt hc.1
  obtain ⟨c0, c1, c2⟩ := hc
  have h1 := fun w => Tryz.cmp_Compare_int n 0 w
  generalize Lib.compareInt n 0 = q at *
  have h2 := fun w => whole_any q w
  go_enter Tryz.func57, Tryz.ntmps57
  go_wp2_with fail
  refine (h1 _).mono ?_
  rintro e w1 ⟨rfl, rfl⟩
  go_wp2_with fail
  refine (h2 _).mono ?_
  rintro e w1 ⟨rfl, hb1⟩
  obtain ⟨hc1, hf1⟩ := bcell hb1
  go_wp2
  exact bodyPost_ret (v := .tuple #[.agg #[.int .i64 2, .int .i64 q, .string ⟨#[]⟩], .int .i64 0]) (by simp [results, Tryz.results57, go_sem, hc1]) rfl ⟨rfl, (Bel.out (by repeat (first | exact Bel.refl _ | assumption | refine Bel.drew ?_ | refine Bel.drewN ?_ _ | refine Bel.alloc ?_ _ | refine Bel.setCell ?_ (by simp <;> omega) _ | refine Bel.step ?_ (by assumption))))⟩
theorem ceil_any (b off cap : Nat) (k n : Int) (t : ByteArray) (w : World) (hn : I64 n) (hc : w.cell? ⟨b, off, none⟩ = some (.int .i64 k) ∧ w.cell? ⟨b, off + 1, none⟩ = some (.int .i64 n) ∧ w.cell? ⟨b, off + 2, none⟩ = some (.string t)) :
    Calls Tryz.prog 43 #[.slice (some ⟨b, off, none⟩) 1 cap] w fun e w' => e = .returned (.tuple #[.agg #[.int .i64 2, .int .i64 (ceilP k n), .string ⟨#[]⟩], .int .i64 0]) ∧ Below w.heap.size w w' := by
  have hbl := cell_lt hc.1
  obtain ⟨c0, c1, c2⟩ := hc
  have hcall := fun w => cut_any k n t hn w
  have hfar := cut_far (k := k) hn
  have HP : Hid (ceilP k n = if 0 < (cutP k n).2 then (cutP k n).1 + 1 else (cutP k n).1) := rfl
  generalize ceilP k n = R at HP ⊢
  generalize cutP k n = q at *
  obtain ⟨q, rs⟩ := q
  obtain ⟨f1, f2, f3, f4, f6, f7⟩ := hfar
  dsimp only at HP f1 f2 f3 f4 f6 f7
  rcases Int.lt_or_le 0 rs with h0 | h0
  · have f5 := f1 h0
    have HR : Hid (R = q + 1) := by show _ = _; rw [HP.out, if_pos h0]
    clear f1 f2
    go_enter Tryz.func43, Tryz.ntmps43
    go_wp2_with fail
    refine (hcall _).mono ?_
    rintro e w1 ⟨rfl, hb1⟩
    have hz1 : w.heap.size < w1.heap.size := by have := hb1.size; simp at this; omega
    obtain ⟨hc1, hf1⟩ := bcell hb1
    go_wp2_with fail
    refine (whole_any _ _).mono ?_
    rintro e w2 ⟨rfl, hb2⟩
    have hb3 := hb1.trans (hb2.mono hb1.size)
    obtain ⟨hc2, hf2⟩ := bcell hb3
    clear hc1 hf1
    go_wp2
    exact bodyPost_ret (v := .tuple #[.agg #[.int .i64 2, .int .i64 (q + 1), .string ⟨#[]⟩], .int .i64 0]) (by simp [results, Tryz.results43, go_sem, hc2]) rfl ⟨ret_w HR.out.symm, (Bel.out (by repeat (first | exact Bel.refl _ | assumption | refine Bel.drew ?_ | refine Bel.drewN ?_ _ | refine Bel.alloc ?_ _ | refine Bel.setCell ?_ (by simp <;> omega) _ | refine Bel.step ?_ (by assumption))))⟩
  · have HR : Hid (R = q) := by show _ = _; rw [HP.out, if_neg (by omega)]
    clear f1 f2
    go_enter Tryz.func43, Tryz.ntmps43
    go_wp2_with fail
    refine (hcall _).mono ?_
    rintro e w1 ⟨rfl, hb1⟩
    have hz1 : w.heap.size < w1.heap.size := by have := hb1.size; simp at this; omega
    obtain ⟨hc1, hf1⟩ := bcell hb1
    go_wp2_with fail
    refine (whole_any _ _).mono ?_
    rintro e w2 ⟨rfl, hb2⟩
    have hb3 := hb1.trans (hb2.mono hb1.size)
    obtain ⟨hc2, hf2⟩ := bcell hb3
    clear hc1 hf1
    go_wp2
    exact bodyPost_ret (v := .tuple #[.agg #[.int .i64 2, .int .i64 q, .string ⟨#[]⟩], .int .i64 0]) (by simp [results, Tryz.results43, go_sem, hc2]) rfl ⟨ret_w HR.out.symm, (Bel.out (by repeat (first | exact Bel.refl _ | assumption | refine Bel.drew ?_ | refine Bel.drewN ?_ _ | refine Bel.alloc ?_ _ | refine Bel.setCell ?_ (by simp <;> omega) _ | refine Bel.step ?_ (by assumption))))⟩
theorem floor_any (b off cap : Nat) (k n : Int) (t : ByteArray) (w : World) (hn : I64 n) (hc : w.cell? ⟨b, off, none⟩ = some (.int .i64 k) ∧ w.cell? ⟨b, off + 1, none⟩ = some (.int .i64 n) ∧ w.cell? ⟨b, off + 2, none⟩ = some (.string t)) :
    Calls Tryz.prog 48 #[.slice (some ⟨b, off, none⟩) 1 cap] w fun e w' => e = .returned (.tuple #[.agg #[.int .i64 2, .int .i64 (florP k n), .string ⟨#[]⟩], .int .i64 0]) ∧ Below w.heap.size w w' := by
  have hbl := cell_lt hc.1
  obtain ⟨c0, c1, c2⟩ := hc
  have hcall := fun w => cut_any k n t hn w
  have hfar := cut_far (k := k) hn
  have HP : Hid (florP k n = if (cutP k n).2 < 0 then (cutP k n).1 - 1 else (cutP k n).1) := rfl
  generalize florP k n = R at HP ⊢
  generalize cutP k n = q at *
  obtain ⟨q, rs⟩ := q
  obtain ⟨f1, f2, f3, f4, f6, f7⟩ := hfar
  dsimp only at HP f1 f2 f3 f4 f6 f7
  rcases Int.lt_or_le rs 0 with h0 | h0
  · have f5 := f2 h0
    have HR : Hid (R = q - 1) := by show _ = _; rw [HP.out, if_pos h0]
    clear f1 f2
    go_enter Tryz.func48, Tryz.ntmps48
    go_wp2_with fail
    refine (hcall _).mono ?_
    rintro e w1 ⟨rfl, hb1⟩
    have hz1 : w.heap.size < w1.heap.size := by have := hb1.size; simp at this; omega
    obtain ⟨hc1, hf1⟩ := bcell hb1
    go_wp2_with fail
    refine (whole_any _ _).mono ?_
    rintro e w2 ⟨rfl, hb2⟩
    have hb3 := hb1.trans (hb2.mono hb1.size)
    obtain ⟨hc2, hf2⟩ := bcell hb3
    clear hc1 hf1
    go_wp2
    exact bodyPost_ret (v := .tuple #[.agg #[.int .i64 2, .int .i64 (q - 1), .string ⟨#[]⟩], .int .i64 0]) (by simp [results, Tryz.results48, go_sem, hc2]) rfl ⟨ret_w HR.out.symm, (Bel.out (by repeat (first | exact Bel.refl _ | assumption | refine Bel.drew ?_ | refine Bel.drewN ?_ _ | refine Bel.alloc ?_ _ | refine Bel.setCell ?_ (by simp <;> omega) _ | refine Bel.step ?_ (by assumption))))⟩
  · have HR : Hid (R = q) := by show _ = _; rw [HP.out, if_neg (by omega)]
    clear f1 f2
    go_enter Tryz.func48, Tryz.ntmps48
    go_wp2_with fail
    refine (hcall _).mono ?_
    rintro e w1 ⟨rfl, hb1⟩
    have hz1 : w.heap.size < w1.heap.size := by have := hb1.size; simp at this; omega
    obtain ⟨hc1, hf1⟩ := bcell hb1
    go_wp2_with fail
    refine (whole_any _ _).mono ?_
    rintro e w2 ⟨rfl, hb2⟩
    have hb3 := hb1.trans (hb2.mono hb1.size)
    obtain ⟨hc2, hf2⟩ := bcell hb3
    clear hc1 hf1
    go_wp2
    exact bodyPost_ret (v := .tuple #[.agg #[.int .i64 2, .int .i64 q, .string ⟨#[]⟩], .int .i64 0]) (by simp [results, Tryz.results48, go_sem, hc2]) rfl ⟨ret_w HR.out.symm, (Bel.out (by repeat (first | exact Bel.refl _ | assumption | refine Bel.drew ?_ | refine Bel.drewN ?_ _ | refine Bel.alloc ?_ _ | refine Bel.setCell ?_ (by simp <;> omega) _ | refine Bel.step ?_ (by assumption))))⟩
theorem round_any (b off cap : Nat) (k n : Int) (t : ByteArray) (w : World) (hn : I64 n) (hc : w.cell? ⟨b, off, none⟩ = some (.int .i64 k) ∧ w.cell? ⟨b, off + 1, none⟩ = some (.int .i64 n) ∧ w.cell? ⟨b, off + 2, none⟩ = some (.string t)) :
    Calls Tryz.prog 56 #[.slice (some ⟨b, off, none⟩) 1 cap] w fun e w' => e = .returned (.tuple #[.agg #[.int .i64 2, .int .i64 (rndP k n), .string ⟨#[]⟩], .int .i64 0]) ∧ Below w.heap.size w w' := by
  have hbl := cell_lt hc.1
  obtain ⟨c0, c1, c2⟩ := hc
  have hcall := fun w => cut_any k n t hn w
  have hfar := cut_far (k := k) hn
  have HP : Hid (rndP k n = if 10000 ≤ 2 * (cutP k n).2 then (cutP k n).1 + 1 else if 2 * (cutP k n).2 ≤ -10000 then (cutP k n).1 - 1 else (cutP k n).1) := rfl
  generalize rndP k n = R at HP ⊢
  generalize cutP k n = q at *
  obtain ⟨q, rs⟩ := q
  obtain ⟨f1, f2, f3, f4, f6, f7⟩ := hfar
  dsimp only at HP f1 f2 f3 f4 f6 f7
  rcases Int.lt_or_le (2 * rs) 10000 with h0 | h0
  · rcases Int.lt_or_le (-10000) (2 * rs) with h1 | h1
    · have HR : Hid (R = q) := by show _ = _; rw [HP.out, if_neg (by omega), if_neg (by omega)]
      clear f1 f2
      go_enter Tryz.func56, Tryz.ntmps56
      go_wp2_with fail
      refine (hcall _).mono ?_
      rintro e w1 ⟨rfl, hb1⟩
      have hz1 : w.heap.size < w1.heap.size := by have := hb1.size; simp at this; omega
      obtain ⟨hc1, hf1⟩ := bcell hb1
      go_wp2_with fail
      refine (whole_any _ _).mono ?_
      rintro e w2 ⟨rfl, hb2⟩
      have hb3 := hb1.trans (hb2.mono hb1.size)
      obtain ⟨hc2, hf2⟩ := bcell hb3
      clear hc1 hf1
      go_wp2
      exact bodyPost_ret (v := .tuple #[.agg #[.int .i64 2, .int .i64 q, .string ⟨#[]⟩], .int .i64 0]) (by simp [results, Tryz.results56, go_sem, hc2]) rfl ⟨ret_w HR.out.symm, (Bel.out (by repeat (first | exact Bel.refl _ | assumption | refine Bel.drew ?_ | refine Bel.drewN ?_ _ | refine Bel.alloc ?_ _ | refine Bel.setCell ?_ (by simp <;> omega) _ | refine Bel.step ?_ (by assumption))))⟩
    · have f5 := f2 (by omega)
      have HR : Hid (R = q - 1) := by show _ = _; rw [HP.out, if_neg (by omega), if_pos h1]
      clear f1 f2
      go_enter Tryz.func56, Tryz.ntmps56
      go_wp2_with fail
      refine (hcall _).mono ?_
      rintro e w1 ⟨rfl, hb1⟩
      have hz1 : w.heap.size < w1.heap.size := by have := hb1.size; simp at this; omega
      obtain ⟨hc1, hf1⟩ := bcell hb1
      go_wp2_with fail
      refine (whole_any _ _).mono ?_
      rintro e w2 ⟨rfl, hb2⟩
      have hb3 := hb1.trans (hb2.mono hb1.size)
      obtain ⟨hc2, hf2⟩ := bcell hb3
      clear hc1 hf1
      go_wp2
      exact bodyPost_ret (v := .tuple #[.agg #[.int .i64 2, .int .i64 (q - 1), .string ⟨#[]⟩], .int .i64 0]) (by simp [results, Tryz.results56, go_sem, hc2]) rfl ⟨ret_w HR.out.symm, (Bel.out (by repeat (first | exact Bel.refl _ | assumption | refine Bel.drew ?_ | refine Bel.drewN ?_ _ | refine Bel.alloc ?_ _ | refine Bel.setCell ?_ (by simp <;> omega) _ | refine Bel.step ?_ (by assumption))))⟩
  · have f5 := f1 (by omega)
    have HR : Hid (R = q + 1) := by show _ = _; rw [HP.out, if_pos h0]
    clear f1 f2
    go_enter Tryz.func56, Tryz.ntmps56
    go_wp2_with fail
    refine (hcall _).mono ?_
    rintro e w1 ⟨rfl, hb1⟩
    have hz1 : w.heap.size < w1.heap.size := by have := hb1.size; simp at this; omega
    obtain ⟨hc1, hf1⟩ := bcell hb1
    go_wp2_with fail
    refine (whole_any _ _).mono ?_
    rintro e w2 ⟨rfl, hb2⟩
    have hb3 := hb1.trans (hb2.mono hb1.size)
    obtain ⟨hc2, hf2⟩ := bcell hb3
    clear hc1 hf1
    go_wp2
    exact bodyPost_ret (v := .tuple #[.agg #[.int .i64 2, .int .i64 (q + 1), .string ⟨#[]⟩], .int .i64 0]) (by simp [results, Tryz.results56, go_sem, hc2]) rfl ⟨ret_w HR.out.symm, (Bel.out (by repeat (first | exact Bel.refl _ | assumption | refine Bel.drew ?_ | refine Bel.drewN ?_ _ | refine Bel.alloc ?_ _ | refine Bel.setCell ?_ (by simp <;> omega) _ | refine Bel.step ?_ (by assumption))))⟩
end Go.Proofs.YtjphmbgennadcaaGreatDoor
