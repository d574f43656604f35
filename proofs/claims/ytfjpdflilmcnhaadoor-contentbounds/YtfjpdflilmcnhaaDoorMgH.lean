/- The contracts of the library, laid at this dump: two comparisons. -/
import Derived.Shelf.Small.Strs
import Derived.Shelf.Small.Wraps
import Derived.Shelf.LaysM
import Derived.Test.YtfjpdflilmcnhaaDoorProg
import Derived.Test.YtfjpdflilmcnhaaDoorPik
import Derived.Deep.RegionHeld3
import Derived.Deep.DrawnRows
import Derived.Lib.LaidTab
import Derived.Lib.AppendIntMem
namespace Go.Proofs
open Go.Shelf
def Tryd.lays106_ren : Go.Shelf.Ren := ⟨fun | 106 => 80 | 213 => 95 | 265 => 103 | n => n, fun | 9 => 9 | 3 => 3 | n => n, fun | n => n⟩
theorem Tryd.lays106 : Go.Proofs.Lays.n106 Tryd.prog Tryd.lays106_ren := {
  mixed := by kernel_rfl
  f106 := Tryd.func80.trans (congrArg some (by kernel_rfl))
  f213 := Tryd.func95.trans (congrArg some (by kernel_rfl))
  f265 := Tryd.func103.trans (congrArg some (by kernel_rfl))
  t3 := Tryd.underlying3
  a3 := Tryd.isAgg3
  z3 := Tryd.sizeOf3
  v3 := Tryd.zeroValue3
  t9 := Tryd.underlying9
  a9 := Tryd.isAgg9
  z9 := Tryd.sizeOf9
  v9 := Tryd.zeroValue9 }
open Go.RowKit in
/-- strings.Compare: "Compare returns an integer comparing two strings lexicographically. The result will be 0 if a == b, -1 if a < b, and +1 if a > b.": IT RETURNS 'Lib.compareBytes a b'; the world is as it was. (LAID: no walk: one application.) -/
theorem Tryd.strings_Compare (a b : ByteArray) (w : World) :
    Calls Tryd.prog 80 #[.string a, .string b] w fun e w' => e = .returned (.int .i64 (Lib.compareBytes a.data.toList b.data.toList)) ∧ w' = w := Any.strings_Compare Tryd.lays106 a b w
def Tryd.lays122_ren : Go.Shelf.Ren := ⟨fun | 122 => 69 | 215 => 79 | n => n, fun | 3 => 3 | 4 => 4 | n => n, fun | n => n⟩
theorem Tryd.lays122 : Go.Proofs.Lays.n122 Tryd.prog Tryd.lays122_ren := {
  mixed := by kernel_rfl
  f122 := Tryd.func69.trans (congrArg some (by kernel_rfl))
  f215 := Tryd.func79.trans (congrArg some (by kernel_rfl))
  t3 := Tryd.underlying3
  a3 := Tryd.isAgg3
  z3 := Tryd.sizeOf3
  v3 := Tryd.zeroValue3
  t4 := Tryd.underlying4
  a4 := Tryd.isAgg4
  z4 := Tryd.sizeOf4
  v4 := Tryd.zeroValue4 }
open Go.RowKit in
/-- cmp.Compare at int: "Compare returns -1 if x is less than y, 0 if x equals y, +1 if x is greater than y.": IT RETURNS 'Lib.compareInt x y'; the world is as it was. (LAID: no walk: one application.) -/
theorem Tryd.cmp_Compare_int (x y : Int) (w : World) :
    Calls Tryd.prog 69 #[.int .i64 x, .int .i64 y] w fun e w' => e = .returned (.int .i64 (Lib.compareInt x y)) ∧ w' = w := Any.cmp_Compare_int Tryd.lays122 x y w
end Go.Proofs

/- How two values stand to each other: numbers, Compare and what they call, for any values. -/
namespace Go.Proofs.YtfjpdflilmcnhaaDoor
open Go.ChangeShapes Go.WideShapes Go.ChangeAt Go.RowKit

theorem bcell {W w1 : World} (hb : Below W.heap.size W w1) : (∀ b o, b < W.heap.size → w1.cell? ⟨b, o, none⟩ = W.cell? ⟨b, o, none⟩) ∧ (∀ b o, b < W.heap.size → w1.frozen? ⟨b, o, none⟩ = W.frozen? ⟨b, o, none⟩) :=
  ⟨fun b o h => hb.cell (p := ⟨b, o, none⟩) h, fun b o h => hb.frozen (p := ⟨b, o, none⟩) h⟩

def isNum (k : Int) : Bool := k == 2 || k == 3
/-- A number in ten-thousandths. -/
def sc (k n : Int) : Int := if k = 2 then 10000 * n else n
def cmpB (k k' : Int) : Bool := (isNum k && isNum k') || (k == 4 && k' == 4) || (k == 1 && k' == 1)
def cmpC (k n : Int) (t : ByteArray) (k' n' : Int) (t' : ByteArray) : Int :=
  if isNum k && isNum k' then Lib.compareInt (sc k n) (sc k' n') else if k == 4 && k' == 4 then Lib.compareBytes t.data.toList t'.data.toList else if k == 1 && k' == 1 then Lib.compareInt n n' else 0
def eqT (k n : Int) (t : ByteArray) (k' n' : Int) (t' : ByteArray) : Nat := if k == 0 || k' == 0 then 2 else if cmpB k k' && cmpC k n t k' n' t' == 0 then 1 else 0
theorem cls (k : Int) : (isNum k = true ∧ (k == 4) = false ∧ (k == 1) = false) ∨ (isNum k = false ∧ (k == 4) = true ∧ (k == 1) = false) ∨ (isNum k = false ∧ (k == 4) = false ∧ (k == 1) = true) ∨ (isNum k = false ∧ (k == 4) = false ∧ (k == 1) = false) := by
  by_cases h2 : k = 2
  · subst h2; simp [isNum]
  · by_cases h3 : k = 3
    · subst h3; simp [isNum]
    · by_cases h4 : k = 4
      · subst h4; simp [isNum]
      · by_cases h1 : k = 1
        · subst h1; simp [isNum]
        · simp [isNum, h1, h2, h3, h4]

theorem tdiv_of (x : Int) : (0 ≤ x ∧ x.tdiv 10000 = x / 10000) ∨ (x < 0 ∧ x.tdiv 10000 = -(-x / 10000)) := by
  by_cases h : 0 ≤ x
  · exact .inl ⟨h, Int.tdiv_eq_ediv_of_nonneg h⟩
  · refine .inr ⟨by omega, ?_⟩
    have e : (-(-x)).tdiv 10000 = -((-x).tdiv 10000) := Int.neg_tdiv _ _
    rw [Int.neg_neg] at e
    rw [e, Int.tdiv_eq_ediv_of_nonneg (by omega)]
theorem tmod_of (x : Int) : x.tmod 10000 = x - 10000 * x.tdiv 10000 := by have := Int.tmod_add_mul_tdiv x 10000; omega
theorem cmpI_of {a b c d : Int} (h1 : a < b ↔ c < d) (h2 : b < a ↔ d < c) : Lib.compareInt a b = Lib.compareInt c d := by
  unfold Lib.compareInt
  by_cases x : a < b
  · rw [if_pos x, if_pos (h1.1 x)]
  · rw [if_neg x, if_neg (fun y => x (h1.2 y))]
    by_cases y : a > b
    · rw [if_pos y, if_pos (h2.1 y)]
    · rw [if_neg y, if_neg (fun z => y (h2.2 z))]
/-- Whole parts first, rests then: the numbers themselves. -/
theorem lex_ne {x y : Int} (h : x.tdiv 10000 ≠ y.tdiv 10000) : Lib.compareInt (x.tdiv 10000) (y.tdiv 10000) = Lib.compareInt x y := by
  rcases tdiv_of x with ⟨a, b⟩ | ⟨a, b⟩ <;> rcases tdiv_of y with ⟨c, d⟩ | ⟨c, d⟩ <;> rw [b, d] at h ⊢ <;> apply cmpI_of <;> omega
theorem lex_eq {x y : Int} (h : x.tdiv 10000 = y.tdiv 10000) : Lib.compareInt (x.tmod 10000) (y.tmod 10000) = Lib.compareInt x y := by
  rw [tmod_of, tmod_of, h]; apply cmpI_of <;> omega
theorem sc_tdiv (k n : Int) : (sc k n).tdiv 10000 = if k = 2 then n else n.tdiv 10000 := by
  unfold sc; split
  · rw [Int.mul_comm]; exact Int.mul_tdiv_cancel n (by omega)
  · rfl
theorem sc_tmod (k n : Int) : (sc k n).tmod 10000 = if k = 2 then 0 else n.tmod 10000 := by
  unfold sc; split
  · exact Int.mul_tmod_right 10000 n
  · rfl

set_option maxHeartbeats 400000 in
theorem isNumber_any (k n : Int) (t : ByteArray) (w : World) : Calls Tryd.prog 72 #[.agg #[.int .i64 k, .int .i64 n, .string t]] w fun e w' => e = .returned (.bool (isNum k)) ∧ w' = w.alloc (.cells #[.int .i64 k, .int .i64 n, .string t] 46) := by
  by_cases h2 : k = 2
  · subst h2
    go_enter Tryd.func72, Tryd.ntmps72
    go_wp2
    go_ret
    exact ⟨rfl, rfl⟩
  · have hz : (k == 2) = false := by simpa using h2
    go_enter Tryd.func72, Tryd.ntmps72
    go_wp2
    go_ret
    exact ⟨by simp [isNum, hz], rfl⟩

set_option maxHeartbeats 400000 in
theorem split_any (k n : Int) (t : ByteArray) (w : World) (h1 : -9223372036854775808 ≤ n) (h2 : n ≤ 9223372036854775807) : Calls Tryd.prog 96 #[.agg #[.int .i64 k, .int .i64 n, .string t]] w fun e w' => e = .returned (.tuple #[.int .i64 ((sc k n).tdiv 10000), .int .i64 ((sc k n).tmod 10000)]) ∧ Below w.heap.size w w' := by
  rw [sc_tdiv, sc_tmod]
  by_cases hk : k = 2
  · subst hk
    go_enter Tryd.func96, Tryd.ntmps96
    go_wp2
    go_ret2
    exact ⟨rfl, (Bel.out (by repeat (first | exact Bel.refl _ | refine Bel.drew ?_ | refine Bel.drewN ?_ _ | refine Bel.alloc ?_ _ | refine Bel.setCell ?_ (by simp <;> omega) _ | refine Bel.step ?_ (by assumption))))⟩
  · have hz : (k == 2) = false := by simpa using hk
    rw [if_neg hk, if_neg hk]
    go_enter Tryd.func96, Tryd.ntmps96
    go_wp2
    go_quiet (fail)
    go_wp2
    go_ret2
    exact ⟨rfl, (Bel.out (by repeat (first | exact Bel.refl _ | refine Bel.drew ?_ | refine Bel.drewN ?_ _ | refine Bel.alloc ?_ _ | refine Bel.setCell ?_ (by simp <;> omega) _ | refine Bel.step ?_ (by assumption))))⟩

set_option maxHeartbeats 1000000 in
theorem compareNumbers_any (k n k' n' : Int) (t t' : ByteArray) (w : World) (h1 : -9223372036854775808 ≤ n) (h2 : n ≤ 9223372036854775807) (h3 : -9223372036854775808 ≤ n') (h4 : n' ≤ 9223372036854775807) : Calls Tryd.prog 81 #[.agg #[.int .i64 k, .int .i64 n, .string t], .agg #[.int .i64 k', .int .i64 n', .string t']] w fun e w' => e = .returned (.int .i64 (Lib.compareInt (sc k n) (sc k' n'))) ∧ Below w.heap.size w w' := by
  by_cases hq : (sc k n).tdiv 10000 = (sc k' n').tdiv 10000
  · have HR : Hid (Lib.compareInt ((sc k n).tmod 10000) ((sc k' n').tmod 10000) = Lib.compareInt (sc k n) (sc k' n')) := lex_eq hq
    have hz : ((sc k n).tdiv 10000 != (sc k' n').tdiv 10000) = false := by simpa using hq
    clear hq
    go_enter Tryd.func81, Tryd.ntmps81
    go_wp2_with fail
    refine (split_any k n t _ h1 h2).mono ?_
    rintro e w1 ⟨rfl, hb1⟩
    obtain ⟨hc1, hf1⟩ := bcell hb1
    go_wp2_with fail
    refine (split_any k' n' t' _ h3 h4).mono ?_
    rintro e w2 ⟨rfl, hb2⟩
    go_wp2_with fail
    refine (Tryd.cmp_Compare_int _ _ _).mono ?_
    rintro e w3 ⟨rfl, rfl⟩
    go_wp2
    go_ret
    exact ⟨ret_int HR.out, (Bel.out (by repeat (first | exact Bel.refl _ | refine Bel.drew ?_ | refine Bel.drewN ?_ _ | refine Bel.alloc ?_ _ | refine Bel.setCell ?_ (by simp <;> omega) _ | refine Bel.step ?_ (by assumption))))⟩
  · have HR : Hid (Lib.compareInt ((sc k n).tdiv 10000) ((sc k' n').tdiv 10000) = Lib.compareInt (sc k n) (sc k' n')) := lex_ne hq
    have hz : ((sc k n).tdiv 10000 != (sc k' n').tdiv 10000) = true := by simpa using hq
    clear hq
    go_enter Tryd.func81, Tryd.ntmps81
    go_wp2_with fail
    refine (split_any k n t _ h1 h2).mono ?_
    rintro e w1 ⟨rfl, hb1⟩
    obtain ⟨hc1, hf1⟩ := bcell hb1
    go_wp2_with fail
    refine (split_any k' n' t' _ h3 h4).mono ?_
    rintro e w2 ⟨rfl, hb2⟩
    go_wp2_with fail
    refine (Tryd.cmp_Compare_int _ _ _).mono ?_
    rintro e w3 ⟨rfl, rfl⟩
    go_wp2
    go_ret
    exact ⟨ret_int HR.out, (Bel.out (by repeat (first | exact Bel.refl _ | refine Bel.drew ?_ | refine Bel.drewN ?_ _ | refine Bel.alloc ?_ _ | refine Bel.setCell ?_ (by simp <;> omega) _ | refine Bel.step ?_ (by assumption))))⟩

set_option maxHeartbeats 4000000 in
theorem Compare_any (k n k' n' : Int) (t t' : ByteArray) (w : World) (h1 : -9223372036854775808 ≤ n) (h2 : n ≤ 9223372036854775807) (h3 : -9223372036854775808 ≤ n') (h4 : n' ≤ 9223372036854775807) : Calls Tryd.prog 71 #[.agg #[.int .i64 k, .int .i64 n, .string t], .agg #[.int .i64 k', .int .i64 n', .string t']] w fun e w' => e = .returned (.tuple #[.int .i64 (cmpC k n t k' n' t'), .bool (cmpB k k')]) ∧ Below w.heap.size w w' := by
  unfold cmpC cmpB
  rcases cls k with ⟨a, b, c⟩ | ⟨a, b, c⟩ | ⟨a, b, c⟩ | ⟨a, b, c⟩ <;> rcases cls k' with ⟨a', b', c'⟩ | ⟨a', b', c'⟩ | ⟨a', b', c'⟩ | ⟨a', b', c'⟩
  all_goals simp only [a, b, c, a', b', c', Bool.and_true, Bool.and_false, Bool.or_false, Bool.or_true, if_true, Bool.false_eq_true, if_false]
  all_goals
    go_enter Tryd.func71, Tryd.ntmps71
    go_wp2_with (first | (go_at_call 72; refine (isNumber_any _ _ _ _).mono ?_; rintro e w' ⟨rfl, rfl⟩) | (go_at_call 81; refine (compareNumbers_any _ _ _ _ _ _ _ h1 h2 h3 h4).mono ?_; rintro e w' ⟨rfl, hb⟩) | (go_at_call 80; refine (Tryd.strings_Compare _ _ _).mono ?_; rintro e w' ⟨rfl, rfl⟩) | (go_at_call 69; refine (Tryd.cmp_Compare_int _ _ _).mono ?_; rintro e w' ⟨rfl, rfl⟩))
    go_ret2
    exact ⟨rfl, (Bel.out (by repeat (first | exact Bel.refl _ | refine Bel.drew ?_ | refine Bel.drewN ?_ _ | refine Bel.alloc ?_ _ | refine Bel.setCell ?_ (by simp <;> omega) _ | refine Bel.step ?_ (by assumption))))⟩
end Go.Proofs.YtfjpdflilmcnhaaDoor

/- The order of all values: rank, orderOthers and Order, for any values. -/
namespace Go.Proofs.YtfjpdflilmcnhaaDoor
open Go.ChangeShapes Go.WideShapes Go.ChangeAt Go.RowKit
attribute [local go_sem ↓] Go.wp_at_zero Go.wp_at_succ

/-- The table of ranks. -/
def Ranks (w : World) : Prop := Lib.TabIs Tryd.prog w "marquee/value.ranks" .i64 [0, 1, 2, 2, 3]
theorem tabBelow {w w' : World} {n : String} {k : IntKind} {zs : List Int} (h : Lib.TabIs Tryd.prog w n k zs) (hb : Below w.heap.size w w') : Lib.TabIs Tryd.prog w' n k zs :=
  Lib.tabBelow_of_tabIs h _ hb

theorem keep2 {w wx w' : World} {c0 c1 c2 d0 d1 d2 : Value} (hS : wx.cell? ⟨w.heap.size, 0, none⟩ = some c0 ∧ wx.cell? ⟨w.heap.size, 1, none⟩ = some c1 ∧ wx.cell? ⟨w.heap.size, 2, none⟩ = some c2 ∧ wx.cell? ⟨w.heap.size + 1, 0, none⟩ = some d0 ∧ wx.cell? ⟨w.heap.size + 1, 1, none⟩ = some d1 ∧ wx.cell? ⟨w.heap.size + 1, 2, none⟩ = some d2 ∧ w.heap.size + 2 ≤ wx.heap.size ∧ Below w.heap.size w wx) (hb : Below wx.heap.size wx w') : w'.cell? ⟨w.heap.size, 0, none⟩ = some c0 ∧ w'.cell? ⟨w.heap.size, 1, none⟩ = some c1 ∧ w'.cell? ⟨w.heap.size, 2, none⟩ = some c2 ∧ w'.cell? ⟨w.heap.size + 1, 0, none⟩ = some d0 ∧ w'.cell? ⟨w.heap.size + 1, 1, none⟩ = some d1 ∧ w'.cell? ⟨w.heap.size + 1, 2, none⟩ = some d2 ∧ w.heap.size + 2 ≤ w'.heap.size ∧ Below w.heap.size w w' := by
  obtain ⟨h0, h1, h2, h3, h4, h5, hs, hB⟩ := hS
  refine ⟨?_, ?_, ?_, ?_, ?_, ?_, ?_, hB.trans (hb.mono (by omega))⟩
  · rw [hb.cell (by simp; omega)]; exact h0
  · rw [hb.cell (by simp; omega)]; exact h1
  · rw [hb.cell (by simp; omega)]; exact h2
  · rw [hb.cell (by simp; omega)]; exact h3
  · rw [hb.cell (by simp; omega)]; exact h4
  · rw [hb.cell (by simp; omega)]; exact h5
  · have := hb.size; omega
theorem keep2d {w wx : World} {c0 c1 c2 d0 d1 d2 : Value} (hS : wx.cell? ⟨w.heap.size, 0, none⟩ = some c0 ∧ wx.cell? ⟨w.heap.size, 1, none⟩ = some c1 ∧ wx.cell? ⟨w.heap.size, 2, none⟩ = some c2 ∧ wx.cell? ⟨w.heap.size + 1, 0, none⟩ = some d0 ∧ wx.cell? ⟨w.heap.size + 1, 1, none⟩ = some d1 ∧ wx.cell? ⟨w.heap.size + 1, 2, none⟩ = some d2 ∧ w.heap.size + 2 ≤ wx.heap.size ∧ Below w.heap.size w wx) : wx.drew.cell? ⟨w.heap.size, 0, none⟩ = some c0 ∧ wx.drew.cell? ⟨w.heap.size, 1, none⟩ = some c1 ∧ wx.drew.cell? ⟨w.heap.size, 2, none⟩ = some c2 ∧ wx.drew.cell? ⟨w.heap.size + 1, 0, none⟩ = some d0 ∧ wx.drew.cell? ⟨w.heap.size + 1, 1, none⟩ = some d1 ∧ wx.drew.cell? ⟨w.heap.size + 1, 2, none⟩ = some d2 ∧ w.heap.size + 2 ≤ wx.drew.heap.size ∧ Below w.heap.size w wx.drew :=
  ⟨hS.1, hS.2.1, hS.2.2.1, hS.2.2.2.1, hS.2.2.2.2.1, hS.2.2.2.2.2.1, hS.2.2.2.2.2.2.1, hS.2.2.2.2.2.2.2.drew⟩
theorem boxes2 (w : World) (c0 c1 c2 d0 d1 d2 : Value) : ((w.alloc (.cells #[c0, c1, c2] 46)).alloc (.cells #[d0, d1, d2] 46)).cell? ⟨w.heap.size, 0, none⟩ = some c0 ∧ ((w.alloc (.cells #[c0, c1, c2] 46)).alloc (.cells #[d0, d1, d2] 46)).cell? ⟨w.heap.size, 1, none⟩ = some c1 ∧ ((w.alloc (.cells #[c0, c1, c2] 46)).alloc (.cells #[d0, d1, d2] 46)).cell? ⟨w.heap.size, 2, none⟩ = some c2 ∧ ((w.alloc (.cells #[c0, c1, c2] 46)).alloc (.cells #[d0, d1, d2] 46)).cell? ⟨w.heap.size + 1, 0, none⟩ = some d0 ∧ ((w.alloc (.cells #[c0, c1, c2] 46)).alloc (.cells #[d0, d1, d2] 46)).cell? ⟨w.heap.size + 1, 1, none⟩ = some d1 ∧ ((w.alloc (.cells #[c0, c1, c2] 46)).alloc (.cells #[d0, d1, d2] 46)).cell? ⟨w.heap.size + 1, 2, none⟩ = some d2 ∧ w.heap.size + 2 ≤ ((w.alloc (.cells #[c0, c1, c2] 46)).alloc (.cells #[d0, d1, d2] 46)).heap.size ∧ Below w.heap.size w ((w.alloc (.cells #[c0, c1, c2] 46)).alloc (.cells #[d0, d1, d2] 46)) := by
  refine ⟨by go_simp, by go_simp, by go_simp, by go_simp, by go_simp, by go_simp, by simp, ((Below.refl _ _).alloc (Nat.le_refl _) _).alloc (by simp) _⟩
theorem last2 {w wx : World} {c0 c1 c2 d0 d1 d2 : Value} (hS : wx.cell? ⟨w.heap.size, 0, none⟩ = some c0 ∧ wx.cell? ⟨w.heap.size, 1, none⟩ = some c1 ∧ wx.cell? ⟨w.heap.size, 2, none⟩ = some c2 ∧ wx.cell? ⟨w.heap.size + 1, 0, none⟩ = some d0 ∧ wx.cell? ⟨w.heap.size + 1, 1, none⟩ = some d1 ∧ wx.cell? ⟨w.heap.size + 1, 2, none⟩ = some d2 ∧ w.heap.size + 2 ≤ wx.heap.size ∧ Below w.heap.size w wx) : Below w.heap.size w wx := hS.2.2.2.2.2.2.2

theorem Ranks.below {w w' : World} (h : Ranks w) (hb : Below w.heap.size w w') : Ranks w' := tabBelow h hb
theorem ranks2 {w wx : World} {c0 c1 c2 d0 d1 d2 : Value} (hK : Ranks w) (hS : wx.cell? ⟨w.heap.size, 0, none⟩ = some c0 ∧ wx.cell? ⟨w.heap.size, 1, none⟩ = some c1 ∧ wx.cell? ⟨w.heap.size, 2, none⟩ = some c2 ∧ wx.cell? ⟨w.heap.size + 1, 0, none⟩ = some d0 ∧ wx.cell? ⟨w.heap.size + 1, 1, none⟩ = some d1 ∧ wx.cell? ⟨w.heap.size + 1, 2, none⟩ = some d2 ∧ w.heap.size + 2 ≤ wx.heap.size ∧ Below w.heap.size w wx) : Ranks wx := hK.below (last2 hS)
def rkS (k : Int) : Int := if k = 0 then 0 else if k = 1 then 1 else if k = 2 then 2 else if k = 3 then 2 else if k = 4 then 3 else 4
def othC (k n : Int) (t : ByteArray) (k' n' : Int) (t' : ByteArray) : Int :=
  if k != k' then Lib.compareInt k k' else if n != n' then Lib.compareInt n n' else Lib.compareBytes t.data.toList t'.data.toList
def ordC (k n : Int) (t : ByteArray) (k' n' : Int) (t' : ByteArray) : Int :=
  if rkS k != rkS k' then Lib.compareInt (rkS k) (rkS k') else if rkS k == 4 then othC k n t k' n' t' else if cmpC k n t k' n' t' == 0 && isNum k then Lib.compareInt k k' else cmpC k n t k' n' t'

set_option maxHeartbeats 400000 in
theorem rank_0 (w : World) (hK : Ranks w) : Calls Tryd.prog 68 #[.int .i64 0] w fun e w' => e = .returned (.int .i64 0) ∧ w' = w := by
  have hc : w.cell? ⟨0, 0, none⟩ = some (.int .i64 0) := Lib.TabIs.cell hK (by kernel_rfl) 0 (by decide)
  go_enter Tryd.func68, Tryd.ntmps68
  go_wp2
  go_ret
  exact ⟨rfl, rfl⟩

set_option maxHeartbeats 400000 in
theorem rank_1 (w : World) (hK : Ranks w) : Calls Tryd.prog 68 #[.int .i64 1] w fun e w' => e = .returned (.int .i64 1) ∧ w' = w := by
  have hc : w.cell? ⟨0, 1, none⟩ = some (.int .i64 1) := Lib.TabIs.cell hK (by kernel_rfl) 1 (by decide)
  go_enter Tryd.func68, Tryd.ntmps68
  go_wp2
  go_ret
  exact ⟨rfl, rfl⟩

set_option maxHeartbeats 400000 in
theorem rank_2 (w : World) (hK : Ranks w) : Calls Tryd.prog 68 #[.int .i64 2] w fun e w' => e = .returned (.int .i64 2) ∧ w' = w := by
  have hc : w.cell? ⟨0, 2, none⟩ = some (.int .i64 2) := Lib.TabIs.cell hK (by kernel_rfl) 2 (by decide)
  go_enter Tryd.func68, Tryd.ntmps68
  go_wp2
  go_ret
  exact ⟨rfl, rfl⟩

set_option maxHeartbeats 400000 in
theorem rank_3 (w : World) (hK : Ranks w) : Calls Tryd.prog 68 #[.int .i64 3] w fun e w' => e = .returned (.int .i64 2) ∧ w' = w := by
  have hc : w.cell? ⟨0, 3, none⟩ = some (.int .i64 2) := Lib.TabIs.cell hK (by kernel_rfl) 3 (by decide)
  go_enter Tryd.func68, Tryd.ntmps68
  go_wp2
  go_ret
  exact ⟨rfl, rfl⟩

set_option maxHeartbeats 400000 in
theorem rank_4 (w : World) (hK : Ranks w) : Calls Tryd.prog 68 #[.int .i64 4] w fun e w' => e = .returned (.int .i64 3) ∧ w' = w := by
  have hc : w.cell? ⟨0, 4, none⟩ = some (.int .i64 3) := Lib.TabIs.cell hK (by kernel_rfl) 4 (by decide)
  go_enter Tryd.func68, Tryd.ntmps68
  go_wp2
  go_ret
  exact ⟨rfl, rfl⟩

set_option maxHeartbeats 400000 in
theorem rank_neg (k : Int) (w : World) (h : k < 0) : Calls Tryd.prog 68 #[.int .i64 k] w fun e w' => e = .returned (.int .i64 4) ∧ w' = w := by
  go_enter Tryd.func68, Tryd.ntmps68
  go_wp2
  go_ret
  exact ⟨rfl, rfl⟩

set_option maxHeartbeats 400000 in
theorem rank_big (k : Int) (w : World) (h : 5 ≤ k) : Calls Tryd.prog 68 #[.int .i64 k] w fun e w' => e = .returned (.int .i64 4) ∧ w' = w := by
  have hz : ¬ k < 0 := by omega
  go_enter Tryd.func68, Tryd.ntmps68
  go_wp2
  go_ret
  exact ⟨rfl, rfl⟩

theorem rank_any (k : Int) (w : World) (hK : Ranks w) : Calls Tryd.prog 68 #[.int .i64 k] w fun e w' => e = .returned (.int .i64 (rkS k)) ∧ Below w.heap.size w w' := by
  have fin : ∀ r : Int, (Calls Tryd.prog 68 #[.int .i64 k] w fun e w' => e = .returned (.int .i64 r) ∧ w' = w) → r = rkS k → Calls Tryd.prog 68 #[.int .i64 k] w fun e w' => e = .returned (.int .i64 (rkS k)) ∧ Below w.heap.size w w' := fun r h e => by
    rw [← e]; exact h.mono fun _ _ x => ⟨x.1, by rw [x.2]; exact Below.refl _ _⟩
  by_cases k0 : k = 0
  · subst k0; exact fin _ (rank_0 w hK) rfl
  by_cases k1 : k = 1
  · subst k1; exact fin _ (rank_1 w hK) rfl
  by_cases k2 : k = 2
  · subst k2; exact fin _ (rank_2 w hK) rfl
  by_cases k3 : k = 3
  · subst k3; exact fin _ (rank_3 w hK) rfl
  by_cases k4 : k = 4
  · subst k4; exact fin _ (rank_4 w hK) rfl
  have e : 4 = rkS k := by unfold rkS; simp [k0, k1, k2, k3, k4]
  rcases Int.lt_or_le k 0 with h | h
  · exact fin _ (rank_neg k w h) e
  · exact fin _ (rank_big k w (by omega)) e

set_option maxHeartbeats 1000000 in
theorem orderOthers_any (k n k' n' : Int) (t t' : ByteArray) (w : World) : Calls Tryd.prog 70 #[.agg #[.int .i64 k, .int .i64 n, .string t], .agg #[.int .i64 k', .int .i64 n', .string t']] w fun e w' => e = .returned (.int .i64 (othC k n t k' n' t')) ∧ Below w.heap.size w w' := by
  unfold othC
  generalize ha : (k != k') = a
  generalize hb : (n != n') = b
  cases a <;> cases b
  all_goals simp only [Bool.false_eq_true, if_false, if_true]
  all_goals
    go_enter Tryd.func70, Tryd.ntmps70
    go_wp2_with (first | (go_at_call 69; refine (Tryd.cmp_Compare_int _ _ _).mono ?_; rintro e w' ⟨rfl, rfl⟩) | (go_at_call 80; refine (Tryd.strings_Compare _ _ _).mono ?_; rintro e w' ⟨rfl, rfl⟩))
    go_ret
    exact ⟨rfl, (Bel.out (by repeat (first | exact Bel.refl _ | refine Bel.drew ?_ | refine Bel.drewN ?_ _ | refine Bel.alloc ?_ _ | refine Bel.setCell ?_ (by simp <;> omega) _ | refine Bel.step ?_ (by assumption))))⟩

theorem isNumber_b (k n : Int) (t : ByteArray) (w : World) : Calls Tryd.prog 72 #[.agg #[.int .i64 k, .int .i64 n, .string t]] w fun e w' => e = .returned (.bool (isNum k)) ∧ Below w.heap.size w w' :=
  (isNumber_any k n t w).mono fun e w' h => ⟨h.1, by rw [h.2]; exact (Below.refl _ _).alloc (Nat.le_refl _) _⟩
set_option maxHeartbeats 4000000 in
theorem Order_any (k n k' n' : Int) (t t' : ByteArray) (w : World) (h1 : -9223372036854775808 ≤ n) (h2 : n ≤ 9223372036854775807) (h3 : -9223372036854775808 ≤ n') (h4 : n' ≤ 9223372036854775807) (hK : Ranks w) : Calls Tryd.prog 60 #[.agg #[.int .i64 k, .int .i64 n, .string t], .agg #[.int .i64 k', .int .i64 n', .string t']] w fun e w' => e = .returned (.int .i64 (ordC k n t k' n' t')) ∧ Below w.heap.size w w' := by
  unfold ordC
  generalize ha : (rkS k != rkS k') = a
  generalize hb4 : (rkS k == 4) = b
  generalize hc0 : (cmpC k n t k' n' t' == 0) = c
  generalize hi : isNum k = i
  cases a
  · cases b
    · cases c <;> cases i
      all_goals simp only [Bool.false_eq_true, if_false, if_true, Bool.and_true, Bool.and_false]
      all_goals
        go_enter Tryd.func60, Tryd.ntmps60
        go_wp2_with fail
        go_region_held3 (fun w' => w'.cell? ⟨w.heap.size, 0, none⟩ = some (.int .i64 k) ∧ w'.cell? ⟨w.heap.size, 1, none⟩ = some (.int .i64 n) ∧ w'.cell? ⟨w.heap.size, 2, none⟩ = some (.string t) ∧ w'.cell? ⟨w.heap.size + 1, 0, none⟩ = some (.int .i64 k') ∧ w'.cell? ⟨w.heap.size + 1, 1, none⟩ = some (.int .i64 n') ∧ w'.cell? ⟨w.heap.size + 1, 2, none⟩ = some (.string t') ∧ w.heap.size + 2 ≤ w'.heap.size ∧ Below w.heap.size w w') (first | exact keep2 (by assumption) hb | exact keep2d (boxes2 w _ _ _ _ _ _)) (first | (go_at_call 68; refine (rank_any _ _ ?_).mono ?_; (exact ranks2 hK (by assumption)); rintro e w' ⟨rfl, hb⟩))
        go_wp2_with fail
        refine (Compare_any k n k' n' t t' _ h1 h2 h3 h4).mono ?_
        rintro e w5 ⟨rfl, hb5⟩
        have S5 := keep2 (by assumption) hb5
        go_wp2_with (first | (go_at_call 69; refine (Tryd.cmp_Compare_int _ _ _).mono ?_; rintro e w' ⟨rfl, rfl⟩) | (go_at_call 72; refine (isNumber_b _ _ _ _).mono ?_; rintro e w' ⟨rfl, hb6⟩; have S6 := keep2 S5 hb6))
        go_ret
        exact ⟨rfl, (Bel.out (by repeat (first | exact Bel.refl _ | refine Bel.drew ?_ | refine Bel.drewN ?_ _ | refine Bel.alloc ?_ _ | refine Bel.setCell ?_ (by simp <;> omega) _ | refine Bel.step ?_ (by assumption))))⟩
    · simp only [Bool.false_eq_true, if_false, if_true]
      go_enter Tryd.func60, Tryd.ntmps60
      go_wp2_with fail
      go_region_held3 (fun w' => w'.cell? ⟨w.heap.size, 0, none⟩ = some (.int .i64 k) ∧ w'.cell? ⟨w.heap.size, 1, none⟩ = some (.int .i64 n) ∧ w'.cell? ⟨w.heap.size, 2, none⟩ = some (.string t) ∧ w'.cell? ⟨w.heap.size + 1, 0, none⟩ = some (.int .i64 k') ∧ w'.cell? ⟨w.heap.size + 1, 1, none⟩ = some (.int .i64 n') ∧ w'.cell? ⟨w.heap.size + 1, 2, none⟩ = some (.string t') ∧ w.heap.size + 2 ≤ w'.heap.size ∧ Below w.heap.size w w') (first | exact keep2 (by assumption) hb | exact keep2d (boxes2 w _ _ _ _ _ _)) (first | (go_at_call 68; refine (rank_any _ _ ?_).mono ?_; (exact ranks2 hK (by assumption)); rintro e w' ⟨rfl, hb⟩))
      go_wp2_with (first | (go_at_call 70; refine (orderOthers_any _ _ _ _ _ _ _).mono ?_; rintro e w' ⟨rfl, hb5⟩))
      go_ret
      exact ⟨rfl, (Bel.out (by repeat (first | exact Bel.refl _ | refine Bel.drew ?_ | refine Bel.drewN ?_ _ | refine Bel.alloc ?_ _ | refine Bel.setCell ?_ (by simp <;> omega) _ | refine Bel.step ?_ (by assumption))))⟩
  · simp only [if_true]
    go_enter Tryd.func60, Tryd.ntmps60
    go_wp2_with fail
    go_region_held3 (fun w' => w'.cell? ⟨w.heap.size, 0, none⟩ = some (.int .i64 k) ∧ w'.cell? ⟨w.heap.size, 1, none⟩ = some (.int .i64 n) ∧ w'.cell? ⟨w.heap.size, 2, none⟩ = some (.string t) ∧ w'.cell? ⟨w.heap.size + 1, 0, none⟩ = some (.int .i64 k') ∧ w'.cell? ⟨w.heap.size + 1, 1, none⟩ = some (.int .i64 n') ∧ w'.cell? ⟨w.heap.size + 1, 2, none⟩ = some (.string t') ∧ w.heap.size + 2 ≤ w'.heap.size ∧ Below w.heap.size w w') (first | exact keep2 (by assumption) hb | exact keep2d (boxes2 w _ _ _ _ _ _)) (first | (go_at_call 68; refine (rank_any _ _ ?_).mono ?_; (exact ranks2 hK (by assumption)); rintro e w' ⟨rfl, hb⟩))
    go_wp2_with (go_at_call 69; refine (Tryd.cmp_Compare_int _ _ _).mono ?_; rintro e w' ⟨rfl, rfl⟩)
    go_ret
    exact ⟨rfl, last2 (by assumption)⟩
end Go.Proofs.YtfjpdflilmcnhaaDoor

/- The order of all values: its laws. -/
namespace Go.Proofs.YtfjpdflilmcnhaaDoor

theorem cb_range : ∀ a b : List UInt8, -1 ≤ Lib.compareBytes a b ∧ Lib.compareBytes a b ≤ 1
  | [], [] => by decide
  | [], _ :: _ => by simp [Lib.compareBytes]
  | _ :: _, [] => by simp [Lib.compareBytes]
  | x :: a, y :: b => by
    have := cb_range a b
    unfold Lib.compareBytes
    by_cases h : x < y
    · rw [if_pos h]; omega
    · rw [if_neg h]
      by_cases h' : y < x
      · rw [if_pos h']; omega
      · rw [if_neg h']; exact this
theorem cb_anti : ∀ a b : List UInt8, Lib.compareBytes b a = -Lib.compareBytes a b
  | [], [] => by decide
  | [], _ :: _ => by simp [Lib.compareBytes]
  | _ :: _, [] => by simp [Lib.compareBytes]
  | x :: a, y :: b => by
    have ih := cb_anti a b
    unfold Lib.compareBytes
    by_cases h : x < y
    · have h' : ¬ y < x := fun e => by rw [UInt8.lt_iff_toNat_lt] at h e; omega
      rw [if_pos h, if_neg h', if_pos h]; rfl
    · by_cases h' : y < x
      · rw [if_pos h', if_neg h, if_pos h']
      · rw [if_neg h, if_neg h', if_neg h', if_neg h]; exact ih
theorem cb_refl : ∀ a : List UInt8, Lib.compareBytes a a = 0
  | [] => by decide
  | x :: a => by
    have ih := cb_refl a
    unfold Lib.compareBytes
    have h : ¬ x < x := fun e => by rw [UInt8.lt_iff_toNat_lt] at e; omega
    rw [if_neg h, if_neg h]; exact ih
theorem cb_trans : ∀ a b c : List UInt8, Lib.compareBytes a b ≤ 0 → Lib.compareBytes b c ≤ 0 → Lib.compareBytes a c ≤ 0
  | [], _, [] => fun _ _ => by decide
  | [], _, _ :: _ => fun _ _ => by simp [Lib.compareBytes]
  | _ :: _, [], _ => fun h _ => by simp [Lib.compareBytes] at h
  | _ :: _, _ :: _, [] => fun _ h => by simp [Lib.compareBytes] at h
  | x :: a, y :: b, z :: c => fun h1 h2 => by
    have ih := cb_trans a b c
    unfold Lib.compareBytes at h1 h2 ⊢
    simp only [UInt8.lt_iff_toNat_lt] at h1 h2 ⊢
    by_cases xy : x.toNat < y.toNat
    · by_cases yz : y.toNat < z.toNat
      · rw [if_pos (by omega)]; omega
      · rw [if_neg yz] at h2
        by_cases zy : z.toNat < y.toNat
        · rw [if_pos zy] at h2; omega
        · rw [if_pos (by omega)]; omega
    · rw [if_neg xy] at h1
      by_cases yx : y.toNat < x.toNat
      · rw [if_pos yx] at h1; omega
      · rw [if_neg yx] at h1
        by_cases yz : y.toNat < z.toNat
        · rw [if_pos (by omega)]; omega
        · rw [if_neg yz] at h2
          by_cases zy : z.toNat < y.toNat
          · rw [if_pos zy] at h2; omega
          · rw [if_neg zy] at h2
            rw [if_neg (by omega), if_neg (by omega)]
            exact ih h1 h2

theorem ci_spec (x y : Int) : (x < y ∧ Lib.compareInt x y = -1) ∨ (x = y ∧ Lib.compareInt x y = 0) ∨ (y < x ∧ Lib.compareInt x y = 1) := by
  unfold Lib.compareInt
  by_cases h : x < y
  · rw [if_pos h]; exact .inl ⟨h, rfl⟩
  · by_cases h' : x > y
    · rw [if_neg h, if_pos h']; exact .inr (.inr ⟨h', rfl⟩)
    · rw [if_neg h, if_neg h']; exact .inr (.inl ⟨by omega, rfl⟩)
/-- The first, unless it is nought; then the second. -/
def lex (p q : Int) : Int := if p = 0 then q else p
theorem lex_anti {x y q q' : Int} (h : q' = -q) : lex (Lib.compareInt y x) q' = -lex (Lib.compareInt x y) q := by
  unfold lex
  rcases ci_spec x y with ⟨a, e⟩ | ⟨a, e⟩ | ⟨a, e⟩ <;> rcases ci_spec y x with ⟨a', e'⟩ | ⟨a', e'⟩ | ⟨a', e'⟩ <;> rw [e, e'] <;> first | omega | (simp; done) | (simp; exact h)
theorem lex_range {x y q : Int} (h : -1 ≤ q ∧ q ≤ 1) : -1 ≤ lex (Lib.compareInt x y) q ∧ lex (Lib.compareInt x y) q ≤ 1 := by
  unfold lex
  rcases ci_spec x y with ⟨_, e⟩ | ⟨_, e⟩ | ⟨_, e⟩ <;> rw [e] <;> simp <;> omega
theorem lex_trans {x y z p q r : Int} (h : p ≤ 0 → q ≤ 0 → r ≤ 0) (h1 : lex (Lib.compareInt x y) p ≤ 0) (h2 : lex (Lib.compareInt y z) q ≤ 0) : lex (Lib.compareInt x z) r ≤ 0 := by
  unfold lex at *
  rcases ci_spec x y with ⟨a, e⟩ | ⟨a, e⟩ | ⟨a, e⟩ <;> rcases ci_spec y z with ⟨a', e'⟩ | ⟨a', e'⟩ | ⟨a', e'⟩ <;> rcases ci_spec x z with ⟨a'', e''⟩ | ⟨a'', e''⟩ | ⟨a'', e''⟩ <;> rw [e] at h1 <;> rw [e'] at h2 <;> rw [e''] <;> first | omega | (simp at h1 h2 ⊢; exact h h1 h2) | (simp at h1 h2 ⊢; omega) | simp

/-- What is held against each other, behind the ranks. -/
def keyA (k n : Int) : Int := if k = 1 then n else if k = 2 then sc k n else if k = 3 then sc k n else if k = 0 then 0 else if k = 4 then 0 else k
def keyB (k n : Int) : Int := if k = 2 then k else if k = 3 then k else if k = 0 then 0 else if k = 1 then 0 else if k = 4 then 0 else n
def keyC (k : Int) (t : ByteArray) : List UInt8 := if k = 0 then [] else if k = 1 then [] else if k = 2 then [] else if k = 3 then [] else t.data.toList
theorem kinds (k : Int) : k = 0 ∨ k = 1 ∨ k = 2 ∨ k = 3 ∨ k = 4 ∨ (k ≠ 0 ∧ k ≠ 1 ∧ k ≠ 2 ∧ k ≠ 3 ∧ k ≠ 4) := by omega
theorem lex0 (q : Int) : lex 0 q = q := rfl
theorem ci_self (x : Int) : Lib.compareInt x x = 0 := by rcases ci_spec x x with ⟨a, e⟩ | ⟨a, e⟩ | ⟨a, e⟩ <;> first | exact e | omega
theorem lex_r0 (p : Int) : lex p 0 = p := by unfold lex; split <;> omega
theorem ci_ne {x y : Int} (h : x ≠ y) : Lib.compareInt x y ≠ 0 := by rcases ci_spec x y with ⟨a, e⟩ | ⟨a, e⟩ | ⟨a, e⟩ <;> omega

theorem ord_lex (k n : Int) (t : ByteArray) (k' n' : Int) (t' : ByteArray) :
    ordC k n t k' n' t' = lex (Lib.compareInt (rkS k) (rkS k')) (lex (Lib.compareInt (keyA k n) (keyA k' n')) (lex (Lib.compareInt (keyB k n) (keyB k' n')) (Lib.compareBytes (keyC k t) (keyC k' t')))) := by
  by_cases hr : rkS k = rkS k'
  · have hr' : (rkS k != rkS k') = false := by simpa using hr
    unfold ordC
    rw [hr']
    rw [← hr, ci_self, lex0]
    simp only [Bool.false_eq_true, if_false]
    rcases kinds k with rfl | rfl | rfl | rfl | rfl | ⟨a0, a1, a2, a3, a4⟩ <;> rcases kinds k' with rfl | rfl | rfl | rfl | rfl | ⟨b0, b1, b2, b3, b4⟩
    all_goals first
      | (exfalso; simp [rkS, *] at hr; done)
      | skip
    · simp [rkS, cmpC, keyA, keyB, keyC, isNum, lex, ci_self, Lib.compareBytes]
    · simp [rkS, cmpC, keyA, keyB, keyC, isNum, lex, ci_self, Lib.compareBytes] <;> (split <;> simp_all)
    · simp [rkS, cmpC, keyA, keyB, keyC, isNum, lex, ci_self, Lib.compareBytes]
    · simp [rkS, cmpC, keyA, keyB, keyC, isNum, lex, Lib.compareBytes] <;> (split <;> simp_all)
    · simp [rkS, cmpC, keyA, keyB, keyC, isNum, lex, Lib.compareBytes] <;> (split <;> simp_all)
    · simp [rkS, cmpC, keyA, keyB, keyC, isNum, lex, ci_self, Lib.compareBytes]
    · simp [rkS, cmpC, keyA, keyB, keyC, isNum, lex, ci_self]
    · have e4 : rkS k = 4 := by simp [rkS, *]
      rw [e4]
      have eA : keyA k n = k := by simp [keyA, *]
      have eA' : keyA k' n' = k' := by simp [keyA, *]
      have eB : keyB k n = n := by simp [keyB, *]
      have eB' : keyB k' n' = n' := by simp [keyB, *]
      have eC : keyC k t = t.data.toList := by simp [keyC, *]
      have eC' : keyC k' t' = t'.data.toList := by simp [keyC, *]
      rw [eA, eA', eB, eB', eC, eC']
      simp only [beq_self_eq_true, if_true, othC]
      by_cases h1 : k = k'
      · subst h1
        rw [ci_self, lex0]
        simp only [bne_self_eq_false, Bool.false_eq_true, if_false]
        by_cases h2 : n = n'
        · subst h2
          rw [ci_self, lex0]
          simp
        · have : (n != n') = true := by simpa using h2
          rw [this, if_pos rfl, lex, if_neg (ci_ne h2)]
      · have : (k != k') = true := by simpa using h1
        rw [this, if_pos rfl, lex, if_neg (ci_ne h1)]
  · have hr' : (rkS k != rkS k') = true := by simpa using hr
    unfold ordC
    rw [hr', if_pos rfl, lex, if_neg (ci_ne hr)]

theorem ord_range (k n : Int) (t : ByteArray) (k' n' : Int) (t' : ByteArray) : -1 ≤ ordC k n t k' n' t' ∧ ordC k n t k' n' t' ≤ 1 := by
  rw [ord_lex]; exact lex_range (lex_range (lex_range (cb_range _ _)))
theorem ord_anti (k n : Int) (t : ByteArray) (k' n' : Int) (t' : ByteArray) : ordC k' n' t' k n t = -ordC k n t k' n' t' := by
  rw [ord_lex, ord_lex]; exact lex_anti (lex_anti (lex_anti (cb_anti _ _)))
theorem ord_refl (k n : Int) (t : ByteArray) : ordC k n t k n t = 0 := by
  have := ord_anti k n t k n t; omega
theorem ord_trans {k n : Int} {t : ByteArray} {k' n' : Int} {t' : ByteArray} {k'' n'' : Int} {t'' : ByteArray} (h1 : ordC k n t k' n' t' ≤ 0) (h2 : ordC k' n' t' k'' n'' t'' ≤ 0) : ordC k n t k'' n'' t'' ≤ 0 := by
  rw [ord_lex] at h1 h2 ⊢
  exact lex_trans (lex_trans (lex_trans (cb_trans _ _ _))) h1 h2
end Go.Proofs.YtfjpdflilmcnhaaDoor
