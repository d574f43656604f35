/- The document's answer: past blanks and notes (skip). -/
import Derived.Test.YthhbeejfnpcbhaaGreatDoorRCl
import Derived.Test.YthhbeejfnpcbhaaGreatDoorSf
namespace Go.Proofs.YthhbeejfnpcbhaaGreatDoor
open Go.ChangeShapes Go.WideShapes Go.ChangeAt Go.RowKit

def skR (s : List UInt8) (a : Nat) : Int × Bool := ((a : Int) + (sk (s.drop a)).1, (sk (s.drop a)).2)
theorem skR_step {s : List UInt8} {a k : Nat} (h : stp (s.drop a) = k) (hk : 0 < k) : skR s (a + k) = skR s a := by
  have e := sk_step (l := s.drop a) (by omega)
  rw [h, Int.toNat_natCast, List.drop_drop] at e
  unfold skR
  rw [e]
  simp only [Prod.mk.injEq, and_true]
  omega
theorem skR_stop {s : List UInt8} {a : Nat} (h : stp (s.drop a) = 0) : skR s a = ((a : Int), true) := by
  unfold skR; rw [sk_stop (by omega), h]; simp
theorem skR_bad {s : List UInt8} {a : Nat} (h : stp (s.drop a) = -1) : skR s a = ((a : Int), false) := by
  unfold skR; rw [sk_stop (by omega), h]; simp
theorem skR_end {s : List UInt8} {a : Nat} (h : a = s.length) : skR s a = ((a : Int), true) := by
  subst h
  unfold skR
  rw [List.drop_length]
  simp [sk, skF, stp]
set_option maxRecDepth 20000 in
set_option maxHeartbeats 4000000 in
theorem skip_any (s : List UInt8) (a : Nat) (w : World) (ha : a ≤ s.length) (hl : s.length ≤ 104857600) : Calls Tryz.prog 19 #[.string (bsA s), .int .i64 a] w fun e w' => e = .returned (.tuple #[.int .i64 (skR s a).1, .bool (skR s a).2]) ∧ w' = w := by
  have hz := bsA_size s
  go_enter Tryz.func19, Tryz.ntmps19
  go_wp2
  go_loopw [1] (fun y wr => ∃ m : Nat, m ≤ s.length ∧ y = .int .i64 m ∧ skR s m = skR s a ∧ wr = w) (fun y _ => s.length - (intOf y).toNat)
  case atStart => exact ⟨a, ha, rfl, rfl, rfl⟩
  case round =>
    obtain ⟨m, hm, rfl, hH, rfl⟩ := hrel
    have HH : Hid (skR s m = skR s a) := hH
    clear hH
    rcases Nat.lt_or_ge m s.length with hlt | hge
    · have hi : m < (bsA s).size := by rw [hz]; exact hlt
      have e0 : ((bsA s)[m]'hi) = s[m] := rfl
      have hx : (bsA s).extract m s.length = bsA (s.drop m) := ext_drop' s m
      have hd := List.drop_eq_getElem_cons hlt
      have hlen : (s.drop m).length = s.length - m := List.length_drop ..
      have hp1 := begins_any (s.drop m) [45, 45] wr
      have hp2 := begins_any (s.drop m) [47, 42] wr
      have hf1 := find_any (s.drop m) [10] wr (by omega) (by simp) (by simp)
      have hstep := fun k h hk => (skR_step (s := s) (a := m) (k := k) h hk).trans HH.out
      have hstop := fun h => (skR_stop (s := s) (a := m) h).symm.trans HH.out
      have hbad := fun h => (skR_bad (s := s) (a := m) h).symm.trans HH.out
      have hle := stp_le (s.drop m)
      cases hbl : blB (s[m]).toNat with
      | true =>
        have HP : Hid _ := hstep 1 (by rw [hd]; exact stp_bl hbl _) (by omega)
        have hbl4 : (s[m]).toNat = 9 ∨ (s[m]).toNat = 10 ∨ (s[m]).toNat = 13 ∨ (s[m]).toNat = 32 := by unfold blB at hbl; simpa [or_assoc] using hbl
        generalize s[m] = c at e0 hbl4
        clear hp1 hp2 hf1 hstep hstop hbad hle hd hbl hx
        rcases hbl4 with hc | hc | hc | hc
        all_goals
          go_wp2
          refine ⟨⟨m + 1, hlt, by go_num, HP.out, trivial⟩, ?_⟩
          simp [intOf]; omega
      | false =>
        have hs0 : stp (s.drop m) = if Lib.hasPrefix (s.drop m) [45, 45] then lineN (s.drop m) else if Lib.hasPrefix (s.drop m) [47, 42] then (if noteN (s.drop m) = 0 then -1 else noteN (s.drop m)) else 0 := by
          have hhd : (s.drop m).headD 0 = s[m] := by rw [hd]; rfl
          unfold stp
          rw [if_neg (by intro h; rw [hd] at h; cases h), hhd, if_neg (by rw [hbl]; simp)]
        have n9 : (((s[m]).toNat : Int) == 9) = false := by rw [beq_eq_false_iff_ne]; unfold blB at hbl; simp at hbl; omega
        have n10 : (((s[m]).toNat : Int) == 10) = false := by rw [beq_eq_false_iff_ne]; unfold blB at hbl; simp at hbl; omega
        have n13 : (((s[m]).toNat : Int) == 13) = false := by rw [beq_eq_false_iff_ne]; unfold blB at hbl; simp at hbl; omega
        have n32 : (((s[m]).toNat : Int) == 32) = false := by rw [beq_eq_false_iff_ne]; unfold blB at hbl; simp at hbl; omega
        have hx2 : (bsA s).extract (m + 2) s.length = bsA (s.drop (m + 2)) := ext_drop' s (m + 2)
        have hf2 := find_any (s.drop (m + 2)) [42, 47] wr (by rw [List.length_drop]; omega) (by simp) (by simp)
        have hdd : (s.drop m).drop 2 = s.drop (m + 2) := List.drop_drop ..
        have hend : skR s s.length = ((s.length : Int), true) := skR_end rfl
        change Calls Tryz.prog 32 #[.string (bsA (s.drop m)), .string ⟨#[45, 45]⟩] wr _ at hp1
        change Calls Tryz.prog 32 #[.string (bsA (s.drop m)), .string ⟨#[47, 42]⟩] wr _ at hp2
        change Calls Tryz.prog 33 #[.string (bsA (s.drop m)), .string ⟨#[10]⟩] wr _ at hf1
        change Calls Tryz.prog 33 #[.string (bsA (s.drop (m + 2))), .string ⟨#[42, 47]⟩] wr _ at hf2
        generalize s[m] = c at e0 n9 n10 n13 n32
        clear hd hbl
        cases hq1 : Lib.hasPrefix (s.drop m) [45, 45] with
        | true =>
          rw [hq1] at hp1
          rw [if_pos hq1] at hs0
          obtain ⟨r', hr'⟩ := two_of hq1
          have h2 := lineN_dash r'
          rw [← hr'] at h2
          rw [Lib.index_one] at hf1
          have hge := Lib.indexByte_ge (s.drop m) 10
          unfold lineN at hs0 h2
          clear hp2 hf2 hstop hbad hr' hq1 hdd
          by_cases hix : Lib.indexByte (s.drop m) 10 ≥ 0
          · rw [if_pos hix] at hs0 h2
            obtain ⟨k, hk⟩ : ∃ k : Nat, Lib.indexByte (s.drop m) 10 = k := ⟨_, (Int.toNat_of_nonneg hix).symm⟩
            rw [hk] at hs0 h2 hf1
            have HP : Hid _ := hstep k hs0 (by omega)
            have hkl : m + k ≤ s.length := by rw [hs0] at hle; omega
            clear hstep hle hs0 hix hge hk hend
            go_wp2_with fail
            refine hp1.mono ?_
            rintro e w' ⟨rfl, rfl⟩
            go_wp2_with fail
            refine hf1.mono ?_
            rintro e w' ⟨rfl, rfl⟩
            go_wp2
            refine ⟨⟨m + k, hkl, by go_num, HP.out, trivial⟩, ?_⟩
            simp [intOf]; omega
          · rw [if_neg hix] at hs0
            have hm1 : Lib.indexByte (s.drop m) 10 = -1 := by omega
            rw [hm1] at hf1
            have HP : Hid _ := hstep (s.drop m).length hs0 (by omega)
            rw [hlen, show m + (s.length - m) = s.length by omega, hend] at HP
            clear hstep hle hs0 hix hge hm1 hend h2
            go_wp2_with fail
            refine hp1.mono ?_
            rintro e w' ⟨rfl, rfl⟩
            go_wp2_with fail
            refine hf1.mono ?_
            rintro e w' ⟨rfl, rfl⟩
            go_wp2
            go_ret2
            exact ⟨by rw [← HP.out]; rfl, rfl⟩
        | false =>
          rw [hq1] at hp1
          rw [if_neg (by simp [hq1])] at hs0
          cases hq2 : Lib.hasPrefix (s.drop m) [47, 42] with
          | true =>
            rw [hq2] at hp2
            rw [if_pos hq2] at hs0
            obtain ⟨r', hr'⟩ := two_of hq2
            have h2l : m + 2 ≤ s.length := by have := congrArg List.length hr'; simp at this; omega
            unfold noteN at hs0
            rw [hdd] at hs0
            have hge := Lib.index_ge (s.drop (m + 2)) [42, 47]
            clear hf1 hstop hr' hq2 hq1 hdd hend
            by_cases hix : Lib.index (s.drop (m + 2)) [42, 47] < 0
            · rw [if_pos hix, if_pos rfl] at hs0
              have hm1 : Lib.index (s.drop (m + 2)) [42, 47] = -1 := by omega
              rw [hm1] at hf2
              have HP : Hid _ := hbad hs0
              clear hstep hle hs0 hix hge hm1 hbad
              go_wp2_with fail
              refine hp1.mono ?_
              rintro e w' ⟨rfl, rfl⟩
              go_wp2_with fail
              refine hp2.mono ?_
              rintro e w' ⟨rfl, rfl⟩
              go_wp2_with fail
              refine hf2.mono ?_
              rintro e w' ⟨rfl, rfl⟩
              go_wp2
              go_ret2
              exact ⟨by rw [← HP.out]; rfl, rfl⟩
            · rw [if_neg hix, if_neg (by omega)] at hs0
              obtain ⟨k, hk⟩ : ∃ k : Nat, Lib.index (s.drop (m + 2)) [42, 47] = k := ⟨_, (Int.toNat_of_nonneg (by omega)).symm⟩
              rw [hk] at hs0 hf2
              have HP : Hid _ := hstep (k + 4) (by rw [hs0]; simp; omega) (by omega)
              have hkl : m + (k + 4) ≤ s.length := by rw [hs0] at hle; omega
              clear hstep hle hs0 hix hge hk hbad
              go_wp2_with fail
              refine hp1.mono ?_
              rintro e w' ⟨rfl, rfl⟩
              go_wp2_with fail
              refine hp2.mono ?_
              rintro e w' ⟨rfl, rfl⟩
              go_wp2_with fail
              refine hf2.mono ?_
              rintro e w' ⟨rfl, rfl⟩
              go_wp2
              refine ⟨⟨m + (k + 4), hkl, by go_num, HP.out, trivial⟩, ?_⟩
              simp [intOf]; omega
          | false =>
            rw [hq2] at hp2
            rw [if_neg (by simp [hq2])] at hs0
            have HP : Hid _ := hstop hs0
            clear hstep hle hs0 hbad hf1 hf2 hdd hend hstop
            go_wp2_with fail
            refine hp1.mono ?_
            rintro e w' ⟨rfl, rfl⟩
            go_wp2_with fail
            refine hp2.mono ?_
            rintro e w' ⟨rfl, rfl⟩
            go_wp2
            go_ret2
            exact ⟨by rw [← HP.out]; rfl, rfl⟩
    · have HN : Hid _ := (skR_end (s := s) (a := m) (by omega)).symm.trans HH.out
      have hml : (m : Int) = s.length := by omega
      go_wp2
      go_ret2
      exact ⟨by rw [← HN.out]; rfl, rfl⟩
end Go.Proofs.YthhbeejfnpcbhaaGreatDoor
