/- The document's answer: a period's unit (unit). -/
import Derived.Test.YthhbeejfnpcbhaaGreatDoorRCl
import Derived.Test.YthhbeejfnpcbhaaGreatDoorBk
namespace Go.Proofs.YthhbeejfnpcbhaaGreatDoor
open Go.ChangeShapes Go.WideShapes Go.ChangeAt Go.RowKit

def uL : List (List UInt8 × Int) := [([109, 115], 1), ([115], 1000), ([109], 60000), ([104], 3600000), ([100], 86400000)]
def uAt (m : Nat) : List UInt8 × Int := uL.getD m ([], 0)
def unP (s : List UInt8) : Int × Int := if 0 < msN (s.take (ldN ptB s)) then (((s.take (ldN ptB s)).length : Int), msN (s.take (ldN ptB s))) else (0, 0)
theorem un_in : ∀ m, m < 5 → msN (uAt m).1 = (uAt m).2 ∧ 0 < (uAt m).2 ∧ (∀ c ∈ (uAt m).1, ptB c.toNat = true) ∧ (uAt m).1.length ≤ 2 := by decide
theorem un_out {u : List UInt8} (h : ∀ j, j < 5 → (uAt j).1 ≠ u) : msN u = 0 := by
  have h0 : ([109, 115] : List UInt8) ≠ u := h 0 (by omega)
  have h1 : ([115] : List UInt8) ≠ u := h 1 (by omega)
  have h2 : ([109] : List UInt8) ≠ u := h 2 (by omega)
  have h3 : ([104] : List UInt8) ≠ u := h 3 (by omega)
  have h4 : ([100] : List UInt8) ≠ u := h 4 (by omega)
  unfold msN
  rw [if_neg (Ne.symm h0), if_neg (Ne.symm h1), if_neg (Ne.symm h2), if_neg (Ne.symm h3), if_neg (Ne.symm h4)]
theorem ldN_two {p : Nat → Bool} {l : List UInt8} (h : ∀ c ∈ l, p c.toNat = true) (x : List UInt8) : ldN p (l ++ x) = l.length + ldN p x := by
  unfold ldN
  rw [List.takeWhile_append_of_pos (by simpa using h), List.length_append]
theorem pt_lt {c : Nat} (h : ltB c = true) : ptB c = true := by unfold ptB; rw [h]; rfl
theorem pt_dg {c : Nat} (h : dgB c = true) : ptB c = true := by unfold ptB; rw [h]; simp
theorem pt_no {c : Nat} (h : ltB c = false) (h2 : dgB c = false) : ptB c = false := by unfold ptB; rw [h, h2]; rfl
theorem pre_le {s t : List UInt8} (h : Lib.hasPrefix s t = true) : t.length ≤ s.length := by
  by_cases hl : t.length ≤ s.length
  · exact hl
  · rw [pre_short hl] at h; cases h
theorem pre_split {s t : List UInt8} (h : Lib.hasPrefix s t = true) : ∃ r, s = t ++ r := by
  have hl := pre_le h
  rw [pre_take hl] at h
  refine ⟨s.drop t.length, ?_⟩
  have h := eq_of_beq h
  calc s = s.take t.length ++ s.drop t.length := (List.take_append_drop _ _).symm
    _ = _ := by rw [h]
theorem un_no {s t : List UInt8} (h : Lib.hasPrefix s t = false) : t ≠ s.take (ldN ptB s) := fun e => by
  have hl : t.length ≤ s.length := by rw [e, List.length_take]; omega
  rw [pre_take hl] at h
  have : s.take t.length = t := by
    rw [e, List.length_take, Nat.min_eq_left (ldN_le _ _)]
  rw [this] at h
  simp at h
theorem un_more {s t : List UInt8} (h : Lib.hasPrefix s t = true) (ht : ∀ c ∈ t, ptB c.toNat = true) (hi : t.length < s.length) (hp : ptB (s[t.length]).toNat = true) : t ≠ s.take (ldN ptB s) := fun e => by
  obtain ⟨r, rfl⟩ := pre_split h
  rw [ldN_two ht] at e
  have el := congrArg List.length e
  cases r with
  | nil => simp at hi
  | cons c r =>
    have hc : ptB c.toNat = true := by
      rw [List.getElem_append_right (Nat.le_refl _)] at hp
      simpa using hp
    have h1 := ldN_pos (p := ptB) (l := c :: r) (by simp) hc
    have h2 := ldN_le ptB (c :: r)
    rw [List.length_take, List.length_append] at el
    omega
theorem un_yes {s t : List UInt8} (h : Lib.hasPrefix s t = true) (ht : ∀ c ∈ t, ptB c.toNat = true) (hs : ∀ hi : t.length < s.length, ptB (s[t.length]).toNat = false) : s.take (ldN ptB s) = t := by
  obtain ⟨r, rfl⟩ := pre_split h
  rw [ldN_two ht]
  have : ldN ptB r = 0 := by
    cases r with
    | nil => rfl
    | cons c r =>
      have hc := hs (by simp)
      rw [List.getElem_append_right (Nat.le_refl _)] at hc
      have hc : ptB c.toNat = false := by simpa using hc
      unfold ldN
      rw [List.takeWhile_cons, if_neg (by simp [hc])]
      rfl
  rw [this, Nat.add_zero, List.take_left]
theorem un_ret {s t : List UInt8} {z : Int} (h : s.take (ldN ptB s) = t) (hz : msN t = z) (h0 : 0 < z) : unP s = ((t.length : Int), z) := by
  unfold unP; rw [h, hz, if_pos h0]
theorem un_none {s : List UInt8} (h : ∀ j, j < 5 → (uAt j).1 ≠ s.take (ldN ptB s)) : unP s = (0, 0) := by
  unfold unP; rw [un_out h]; rfl
theorem uO1 (w : World) : ∀ m, m < 5 → ((w.alloc (.cells #[.string ⟨#[109, 115]⟩, .string ⟨#[115]⟩, .string ⟨#[109]⟩, .string ⟨#[104]⟩, .string ⟨#[100]⟩] 9)).alloc (.cells #[.int .i64 1, .int .i64 1000, .int .i64 60000, .int .i64 3600000, .int .i64 86400000] 3)).cell? ⟨w.heap.size, m, none⟩ = some (.string (bsA (uAt m).1)) := by
  intro m hm
  match m, hm with
  | 0, _ => simp [go_sem]; rfl
  | 1, _ => simp [go_sem]; rfl
  | 2, _ => simp [go_sem]; rfl
  | 3, _ => simp [go_sem]; rfl
  | 4, _ => simp [go_sem]; rfl
theorem uO2 (w : World) : ∀ m, m < 5 → ((w.alloc (.cells #[.string ⟨#[109, 115]⟩, .string ⟨#[115]⟩, .string ⟨#[109]⟩, .string ⟨#[104]⟩, .string ⟨#[100]⟩] 9)).alloc (.cells #[.int .i64 1, .int .i64 1000, .int .i64 60000, .int .i64 3600000, .int .i64 86400000] 3)).cell? ⟨w.heap.size + 1, m, none⟩ = some (.int .i64 (uAt m).2) := by
  intro m hm
  match m, hm with
  | 0, _ => simp [go_sem]; rfl
  | 1, _ => simp [go_sem]; rfl
  | 2, _ => simp [go_sem]; rfl
  | 3, _ => simp [go_sem]; rfl
  | 4, _ => simp [go_sem]; rfl
set_option maxRecDepth 20000 in
set_option maxHeartbeats 4000000 in
theorem unit_r (s : List UInt8) (w : World) : Calls Tryz.prog 54 #[.string (bsA s)] w fun e w' => e = .returned (.tuple #[.int .i64 (unP s).1, .int .i64 (unP s).2]) ∧ Below w.heap.size w w' := by
  have hz := bsA_size s
  have HU : Hid _ := @un_none s
  have C1 : Hid _ := uO1 w
  have C2 : Hid _ := uO2 w
  have Hb : Hid (Below w.heap.size w ((w.alloc (.cells #[.string ⟨#[109, 115]⟩, .string ⟨#[115]⟩, .string ⟨#[109]⟩, .string ⟨#[104]⟩, .string ⟨#[100]⟩] 9)).alloc (.cells #[.int .i64 1, .int .i64 1000, .int .i64 60000, .int .i64 3600000, .int .i64 86400000] 3))) := ((Below.refl _ _).alloc (Nat.le_refl _) _).alloc (by simp) _
  go_enter Tryz.func54, Tryz.ntmps54
  go_wp2
  generalize ((w.alloc (.cells #[.string ⟨#[109, 115]⟩, .string ⟨#[115]⟩, .string ⟨#[109]⟩, .string ⟨#[104]⟩, .string ⟨#[100]⟩] 9)).alloc (.cells #[.int .i64 1, .int .i64 1000, .int .i64 60000, .int .i64 3600000, .int .i64 86400000] 3)) = W at C1 C2 Hb ⊢
  go_loopw [6] (fun y wr => ∃ m : Nat, m ≤ 5 ∧ y = .int .i64 m ∧ (∀ j, j < m → (uAt j).1 ≠ s.take (ldN ptB s)) ∧ wr = W) (fun y _ => 5 - (intOf y).toNat)
  case atStart => exact ⟨0, Nat.zero_le _, rfl, fun j hj => absurd hj (Nat.not_lt_zero _), rfl⟩
  case round =>
    obtain ⟨m, hm, rfl, hH, rfl⟩ := hrel
    have HH : Hid _ := hH
    clear hH
    rcases Nat.lt_or_ge m 5 with hlt | hge
    · obtain ⟨i1, i2, i3, i4⟩ := un_in m hlt
      have c1 := C1.out m hlt
      have c2 := C2.out m hlt
      clear C1 C2
      have HS : Hid ((uAt m).1 ≠ s.take (ldN ptB s) → ∀ j, j < m + 1 → (uAt j).1 ≠ s.take (ldN ptB s)) := fun h j hj => by
        by_cases hjm : j < m
        · exact HH.out j hjm
        · obtain rfl : j = m := by omega
          exact h
      clear HH HU
      obtain ⟨t, ht⟩ : ∃ t, (uAt m).1 = t := ⟨_, rfl⟩
      obtain ⟨z, hz2⟩ : ∃ z, (uAt m).2 = z := ⟨_, rfl⟩
      rw [ht] at c1 i1 i3 i4 HS
      rw [hz2] at c2 i1 i2
      clear ht hz2
      have hzt := bsA_size t
      have hp := begins_any s t wr
      have I1 : Hid _ := i1
      have I3 : Hid _ := i3
      clear i1 i3
      cases hq : Lib.hasPrefix s t with
      | false =>
        rw [hq] at hp
        have HX : Hid _ := HS.out (un_no hq)
        clear HS hq I1 I3
        go_wp2_with fail
        refine hp.mono ?_
        rintro e w' ⟨rfl, rfl⟩
        go_wp2
        go_roundw
        case rel => exact ⟨m + 1, hlt, by go_num, HX.out, trivial⟩
        case measure => simp [intOf]; omega
      | true =>
        rw [hq] at hp
        have hle := pre_le hq
        rcases Nat.lt_or_ge t.length s.length with hi | hi
        · have hne : ((s.length : Int) == (t.length : Int)) = false := by rw [beq_eq_false_iff_ne]; omega
          have hii : t.length < (bsA s).size := by rw [hz]; exact hi
          have e0 : ((bsA s)[t.length]'hii) = s[t.length] := rfl
          have h3 := rletter_any (s[t.length]).toNat wr
          have h4 := rdigit_any (s[t.length]).toNat wr
          cases hlt2 : ltB (s[t.length]).toNat with
          | true =>
            rw [hlt2] at h3
            have HX : Hid _ := HS.out (un_more hq I3.out hi (pt_lt hlt2))
            clear HS hq I1 I3 h4
            generalize s[t.length] = c at e0 h3
            clear hlt2
            go_wp2_with fail
            refine hp.mono ?_
            rintro e w' ⟨rfl, rfl⟩
            go_wp2_with fail
            refine h3.mono ?_
            rintro e w' ⟨rfl, rfl⟩
            go_wp2
            go_roundw
            case rel => exact ⟨m + 1, hlt, by go_num, HX.out, trivial⟩
            case measure => simp [intOf]; omega
          | false =>
            rw [hlt2] at h3
            cases hdg : dgB (s[t.length]).toNat with
            | true =>
              rw [hdg] at h4
              have HX : Hid _ := HS.out (un_more hq I3.out hi (pt_dg hdg))
              clear HS hq I1 I3
              generalize s[t.length] = c at e0 h3 h4
              clear hlt2 hdg
              go_wp2_with fail
              refine hp.mono ?_
              rintro e w' ⟨rfl, rfl⟩
              go_wp2_with fail
              refine h3.mono ?_
              rintro e w' ⟨rfl, rfl⟩
              go_wp2_with fail
              refine h4.mono ?_
              rintro e w' ⟨rfl, rfl⟩
              go_wp2
              go_roundw
              case rel => exact ⟨m + 1, hlt, by go_num, HX.out, trivial⟩
              case measure => simp [intOf]; omega
            | false =>
              rw [hdg] at h4
              have HX : Hid _ := un_ret (un_yes hq I3.out (fun _ => pt_no hlt2 hdg)) I1.out i2
              clear HS hq I1 I3
              generalize s[t.length] = c at e0 h3 h4
              clear hlt2 hdg
              go_wp2_with fail
              refine hp.mono ?_
              rintro e w' ⟨rfl, rfl⟩
              go_wp2_with fail
              refine h3.mono ?_
              rintro e w' ⟨rfl, rfl⟩
              go_wp2_with fail
              refine h4.mono ?_
              rintro e w' ⟨rfl, rfl⟩
              go_wp2
              go_quiet (fail)
              go_wp2
              go_ret2
              exact ⟨by rw [HX.out]; rfl, Bel.out (by repeat (first | exact Bel.of Hb.out | refine Bel.drew ?_ | refine Bel.drewN ?_ _))⟩
        · have hne : ((s.length : Int) == (t.length : Int)) = true := by rw [beq_iff_eq]; omega
          have HX : Hid _ := un_ret (un_yes hq I3.out (fun hi => absurd hi (by omega))) I1.out i2
          clear HS hq I1 I3 hi
          go_wp2_with fail
          refine hp.mono ?_
          rintro e w' ⟨rfl, rfl⟩
          go_wp2
          go_quiet (fail)
          go_wp2
          go_ret2
          exact ⟨by rw [HX.out]; rfl, Bel.out (by repeat (first | exact Bel.of Hb.out | refine Bel.drew ?_ | refine Bel.drewN ?_ _))⟩
    · obtain rfl : m = 5 := by omega
      have HX : Hid _ := HU.out HH.out
      clear HH HU
      go_wp2
      go_ret2
      exact ⟨by rw [HX.out]; rfl, Hb.out⟩
end Go.Proofs.YthhbeejfnpcbhaaGreatDoor
