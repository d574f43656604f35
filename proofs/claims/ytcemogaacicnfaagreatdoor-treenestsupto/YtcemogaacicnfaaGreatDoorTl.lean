/- The length of a text in quotes (textLength). -/
import Derived.Test.YtcemogaacicnfaaGreatDoorCls
import Derived.Test.YtcemogaacicnfaaGreatDoorQu
import Derived.Deep.DeepCutAuto
namespace Go.Proofs.YtcemogaacicnfaaGreatDoor
open Go.ChangeShapes Go.WideShapes Go.ChangeAt Go.RowKit

/-- A text's length with both ends; 0: it has no end. -/
def txN (l : List UInt8) (i : Nat) : Nat := match quF (l.drop i) with
  | none => 0
  | some p => i + p.2
theorem txN_end {l : List UInt8} {i : Nat} (h : l.length ≤ i) : txN l i = 0 := by
  unfold txN; rw [List.drop_eq_nil_of_le h]; rfl
theorem txN_other {l : List UInt8} {i : Nat} (h : i < l.length) (hc : l[i] ≠ 39) : txN l i = txN l (i + 1) := by
  unfold txN
  rw [List.drop_eq_getElem_cons h]
  cases hd : l.drop (i + 1) with
  | nil =>
    have e : quF [l[i]] = none := by rw [quF, if_neg hc]
    rw [e]; rfl
  | cons d r =>
    rw [quF, if_neg hc]
    cases quF (d :: r) with
    | none => rfl
    | some p => simp only [Option.map_some]; omega
theorem txN_last {l : List UInt8} {i : Nat} (h : i < l.length) (hc : l[i] = 39) (he : i + 1 = l.length) : txN l i = i + 1 := by
  unfold txN
  rw [List.drop_eq_getElem_cons h, List.drop_eq_nil_of_le (by omega), quF, if_pos hc]
theorem txN_quote {l : List UInt8} {i : Nat} (h : i < l.length) (hc : l[i] = 39) (h1 : i + 1 < l.length) (hd : l[i + 1] ≠ 39) : txN l i = i + 1 := by
  unfold txN
  rw [List.drop_eq_getElem_cons h, List.drop_eq_getElem_cons h1, quF, if_pos hc, if_neg hd]
theorem txN_two {l : List UInt8} {i : Nat} (h : i < l.length) (hc : l[i] = 39) (h1 : i + 1 < l.length) (hd : l[i + 1] = 39) : txN l i = txN l (i + 2) := by
  unfold txN
  rw [List.drop_eq_getElem_cons h, List.drop_eq_getElem_cons h1, quF, if_pos hc, if_pos hd]
  cases quF (l.drop (i + 1 + 1)) with
  | none => rfl
  | some p => simp only [Option.map_some]; omega
theorem b39 {x : UInt8} : ((x.toNat : Int) = 39) ↔ x = 39 := by
  constructor
  · intro h; exact UInt8.toNat_inj.1 (by have : (39 : UInt8).toNat = 39 := rfl
                                         omega)
  · rintro rfl; rfl
set_option maxRecDepth 20000 in
set_option maxHeartbeats 4000000 in
theorem textLength_any (l : List UInt8) (w : World) (hl : l.length ≤ 1048576000) : Calls Tryz.prog 156 #[.string (bsA l)] w fun e w' => e = .returned (.int .i64 (txN l 1)) ∧ w' = w := by
  have hz := bsA_size l
  go_enter Tryz.func156, Tryz.ntmps156
  go_wp2
  go_loopw [3] (fun i wr => ∃ m : Nat, 1 ≤ m ∧ m ≤ l.length + 1 ∧ i = .int .i64 m ∧ txN l m = txN l 1 ∧ wr = w) (fun i _ => l.length + 2 - (intOf i).toNat)
  case atStart => exact ⟨1, Nat.le_refl _, by omega, rfl, rfl, rfl⟩
  case round =>
    obtain ⟨m, hm1, hm, rfl, hH, rfl⟩ := hrel
    have HH : Hid _ := hH
    clear hH
    rcases Nat.lt_or_ge m l.length with hlt | hge
    · have hi : m < (bsA l).size := by rw [hz]; exact hlt
      by_cases hc : l[m] = 39
      · have f1 : (((bsA l)[m]'hi).toNat : Int) = 39 := b39.2 hc
        rcases Nat.lt_or_ge (m + 1) l.length with hlt1 | hge1
        · have hi1 : m + 1 < (bsA l).size := by rw [hz]; exact hlt1
          by_cases hd : l[m + 1] = 39
          · have f2 : (((bsA l)[m + 1]'hi1).toNat : Int) = 39 := b39.2 hd
            have HP : Hid _ := (txN_two hlt hc hlt1 hd).symm.trans HH.out
            go_wp2
            refine ⟨⟨m + 2, by omega, by omega, by go_num, HP.out, trivial⟩, ?_⟩
            simp [intOf]; omega
          · have f2 : ¬ (((bsA l)[m + 1]'hi1).toNat : Int) = 39 := fun e => hd (b39.1 e)
            have HP : Hid _ := (txN_quote hlt hc hlt1 hd).symm.trans HH.out
            go_wp2
            · go_ret
              exact ⟨ret_int (by rw [← HP.out]; omega), rfl⟩
            · rename_i hx
              exact absurd (by simpa using hx.2) f2
        · have he : m + 1 = l.length := by omega
          have HP : Hid _ := (txN_last hlt hc he).symm.trans HH.out
          go_wp2
          go_ret
          exact ⟨ret_int (by rw [← HP.out]; omega), rfl⟩
      · have f1 : ¬ (((bsA l)[m]'hi).toNat : Int) = 39 := fun e => hc (b39.1 e)
        have HP : Hid _ := (txN_other hlt hc).symm.trans HH.out
        go_wp2
        refine ⟨⟨m + 1, by omega, by omega, by go_num, HP.out, trivial⟩, ?_⟩
        simp [intOf]; omega
    · go_wp2
      go_ret
      exact ⟨by rw [← HH.out, txN_end hge]; rfl, rfl⟩
end Go.Proofs.YtcemogaacicnfaaGreatDoor
