/- The document's answer: digits as an int (whole), letters made small (small). -/
import Derived.Test.YthhbeejfnpcbhaaGreatDoorRCl
namespace Go.Proofs.YthhbeejfnpcbhaaGreatDoor
open Go.ChangeShapes Go.WideShapes Go.ChangeAt Go.RowKit

theorem val_take {d : List UInt8} {m : Nat} (h : m < d.length) : val (d.take (m + 1)) = 10 * val (d.take m) + (d[m].toNat - 48) := by
  rw [List.take_add_one, List.getElem?_eq_getElem h]
  exact val_snoc _ _
theorem val_mono (d : List UInt8) (m : Nat) : val (d.take m) ≤ val d := by
  have := valA_app (d.take m) (d.drop m)
  rw [List.take_append_drop] at this
  rw [this]
  exact valA_ge _ _
def whR (d : List UInt8) : Int × Bool := if val d ≤ 9223372036854775807 then ((val d : Int), true) else (0, false)
set_option maxRecDepth 20000 in
set_option maxHeartbeats 4000000 in
theorem whole_r (d : List UInt8) (w : World) (hd : Dgs d) (hl : d.length ≤ 1048576000) : Calls Tryz.prog 55 #[.string (bsA d)] w fun e w' => e = .returned (.tuple #[.int .i64 (whR d).1, .bool (whR d).2]) ∧ w' = w := by
  have hz := bsA_size d
  go_enter Tryz.func55, Tryz.ntmps55
  go_wp2
  go_loopw [4, 5] (fun x y wr => ∃ m : Nat, m ≤ d.length ∧ x = .int .i64 (val (d.take m) : Int) ∧ y = .int .i64 m ∧ val (d.take m) ≤ 9223372036854775807 ∧ wr = w) (fun _ y _ => d.length - (intOf y).toNat)
  case atStart => exact ⟨0, Nat.zero_le _, rfl, rfl, by show (0 : Nat) ≤ _; omega, rfl⟩
  case round =>
    obtain ⟨m, hm, rfl, rfl, hv, rfl⟩ := hrel
    rcases Nat.lt_or_ge m d.length with hlt | hge
    · have hi : m < (bsA d).size := by rw [hz]; exact hlt
      have hc := hd d[m] (List.getElem_mem _)
      have hvt := val_take hlt
      have hvm := val_mono d (m + 1)
      have e0 : ((bsA d)[m]'hi) = d[m] := rfl
      generalize val (d.take m) = v at hv hvt ⊢
      generalize d[m] = c at hc hvt e0
      obtain ⟨q, hq⟩ : ∃ q : Nat, c.toNat = q + 48 := ⟨c.toNat - 48, by omega⟩
      have hq9 : q ≤ 9 := by omega
      have hw1 : IntKind.u8.wrap ((c.toNat : Int) - 48) = (q : Int) := by rw [IntKind.wrap_u8]; omega
      have hw2 : Int.tdiv (9223372036854775807 - (q : Int)) 10 = (9223372036854775807 - (q : Int)) / 10 := Int.tdiv_eq_ediv_of_nonneg (by omega)
      by_cases hbig : 10 * v + q ≤ 9223372036854775807
      · have hf : ¬ ((9223372036854775807 - (q : Int)) / 10 < (v : Int)) := by omega
        have HN : Hid (val (d.take (m + 1)) = v * 10 + q) := by show _ = _; rw [hvt]; omega
        clear hvt hvm
        go_wp2
        refine ⟨⟨m + 1, hlt, congrArg (Value.int .i64) (by rw [HN.out]; simp), by go_num, by rw [HN.out]; omega, trivial⟩, ?_⟩
        simp [intOf]; omega
      · have hf : (9223372036854775807 - (q : Int)) / 10 < (v : Int) := by omega
        have HN : Hid (whR d = (0, false)) := by show _ = _; unfold whR; rw [if_neg (by omega)]
        clear hvt hvm
        go_wp2
        go_ret2
        exact ⟨by rw [HN.out]; rfl, rfl⟩
    · have hmn : d.take m = d := List.take_of_length_le hge
      rw [hmn] at hv ⊢
      have HN : Hid (whR d = ((val d : Int), true)) := by show _ = _; unfold whR; rw [if_pos hv]
      go_wp2
      go_ret2
      exact ⟨by rw [HN.out]; rfl, rfl⟩
end Go.Proofs.YthhbeejfnpcbhaaGreatDoor
