/- Add. -/
import Derived.Test.YtbfodpmlmhkikaaDoorPut
import Derived.Test.YtbfodpmlmhkikaaDoorMay
namespace Go.Proofs.YtbfodpmlmhkikaaDoor
open Go.ChangeShapes Go.WideShapes Go.ChangeAt Go.RowKit
open Go.ChangeMaps (setBlock)

def mayV (v : Val) : Bool := mayS v.1 v.2.1 v.2.2
def mayR (r : List Val) : Bool := r.all mayV
theorem mayR_drop {r : List Val} {m : Nat} (h : m < r.length) : mayR (r.drop m) = (mayS (kAt r m) (nAt r m) (tAt r m) && mayR (r.drop (m + 1))) := by
  rw [drop_at h]; rfl
set_option maxHeartbeats 4000000 in
theorem mayBe_some (b off cap : Nat) (r : List Val) (w : World) (hR : Ready w) (hlen : r.length ≤ 9223372036854775807)
    (hc : ∀ i, i < r.length → w.cell? ⟨b, off + i * 3, none⟩ = some (.int .i64 (kAt r i)) ∧ w.cell? ⟨b, off + i * 3 + 1, none⟩ = some (.int .i64 (nAt r i)) ∧ w.cell? ⟨b, off + i * 3 + 2, none⟩ = some (.string (tAt r i))) :
    Calls Tryd.prog 25 #[.slice (some ⟨b, off, none⟩) r.length cap] w fun e w' => e = .returned (.bool (mayR r)) ∧ Below w.heap.size w w' := by
  go_enter Tryd.func25, Tryd.ntmps25
  go_wp2
  go_loopw [7] (fun i wr => ∃ m : Nat, m ≤ r.length ∧ i = .int .i64 m ∧ mayR (r.drop m) = mayR r ∧ Bel w.heap.size w wr) (fun i _ => r.length - (intOf i).toNat)
  case atStart => exact ⟨0, Nat.zero_le _, rfl, rfl, Bel.refl _⟩
  case round =>
    obtain ⟨m, hm, rfl, hV, HB⟩ := hrel
    have HV : Hid (mayR (r.drop m) = mayR r) := hV
    clear hV
    have hW := HB.out
    rcases Nat.lt_or_ge m r.length with hlt | hge
    · have c0 := cell_below hW (hc m hlt).1
      have c1 := cell_below hW (hc m hlt).2.1
      have c2 := cell_below hW (hc m hlt).2.2
      have hRr := hR.below hW
      clear hc
      have hch := Check_any (kAt r m) (nAt r m) (tAt r m)
      generalize hp : mayS (kAt r m) (nAt r m) (tAt r m) = p at hch
      cases p
      · have HN : Hid (mayR r = false) := by show _ = _; rw [← HV.out, mayR_drop hlt, hp]; rfl
        simp only [Bool.false_eq_true, if_false] at hch
        go_wp2_with (go_at_call 29; refine (hch _ (hRr.alloc _)).mono ?_; rintro e w' ⟨rfl, hb⟩)
        go_ret
        exact ⟨ret_bool HN.out.symm, (Bel.out (by repeat (first | exact Bel.refl _ | assumption | refine Bel.drew ?_ | refine Bel.drewN ?_ _ | refine Bel.alloc ?_ _ | refine Bel.setCell ?_ (by simp <;> omega) _ | refine Bel.step ?_ (by assumption))))⟩
      · have HN : Hid (mayR (r.drop (m + 1)) = mayR r) := by show _ = _; rw [← HV.out, mayR_drop hlt, hp]; rfl
        simp only [if_true] at hch
        go_wp2_with (go_at_call 29; refine (hch _ (hRr.alloc _)).mono ?_; rintro e w' ⟨rfl, hb⟩)
        go_roundw
        case rel => exact ⟨m + 1, by omega, by go_num, HN.out, (by repeat (first | exact Bel.refl _ | assumption | refine Bel.drew ?_ | refine Bel.drewN ?_ _ | refine Bel.alloc ?_ _ | refine Bel.setCell ?_ (by simp <;> omega) _ | refine Bel.step ?_ (by assumption)))⟩
        case measure => simp [intOf]; omega
    · obtain rfl : m = r.length := by omega
      have HN : Hid (mayR r = true) := by show _ = _; rw [← HV.out, List.drop_length]; rfl
      clear hc
      go_wp2
      go_ret
      exact ⟨ret_bool HN.out.symm, (Bel.out (by repeat (first | exact Bel.refl _ | assumption | refine Bel.drew ?_ | refine Bel.drewN ?_ _ | refine Bel.alloc ?_ _ | refine Bel.setCell ?_ (by simp <;> omega) _ | refine Bel.step ?_ (by assumption))))⟩
set_option maxHeartbeats 4000000 in
theorem mayBe_none (a : Option Addr) (cap : Nat) (w : World) : Calls Tryd.prog 25 #[.slice a 0 cap] w fun e w' => e = .returned (.bool true) ∧ Below w.heap.size w w' := by
  go_enter Tryd.func25, Tryd.ntmps25
  go_wp2
  refine wp_loop_rounds 1 ?_
  rw [rounds_succ]
  go_wp2
  go_ret
  exact ⟨rfl, (Bel.out (by repeat (first | exact Bel.refl _ | assumption | refine Bel.drew ?_ | refine Bel.drewN ?_ _ | refine Bel.alloc ?_ _ | refine Bel.setCell ?_ (by simp <;> omega) _ | refine Bel.step ?_ (by assumption))))⟩
theorem mayBeR_any (a : Option Addr) (cap : Nat) (r : List Val) (w : World) (hR : Ready w) (hlen : r.length ≤ 9223372036854775807) (hr : RowAt w a r) :
    Calls Tryd.prog 25 #[.slice a r.length cap] w fun e w' => e = .returned (.bool (mayR r)) ∧ Below w.heap.size w w' := by
  rcases hr with h0 | ⟨b, off, rfl, hc⟩
  · obtain rfl : r = [] := List.length_eq_zero_iff.1 h0
    exact mayBe_none a cap w
  · exact mayBe_some b off cap r w hR hlen hc
/-- Whether a sum leaves an int. -/
def lvI (a b : Int) : Bool := decide (a + b > 9223372036854775807) || decide (a + b < -9223372036854775808)
set_option maxHeartbeats 4000000 in
theorem leavesInt_any (a b : Int) (w : World) (ha : -9223372036854775808 ≤ a) (ha' : a ≤ 9223372036854775807) (hb : -9223372036854775808 ≤ b) (hb' : b ≤ 9223372036854775807) :
    Calls Tryd.prog 34 #[.int .i64 a, .int .i64 b] w fun e w' => e = .returned (.bool (lvI a b)) ∧ Below w.heap.size w w' := by
  by_cases h : 0 < b
  · have e1 : ((0 : Int) < b) = True := eq_true h
    have HN : Hid (decide (9223372036854775807 - b < a) = lvI a b) := by
      show _ = _
      unfold lvI
      rw [decide_eq_false (p := a + b < -9223372036854775808) (by omega), Bool.or_false]
      exact decide_eq_decide.2 (by omega)
    go_enter Tryd.func34, Tryd.ntmps34
    go_wp2
    go_ret
    exact ⟨ret_bool HN.out, (Bel.out (by repeat (first | exact Bel.refl _ | assumption | refine Bel.drew ?_ | refine Bel.drewN ?_ _ | refine Bel.alloc ?_ _ | refine Bel.setCell ?_ (by simp <;> omega) _ | refine Bel.step ?_ (by assumption))))⟩
  · have e1 : ((0 : Int) < b) = False := eq_false h
    have HN : Hid (decide (a < -9223372036854775808 - b) = lvI a b) := by
      show _ = _
      unfold lvI
      rw [decide_eq_false (p := a + b > 9223372036854775807) (by omega), Bool.false_or]
      exact decide_eq_decide.2 (by omega)
    go_enter Tryd.func34, Tryd.ntmps34
    go_wp2
    go_ret
    exact ⟨ret_bool HN.out, (Bel.out (by repeat (first | exact Bel.refl _ | assumption | refine Bel.drew ?_ | refine Bel.drewN ?_ _ | refine Bel.alloc ?_ _ | refine Bel.setCell ?_ (by simp <;> omega) _ | refine Bel.step ?_ (by assumption))))⟩
end Go.Proofs.YtbfodpmlmhkikaaDoor
