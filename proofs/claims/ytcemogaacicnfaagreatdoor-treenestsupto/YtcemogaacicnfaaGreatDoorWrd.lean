/- Words. -/
import Derived.Test.YtcemogaacicnfaaGreatDoorSgn
import Derived.Deep.MidRow
import Derived.Deep.DeepCutAuto
namespace Go.Proofs.YtcemogaacicnfaaGreatDoor
open Go.ChangeShapes Go.WideShapes Go.ChangeAt Go.RowKit
/-- The words, as they lie in memory. -/
def wdV : List Value := wdL.map fun x => .string (bsA x)
theorem Rdy.range {w : World} (h : Rdy w) : w.rangeAt 3 0 wdV := by
  intro j v hj
  unfold wdV at hj
  rw [List.getElem?_map] at hj
  obtain ⟨x, hx, rfl⟩ := Option.map_eq_some_iff.1 hj
  have hlt : j < 58 := (List.getElem?_eq_some_iff.1 hx).1
  rw [Nat.zero_add, h.words j hlt]
  unfold wd
  rw [List.getD_eq_getElem?_getD, hx]; rfl
theorem wdV_at {m : Nat} (h : m < 58) : wdV[m]? = some (.string (bsA (wd m))) := by
  unfold wdV wd
  have hl : m < wdL.length := h
  rw [List.getElem?_map, List.getD_eq_getElem?_getD, List.getElem?_eq_getElem hl]; rfl
theorem wd_drop {m : Nat} (h : m < 58) : wdL.drop m = wd m :: wdL.drop (m + 1) := by
  unfold wd
  have hl : m < wdL.length := h
  rw [List.drop_eq_getElem_cons hl, List.getD_eq_getElem?_getD, List.getElem?_eq_getElem hl]; rfl
theorem index47 (V : List Value) (_hV : V.length = 58) (m : Nat) (hm : m < 58) (x : ByteArray) (hx : V[m]? = some (.string x)) (w : World) : (Instr.index 111 (.agg V.toArray) (.int .i64 m)).run Tryz.prog w = .ok (.string x) w := by
  have h0 : (0 : Int) ≤ (m : Int) ∧ (m : Int) < ((58 : Nat) : Int) := by omega
  simp [Instr.index, run_underlying Tryz.underlying111, asIntOf, h0, go_sem, hx]
  intro h; omega
set_option maxRecDepth 20000 in
set_option maxHeartbeats 4000000 in
theorem isWord_any (l : List UInt8) (w : World) (hR : Rdy w) : Calls Tryz.prog 153 #[.string (bsA l)] w fun e w' => e = .returned (.bool (wdL.contains l)) ∧ w' = w := by
  have HV : Hid (w.rangeAt 3 0 wdV) := hR.range
  have HVm : Hid (∀ m, m < 58 → wdV[m]? = some (.string (bsA (wd m)))) := fun m h => wdV_at h
  have hVl : wdV.length = 58 := rfl
  have hi : Hid ((Tryz.prog.info? 111).map (·.size) = some wdV.length) := by show _ = _; rw [hVl]; kernel_rfl
  clear hR
  generalize wdV = V at HV HVm hVl hi
  go_enter Tryz.func153, Tryz.ntmps153
  go_upto_region 1 with fail
  refine wp_region_list ?_
  refine wpList_load_mid rfl 111 _ rfl 3 0 rfl V _ HV.out Tryz.underlying111 rfl hi.out ?_
  go_wp2_with fail
  go_loopw [6] (fun i wr => ∃ m : Nat, m ≤ 58 ∧ i = .int .i64 m ∧ (wdL.drop m).contains l = wdL.contains l ∧ wr = w) (fun i _ => 58 - (intOf i).toNat)
  case atStart => exact ⟨0, Nat.zero_le _, rfl, rfl, rfl⟩
  case round =>
    obtain ⟨m, hm, rfl, hH, rfl⟩ := hrel
    have HH : Hid _ := hH
    clear hH
    rcases Nat.lt_or_ge m 58 with hlt | hge
    · have hx := index47 V hVl m hlt _ (HVm.out m hlt)
      have HD : Hid ((wdL.drop m).contains l = ((wd m == l) || (wdL.drop (m + 1)).contains l)) := by
        show _ = _
        rw [wd_drop hlt, List.contains_cons, BEq.comm (a := l)]
      have ht := bsA_tl (wd m)
      have ht2 := bsA_tl l
      cases hq : (wd m == l) with
      | true =>
        have HE : Hid (true = wdL.contains l) := by have h1 := HD.out; rw [hq, HH.out] at h1; show true = _; rw [h1]; rfl
        generalize wd m = x at hx ht hq
        go_wp2
        go_ret
        exact ⟨ret_bool HE.out, rfl⟩
      | false =>
        have HE : Hid ((wdL.drop (m + 1)).contains l = wdL.contains l) := by have h1 := HD.out; rw [hq, HH.out] at h1; show _ = _; rw [h1]; simp
        generalize wd m = x at hx ht hq
        go_wp2
        go_roundw
        case rel => exact ⟨m + 1, by omega, by go_num, HE.out, trivial⟩
        case measure => simp [intOf]; omega
    · obtain rfl : m = 58 := by omega
      have HE : Hid (false = wdL.contains l) := by show false = _; rw [← HH.out]; rfl
      go_wp2
      go_ret
      exact ⟨ret_bool HE.out, rfl⟩
end Go.Proofs.YtcemogaacicnfaaGreatDoor
