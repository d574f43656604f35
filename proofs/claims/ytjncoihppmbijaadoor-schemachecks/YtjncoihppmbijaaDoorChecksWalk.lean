/- The walk of SchemaChecks. -/
import Derived.Test.YtjncoihppmbijaaDoorAwake
namespace Go.Proofs.YtjncoihppmbijaaDoor
open Go.ChangeShapes Go.WideShapes Go.ChangeAt Go.RowKit
attribute [local go_sem ↓] Go.wp_at_zero Go.wp_at_succ

theorem Name_b (s : ByteArray) (w : World) : Calls Tryd.prog 12 #[.string s] w fun e w' => e = .returned (.bool (nameS s)) ∧ Below w.heap.size w w' := (Name_any s w).mono fun _ _ h => ⟨h.1, by rw [h.2]; exact Below.refl _ _⟩
theorem rName_b (s : ByteArray) (w : World) : Calls Tryd.prog 13 #[.string s] w fun e w' => e = .returned (.bool (nameS s)) ∧ Below w.heap.size w w' := (rName_any s w).mono fun _ _ h => ⟨h.1, by rw [h.2]; exact Below.refl _ _⟩
set_option maxHeartbeats 8000000 in
theorem schemaChecks_walk (sn : ByteArray) (a : Option Addr) (len cap : Nat) (nm : Nat → ByteArray) (kd : Nat → Int) (s : ByteArray) (w : World) (hR : Ready w) (hn : len ≤ 9223372036854775807) (hc : ColsAt w a len nm kd) :
    Calls Tryd.prog 3 #[.agg #[.string sn, .slice a len cap], .string s] w fun e w' => e = .returned (.bool true) ∧ Below w.heap.size w w' := by
  have hR1 : Ready (w.alloc (.cells #[.string sn, .slice a len cap] 24)) := hR.alloc _
  have hc1 : ColsAt (w.alloc (.cells #[.string sn, .slice a len cap] 24)) a len nm kd := hc.alloc _
  have hB1 : Below w.heap.size w (w.alloc (.cells #[.string sn, .slice a len cap] 24)) := (Below.refl _ _).alloc (Nat.le_refl _) _
  have T0 : (w.alloc (.cells #[.string sn, .slice a len cap] 24)).cell? ⟨w.heap.size, 0, none⟩ = some (.string sn) ∧ (w.alloc (.cells #[.string sn, .slice a len cap] 24)).cell? ⟨w.heap.size, 1, none⟩ = some (.slice a len cap) ∧ Below (w.alloc (.cells #[.string sn, .slice a len cap] 24)).heap.size (w.alloc (.cells #[.string sn, .slice a len cap] 24)) (w.alloc (.cells #[.string sn, .slice a len cap] 24)) := ⟨by go_simp, by go_simp, Below.refl _ _⟩
  go_enter Tryd.func3, Tryd.ntmps3
  go_wp2_with fail
  refine (Place_any sn s a len cap nm kd _ hn hc1).mono ?_
  rintro e w8 ⟨rfl, hb8⟩
  have T8 := kp2 T0 hb8
  have t0 := T8.1
  have t1 := T8.2.1
  go_wp2_with fail
  refine (rPlace_any sn s a len cap nm kd _ hn (hc1.below T8.2.2)).mono ?_
  rintro e w9 ⟨rfl, hb9⟩
  have S0 := kp2 T8 hb9
  have s0 := S0.1
  have s1 := S0.2.1
  generalize hE : erI 30 (checkS sn len nm kd) = E
  generalize hN : nameS s = N
  generalize plI (plF nm s len) = P
  generalize (plF nm s len).isSome = B
  go_wp2
  go_region_held3 (fun wS => wS.cell? ⟨w.heap.size, 0, none⟩ = some (.string sn) ∧ wS.cell? ⟨w.heap.size, 1, none⟩ = some (.slice a len cap) ∧ Below (w.alloc (.cells #[.string sn, .slice a len cap] 24)).heap.size (w.alloc (.cells #[.string sn, .slice a len cap] 24)) wS) (first | exact kp2 (by assumption) hb | exact kp2d S0) (first | (go_at_call 10; refine (SCheck_any sn a len cap nm kd _ ?_).mono ?_; (exact hc1.below (kp2l (by assumption))); rintro e w' ⟨rfl, hb⟩; rw [hE]) | (go_at_call 11; refine (rCheck_any sn a len cap nm kd _ ?_).mono ?_; (exact hc1.below (kp2l (by assumption))); rintro e w' ⟨rfl, hb⟩; rw [hE]) | (go_at_call 12; refine (Name_b s _).mono ?_; rintro e w' ⟨rfl, hb⟩; rw [hN]) | (go_at_call 13; refine (rName_b s _).mono ?_; rintro e w' ⟨rfl, hb⟩; rw [hN]) | (go_at_call 14; refine (awake_any _ ?_).mono ?_; (exact kp2r hR1 (by assumption)); rintro e w' ⟨rfl, hb⟩))
  have hBS := kp2l (by assumption)
  go_wp2
  go_ret
  exact ⟨rfl, (Bel.out (by repeat (first | exact Bel.refl _ | assumption | refine Bel.drew ?_ | refine Bel.drewN ?_ _ | refine Bel.alloc ?_ _ | refine Bel.setCell ?_ (by simp <;> omega) _ | refine Bel.step ?_ (by assumption))))⟩
end Go.Proofs.YtjncoihppmbijaaDoor
