/- The walk of SchemaFits. -/
import Derived.Test.YtjncoihppmbijaaDoorAwake
import Derived.Test.YtjncoihppmbijaaDoorRFits
import Derived.Test.YtjncoihppmbijaaDoorRunes
namespace Go.Proofs.YtjncoihppmbijaaDoor
open Go.ChangeShapes Go.WideShapes Go.ChangeAt Go.RowKit
attribute [local go_sem ↓] Go.wp_at_zero Go.wp_at_succ

theorem runesSaid : RunesSaid := fun s w h => runes_any s w h
set_option maxHeartbeats 8000000 in
theorem schemaFits_walk (sn : ByteArray) (a : Option Addr) (len cap : Nat) (nm : Nat → ByteArray) (kd : Nat → Int) (a2 : Option Addr) (n cap2 : Nat) (k v : Nat → Int) (t : Nat → ByteArray) (w : World) (hR : Ready w) (hn : n ≤ 9223372036854775807) (hc : ColsAt w a len nm kd) (hv : ValsAt w a2 n k v t) :
    Calls Tryd.prog 4 #[.agg #[.string sn, .slice a len cap], .slice a2 n cap2] w fun e w' => e = .returned (.bool true) ∧ Below w.heap.size w w' := by
  have hRu := runesSaid
  have hR1 : Ready (w.alloc (.cells #[.string sn, .slice a len cap] 24)) := hR.alloc _
  have hc1 : ColsAt (w.alloc (.cells #[.string sn, .slice a len cap] 24)) a len nm kd := hc.alloc _
  have hv1 : ValsAt (w.alloc (.cells #[.string sn, .slice a len cap] 24)) a2 n k v t := hv.alloc _
  have hB1 : Below w.heap.size w (w.alloc (.cells #[.string sn, .slice a len cap] 24)) := (Below.refl _ _).alloc (Nat.le_refl _) _
  have S0 : (w.alloc (.cells #[.string sn, .slice a len cap] 24)).cell? ⟨w.heap.size, 0, none⟩ = some (.string sn) ∧ (w.alloc (.cells #[.string sn, .slice a len cap] 24)).cell? ⟨w.heap.size, 1, none⟩ = some (.slice a len cap) ∧ Below (w.alloc (.cells #[.string sn, .slice a len cap] 24)).heap.size (w.alloc (.cells #[.string sn, .slice a len cap] 24)) (w.alloc (.cells #[.string sn, .slice a len cap] 24)) := ⟨by go_simp, by go_simp, Below.refl _ _⟩
  generalize hE : erI 31 (fitsS len kd n k v t) = E
  go_enter Tryd.func4, Tryd.ntmps4
  go_wp2
  go_region_held3 (fun wS => wS.cell? ⟨w.heap.size, 0, none⟩ = some (.string sn) ∧ wS.cell? ⟨w.heap.size, 1, none⟩ = some (.slice a len cap) ∧ Below (w.alloc (.cells #[.string sn, .slice a len cap] 24)).heap.size (w.alloc (.cells #[.string sn, .slice a len cap] 24)) wS) (first | exact kp2 (by assumption) hb | exact kp2d S0) (first | (go_at_call 15; refine (Fits_any sn a len cap a2 n cap2 nm kd k v t _ ?_ hn ?_ ?_).mono ?_; (exact kp2r hR1 (by assumption)); (exact hc1.below (kp2l (by assumption))); (exact hv1.below (kp2l (by assumption))); rintro e w' ⟨rfl, hb⟩) | (go_at_call 16; refine (rFits_any hRu sn a len cap a2 n cap2 nm kd k v t _ hn ?_ ?_).mono ?_; (exact hc1.below (kp2l (by assumption))); (exact hv1.below (kp2l (by assumption))); rintro e w' ⟨rfl, hb⟩) | (go_at_call 14; refine (awake_any _ ?_).mono ?_; (exact kp2r hR1 (by assumption)); rintro e w' ⟨rfl, hb⟩))
  have hBS := kp2l (by assumption)
  go_wp2
  go_ret
  exact ⟨rfl, (Bel.out (by repeat (first | exact Bel.refl _ | assumption | refine Bel.drew ?_ | refine Bel.drewN ?_ _ | refine Bel.alloc ?_ _ | refine Bel.setCell ?_ (by simp <;> omega) _ | refine Bel.step ?_ (by assumption))))⟩
end Go.Proofs.YtjncoihppmbijaaDoor
