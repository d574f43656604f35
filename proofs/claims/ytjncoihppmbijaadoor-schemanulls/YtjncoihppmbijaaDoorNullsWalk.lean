/- The walk of SchemaNulls. -/
import Derived.Test.YtjncoihppmbijaaDoorAwake
import Derived.Test.YtjncoihppmbijaaDoorRFits
import Derived.Test.YtjncoihppmbijaaDoorRunes
import Derived.Test.YtjncoihppmbijaaDoorNullsMem
namespace Go.Proofs.YtjncoihppmbijaaDoor
open Go.ChangeShapes Go.WideShapes Go.ChangeAt Go.RowKit
attribute [local go_sem ↓] Go.wp_at_zero Go.wp_at_succ

theorem runes_is : RunesSaid := fun s w h => runes_any s w h
set_option maxHeartbeats 8000000 in
theorem nulls_wide (sn : ByteArray) (a : Option Addr) (len cap : Nat) (a2 : Option Addr) (n cap2 : Nat) (at0 : Int) (w : World) (hR : Ready w) (h : 1000 < (len : Int)) : Calls Tryd.prog 7 #[.agg #[.string sn, .slice a len cap], .slice a2 n cap2, .int .i64 at0] w fun e w' => e = .returned (.bool true) ∧ Below w.heap.size w w' := by
  have hR1 : Ready (w.alloc (.cells #[.string sn, .slice a len cap] 24)) := hR.alloc _
  go_enter Tryd.func7, Tryd.ntmps7
  go_wp2_with (go_at_call 14; refine (awake_any _ hR1).mono ?_; rintro e w1 ⟨rfl, hb1⟩)
  go_ret
  exact ⟨rfl, (Bel.out (by repeat (first | exact Bel.refl _ | assumption | refine Bel.drew ?_ | refine Bel.drewN ?_ _ | refine Bel.alloc ?_ _ | refine Bel.setCell ?_ (by simp <;> omega) _ | refine Bel.step ?_ (by assumption))))⟩
set_option maxHeartbeats 8000000 in
theorem nulls_no (sn : ByteArray) (a : Option Addr) (len cap : Nat) (nm : Nat → ByteArray) (kd : Nat → Int) (a2 : Option Addr) (n cap2 : Nat) (k v : Nat → Int) (t : Nat → ByteArray) (at0 : Int) (w : World) (hR : Ready w) (hn : n ≤ 9223372036854775807) (hc : ColsAt w a len nm kd) (hv : ValsAt w a2 n k v t) (h : (len : Int) ≤ 1000) (hF : fitsS len kd n k v t = false) : Calls Tryd.prog 7 #[.agg #[.string sn, .slice a len cap], .slice a2 n cap2, .int .i64 at0] w fun e w' => e = .returned (.bool true) ∧ Below w.heap.size w w' := by
  have hRu := runes_is
  have hR1 : Ready (w.alloc (.cells #[.string sn, .slice a len cap] 24)) := hR.alloc _
  have g1 : ColsAt (w.alloc (.cells #[.string sn, .slice a len cap] 24)) a len nm kd := hc.alloc _
  have g2 : ValsAt (w.alloc (.cells #[.string sn, .slice a len cap] 24)) a2 n k v t := hv.alloc _
  have hB1 : Below w.heap.size w (w.alloc (.cells #[.string sn, .slice a len cap] 24)) := (Bel.out (by repeat (first | exact Bel.refl _ | assumption | refine Bel.drew ?_ | refine Bel.drewN ?_ _ | refine Bel.alloc ?_ _ | refine Bel.setCell ?_ (by simp <;> omega) _ | refine Bel.step ?_ (by assumption))))
  clear hc hv
  have S0 : (w.alloc (.cells #[.string sn, .slice a len cap] 24)).cell? ⟨w.heap.size, 0, none⟩ = some (.string sn) ∧ (w.alloc (.cells #[.string sn, .slice a len cap] 24)).cell? ⟨w.heap.size, 1, none⟩ = some (.slice a len cap) ∧ Below (w.alloc (.cells #[.string sn, .slice a len cap] 24)).heap.size (w.alloc (.cells #[.string sn, .slice a len cap] 24)) (w.alloc (.cells #[.string sn, .slice a len cap] 24)) := ⟨by go_simp, by go_simp, Below.refl _ _⟩
  have hmk := made_run len (by omega)
  have g3 : ValsAt ((w.alloc (.cells #[.string sn, .slice a len cap] 24)).alloc (.cells (nulC len) 50)).drew (some ⟨w.heap.size + 1, 0, none⟩) len (fun _ => 0) (fun _ => 0) (fun _ => ⟨#[]⟩) := by
    have := made_at len (w.alloc (.cells #[.string sn, .slice a len cap] 24))
    rw [World.size_alloc] at this
    exact this.below (Below.refl _ _).drew
  have hnul : erI 31 (fitsS len kd len (fun _ => 0) (fun _ => 0) (fun _ => ⟨#[]⟩)) = 0 := by rw [fits_nulls]; rfl
  have z1 : decide (1000 < (len : Int)) = false := decide_eq_false (by omega)
  go_enter Tryd.func7, Tryd.ntmps7
  go_wp2
  refine wp_region_held_drew (S := (fun wS => wS.cell? ⟨w.heap.size, 0, none⟩ = some (.string sn) ∧ wS.cell? ⟨w.heap.size, 1, none⟩ = some (.slice a len cap) ∧ Below (w.alloc (.cells #[.string sn, .slice a len cap] 24)).heap.size (w.alloc (.cells #[.string sn, .slice a len cap] 24)) wS)) (by kernel_rfl) ?_ (fun hHeld => ?_)
  · (try dsimp only); exact kp2d S0
  refine wpAnyH_take (i := 0) (oi := { dst := some 15, op := Op.load 24 (Operand.tmp 3), type := 24, pos := "law.go:50", after := #[], guard := none }) (v := ?_) rfl (by kernel_rfl) (by kernel_rfl) (by kernel_rfl) (fun _ _ _ h => h) (Or.inl ⟨by kernel_rfl, ?_⟩) (by assumption) ?_
  rotate_left
  · intro wS hSw; (try dsimp only at hSw); go_simp; (try with_reducible rfl)
  try simp only [Act.put, List.setIfInBounds_toArray, List.set_cons_zero, List.set_cons_succ]
  refine wpAnyH_take (i := 1) (oi := { dst := some 16, op := Op.fieldAddr 24 (Operand.tmp 3) 1, type := 0, pos := "law.go:50", after := #[], guard := none }) (v := ?_) rfl (by kernel_rfl) (by kernel_rfl) (by kernel_rfl) (fun _ _ _ h => h) (Or.inl ⟨by kernel_rfl, ?_⟩) (by assumption) ?_
  rotate_left
  · intro wS hSw; (try dsimp only at hSw); go_simp; (try with_reducible rfl)
  try simp only [Act.put, List.setIfInBounds_toArray, List.set_cons_zero, List.set_cons_succ]
  refine wpAnyH_take (i := 2) (oi := { dst := some 17, op := Op.load 22 (Operand.tmp 16), type := 22, pos := "law.go:50", after := #[{ on := 1, ground := Ground.data }], guard := none }) (v := ?_) rfl (by kernel_rfl) (by kernel_rfl) (by kernel_rfl) (fun _ _ _ h => h) (Or.inl ⟨by kernel_rfl, ?_⟩) (by assumption) ?_
  rotate_left
  · intro wS hSw; (try dsimp only at hSw); go_simp; (try with_reducible rfl)
  try simp only [Act.put, List.setIfInBounds_toArray, List.set_cons_zero, List.set_cons_succ]
  refine wpAnyH_take (i := 3) (oi := { dst := some 18, op := Op.call { callee := Callee.builtin Builtin.len, args := #[Operand.tmp 17], argTypes := #[22] }, type := 3, pos := "law.go:50", after := #[{ on := 2, ground := Ground.data }], guard := none }) (v := ?_) rfl (by kernel_rfl) (by kernel_rfl) (by kernel_rfl) (fun _ _ _ h => h) (Or.inl ⟨by kernel_rfl, ?_⟩) (by assumption) ?_
  rotate_left
  · intro wS hSw; (try dsimp only at hSw); go_simp; (try with_reducible rfl)
  try simp only [Act.put, List.setIfInBounds_toArray, List.set_cons_zero, List.set_cons_succ]
  refine wpAnyH_ready (rs := [4]) (by kernel_rfl) (by simp) ?_
  refine AllReadyH.cons (o := { dst := some 19, op := Op.makeSlice 33 (Operand.tmp 18) (Operand.tmp 18), type := 33, pos := "law.go:50", after := #[{ on := 3, ground := Ground.data }, { on := 3, ground := Ground.data }], guard := none }) rfl (fun K hK => ?_) AllReadyH.nil
  go_simp
  refine hK.out _ _ ?_ (fun hH4 => ?_)
  · (try dsimp only); exact kp2 (by assumption) ((Below.refl _ _).alloc (Nat.le_refl _) _)
  clear hK K
  try simp only [Act.put, List.setIfInBounds_toArray, List.set_cons_zero, List.set_cons_succ]
  refine wpAnyH_ready (rs := [5]) (by kernel_rfl) (by simp) ?_
  refine AllReadyH.cons (o := { dst := some 20, op := Op.call { callee := Callee.value (Operand.func 15), args := #[Operand.tmp 15, Operand.tmp 19], argTypes := #[24, 33] }, type := 27, pos := "law.go:50", after := #[{ on := 0, ground := Ground.data }, { on := 4, ground := Ground.data }], guard := none }) rfl (fun K hK => ?_) AllReadyH.nil
  go_simp
  go_at_call 15
  refine (Fits_any sn a len cap (some ⟨w.heap.size + 1, 0, none⟩) len len nm kd (fun _ => 0) (fun _ => 0) (fun _ => ⟨#[]⟩) _ (kp2r hR1 (by assumption)) (by omega) (g1.below (kp2l (by assumption))) g3).mono ?_
  rintro e w' ⟨rfl, hb⟩
  rw [hnul]
  refine hK.out _ _ ?_ (fun hH5 => ?_)
  · (try dsimp only); exact kp2 (by assumption) hb
  clear hK K
  try simp only [Act.put, List.setIfInBounds_toArray, List.set_cons_zero, List.set_cons_succ]
  refine wpAnyH_take (i := 6) (oi := { dst := some 21, op := Op.binOp BinOp.neq 27 (Operand.tmp 20) (Operand.const (Value.int IntKind.i64 0)) 27, type := 4, pos := "law.go:50", after := #[{ on := 5, ground := Ground.data }], guard := none }) (v := ?_) rfl (by kernel_rfl) (by kernel_rfl) (by kernel_rfl) (fun _ _ _ h => h) (Or.inl ⟨by kernel_rfl, ?_⟩) (by assumption) ?_
  rotate_left
  · intro wS hSw; (try dsimp only at hSw); go_simp; (try with_reducible rfl)
  try simp only [Act.put, List.setIfInBounds_toArray, List.set_cons_zero, List.set_cons_succ]
  refine wpAnyH_done (by kernel_rfl) ?_ _
  obtain ⟨t0, t1, hB5⟩ := hH5
  have hE : erI 31 (fitsS len kd n k v t) = 31 := by rw [hF]; rfl
  go_wp2_with fail
  refine (Fits_any sn a len cap a2 n cap2 nm kd k v t _ (hR1.below hB5) hn (g1.below hB5) (g2.below hB5)).mono ?_
  rintro e w6 ⟨rfl, hb6⟩
  rw [hE]
  have t2 := cell_below hb6 t0
  have t3 := cell_below hb6 t1
  have hB6 := hB5.trans (hb6.mono hB5.size)
  go_wp2_with fail
  refine (rFits_any hRu sn a len cap a2 n cap2 nm kd k v t _ hn (g1.below hB6) (g2.below hB6)).mono ?_
  rintro e w7 ⟨rfl, hb7⟩
  rw [hE]
  have hB7 := hB6.trans (hb7.mono hB6.size)
  go_wp2_with (go_at_call 14; refine (awake_any _ (hR1.below hB7)).mono ?_; rintro e w8 ⟨rfl, hb8⟩)
  go_ret
  exact ⟨rfl, (Bel.out (by repeat (first | exact Bel.refl _ | assumption | refine Bel.drew ?_ | refine Bel.drewN ?_ _ | refine Bel.alloc ?_ _ | refine Bel.setCell ?_ (by simp <;> omega) _ | refine Bel.step ?_ (by assumption))))⟩
end Go.Proofs.YtjncoihppmbijaaDoor
