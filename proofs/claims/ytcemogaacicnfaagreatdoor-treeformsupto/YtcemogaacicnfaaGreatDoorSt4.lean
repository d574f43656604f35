/- What stands in statements: by the code. -/
import Derived.Test.YtcemogaacicnfaaGreatDoorSt2
namespace Go.Proofs.YtcemogaacicnfaaGreatDoor
set_option linter.unusedSimpArgs false
set_option maxRecDepth 20000
set_option maxHeartbeats 4000000
open Go.ChangeShapes Go.WideShapes Go.ChangeAt Go.RowKit

def frpF (n : Nat) (k : Int) (t : List UInt8) (m : Int) (l : List (Tr n)) : Bool := decide (k = 38) && plainF t m && areQ n l [patP n, optP n (nmeP n)]
theorem frp_t (n : Nat) (t : List UInt8) (m a : Int) (l : List (Tr n)) (s : Option Addr) (c : Nat) (w : World) (hR : Rdy w) (hl : KsG w n s c l) (hb : plainF t m = true) :
    Calls Tryz.prog 102 #[.agg #[.int .i64 38, .string (bsA t), .int .i64 m, .int .i64 a, .slice s l.length c]] w fun e w' => e = .returned (.bool (areQ n l [patP n, optP n (nmeP n)])) ∧ Below w.heap.size w w' := by
  have HN0 : Hid (Nd w n 38 t m a l s c (w.alloc (Obj.cells #[Value.int IntKind.i64 38, Value.string (bsA t), Value.int IntKind.i64 m, Value.int IntKind.i64 a, Value.slice s l.length c] 24))) := Nd.new w n _ t _ a l s c hR hl
  obtain ⟨d0, d1, d2, d3, d4, -, -, -, -, -⟩ := HN0.out.box
  have HN : Hid (Nd w n 38 t m a l s c (w.alloc (Obj.cells #[Value.int IntKind.i64 38, Value.string (bsA t), Value.int IntKind.i64 m, Value.int IntKind.i64 a, Value.slice s l.length c] 24)).drew) := HN0.out.step (Below.refl _ _).drew
  have hG := isPlain_any n 38 t m a l s c
  rw [hb] at hG
  have HG : Hid _ := hG
  clear hG hb
  clear hl hR
  go_enter Tryz.func102, Tryz.ntmps102
  go_wp2_with fail
  clear d0 d1 d2 d3 d4
  refine wp_region_held_drew (S := (fun wS => Box5 wS w.heap.size (.int .i64 38) (.string (bsA t)) (.int .i64 m) (.int .i64 a) (.slice s l.length c))) (by kernel_rfl) ?_ (fun hHeld => ?_)
  · (try dsimp only); exact HN.out.box
  refine tk 0 (some 3) (v := ?_) rfl ?_ ?_
  rotate_left
  · intro wS hSw; (try dsimp only at hSw); go_simp; (try with_reducible rfl)
  try simp only [Act.put, List.setIfInBounds_toArray, List.set_cons_zero, List.set_cons_succ]
  refine tk 1 (some 4) (v := ?_) rfl ?_ ?_
  rotate_left
  · intro wS hSw; (try dsimp only at hSw); have q0 := hSw.c0; have q1 := hSw.c1; have q2 := hSw.c2; have q3 := hSw.c3; have q4 := hSw.c4; go_simp; (try with_reducible rfl)
  try simp only [Act.put, List.setIfInBounds_toArray, List.set_cons_zero, List.set_cons_succ]
  refine tk 2 (some 5) (v := ?_) rfl ?_ ?_
  rotate_left
  · intro wS hSw; (try dsimp only at hSw); go_simp; (try with_reducible rfl)
  try simp only [Act.put, List.setIfInBounds_toArray, List.set_cons_zero, List.set_cons_succ]
  refine tk 3 (some 6) (v := ?_) rfl ?_ ?_
  rotate_left
  · intro wS hSw; (try dsimp only at hSw); go_simp; (try with_reducible rfl)
  try simp only [Act.put, List.setIfInBounds_toArray, List.set_cons_zero, List.set_cons_succ]
  refine tk 4 (some 7) (v := ?_) rfl ?_ ?_
  rotate_left
  · intro wS hSw; (try dsimp only at hSw); have q0 := hSw.c0; have q1 := hSw.c1; have q2 := hSw.c2; have q3 := hSw.c3; have q4 := hSw.c4; go_simp; (try with_reducible rfl)
  try simp only [Act.put, List.setIfInBounds_toArray, List.set_cons_zero, List.set_cons_succ]
  refine wpAnyH_ready (rs := [5]) (by kernel_rfl) (by simp) ?_
  refine AllReadyH.cons rfl (fun K hK => ?_) AllReadyH.nil
  go_simp
  go_at_call 39
  refine (HG.out _ HN.out.rdy HN.out.kids).mono ?_
  rintro e w1 ⟨rfl, hb1⟩
  replace HN : Hid _ := HN.out.step hb1
  refine hK.out _ _ ?_ (fun hH5 => ?_)
  · (try dsimp only); exact HN.out.box
  clear hK K
  try simp only [Act.put, List.setIfInBounds_toArray, List.set_cons_zero, List.set_cons_succ]
  refine tk 6 (some 9) (v := ?_) rfl ?_ ?_
  rotate_left
  · intro wS hSw; (try dsimp only at hSw); go_simp; (try with_reducible rfl)
  try simp only [Act.put, List.setIfInBounds_toArray, List.set_cons_zero, List.set_cons_succ]
  refine tk 7 (some 10) (v := ?_) rfl ?_ ?_
  rotate_left
  · intro wS hSw; (try dsimp only at hSw); go_simp; (try with_reducible rfl)
  try simp only [Act.put, List.setIfInBounds_toArray, List.set_cons_zero, List.set_cons_succ]
  refine tk 8 (some 11) (v := ?_) rfl ?_ ?_
  rotate_left
  · intro wS hSw; (try dsimp only at hSw); go_simp; (try with_reducible rfl)
  try simp only [Act.put, List.setIfInBounds_toArray, List.set_cons_zero, List.set_cons_succ]
  refine tk 9 (some 12) (v := ?_) rfl ?_ ?_
  rotate_left
  · intro wS hSw; (try dsimp only at hSw); have q0 := hSw.c0; have q1 := hSw.c1; have q2 := hSw.c2; have q3 := hSw.c3; have q4 := hSw.c4; go_simp; (try with_reducible rfl)
  try simp only [Act.put, List.setIfInBounds_toArray, List.set_cons_zero, List.set_cons_succ]
  refine wpAnyH_ready (rs := [10]) (by kernel_rfl) (by simp) ?_
  refine AllReadyH.cons rfl (fun K hK => ?_) AllReadyH.nil
  go_simp
  go_at_call 50
  refine (optional_any 51 [] _ HN.out.rdy).mono ?_
  rintro e w1 ⟨⟨vsa, rfl, hv⟩, hb1⟩
  have HVa : Hid (May 92 vsa n (optP n (nmeP n)) w1) := hv n _ (nme_may n _ HN.out.rdy)
  replace HN : Hid _ := HN.out.step hb1
  clear hv
  unfold plV
  refine hK.out _ _ ?_ (fun hH10 => ?_)
  · (try dsimp only); exact HN.out.box
  clear hK K
  try simp only [Act.put, List.setIfInBounds_toArray, List.set_cons_zero, List.set_cons_succ]
  refine wpAnyH_ready (rs := [11]) (by kernel_rfl) (by simp) ?_
  refine AllReadyH.cons rfl (fun K hK => ?_) AllReadyH.nil
  go_simp
  refine hK.out _ _ ?_ (fun hH11 => ?_)
  · (try dsimp only); exact HN.out.box.below ((Below.refl _ _).alloc (Nat.le_refl _) _)
  clear hK K
  try simp only [Act.put, List.setIfInBounds_toArray, List.set_cons_zero, List.set_cons_succ]
  refine wpAnyH_ready (rs := [12]) (by kernel_rfl) (by simp) ?_
  refine AllReadyH.cons rfl (fun K hK => ?_) AllReadyH.nil
  go_simp
  go_at_call 40
  refine (are_b n l [(24, [], patP n), (92, vsa, optP n (nmeP n))] s c _ _ _ _ _ rfl rfl (by simp) HN.out.kids (List.forall_mem_cons.2 ⟨pat_may n _ HN.out.rdy, (List.forall_mem_cons.2 ⟨HVa.out, (by simp)⟩)⟩)).mono ?_
  rintro e w1 ⟨rfl, hb1⟩
  replace HN : Hid _ := HN.out.step hb1
  replace HVa : Hid _ := HVa.out.below hb1
  refine hK.out _ _ ?_ (fun hH12 => ?_)
  · (try dsimp only); exact HN.out.box
  clear hK K
  try simp only [Act.put, List.setIfInBounds_toArray, List.set_cons_zero, List.set_cons_succ]
  refine tk 13 (some 16) (v := ?_) rfl ?_ ?_
  rotate_left
  · intro wS hSw; (try dsimp only at hSw); go_simp; (try with_reducible rfl)
  try simp only [Act.put, List.setIfInBounds_toArray, List.set_cons_zero, List.set_cons_succ]
  refine tk 14 (some 2) (v := ?_) rfl ?_ ?_
  rotate_left
  · intro wS hSw; (try dsimp only at hSw); go_simp; (try with_reducible rfl)
  try simp only [Act.put, List.setIfInBounds_toArray, List.set_cons_zero, List.set_cons_succ]
  refine wpAnyH_done (by kernel_rfl) ?_ _
  go_wp2
  go_ret
  exact ⟨rfl, HN.out.bel⟩
theorem frp_f (n : Nat) (t : List UInt8) (m a : Int) (l : List (Tr n)) (s : Option Addr) (c : Nat) (w : World) (hR : Rdy w) (hl : KsG w n s c l) (hb : plainF t m = false) :
    Calls Tryz.prog 102 #[.agg #[.int .i64 38, .string (bsA t), .int .i64 m, .int .i64 a, .slice s l.length c]] w fun e w' => e = .returned (.bool (false)) ∧ Below w.heap.size w w' := by
  have HN0 : Hid (Nd w n 38 t m a l s c (w.alloc (Obj.cells #[Value.int IntKind.i64 38, Value.string (bsA t), Value.int IntKind.i64 m, Value.int IntKind.i64 a, Value.slice s l.length c] 24))) := Nd.new w n _ t _ a l s c hR hl
  obtain ⟨d0, d1, d2, d3, d4, -, -, -, -, -⟩ := HN0.out.box
  have HN : Hid (Nd w n 38 t m a l s c (w.alloc (Obj.cells #[Value.int IntKind.i64 38, Value.string (bsA t), Value.int IntKind.i64 m, Value.int IntKind.i64 a, Value.slice s l.length c] 24)).drew) := HN0.out.step (Below.refl _ _).drew
  have hG := isPlain_any n 38 t m a l s c
  rw [hb] at hG
  have HG : Hid _ := hG
  clear hG hb
  clear hl hR
  go_enter Tryz.func102, Tryz.ntmps102
  go_wp2_with fail
  clear d0 d1 d2 d3 d4
  refine wp_region_held_drew (S := (fun wS => Box5 wS w.heap.size (.int .i64 38) (.string (bsA t)) (.int .i64 m) (.int .i64 a) (.slice s l.length c))) (by kernel_rfl) ?_ (fun hHeld => ?_)
  · (try dsimp only); exact HN.out.box
  refine tk 0 (some 3) (v := ?_) rfl ?_ ?_
  rotate_left
  · intro wS hSw; (try dsimp only at hSw); go_simp; (try with_reducible rfl)
  try simp only [Act.put, List.setIfInBounds_toArray, List.set_cons_zero, List.set_cons_succ]
  refine tk 1 (some 4) (v := ?_) rfl ?_ ?_
  rotate_left
  · intro wS hSw; (try dsimp only at hSw); have q0 := hSw.c0; have q1 := hSw.c1; have q2 := hSw.c2; have q3 := hSw.c3; have q4 := hSw.c4; go_simp; (try with_reducible rfl)
  try simp only [Act.put, List.setIfInBounds_toArray, List.set_cons_zero, List.set_cons_succ]
  refine tk 2 (some 5) (v := ?_) rfl ?_ ?_
  rotate_left
  · intro wS hSw; (try dsimp only at hSw); go_simp; (try with_reducible rfl)
  try simp only [Act.put, List.setIfInBounds_toArray, List.set_cons_zero, List.set_cons_succ]
  refine tk 3 (some 6) (v := ?_) rfl ?_ ?_
  rotate_left
  · intro wS hSw; (try dsimp only at hSw); go_simp; (try with_reducible rfl)
  try simp only [Act.put, List.setIfInBounds_toArray, List.set_cons_zero, List.set_cons_succ]
  refine tk 4 (some 7) (v := ?_) rfl ?_ ?_
  rotate_left
  · intro wS hSw; (try dsimp only at hSw); have q0 := hSw.c0; have q1 := hSw.c1; have q2 := hSw.c2; have q3 := hSw.c3; have q4 := hSw.c4; go_simp; (try with_reducible rfl)
  try simp only [Act.put, List.setIfInBounds_toArray, List.set_cons_zero, List.set_cons_succ]
  refine wpAnyH_ready (rs := [5]) (by kernel_rfl) (by simp) ?_
  refine AllReadyH.cons rfl (fun K hK => ?_) AllReadyH.nil
  go_simp
  go_at_call 39
  refine (HG.out _ HN.out.rdy HN.out.kids).mono ?_
  rintro e w1 ⟨rfl, hb1⟩
  replace HN : Hid _ := HN.out.step hb1
  refine hK.out _ _ ?_ (fun hH5 => ?_)
  · (try dsimp only); exact HN.out.box
  clear hK K
  try simp only [Act.put, List.setIfInBounds_toArray, List.set_cons_zero, List.set_cons_succ]
  refine tk 6 (some 9) (v := ?_) rfl ?_ ?_
  rotate_left
  · intro wS hSw; (try dsimp only at hSw); go_simp; (try with_reducible rfl)
  try simp only [Act.put, List.setIfInBounds_toArray, List.set_cons_zero, List.set_cons_succ]
  refine tk 7 (some 10) (v := ?_) rfl ?_ ?_
  rotate_left
  · intro wS hSw; (try dsimp only at hSw); go_simp; (try with_reducible rfl)
  try simp only [Act.put, List.setIfInBounds_toArray, List.set_cons_zero, List.set_cons_succ]
  refine tkS 8 (some 11) rfl ?_
  try simp only [Act.put, List.setIfInBounds_toArray, List.set_cons_zero, List.set_cons_succ]
  refine tkS 9 (some 12) rfl ?_
  try simp only [Act.put, List.setIfInBounds_toArray, List.set_cons_zero, List.set_cons_succ]
  refine tkS 10 (some 13) rfl ?_
  try simp only [Act.put, List.setIfInBounds_toArray, List.set_cons_zero, List.set_cons_succ]
  refine tkS 11 (some 14) rfl ?_
  try simp only [Act.put, List.setIfInBounds_toArray, List.set_cons_zero, List.set_cons_succ]
  refine tkS 12 (some 15) rfl ?_
  try simp only [Act.put, List.setIfInBounds_toArray, List.set_cons_zero, List.set_cons_succ]
  refine tk 13 (some 16) (v := ?_) rfl ?_ ?_
  rotate_left
  · intro wS hSw; (try dsimp only at hSw); go_simp; (try with_reducible rfl)
  try simp only [Act.put, List.setIfInBounds_toArray, List.set_cons_zero, List.set_cons_succ]
  refine tk 14 (some 2) (v := ?_) rfl ?_ ?_
  rotate_left
  · intro wS hSw; (try dsimp only at hSw); go_simp; (try with_reducible rfl)
  try simp only [Act.put, List.setIfInBounds_toArray, List.set_cons_zero, List.set_cons_succ]
  refine wpAnyH_done (by kernel_rfl) ?_ _
  go_wp2
  go_ret
  exact ⟨rfl, HN.out.bel⟩
theorem frp_x (n : Nat) (k : Int) (t : List UInt8) (m a : Int) (l : List (Tr n)) (s : Option Addr) (c : Nat) (w : World) (hR : Rdy w) (hl : KsG w n s c l) (hk : (k == 38) = false) :
    Calls Tryz.prog 102 #[.agg #[.int .i64 k, .string (bsA t), .int .i64 m, .int .i64 a, .slice s l.length c]] w fun e w' => e = .returned (.bool (false)) ∧ Below w.heap.size w w' := by
  have HN0 : Hid (Nd w n k t m a l s c (w.alloc (Obj.cells #[Value.int IntKind.i64 k, Value.string (bsA t), Value.int IntKind.i64 m, Value.int IntKind.i64 a, Value.slice s l.length c] 24))) := Nd.new w n _ t _ a l s c hR hl
  obtain ⟨d0, d1, d2, d3, d4, -, -, -, -, -⟩ := HN0.out.box
  have HN : Hid (Nd w n k t m a l s c (w.alloc (Obj.cells #[Value.int IntKind.i64 k, Value.string (bsA t), Value.int IntKind.i64 m, Value.int IntKind.i64 a, Value.slice s l.length c] 24)).drew) := HN0.out.step (Below.refl _ _).drew
  clear hl hR
  go_enter Tryz.func102, Tryz.ntmps102
  go_wp2_with fail
  clear d0 d1 d2 d3 d4
  refine wp_region_held_drew (S := (fun wS => Box5 wS w.heap.size (.int .i64 k) (.string (bsA t)) (.int .i64 m) (.int .i64 a) (.slice s l.length c))) (by kernel_rfl) ?_ (fun hHeld => ?_)
  · (try dsimp only); exact HN.out.box
  refine tk 0 (some 3) (v := ?_) rfl ?_ ?_
  rotate_left
  · intro wS hSw; (try dsimp only at hSw); go_simp; (try with_reducible rfl)
  try simp only [Act.put, List.setIfInBounds_toArray, List.set_cons_zero, List.set_cons_succ]
  refine tk 1 (some 4) (v := ?_) rfl ?_ ?_
  rotate_left
  · intro wS hSw; (try dsimp only at hSw); have q0 := hSw.c0; have q1 := hSw.c1; have q2 := hSw.c2; have q3 := hSw.c3; have q4 := hSw.c4; go_simp; (try with_reducible rfl)
  try simp only [Act.put, List.setIfInBounds_toArray, List.set_cons_zero, List.set_cons_succ]
  refine tk 2 (some 5) (v := ?_) rfl ?_ ?_
  rotate_left
  · intro wS hSw; (try dsimp only at hSw); go_simp; (try with_reducible rfl)
  try simp only [Act.put, List.setIfInBounds_toArray, List.set_cons_zero, List.set_cons_succ]
  refine tk 3 (some 6) (v := ?_) rfl ?_ ?_
  rotate_left
  · intro wS hSw; (try dsimp only at hSw); go_simp; (try with_reducible rfl)
  try simp only [Act.put, List.setIfInBounds_toArray, List.set_cons_zero, List.set_cons_succ]
  refine tkS 4 (some 7) rfl ?_
  try simp only [Act.put, List.setIfInBounds_toArray, List.set_cons_zero, List.set_cons_succ]
  refine tkS 5 (some 8) rfl ?_
  try simp only [Act.put, List.setIfInBounds_toArray, List.set_cons_zero, List.set_cons_succ]
  refine tk 6 (some 9) (v := ?_) rfl ?_ ?_
  rotate_left
  · intro wS hSw; (try dsimp only at hSw); go_simp; (try with_reducible rfl)
  try simp only [Act.put, List.setIfInBounds_toArray, List.set_cons_zero, List.set_cons_succ]
  refine tk 7 (some 10) (v := ?_) rfl ?_ ?_
  rotate_left
  · intro wS hSw; (try dsimp only at hSw); go_simp; (try with_reducible rfl)
  try simp only [Act.put, List.setIfInBounds_toArray, List.set_cons_zero, List.set_cons_succ]
  refine tkS 8 (some 11) rfl ?_
  try simp only [Act.put, List.setIfInBounds_toArray, List.set_cons_zero, List.set_cons_succ]
  refine tkS 9 (some 12) rfl ?_
  try simp only [Act.put, List.setIfInBounds_toArray, List.set_cons_zero, List.set_cons_succ]
  refine tkS 10 (some 13) rfl ?_
  try simp only [Act.put, List.setIfInBounds_toArray, List.set_cons_zero, List.set_cons_succ]
  refine tkS 11 (some 14) rfl ?_
  try simp only [Act.put, List.setIfInBounds_toArray, List.set_cons_zero, List.set_cons_succ]
  refine tkS 12 (some 15) rfl ?_
  try simp only [Act.put, List.setIfInBounds_toArray, List.set_cons_zero, List.set_cons_succ]
  refine tk 13 (some 16) (v := ?_) rfl ?_ ?_
  rotate_left
  · intro wS hSw; (try dsimp only at hSw); go_simp; (try with_reducible rfl)
  try simp only [Act.put, List.setIfInBounds_toArray, List.set_cons_zero, List.set_cons_succ]
  refine tk 14 (some 2) (v := ?_) rfl ?_ ?_
  rotate_left
  · intro wS hSw; (try dsimp only at hSw); go_simp; (try with_reducible rfl)
  try simp only [Act.put, List.setIfInBounds_toArray, List.set_cons_zero, List.set_cons_succ]
  refine wpAnyH_done (by kernel_rfl) ?_ _
  go_wp2
  go_ret
  exact ⟨rfl, HN.out.bel⟩
theorem frp_any (n : Nat) (k : Int) (t : List UInt8) (m a : Int) (l : List (Tr n)) (s : Option Addr) (c : Nat) (w : World) (hR : Rdy w) (hl : KsG w n s c l) :
    Calls Tryz.prog 102 #[.agg #[.int .i64 k, .string (bsA t), .int .i64 m, .int .i64 a, .slice s l.length c]] w fun e w' => e = .returned (.bool (frpF n k t m l)) ∧ Below w.heap.size w w' := by
  unfold frpF
  rcases Classical.em (k = 38) with rfl | h
  · cases hb : plainF t m with
    | true => exact frp_t n t m a l s c w hR hl hb
    | false => exact frp_f n t m a l s c w hR hl hb
  · rw [decide_eq_false h]
    exact frp_x n k t m a l s c w hR hl (by simpa using h)
theorem ent102 : Ent 102 := ent_of Tryz.func102 (by kernel_rfl) (by kernel_rfl)
def frpP (n : Nat) (y : Tr n) : Bool := frpF n.pred (kd n y) (tx n y) (nu n y) (ks n y)
theorem frp_may (n : Nat) (w : World) (hR : Rdy w) : May 102 [] n (frpP n) w := ⟨ent102, fun W hW y s c hy => by
  cases n with
  | zero => exact Empty.elim y
  | succ n => exact frp_any n (kd (n + 1) y) (tx (n + 1) y) (nu (n + 1) y) (pl (n + 1) y) (ks (n + 1) y) s c W (hR.below hW) (NdG.kids hy)⟩
def setsF (n : Nat) (k : Int) (t : List UInt8) (m : Int) (l : List (Tr n)) : Bool := listF n k t m l 1 32 (setP n)
theorem sets_any (n : Nat) (k : Int) (t : List UInt8) (m a : Int) (l : List (Tr n)) (s : Option Addr) (c : Nat) (w : World) (hR : Rdy w) (hl : KsG w n s c l) :
    Calls Tryz.prog 62 #[.agg #[.int .i64 k, .string (bsA t), .int .i64 m, .int .i64 a, .slice s l.length c]] w fun e w' => e = .returned (.bool (setsF n k t m l)) ∧ Below w.heap.size w w' := by
  have HN0 : Hid (Nd w n k t m a l s c (w.alloc (Obj.cells #[Value.int IntKind.i64 k, Value.string (bsA t), Value.int IntKind.i64 m, Value.int IntKind.i64 a, Value.slice s l.length c] 24))) := Nd.new w n _ t _ a l s c hR hl
  obtain ⟨d0, d1, d2, d3, d4, -, -, -, -, -⟩ := HN0.out.box
  have HN : Hid (Nd w n k t m a l s c (w.alloc (Obj.cells #[Value.int IntKind.i64 k, Value.string (bsA t), Value.int IntKind.i64 m, Value.int IntKind.i64 a, Value.slice s l.length c] 24)).drew) := HN0.out.step (Below.refl _ _).drew
  have hE := ent123
  unfold Ent at hE
  clear hl hR
  go_enter Tryz.func62, Tryz.ntmps62
  go_wp2_with fail
  clear d0 d1 d2 d3 d4
  refine wp_region_held_drew (S := (fun wS => Box5 wS w.heap.size (.int .i64 k) (.string (bsA t)) (.int .i64 m) (.int .i64 a) (.slice s l.length c))) (by kernel_rfl) ?_ (fun hHeld => ?_)
  · (try dsimp only); exact HN.out.box
  refine tk 1 (some 4) (v := ?_) rfl ?_ ?_
  rotate_left
  · intro wS hSw; (try dsimp only at hSw); have q0 := hSw.c0; have q1 := hSw.c1; have q2 := hSw.c2; have q3 := hSw.c3; have q4 := hSw.c4; go_simp; (try with_reducible rfl)
  try simp only [Act.put, List.setIfInBounds_toArray, List.set_cons_zero, List.set_cons_succ]
  refine wpAnyH_ready (rs := [0]) (by kernel_rfl) (by simp) ?_
  refine AllReadyH.cons rfl (fun K hK => ?_) AllReadyH.nil
  go_simp
  go_at_call 100
  refine (listOf_any 1 32 105 [] _ HN.out.rdy).mono ?_
  rintro e w1 ⟨⟨vsa, rfl, hv⟩, hb1⟩
  have HVa : Hid (May 123 vsa (n + 1) (lstP (n + 1) 1 32 (setP n)) w1) := hv (n + 1) _ (set_may n _ HN.out.rdy)
  replace HN : Hid _ := HN.out.step hb1
  clear hv
  unfold plV
  refine hK.out _ _ ?_ (fun hH0 => ?_)
  · (try dsimp only); exact HN.out.box
  clear hK K
  try simp only [Act.put, List.setIfInBounds_toArray, List.set_cons_zero, List.set_cons_succ]
  refine wpAnyH_ready (rs := [2]) (by kernel_rfl) (by simp) ?_
  refine AllReadyH.cons rfl (fun K hK => ?_) AllReadyH.nil
  go_simp
  refine (HVa.out.run _ (Below.refl _ _) ((k, t, m, a, l) : Tr (n + 1)) s c HN.out.kids).mono ?_
  rintro e w1 ⟨rfl, hb1⟩
  replace HN : Hid _ := HN.out.step hb1
  refine hK.out _ _ ?_ (fun hH2 => ?_)
  · (try dsimp only); exact HN.out.box
  clear hK K
  try simp only [Act.put, List.setIfInBounds_toArray, List.set_cons_zero, List.set_cons_succ]
  refine tk 3 (some 2) (v := ?_) rfl ?_ ?_
  rotate_left
  · intro wS hSw; (try dsimp only at hSw); go_simp; (try with_reducible rfl)
  try simp only [Act.put, List.setIfInBounds_toArray, List.set_cons_zero, List.set_cons_succ]
  refine wpAnyH_done (by kernel_rfl) ?_ _
  go_wp2
  go_ret
  exact ⟨rfl, HN.out.bel⟩
theorem ent62 : Ent 62 := ent_of Tryz.func62 (by kernel_rfl) (by kernel_rfl)
def setsP (n : Nat) (y : Tr n) : Bool := setsF n.pred (kd n y) (tx n y) (nu n y) (ks n y)
theorem sets_may (n : Nat) (w : World) (hR : Rdy w) : May 62 [] n (setsP n) w := ⟨ent62, fun W hW y s c hy => by
  cases n with
  | zero => exact Empty.elim y
  | succ n => exact sets_any n (kd (n + 1) y) (tx (n + 1) y) (nu (n + 1) y) (pl (n + 1) y) (ks (n + 1) y) s c W (hR.below hW) (NdG.kids hy)⟩
def itemsF (n : Nat) (k : Int) (t : List UInt8) (m : Int) (l : List (Tr n)) : Bool := starF n k t m l || listF n k t m l 1 32 (itmP n)
theorem items_any (n : Nat) (k : Int) (t : List UInt8) (m a : Int) (l : List (Tr n)) (s : Option Addr) (c : Nat) (w : World) (hR : Rdy w) (hl : KsG w n s c l) :
    Calls Tryz.prog 63 #[.agg #[.int .i64 k, .string (bsA t), .int .i64 m, .int .i64 a, .slice s l.length c]] w fun e w' => e = .returned (.bool (itemsF n k t m l)) ∧ Below w.heap.size w w' := by
  have HN0 : Hid (Nd w n k t m a l s c (w.alloc (Obj.cells #[Value.int IntKind.i64 k, Value.string (bsA t), Value.int IntKind.i64 m, Value.int IntKind.i64 a, Value.slice s l.length c] 24))) := Nd.new w n _ t _ a l s c hR hl
  obtain ⟨d0, d1, d2, d3, d4, -, -, -, -, -⟩ := HN0.out.box
  have HN : Hid (Nd w n k t m a l s c (w.alloc (Obj.cells #[Value.int IntKind.i64 k, Value.string (bsA t), Value.int IntKind.i64 m, Value.int IntKind.i64 a, Value.slice s l.length c] 24)).drew) := HN0.out.step (Below.refl _ _).drew
  have hE := ent92
  unfold Ent at hE
  clear hl hR
  go_enter Tryz.func63, Tryz.ntmps63
  go_wp2_with fail
  clear d0 d1 d2 d3 d4
  refine wp_region_held_drew (S := (fun wS => Box5 wS w.heap.size (.int .i64 k) (.string (bsA t)) (.int .i64 m) (.int .i64 a) (.slice s l.length c))) (by kernel_rfl) ?_ (fun hHeld => ?_)
  · (try dsimp only); exact HN.out.box
  refine tk 2 (some 5) (v := ?_) rfl ?_ ?_
  rotate_left
  · intro wS hSw; (try dsimp only at hSw); have q0 := hSw.c0; have q1 := hSw.c1; have q2 := hSw.c2; have q3 := hSw.c3; have q4 := hSw.c4; go_simp; (try with_reducible rfl)
  try simp only [Act.put, List.setIfInBounds_toArray, List.set_cons_zero, List.set_cons_succ]
  refine wpAnyH_ready (rs := [0]) (by kernel_rfl) (by simp) ?_
  refine AllReadyH.cons rfl (fun K hK => ?_) AllReadyH.nil
  go_simp
  go_at_call 100
  refine (listOf_any 1 32 107 [] _ HN.out.rdy).mono ?_
  rintro e w1 ⟨⟨vsa, rfl, hv⟩, hb1⟩
  have HVa : Hid (May 123 vsa (n + 1) (lstP (n + 1) 1 32 (itmP n)) w1) := hv (n + 1) _ (itm_may n _ HN.out.rdy)
  replace HN : Hid _ := HN.out.step hb1
  clear hv
  unfold plV
  refine hK.out _ _ ?_ (fun hH0 => ?_)
  · (try dsimp only); exact HN.out.box
  clear hK K
  try simp only [Act.put, List.setIfInBounds_toArray, List.set_cons_zero, List.set_cons_succ]
  refine wpAnyH_ready (rs := [1]) (by kernel_rfl) (by simp) ?_
  refine AllReadyH.cons rfl (fun K hK => ?_) AllReadyH.nil
  go_simp
  go_at_call 52
  refine (either_any 106 123 [] vsa _).mono ?_
  rintro e w1 ⟨⟨vsb, rfl, hv⟩, hb1⟩
  have HVb : Hid (May 92 vsb (n + 1) (eitP (n + 1) (starP (n + 1)) (lstP (n + 1) 1 32 (itmP n))) w1) := hv (n + 1) _ _ (star_may (n + 1) _ HN.out.rdy) HVa.out
  replace HN : Hid _ := HN.out.step hb1
  replace HVa : Hid _ := HVa.out.below hb1
  clear hv
  unfold plV
  refine hK.out _ _ ?_ (fun hH1 => ?_)
  · (try dsimp only); exact HN.out.box
  clear hK K
  try simp only [Act.put, List.setIfInBounds_toArray, List.set_cons_zero, List.set_cons_succ]
  refine wpAnyH_ready (rs := [3]) (by kernel_rfl) (by simp) ?_
  refine AllReadyH.cons rfl (fun K hK => ?_) AllReadyH.nil
  go_simp
  refine (HVb.out.run _ (Below.refl _ _) ((k, t, m, a, l) : Tr (n + 1)) s c HN.out.kids).mono ?_
  rintro e w1 ⟨rfl, hb1⟩
  replace HN : Hid _ := HN.out.step hb1
  refine hK.out _ _ ?_ (fun hH3 => ?_)
  · (try dsimp only); exact HN.out.box
  clear hK K
  try simp only [Act.put, List.setIfInBounds_toArray, List.set_cons_zero, List.set_cons_succ]
  refine tk 4 (some 2) (v := ?_) rfl ?_ ?_
  rotate_left
  · intro wS hSw; (try dsimp only at hSw); go_simp; (try with_reducible rfl)
  try simp only [Act.put, List.setIfInBounds_toArray, List.set_cons_zero, List.set_cons_succ]
  refine wpAnyH_done (by kernel_rfl) ?_ _
  go_wp2
  go_ret
  exact ⟨rfl, HN.out.bel⟩
theorem ent63 : Ent 63 := ent_of Tryz.func63 (by kernel_rfl) (by kernel_rfl)
def itemsP (n : Nat) (y : Tr n) : Bool := itemsF n.pred (kd n y) (tx n y) (nu n y) (ks n y)
theorem items_may (n : Nat) (w : World) (hR : Rdy w) : May 63 [] n (itemsP n) w := ⟨ent63, fun W hW y s c hy => by
  cases n with
  | zero => exact Empty.elim y
  | succ n => exact items_any n (kd (n + 1) y) (tx (n + 1) y) (nu (n + 1) y) (pl (n + 1) y) (ks (n + 1) y) s c W (hR.below hW) (NdG.kids hy)⟩
def rtL : List (List UInt8) := [[97, 108, 108], [102, 105, 114, 115, 116], [108, 97, 115, 116], [115, 110, 97, 112, 115, 104, 111, 116]]
def rateF (n : Nat) (k : Int) (t : List UInt8) (m : Int) (l : List (Tr n)) : Bool := decide (k = 26) && rtL.contains t && (witF m 1 65536 && areQ n l [unitP n [101, 118, 101, 110, 116, 115]] || witF m 1 1099511627776 && areQ n l [unitP n [109, 115]])
theorem rate_a (n : Nat) (t : List UInt8) (m a : Int) (l : List (Tr n)) (s : Option Addr) (c : Nat) (w : World) (hR : Rdy w) (hl : KsG w n s c l) (hv : (bsA t).toList = [97, 108, 108] ∨ (bsA t).toList = [102, 105, 114, 115, 116] ∨ (bsA t).toList = [108, 97, 115, 116] ∨ (bsA t).toList = [115, 110, 97, 112, 115, 104, 111, 116]) (ha : witF m 1 65536 = true) (hr : areQ n l [unitP n [101, 118, 101, 110, 116, 115]] = true) :
    Calls Tryz.prog 104 #[.agg #[.int .i64 26, .string (bsA t), .int .i64 m, .int .i64 a, .slice s l.length c]] w fun e w' => e = .returned (.bool (true)) ∧ Below w.heap.size w w' := by
  have HN0 : Hid (Nd w n 26 t m a l s c (w.alloc (Obj.cells #[Value.int IntKind.i64 26, Value.string (bsA t), Value.int IntKind.i64 m, Value.int IntKind.i64 a, Value.slice s l.length c] 24))) := Nd.new w n _ t _ a l s c hR hl
  obtain ⟨d0, d1, d2, d3, d4, -, -, -, -, -⟩ := HN0.out.box
  have HN : Hid (Nd w n 26 t m a l s c (w.alloc (Obj.cells #[Value.int IntKind.i64 26, Value.string (bsA t), Value.int IntKind.i64 m, Value.int IntKind.i64 a, Value.slice s l.length c] 24)).drew) := HN0.out.step (Below.refl _ _).drew
  have hGa := wit_any m 1 65536
  rw [ha] at hGa
  have HGa : Hid _ := hGa
  clear hGa ha
  have HR : Hid _ := hr
  clear hr
  clear hl hR
  rcases hv with ht | ht | ht | ht
  all_goals
    go_enter Tryz.func104, Tryz.ntmps104
    go_wp2_with fail
    clear d0 d1 d2 d3 d4
    refine wp_region_held_drew (S := (fun wS => Box5 wS w.heap.size (.int .i64 26) (.string (bsA t)) (.int .i64 m) (.int .i64 a) (.slice s l.length c))) (by kernel_rfl) ?_ (fun hHeld => ?_)
    · (try dsimp only); exact HN.out.box
    refine tk 0 (some 13) (v := ?_) rfl ?_ ?_
    rotate_left
    · intro wS hSw; (try dsimp only at hSw); go_simp; (try with_reducible rfl)
    try simp only [Act.put, List.setIfInBounds_toArray, List.set_cons_zero, List.set_cons_succ]
    refine tk 1 (some 14) (v := ?_) rfl ?_ ?_
    rotate_left
    · intro wS hSw; (try dsimp only at hSw); have q0 := hSw.c0; have q1 := hSw.c1; have q2 := hSw.c2; have q3 := hSw.c3; have q4 := hSw.c4; go_simp; (try with_reducible rfl)
    try simp only [Act.put, List.setIfInBounds_toArray, List.set_cons_zero, List.set_cons_succ]
    refine wpAnyH_ready (rs := [2]) (by kernel_rfl) (by simp) ?_
    refine AllReadyH.cons rfl (fun K hK => ?_) AllReadyH.nil
    go_simp
    go_at_call 54
    refine (HGa.out _).mono ?_
    rintro e w1 ⟨rfl, rfl⟩
    refine hK.out _ _ ?_ (fun hH2 => ?_)
    · (try dsimp only); exact HN.out.box
    clear hK K
    try simp only [Act.put, List.setIfInBounds_toArray, List.set_cons_zero, List.set_cons_succ]
    refine tk 3 (some 16) (v := ?_) rfl ?_ ?_
    rotate_left
    · intro wS hSw; (try dsimp only at hSw); go_simp; (try with_reducible rfl)
    try simp only [Act.put, List.setIfInBounds_toArray, List.set_cons_zero, List.set_cons_succ]
    refine tk 4 (some 17) (v := ?_) rfl ?_ ?_
    rotate_left
    · intro wS hSw; (try dsimp only at hSw); go_simp; (try with_reducible rfl)
    try simp only [Act.put, List.setIfInBounds_toArray, List.set_cons_zero, List.set_cons_succ]
    refine tk 5 (some 18) (v := ?_) rfl ?_ ?_
    rotate_left
    · intro wS hSw; (try dsimp only at hSw); have q0 := hSw.c0; have q1 := hSw.c1; have q2 := hSw.c2; have q3 := hSw.c3; have q4 := hSw.c4; go_simp; (try with_reducible rfl)
    try simp only [Act.put, List.setIfInBounds_toArray, List.set_cons_zero, List.set_cons_succ]
    refine wpAnyH_ready (rs := [6]) (by kernel_rfl) (by simp) ?_
    refine AllReadyH.cons rfl (fun K hK => ?_) AllReadyH.nil
    go_simp
    go_at_call 124
    refine (unit_any [101, 118, 101, 110, 116, 115] _ HN.out.rdy).mono ?_
    rintro e w1 ⟨⟨vsa, rfl, hv⟩, hb1⟩
    have HVa : Hid (May 132 vsa n (unitP n [101, 118, 101, 110, 116, 115]) w1) := hv n
    replace HN : Hid _ := HN.out.step hb1
    clear hv
    unfold plV
    refine hK.out _ _ ?_ (fun hH6 => ?_)
    · (try dsimp only); exact HN.out.box
    clear hK K
    try simp only [Act.put, List.setIfInBounds_toArray, List.set_cons_zero, List.set_cons_succ]
    refine wpAnyH_ready (rs := [7]) (by kernel_rfl) (by simp) ?_
    refine AllReadyH.cons rfl (fun K hK => ?_) AllReadyH.nil
    go_simp
    refine hK.out _ _ ?_ (fun hH7 => ?_)
    · (try dsimp only); exact HN.out.box.below ((Below.refl _ _).alloc (Nat.le_refl _) _)
    clear hK K
    try simp only [Act.put, List.setIfInBounds_toArray, List.set_cons_zero, List.set_cons_succ]
    refine wpAnyH_ready (rs := [8]) (by kernel_rfl) (by simp) ?_
    refine AllReadyH.cons rfl (fun K hK => ?_) AllReadyH.nil
    go_simp
    go_at_call 40
    refine (are_b n l [(132, vsa, unitP n [101, 118, 101, 110, 116, 115])] s c _ _ _ _ _ rfl rfl (by simp) HN.out.kids (List.forall_mem_cons.2 ⟨HVa.out, (by simp)⟩)).mono ?_
    rintro e w1 ⟨rfl, hb1⟩
    replace HN : Hid _ := HN.out.step hb1
    replace HVa : Hid _ := HVa.out.below hb1
    simp only [List.map_cons, List.map_nil, HR.out]
    refine hK.out _ _ ?_ (fun hH8 => ?_)
    · (try dsimp only); exact HN.out.box
    clear hK K
    try simp only [Act.put, List.setIfInBounds_toArray, List.set_cons_zero, List.set_cons_succ]
    refine tk 9 (some 22) (v := ?_) rfl ?_ ?_
    rotate_left
    · intro wS hSw; (try dsimp only at hSw); go_simp; (try with_reducible rfl)
    try simp only [Act.put, List.setIfInBounds_toArray, List.set_cons_zero, List.set_cons_succ]
    refine tk 10 (some 23) (v := ?_) rfl ?_ ?_
    rotate_left
    · intro wS hSw; (try dsimp only at hSw); go_simp; (try with_reducible rfl)
    try simp only [Act.put, List.setIfInBounds_toArray, List.set_cons_zero, List.set_cons_succ]
    refine tkS 11 (some 24) rfl ?_
    try simp only [Act.put, List.setIfInBounds_toArray, List.set_cons_zero, List.set_cons_succ]
    refine tkS 12 (some 25) rfl ?_
    try simp only [Act.put, List.setIfInBounds_toArray, List.set_cons_zero, List.set_cons_succ]
    refine tkS 13 (some 26) rfl ?_
    try simp only [Act.put, List.setIfInBounds_toArray, List.set_cons_zero, List.set_cons_succ]
    refine tkS 14 (some 27) rfl ?_
    try simp only [Act.put, List.setIfInBounds_toArray, List.set_cons_zero, List.set_cons_succ]
    refine tkS 15 (some 28) rfl ?_
    try simp only [Act.put, List.setIfInBounds_toArray, List.set_cons_zero, List.set_cons_succ]
    refine tkS 16 (some 29) rfl ?_
    try simp only [Act.put, List.setIfInBounds_toArray, List.set_cons_zero, List.set_cons_succ]
    refine tkS 17 (some 30) rfl ?_
    try simp only [Act.put, List.setIfInBounds_toArray, List.set_cons_zero, List.set_cons_succ]
    refine tkS 18 (some 31) rfl ?_
    try simp only [Act.put, List.setIfInBounds_toArray, List.set_cons_zero, List.set_cons_succ]
    refine tkS 19 (some 32) rfl ?_
    try simp only [Act.put, List.setIfInBounds_toArray, List.set_cons_zero, List.set_cons_succ]
    refine tkS 20 (some 33) rfl ?_
    try simp only [Act.put, List.setIfInBounds_toArray, List.set_cons_zero, List.set_cons_succ]
    refine tk 21 (some 34) (v := ?_) rfl ?_ ?_
    rotate_left
    · intro wS hSw; (try dsimp only at hSw); go_simp; (try with_reducible rfl)
    try simp only [Act.put, List.setIfInBounds_toArray, List.set_cons_zero, List.set_cons_succ]
    refine tk 22 (some 2) (v := ?_) rfl ?_ ?_
    rotate_left
    · intro wS hSw; (try dsimp only at hSw); go_simp; (try with_reducible rfl)
    try simp only [Act.put, List.setIfInBounds_toArray, List.set_cons_zero, List.set_cons_succ]
    refine wpAnyH_done (by kernel_rfl) ?_ _
    go_wp2
    go_ret
    exact ⟨rfl, HN.out.bel⟩
theorem rate_b (n : Nat) (t : List UInt8) (m a : Int) (l : List (Tr n)) (s : Option Addr) (c : Nat) (w : World) (hR : Rdy w) (hl : KsG w n s c l) (hv : (bsA t).toList = [97, 108, 108] ∨ (bsA t).toList = [102, 105, 114, 115, 116] ∨ (bsA t).toList = [108, 97, 115, 116] ∨ (bsA t).toList = [115, 110, 97, 112, 115, 104, 111, 116]) (ha : witF m 1 65536 = true) (hr : areQ n l [unitP n [101, 118, 101, 110, 116, 115]] = false) (hb : witF m 1 1099511627776 = true) :
    Calls Tryz.prog 104 #[.agg #[.int .i64 26, .string (bsA t), .int .i64 m, .int .i64 a, .slice s l.length c]] w fun e w' => e = .returned (.bool (areQ n l [unitP n [109, 115]])) ∧ Below w.heap.size w w' := by
  have HN0 : Hid (Nd w n 26 t m a l s c (w.alloc (Obj.cells #[Value.int IntKind.i64 26, Value.string (bsA t), Value.int IntKind.i64 m, Value.int IntKind.i64 a, Value.slice s l.length c] 24))) := Nd.new w n _ t _ a l s c hR hl
  obtain ⟨d0, d1, d2, d3, d4, -, -, -, -, -⟩ := HN0.out.box
  have HN : Hid (Nd w n 26 t m a l s c (w.alloc (Obj.cells #[Value.int IntKind.i64 26, Value.string (bsA t), Value.int IntKind.i64 m, Value.int IntKind.i64 a, Value.slice s l.length c] 24)).drew) := HN0.out.step (Below.refl _ _).drew
  have hGa := wit_any m 1 65536
  rw [ha] at hGa
  have HGa : Hid _ := hGa
  clear hGa ha
  have HR : Hid _ := hr
  clear hr
  have hGb := wit_any m 1 1099511627776
  rw [hb] at hGb
  have HGb : Hid _ := hGb
  clear hGb hb
  clear hl hR
  rcases hv with ht | ht | ht | ht
  all_goals
    go_enter Tryz.func104, Tryz.ntmps104
    go_wp2_with fail
    clear d0 d1 d2 d3 d4
    refine wp_region_held_drew (S := (fun wS => Box5 wS w.heap.size (.int .i64 26) (.string (bsA t)) (.int .i64 m) (.int .i64 a) (.slice s l.length c))) (by kernel_rfl) ?_ (fun hHeld => ?_)
    · (try dsimp only); exact HN.out.box
    refine tk 0 (some 13) (v := ?_) rfl ?_ ?_
    rotate_left
    · intro wS hSw; (try dsimp only at hSw); go_simp; (try with_reducible rfl)
    try simp only [Act.put, List.setIfInBounds_toArray, List.set_cons_zero, List.set_cons_succ]
    refine tk 1 (some 14) (v := ?_) rfl ?_ ?_
    rotate_left
    · intro wS hSw; (try dsimp only at hSw); have q0 := hSw.c0; have q1 := hSw.c1; have q2 := hSw.c2; have q3 := hSw.c3; have q4 := hSw.c4; go_simp; (try with_reducible rfl)
    try simp only [Act.put, List.setIfInBounds_toArray, List.set_cons_zero, List.set_cons_succ]
    refine wpAnyH_ready (rs := [2]) (by kernel_rfl) (by simp) ?_
    refine AllReadyH.cons rfl (fun K hK => ?_) AllReadyH.nil
    go_simp
    go_at_call 54
    refine (HGa.out _).mono ?_
    rintro e w1 ⟨rfl, rfl⟩
    refine hK.out _ _ ?_ (fun hH2 => ?_)
    · (try dsimp only); exact HN.out.box
    clear hK K
    try simp only [Act.put, List.setIfInBounds_toArray, List.set_cons_zero, List.set_cons_succ]
    refine tk 3 (some 16) (v := ?_) rfl ?_ ?_
    rotate_left
    · intro wS hSw; (try dsimp only at hSw); go_simp; (try with_reducible rfl)
    try simp only [Act.put, List.setIfInBounds_toArray, List.set_cons_zero, List.set_cons_succ]
    refine tk 4 (some 17) (v := ?_) rfl ?_ ?_
    rotate_left
    · intro wS hSw; (try dsimp only at hSw); go_simp; (try with_reducible rfl)
    try simp only [Act.put, List.setIfInBounds_toArray, List.set_cons_zero, List.set_cons_succ]
    refine tk 5 (some 18) (v := ?_) rfl ?_ ?_
    rotate_left
    · intro wS hSw; (try dsimp only at hSw); have q0 := hSw.c0; have q1 := hSw.c1; have q2 := hSw.c2; have q3 := hSw.c3; have q4 := hSw.c4; go_simp; (try with_reducible rfl)
    try simp only [Act.put, List.setIfInBounds_toArray, List.set_cons_zero, List.set_cons_succ]
    refine wpAnyH_ready (rs := [6]) (by kernel_rfl) (by simp) ?_
    refine AllReadyH.cons rfl (fun K hK => ?_) AllReadyH.nil
    go_simp
    go_at_call 124
    refine (unit_any [101, 118, 101, 110, 116, 115] _ HN.out.rdy).mono ?_
    rintro e w1 ⟨⟨vsa, rfl, hv⟩, hb1⟩
    have HVa : Hid (May 132 vsa n (unitP n [101, 118, 101, 110, 116, 115]) w1) := hv n
    replace HN : Hid _ := HN.out.step hb1
    clear hv
    unfold plV
    refine hK.out _ _ ?_ (fun hH6 => ?_)
    · (try dsimp only); exact HN.out.box
    clear hK K
    try simp only [Act.put, List.setIfInBounds_toArray, List.set_cons_zero, List.set_cons_succ]
    refine wpAnyH_ready (rs := [7]) (by kernel_rfl) (by simp) ?_
    refine AllReadyH.cons rfl (fun K hK => ?_) AllReadyH.nil
    go_simp
    refine hK.out _ _ ?_ (fun hH7 => ?_)
    · (try dsimp only); exact HN.out.box.below ((Below.refl _ _).alloc (Nat.le_refl _) _)
    clear hK K
    try simp only [Act.put, List.setIfInBounds_toArray, List.set_cons_zero, List.set_cons_succ]
    refine wpAnyH_ready (rs := [8]) (by kernel_rfl) (by simp) ?_
    refine AllReadyH.cons rfl (fun K hK => ?_) AllReadyH.nil
    go_simp
    go_at_call 40
    refine (are_b n l [(132, vsa, unitP n [101, 118, 101, 110, 116, 115])] s c _ _ _ _ _ rfl rfl (by simp) HN.out.kids (List.forall_mem_cons.2 ⟨HVa.out, (by simp)⟩)).mono ?_
    rintro e w1 ⟨rfl, hb1⟩
    replace HN : Hid _ := HN.out.step hb1
    replace HVa : Hid _ := HVa.out.below hb1
    simp only [List.map_cons, List.map_nil, HR.out]
    refine hK.out _ _ ?_ (fun hH8 => ?_)
    · (try dsimp only); exact HN.out.box
    clear hK K
    try simp only [Act.put, List.setIfInBounds_toArray, List.set_cons_zero, List.set_cons_succ]
    refine tk 9 (some 22) (v := ?_) rfl ?_ ?_
    rotate_left
    · intro wS hSw; (try dsimp only at hSw); go_simp; (try with_reducible rfl)
    try simp only [Act.put, List.setIfInBounds_toArray, List.set_cons_zero, List.set_cons_succ]
    refine tk 10 (some 23) (v := ?_) rfl ?_ ?_
    rotate_left
    · intro wS hSw; (try dsimp only at hSw); go_simp; (try with_reducible rfl)
    try simp only [Act.put, List.setIfInBounds_toArray, List.set_cons_zero, List.set_cons_succ]
    refine tk 11 (some 24) (v := ?_) rfl ?_ ?_
    rotate_left
    · intro wS hSw; (try dsimp only at hSw); go_simp; (try with_reducible rfl)
    try simp only [Act.put, List.setIfInBounds_toArray, List.set_cons_zero, List.set_cons_succ]
    refine tk 12 (some 25) (v := ?_) rfl ?_ ?_
    rotate_left
    · intro wS hSw; (try dsimp only at hSw); have q0 := hSw.c0; have q1 := hSw.c1; have q2 := hSw.c2; have q3 := hSw.c3; have q4 := hSw.c4; go_simp; (try with_reducible rfl)
    try simp only [Act.put, List.setIfInBounds_toArray, List.set_cons_zero, List.set_cons_succ]
    refine wpAnyH_ready (rs := [13]) (by kernel_rfl) (by simp) ?_
    refine AllReadyH.cons rfl (fun K hK => ?_) AllReadyH.nil
    go_simp
    go_at_call 54
    refine (HGb.out _).mono ?_
    rintro e w1 ⟨rfl, rfl⟩
    refine hK.out _ _ ?_ (fun hH13 => ?_)
    · (try dsimp only); exact HN.out.box
    clear hK K
    try simp only [Act.put, List.setIfInBounds_toArray, List.set_cons_zero, List.set_cons_succ]
    refine tk 14 (some 27) (v := ?_) rfl ?_ ?_
    rotate_left
    · intro wS hSw; (try dsimp only at hSw); go_simp; (try with_reducible rfl)
    try simp only [Act.put, List.setIfInBounds_toArray, List.set_cons_zero, List.set_cons_succ]
    refine tk 15 (some 28) (v := ?_) rfl ?_ ?_
    rotate_left
    · intro wS hSw; (try dsimp only at hSw); go_simp; (try with_reducible rfl)
    try simp only [Act.put, List.setIfInBounds_toArray, List.set_cons_zero, List.set_cons_succ]
    refine tk 16 (some 29) (v := ?_) rfl ?_ ?_
    rotate_left
    · intro wS hSw; (try dsimp only at hSw); have q0 := hSw.c0; have q1 := hSw.c1; have q2 := hSw.c2; have q3 := hSw.c3; have q4 := hSw.c4; go_simp; (try with_reducible rfl)
    try simp only [Act.put, List.setIfInBounds_toArray, List.set_cons_zero, List.set_cons_succ]
    refine wpAnyH_ready (rs := [17]) (by kernel_rfl) (by simp) ?_
    refine AllReadyH.cons rfl (fun K hK => ?_) AllReadyH.nil
    go_simp
    go_at_call 124
    refine (unit_any [109, 115] _ HN.out.rdy).mono ?_
    rintro e w1 ⟨⟨vsb, rfl, hv⟩, hb1⟩
    have HVb : Hid (May 132 vsb n (unitP n [109, 115]) w1) := hv n
    replace HN : Hid _ := HN.out.step hb1
    replace HVa : Hid _ := HVa.out.below hb1
    clear hv
    unfold plV
    refine hK.out _ _ ?_ (fun hH17 => ?_)
    · (try dsimp only); exact HN.out.box
    clear hK K
    try simp only [Act.put, List.setIfInBounds_toArray, List.set_cons_zero, List.set_cons_succ]
    refine wpAnyH_ready (rs := [18]) (by kernel_rfl) (by simp) ?_
    refine AllReadyH.cons rfl (fun K hK => ?_) AllReadyH.nil
    go_simp
    refine hK.out _ _ ?_ (fun hH18 => ?_)
    · (try dsimp only); exact HN.out.box.below ((Below.refl _ _).alloc (Nat.le_refl _) _)
    clear hK K
    try simp only [Act.put, List.setIfInBounds_toArray, List.set_cons_zero, List.set_cons_succ]
    refine wpAnyH_ready (rs := [19]) (by kernel_rfl) (by simp) ?_
    refine AllReadyH.cons rfl (fun K hK => ?_) AllReadyH.nil
    go_simp
    go_at_call 40
    refine (are_b n l [(132, vsb, unitP n [109, 115])] s c _ _ _ _ _ rfl rfl (by simp) HN.out.kids (List.forall_mem_cons.2 ⟨HVb.out, (by simp)⟩)).mono ?_
    rintro e w1 ⟨rfl, hb1⟩
    replace HN : Hid _ := HN.out.step hb1
    replace HVa : Hid _ := HVa.out.below hb1
    replace HVb : Hid _ := HVb.out.below hb1
    refine hK.out _ _ ?_ (fun hH19 => ?_)
    · (try dsimp only); exact HN.out.box
    clear hK K
    try simp only [Act.put, List.setIfInBounds_toArray, List.set_cons_zero, List.set_cons_succ]
    refine tk 20 (some 33) (v := ?_) rfl ?_ ?_
    rotate_left
    · intro wS hSw; (try dsimp only at hSw); go_simp; (try with_reducible rfl)
    try simp only [Act.put, List.setIfInBounds_toArray, List.set_cons_zero, List.set_cons_succ]
    refine tk 21 (some 34) (v := ?_) rfl ?_ ?_
    rotate_left
    · intro wS hSw; (try dsimp only at hSw); go_simp; (try with_reducible rfl)
    try simp only [Act.put, List.setIfInBounds_toArray, List.set_cons_zero, List.set_cons_succ]
    refine tk 22 (some 2) (v := ?_) rfl ?_ ?_
    rotate_left
    · intro wS hSw; (try dsimp only at hSw); go_simp; (try with_reducible rfl)
    try simp only [Act.put, List.setIfInBounds_toArray, List.set_cons_zero, List.set_cons_succ]
    refine wpAnyH_done (by kernel_rfl) ?_ _
    go_wp2
    go_ret
    exact ⟨rfl, HN.out.bel⟩
theorem rate_c (n : Nat) (t : List UInt8) (m a : Int) (l : List (Tr n)) (s : Option Addr) (c : Nat) (w : World) (hR : Rdy w) (hl : KsG w n s c l) (hv : (bsA t).toList = [97, 108, 108] ∨ (bsA t).toList = [102, 105, 114, 115, 116] ∨ (bsA t).toList = [108, 97, 115, 116] ∨ (bsA t).toList = [115, 110, 97, 112, 115, 104, 111, 116]) (ha : witF m 1 65536 = true) (hr : areQ n l [unitP n [101, 118, 101, 110, 116, 115]] = false) (hb : witF m 1 1099511627776 = false) :
    Calls Tryz.prog 104 #[.agg #[.int .i64 26, .string (bsA t), .int .i64 m, .int .i64 a, .slice s l.length c]] w fun e w' => e = .returned (.bool (false)) ∧ Below w.heap.size w w' := by
  have HN0 : Hid (Nd w n 26 t m a l s c (w.alloc (Obj.cells #[Value.int IntKind.i64 26, Value.string (bsA t), Value.int IntKind.i64 m, Value.int IntKind.i64 a, Value.slice s l.length c] 24))) := Nd.new w n _ t _ a l s c hR hl
  obtain ⟨d0, d1, d2, d3, d4, -, -, -, -, -⟩ := HN0.out.box
  have HN : Hid (Nd w n 26 t m a l s c (w.alloc (Obj.cells #[Value.int IntKind.i64 26, Value.string (bsA t), Value.int IntKind.i64 m, Value.int IntKind.i64 a, Value.slice s l.length c] 24)).drew) := HN0.out.step (Below.refl _ _).drew
  have hGa := wit_any m 1 65536
  rw [ha] at hGa
  have HGa : Hid _ := hGa
  clear hGa ha
  have HR : Hid _ := hr
  clear hr
  have hGb := wit_any m 1 1099511627776
  rw [hb] at hGb
  have HGb : Hid _ := hGb
  clear hGb hb
  clear hl hR
  rcases hv with ht | ht | ht | ht
  all_goals
    go_enter Tryz.func104, Tryz.ntmps104
    go_wp2_with fail
    clear d0 d1 d2 d3 d4
    refine wp_region_held_drew (S := (fun wS => Box5 wS w.heap.size (.int .i64 26) (.string (bsA t)) (.int .i64 m) (.int .i64 a) (.slice s l.length c))) (by kernel_rfl) ?_ (fun hHeld => ?_)
    · (try dsimp only); exact HN.out.box
    refine tk 0 (some 13) (v := ?_) rfl ?_ ?_
    rotate_left
    · intro wS hSw; (try dsimp only at hSw); go_simp; (try with_reducible rfl)
    try simp only [Act.put, List.setIfInBounds_toArray, List.set_cons_zero, List.set_cons_succ]
    refine tk 1 (some 14) (v := ?_) rfl ?_ ?_
    rotate_left
    · intro wS hSw; (try dsimp only at hSw); have q0 := hSw.c0; have q1 := hSw.c1; have q2 := hSw.c2; have q3 := hSw.c3; have q4 := hSw.c4; go_simp; (try with_reducible rfl)
    try simp only [Act.put, List.setIfInBounds_toArray, List.set_cons_zero, List.set_cons_succ]
    refine wpAnyH_ready (rs := [2]) (by kernel_rfl) (by simp) ?_
    refine AllReadyH.cons rfl (fun K hK => ?_) AllReadyH.nil
    go_simp
    go_at_call 54
    refine (HGa.out _).mono ?_
    rintro e w1 ⟨rfl, rfl⟩
    refine hK.out _ _ ?_ (fun hH2 => ?_)
    · (try dsimp only); exact HN.out.box
    clear hK K
    try simp only [Act.put, List.setIfInBounds_toArray, List.set_cons_zero, List.set_cons_succ]
    refine tk 3 (some 16) (v := ?_) rfl ?_ ?_
    rotate_left
    · intro wS hSw; (try dsimp only at hSw); go_simp; (try with_reducible rfl)
    try simp only [Act.put, List.setIfInBounds_toArray, List.set_cons_zero, List.set_cons_succ]
    refine tk 4 (some 17) (v := ?_) rfl ?_ ?_
    rotate_left
    · intro wS hSw; (try dsimp only at hSw); go_simp; (try with_reducible rfl)
    try simp only [Act.put, List.setIfInBounds_toArray, List.set_cons_zero, List.set_cons_succ]
    refine tk 5 (some 18) (v := ?_) rfl ?_ ?_
    rotate_left
    · intro wS hSw; (try dsimp only at hSw); have q0 := hSw.c0; have q1 := hSw.c1; have q2 := hSw.c2; have q3 := hSw.c3; have q4 := hSw.c4; go_simp; (try with_reducible rfl)
    try simp only [Act.put, List.setIfInBounds_toArray, List.set_cons_zero, List.set_cons_succ]
    refine wpAnyH_ready (rs := [6]) (by kernel_rfl) (by simp) ?_
    refine AllReadyH.cons rfl (fun K hK => ?_) AllReadyH.nil
    go_simp
    go_at_call 124
    refine (unit_any [101, 118, 101, 110, 116, 115] _ HN.out.rdy).mono ?_
    rintro e w1 ⟨⟨vsa, rfl, hv⟩, hb1⟩
    have HVa : Hid (May 132 vsa n (unitP n [101, 118, 101, 110, 116, 115]) w1) := hv n
    replace HN : Hid _ := HN.out.step hb1
    clear hv
    unfold plV
    refine hK.out _ _ ?_ (fun hH6 => ?_)
    · (try dsimp only); exact HN.out.box
    clear hK K
    try simp only [Act.put, List.setIfInBounds_toArray, List.set_cons_zero, List.set_cons_succ]
    refine wpAnyH_ready (rs := [7]) (by kernel_rfl) (by simp) ?_
    refine AllReadyH.cons rfl (fun K hK => ?_) AllReadyH.nil
    go_simp
    refine hK.out _ _ ?_ (fun hH7 => ?_)
    · (try dsimp only); exact HN.out.box.below ((Below.refl _ _).alloc (Nat.le_refl _) _)
    clear hK K
    try simp only [Act.put, List.setIfInBounds_toArray, List.set_cons_zero, List.set_cons_succ]
    refine wpAnyH_ready (rs := [8]) (by kernel_rfl) (by simp) ?_
    refine AllReadyH.cons rfl (fun K hK => ?_) AllReadyH.nil
    go_simp
    go_at_call 40
    refine (are_b n l [(132, vsa, unitP n [101, 118, 101, 110, 116, 115])] s c _ _ _ _ _ rfl rfl (by simp) HN.out.kids (List.forall_mem_cons.2 ⟨HVa.out, (by simp)⟩)).mono ?_
    rintro e w1 ⟨rfl, hb1⟩
    replace HN : Hid _ := HN.out.step hb1
    replace HVa : Hid _ := HVa.out.below hb1
    simp only [List.map_cons, List.map_nil, HR.out]
    refine hK.out _ _ ?_ (fun hH8 => ?_)
    · (try dsimp only); exact HN.out.box
    clear hK K
    try simp only [Act.put, List.setIfInBounds_toArray, List.set_cons_zero, List.set_cons_succ]
    refine tk 9 (some 22) (v := ?_) rfl ?_ ?_
    rotate_left
    · intro wS hSw; (try dsimp only at hSw); go_simp; (try with_reducible rfl)
    try simp only [Act.put, List.setIfInBounds_toArray, List.set_cons_zero, List.set_cons_succ]
    refine tk 10 (some 23) (v := ?_) rfl ?_ ?_
    rotate_left
    · intro wS hSw; (try dsimp only at hSw); go_simp; (try with_reducible rfl)
    try simp only [Act.put, List.setIfInBounds_toArray, List.set_cons_zero, List.set_cons_succ]
    refine tk 11 (some 24) (v := ?_) rfl ?_ ?_
    rotate_left
    · intro wS hSw; (try dsimp only at hSw); go_simp; (try with_reducible rfl)
    try simp only [Act.put, List.setIfInBounds_toArray, List.set_cons_zero, List.set_cons_succ]
    refine tk 12 (some 25) (v := ?_) rfl ?_ ?_
    rotate_left
    · intro wS hSw; (try dsimp only at hSw); have q0 := hSw.c0; have q1 := hSw.c1; have q2 := hSw.c2; have q3 := hSw.c3; have q4 := hSw.c4; go_simp; (try with_reducible rfl)
    try simp only [Act.put, List.setIfInBounds_toArray, List.set_cons_zero, List.set_cons_succ]
    refine wpAnyH_ready (rs := [13]) (by kernel_rfl) (by simp) ?_
    refine AllReadyH.cons rfl (fun K hK => ?_) AllReadyH.nil
    go_simp
    go_at_call 54
    refine (HGb.out _).mono ?_
    rintro e w1 ⟨rfl, rfl⟩
    refine hK.out _ _ ?_ (fun hH13 => ?_)
    · (try dsimp only); exact HN.out.box
    clear hK K
    try simp only [Act.put, List.setIfInBounds_toArray, List.set_cons_zero, List.set_cons_succ]
    refine tk 14 (some 27) (v := ?_) rfl ?_ ?_
    rotate_left
    · intro wS hSw; (try dsimp only at hSw); go_simp; (try with_reducible rfl)
    try simp only [Act.put, List.setIfInBounds_toArray, List.set_cons_zero, List.set_cons_succ]
    refine tkS 15 (some 28) rfl ?_
    try simp only [Act.put, List.setIfInBounds_toArray, List.set_cons_zero, List.set_cons_succ]
    refine tkS 16 (some 29) rfl ?_
    try simp only [Act.put, List.setIfInBounds_toArray, List.set_cons_zero, List.set_cons_succ]
    refine tkS 17 (some 30) rfl ?_
    try simp only [Act.put, List.setIfInBounds_toArray, List.set_cons_zero, List.set_cons_succ]
    refine tkS 18 (some 31) rfl ?_
    try simp only [Act.put, List.setIfInBounds_toArray, List.set_cons_zero, List.set_cons_succ]
    refine tkS 19 (some 32) rfl ?_
    try simp only [Act.put, List.setIfInBounds_toArray, List.set_cons_zero, List.set_cons_succ]
    refine tk 20 (some 33) (v := ?_) rfl ?_ ?_
    rotate_left
    · intro wS hSw; (try dsimp only at hSw); go_simp; (try with_reducible rfl)
    try simp only [Act.put, List.setIfInBounds_toArray, List.set_cons_zero, List.set_cons_succ]
    refine tk 21 (some 34) (v := ?_) rfl ?_ ?_
    rotate_left
    · intro wS hSw; (try dsimp only at hSw); go_simp; (try with_reducible rfl)
    try simp only [Act.put, List.setIfInBounds_toArray, List.set_cons_zero, List.set_cons_succ]
    refine tk 22 (some 2) (v := ?_) rfl ?_ ?_
    rotate_left
    · intro wS hSw; (try dsimp only at hSw); go_simp; (try with_reducible rfl)
    try simp only [Act.put, List.setIfInBounds_toArray, List.set_cons_zero, List.set_cons_succ]
    refine wpAnyH_done (by kernel_rfl) ?_ _
    go_wp2
    go_ret
    exact ⟨rfl, HN.out.bel⟩
theorem rate_d (n : Nat) (t : List UInt8) (m a : Int) (l : List (Tr n)) (s : Option Addr) (c : Nat) (w : World) (hR : Rdy w) (hl : KsG w n s c l) (hv : (bsA t).toList = [97, 108, 108] ∨ (bsA t).toList = [102, 105, 114, 115, 116] ∨ (bsA t).toList = [108, 97, 115, 116] ∨ (bsA t).toList = [115, 110, 97, 112, 115, 104, 111, 116]) (ha : witF m 1 65536 = false) (hb : witF m 1 1099511627776 = true) :
    Calls Tryz.prog 104 #[.agg #[.int .i64 26, .string (bsA t), .int .i64 m, .int .i64 a, .slice s l.length c]] w fun e w' => e = .returned (.bool (areQ n l [unitP n [109, 115]])) ∧ Below w.heap.size w w' := by
  have HN0 : Hid (Nd w n 26 t m a l s c (w.alloc (Obj.cells #[Value.int IntKind.i64 26, Value.string (bsA t), Value.int IntKind.i64 m, Value.int IntKind.i64 a, Value.slice s l.length c] 24))) := Nd.new w n _ t _ a l s c hR hl
  obtain ⟨d0, d1, d2, d3, d4, -, -, -, -, -⟩ := HN0.out.box
  have HN : Hid (Nd w n 26 t m a l s c (w.alloc (Obj.cells #[Value.int IntKind.i64 26, Value.string (bsA t), Value.int IntKind.i64 m, Value.int IntKind.i64 a, Value.slice s l.length c] 24)).drew) := HN0.out.step (Below.refl _ _).drew
  have hGa := wit_any m 1 65536
  rw [ha] at hGa
  have HGa : Hid _ := hGa
  clear hGa ha
  have hGb := wit_any m 1 1099511627776
  rw [hb] at hGb
  have HGb : Hid _ := hGb
  clear hGb hb
  clear hl hR
  rcases hv with ht | ht | ht | ht
  all_goals
    go_enter Tryz.func104, Tryz.ntmps104
    go_wp2_with fail
    clear d0 d1 d2 d3 d4
    refine wp_region_held_drew (S := (fun wS => Box5 wS w.heap.size (.int .i64 26) (.string (bsA t)) (.int .i64 m) (.int .i64 a) (.slice s l.length c))) (by kernel_rfl) ?_ (fun hHeld => ?_)
    · (try dsimp only); exact HN.out.box
    refine tk 0 (some 13) (v := ?_) rfl ?_ ?_
    rotate_left
    · intro wS hSw; (try dsimp only at hSw); go_simp; (try with_reducible rfl)
    try simp only [Act.put, List.setIfInBounds_toArray, List.set_cons_zero, List.set_cons_succ]
    refine tk 1 (some 14) (v := ?_) rfl ?_ ?_
    rotate_left
    · intro wS hSw; (try dsimp only at hSw); have q0 := hSw.c0; have q1 := hSw.c1; have q2 := hSw.c2; have q3 := hSw.c3; have q4 := hSw.c4; go_simp; (try with_reducible rfl)
    try simp only [Act.put, List.setIfInBounds_toArray, List.set_cons_zero, List.set_cons_succ]
    refine wpAnyH_ready (rs := [2]) (by kernel_rfl) (by simp) ?_
    refine AllReadyH.cons rfl (fun K hK => ?_) AllReadyH.nil
    go_simp
    go_at_call 54
    refine (HGa.out _).mono ?_
    rintro e w1 ⟨rfl, rfl⟩
    refine hK.out _ _ ?_ (fun hH2 => ?_)
    · (try dsimp only); exact HN.out.box
    clear hK K
    try simp only [Act.put, List.setIfInBounds_toArray, List.set_cons_zero, List.set_cons_succ]
    refine tk 3 (some 16) (v := ?_) rfl ?_ ?_
    rotate_left
    · intro wS hSw; (try dsimp only at hSw); go_simp; (try with_reducible rfl)
    try simp only [Act.put, List.setIfInBounds_toArray, List.set_cons_zero, List.set_cons_succ]
    refine tkS 4 (some 17) rfl ?_
    try simp only [Act.put, List.setIfInBounds_toArray, List.set_cons_zero, List.set_cons_succ]
    refine tkS 5 (some 18) rfl ?_
    try simp only [Act.put, List.setIfInBounds_toArray, List.set_cons_zero, List.set_cons_succ]
    refine tkS 6 (some 19) rfl ?_
    try simp only [Act.put, List.setIfInBounds_toArray, List.set_cons_zero, List.set_cons_succ]
    refine tkS 7 (some 20) rfl ?_
    try simp only [Act.put, List.setIfInBounds_toArray, List.set_cons_zero, List.set_cons_succ]
    refine tkS 8 (some 21) rfl ?_
    try simp only [Act.put, List.setIfInBounds_toArray, List.set_cons_zero, List.set_cons_succ]
    refine tk 9 (some 22) (v := ?_) rfl ?_ ?_
    rotate_left
    · intro wS hSw; (try dsimp only at hSw); go_simp; (try with_reducible rfl)
    try simp only [Act.put, List.setIfInBounds_toArray, List.set_cons_zero, List.set_cons_succ]
    refine tk 10 (some 23) (v := ?_) rfl ?_ ?_
    rotate_left
    · intro wS hSw; (try dsimp only at hSw); go_simp; (try with_reducible rfl)
    try simp only [Act.put, List.setIfInBounds_toArray, List.set_cons_zero, List.set_cons_succ]
    refine tk 11 (some 24) (v := ?_) rfl ?_ ?_
    rotate_left
    · intro wS hSw; (try dsimp only at hSw); go_simp; (try with_reducible rfl)
    try simp only [Act.put, List.setIfInBounds_toArray, List.set_cons_zero, List.set_cons_succ]
    refine tk 12 (some 25) (v := ?_) rfl ?_ ?_
    rotate_left
    · intro wS hSw; (try dsimp only at hSw); have q0 := hSw.c0; have q1 := hSw.c1; have q2 := hSw.c2; have q3 := hSw.c3; have q4 := hSw.c4; go_simp; (try with_reducible rfl)
    try simp only [Act.put, List.setIfInBounds_toArray, List.set_cons_zero, List.set_cons_succ]
    refine wpAnyH_ready (rs := [13]) (by kernel_rfl) (by simp) ?_
    refine AllReadyH.cons rfl (fun K hK => ?_) AllReadyH.nil
    go_simp
    go_at_call 54
    refine (HGb.out _).mono ?_
    rintro e w1 ⟨rfl, rfl⟩
    refine hK.out _ _ ?_ (fun hH13 => ?_)
    · (try dsimp only); exact HN.out.box
    clear hK K
    try simp only [Act.put, List.setIfInBounds_toArray, List.set_cons_zero, List.set_cons_succ]
    refine tk 14 (some 27) (v := ?_) rfl ?_ ?_
    rotate_left
    · intro wS hSw; (try dsimp only at hSw); go_simp; (try with_reducible rfl)
    try simp only [Act.put, List.setIfInBounds_toArray, List.set_cons_zero, List.set_cons_succ]
    refine tk 15 (some 28) (v := ?_) rfl ?_ ?_
    rotate_left
    · intro wS hSw; (try dsimp only at hSw); go_simp; (try with_reducible rfl)
    try simp only [Act.put, List.setIfInBounds_toArray, List.set_cons_zero, List.set_cons_succ]
    refine tk 16 (some 29) (v := ?_) rfl ?_ ?_
    rotate_left
    · intro wS hSw; (try dsimp only at hSw); have q0 := hSw.c0; have q1 := hSw.c1; have q2 := hSw.c2; have q3 := hSw.c3; have q4 := hSw.c4; go_simp; (try with_reducible rfl)
    try simp only [Act.put, List.setIfInBounds_toArray, List.set_cons_zero, List.set_cons_succ]
    refine wpAnyH_ready (rs := [17]) (by kernel_rfl) (by simp) ?_
    refine AllReadyH.cons rfl (fun K hK => ?_) AllReadyH.nil
    go_simp
    go_at_call 124
    refine (unit_any [109, 115] _ HN.out.rdy).mono ?_
    rintro e w1 ⟨⟨vsb, rfl, hv⟩, hb1⟩
    have HVb : Hid (May 132 vsb n (unitP n [109, 115]) w1) := hv n
    replace HN : Hid _ := HN.out.step hb1
    clear hv
    unfold plV
    refine hK.out _ _ ?_ (fun hH17 => ?_)
    · (try dsimp only); exact HN.out.box
    clear hK K
    try simp only [Act.put, List.setIfInBounds_toArray, List.set_cons_zero, List.set_cons_succ]
    refine wpAnyH_ready (rs := [18]) (by kernel_rfl) (by simp) ?_
    refine AllReadyH.cons rfl (fun K hK => ?_) AllReadyH.nil
    go_simp
    refine hK.out _ _ ?_ (fun hH18 => ?_)
    · (try dsimp only); exact HN.out.box.below ((Below.refl _ _).alloc (Nat.le_refl _) _)
    clear hK K
    try simp only [Act.put, List.setIfInBounds_toArray, List.set_cons_zero, List.set_cons_succ]
    refine wpAnyH_ready (rs := [19]) (by kernel_rfl) (by simp) ?_
    refine AllReadyH.cons rfl (fun K hK => ?_) AllReadyH.nil
    go_simp
    go_at_call 40
    refine (are_b n l [(132, vsb, unitP n [109, 115])] s c _ _ _ _ _ rfl rfl (by simp) HN.out.kids (List.forall_mem_cons.2 ⟨HVb.out, (by simp)⟩)).mono ?_
    rintro e w1 ⟨rfl, hb1⟩
    replace HN : Hid _ := HN.out.step hb1
    replace HVb : Hid _ := HVb.out.below hb1
    refine hK.out _ _ ?_ (fun hH19 => ?_)
    · (try dsimp only); exact HN.out.box
    clear hK K
    try simp only [Act.put, List.setIfInBounds_toArray, List.set_cons_zero, List.set_cons_succ]
    refine tk 20 (some 33) (v := ?_) rfl ?_ ?_
    rotate_left
    · intro wS hSw; (try dsimp only at hSw); go_simp; (try with_reducible rfl)
    try simp only [Act.put, List.setIfInBounds_toArray, List.set_cons_zero, List.set_cons_succ]
    refine tk 21 (some 34) (v := ?_) rfl ?_ ?_
    rotate_left
    · intro wS hSw; (try dsimp only at hSw); go_simp; (try with_reducible rfl)
    try simp only [Act.put, List.setIfInBounds_toArray, List.set_cons_zero, List.set_cons_succ]
    refine tk 22 (some 2) (v := ?_) rfl ?_ ?_
    rotate_left
    · intro wS hSw; (try dsimp only at hSw); go_simp; (try with_reducible rfl)
    try simp only [Act.put, List.setIfInBounds_toArray, List.set_cons_zero, List.set_cons_succ]
    refine wpAnyH_done (by kernel_rfl) ?_ _
    go_wp2
    go_ret
    exact ⟨rfl, HN.out.bel⟩
theorem rate_e (n : Nat) (t : List UInt8) (m a : Int) (l : List (Tr n)) (s : Option Addr) (c : Nat) (w : World) (hR : Rdy w) (hl : KsG w n s c l) (hv : (bsA t).toList = [97, 108, 108] ∨ (bsA t).toList = [102, 105, 114, 115, 116] ∨ (bsA t).toList = [108, 97, 115, 116] ∨ (bsA t).toList = [115, 110, 97, 112, 115, 104, 111, 116]) (ha : witF m 1 65536 = false) (hb : witF m 1 1099511627776 = false) :
    Calls Tryz.prog 104 #[.agg #[.int .i64 26, .string (bsA t), .int .i64 m, .int .i64 a, .slice s l.length c]] w fun e w' => e = .returned (.bool (false)) ∧ Below w.heap.size w w' := by
  have HN0 : Hid (Nd w n 26 t m a l s c (w.alloc (Obj.cells #[Value.int IntKind.i64 26, Value.string (bsA t), Value.int IntKind.i64 m, Value.int IntKind.i64 a, Value.slice s l.length c] 24))) := Nd.new w n _ t _ a l s c hR hl
  obtain ⟨d0, d1, d2, d3, d4, -, -, -, -, -⟩ := HN0.out.box
  have HN : Hid (Nd w n 26 t m a l s c (w.alloc (Obj.cells #[Value.int IntKind.i64 26, Value.string (bsA t), Value.int IntKind.i64 m, Value.int IntKind.i64 a, Value.slice s l.length c] 24)).drew) := HN0.out.step (Below.refl _ _).drew
  have hGa := wit_any m 1 65536
  rw [ha] at hGa
  have HGa : Hid _ := hGa
  clear hGa ha
  have hGb := wit_any m 1 1099511627776
  rw [hb] at hGb
  have HGb : Hid _ := hGb
  clear hGb hb
  clear hl hR
  rcases hv with ht | ht | ht | ht
  all_goals
    go_enter Tryz.func104, Tryz.ntmps104
    go_wp2_with fail
    clear d0 d1 d2 d3 d4
    refine wp_region_held_drew (S := (fun wS => Box5 wS w.heap.size (.int .i64 26) (.string (bsA t)) (.int .i64 m) (.int .i64 a) (.slice s l.length c))) (by kernel_rfl) ?_ (fun hHeld => ?_)
    · (try dsimp only); exact HN.out.box
    refine tk 0 (some 13) (v := ?_) rfl ?_ ?_
    rotate_left
    · intro wS hSw; (try dsimp only at hSw); go_simp; (try with_reducible rfl)
    try simp only [Act.put, List.setIfInBounds_toArray, List.set_cons_zero, List.set_cons_succ]
    refine tk 1 (some 14) (v := ?_) rfl ?_ ?_
    rotate_left
    · intro wS hSw; (try dsimp only at hSw); have q0 := hSw.c0; have q1 := hSw.c1; have q2 := hSw.c2; have q3 := hSw.c3; have q4 := hSw.c4; go_simp; (try with_reducible rfl)
    try simp only [Act.put, List.setIfInBounds_toArray, List.set_cons_zero, List.set_cons_succ]
    refine wpAnyH_ready (rs := [2]) (by kernel_rfl) (by simp) ?_
    refine AllReadyH.cons rfl (fun K hK => ?_) AllReadyH.nil
    go_simp
    go_at_call 54
    refine (HGa.out _).mono ?_
    rintro e w1 ⟨rfl, rfl⟩
    refine hK.out _ _ ?_ (fun hH2 => ?_)
    · (try dsimp only); exact HN.out.box
    clear hK K
    try simp only [Act.put, List.setIfInBounds_toArray, List.set_cons_zero, List.set_cons_succ]
    refine tk 3 (some 16) (v := ?_) rfl ?_ ?_
    rotate_left
    · intro wS hSw; (try dsimp only at hSw); go_simp; (try with_reducible rfl)
    try simp only [Act.put, List.setIfInBounds_toArray, List.set_cons_zero, List.set_cons_succ]
    refine tkS 4 (some 17) rfl ?_
    try simp only [Act.put, List.setIfInBounds_toArray, List.set_cons_zero, List.set_cons_succ]
    refine tkS 5 (some 18) rfl ?_
    try simp only [Act.put, List.setIfInBounds_toArray, List.set_cons_zero, List.set_cons_succ]
    refine tkS 6 (some 19) rfl ?_
    try simp only [Act.put, List.setIfInBounds_toArray, List.set_cons_zero, List.set_cons_succ]
    refine tkS 7 (some 20) rfl ?_
    try simp only [Act.put, List.setIfInBounds_toArray, List.set_cons_zero, List.set_cons_succ]
    refine tkS 8 (some 21) rfl ?_
    try simp only [Act.put, List.setIfInBounds_toArray, List.set_cons_zero, List.set_cons_succ]
    refine tk 9 (some 22) (v := ?_) rfl ?_ ?_
    rotate_left
    · intro wS hSw; (try dsimp only at hSw); go_simp; (try with_reducible rfl)
    try simp only [Act.put, List.setIfInBounds_toArray, List.set_cons_zero, List.set_cons_succ]
    refine tk 10 (some 23) (v := ?_) rfl ?_ ?_
    rotate_left
    · intro wS hSw; (try dsimp only at hSw); go_simp; (try with_reducible rfl)
    try simp only [Act.put, List.setIfInBounds_toArray, List.set_cons_zero, List.set_cons_succ]
    refine tk 11 (some 24) (v := ?_) rfl ?_ ?_
    rotate_left
    · intro wS hSw; (try dsimp only at hSw); go_simp; (try with_reducible rfl)
    try simp only [Act.put, List.setIfInBounds_toArray, List.set_cons_zero, List.set_cons_succ]
    refine tk 12 (some 25) (v := ?_) rfl ?_ ?_
    rotate_left
    · intro wS hSw; (try dsimp only at hSw); have q0 := hSw.c0; have q1 := hSw.c1; have q2 := hSw.c2; have q3 := hSw.c3; have q4 := hSw.c4; go_simp; (try with_reducible rfl)
    try simp only [Act.put, List.setIfInBounds_toArray, List.set_cons_zero, List.set_cons_succ]
    refine wpAnyH_ready (rs := [13]) (by kernel_rfl) (by simp) ?_
    refine AllReadyH.cons rfl (fun K hK => ?_) AllReadyH.nil
    go_simp
    go_at_call 54
    refine (HGb.out _).mono ?_
    rintro e w1 ⟨rfl, rfl⟩
    refine hK.out _ _ ?_ (fun hH13 => ?_)
    · (try dsimp only); exact HN.out.box
    clear hK K
    try simp only [Act.put, List.setIfInBounds_toArray, List.set_cons_zero, List.set_cons_succ]
    refine tk 14 (some 27) (v := ?_) rfl ?_ ?_
    rotate_left
    · intro wS hSw; (try dsimp only at hSw); go_simp; (try with_reducible rfl)
    try simp only [Act.put, List.setIfInBounds_toArray, List.set_cons_zero, List.set_cons_succ]
    refine tkS 15 (some 28) rfl ?_
    try simp only [Act.put, List.setIfInBounds_toArray, List.set_cons_zero, List.set_cons_succ]
    refine tkS 16 (some 29) rfl ?_
    try simp only [Act.put, List.setIfInBounds_toArray, List.set_cons_zero, List.set_cons_succ]
    refine tkS 17 (some 30) rfl ?_
    try simp only [Act.put, List.setIfInBounds_toArray, List.set_cons_zero, List.set_cons_succ]
    refine tkS 18 (some 31) rfl ?_
    try simp only [Act.put, List.setIfInBounds_toArray, List.set_cons_zero, List.set_cons_succ]
    refine tkS 19 (some 32) rfl ?_
    try simp only [Act.put, List.setIfInBounds_toArray, List.set_cons_zero, List.set_cons_succ]
    refine tk 20 (some 33) (v := ?_) rfl ?_ ?_
    rotate_left
    · intro wS hSw; (try dsimp only at hSw); go_simp; (try with_reducible rfl)
    try simp only [Act.put, List.setIfInBounds_toArray, List.set_cons_zero, List.set_cons_succ]
    refine tk 21 (some 34) (v := ?_) rfl ?_ ?_
    rotate_left
    · intro wS hSw; (try dsimp only at hSw); go_simp; (try with_reducible rfl)
    try simp only [Act.put, List.setIfInBounds_toArray, List.set_cons_zero, List.set_cons_succ]
    refine tk 22 (some 2) (v := ?_) rfl ?_ ?_
    rotate_left
    · intro wS hSw; (try dsimp only at hSw); go_simp; (try with_reducible rfl)
    try simp only [Act.put, List.setIfInBounds_toArray, List.set_cons_zero, List.set_cons_succ]
    refine wpAnyH_done (by kernel_rfl) ?_ _
    go_wp2
    go_ret
    exact ⟨rfl, HN.out.bel⟩
theorem rate_x (n : Nat) (t : List UInt8) (m a : Int) (l : List (Tr n)) (s : Option Addr) (c : Nat) (w : World) (hR : Rdy w) (hl : KsG w n s c l) (ht0 : ((bsA t).toList == [97, 108, 108]) = false) (ht1 : ((bsA t).toList == [102, 105, 114, 115, 116]) = false) (ht2 : ((bsA t).toList == [108, 97, 115, 116]) = false) (ht3 : ((bsA t).toList == [115, 110, 97, 112, 115, 104, 111, 116]) = false) :
    Calls Tryz.prog 104 #[.agg #[.int .i64 26, .string (bsA t), .int .i64 m, .int .i64 a, .slice s l.length c]] w fun e w' => e = .returned (.bool (false)) ∧ Below w.heap.size w w' := by
  have HN : Hid (Nd w n 26 t m a l s c (w.alloc (Obj.cells #[Value.int IntKind.i64 26, Value.string (bsA t), Value.int IntKind.i64 m, Value.int IntKind.i64 a, Value.slice s l.length c] 24))) := Nd.new w n _ t _ a l s c hR hl
  obtain ⟨d0, d1, d2, d3, d4, -, -, -, -, -⟩ := HN.out.box
  clear hl hR
  go_enter Tryz.func104, Tryz.ntmps104
  go_wp2_with (first | fail)
  go_ret
  exact ⟨rfl, HN.out.bel⟩
theorem rate_k (n : Nat) (k : Int) (t : List UInt8) (m a : Int) (l : List (Tr n)) (s : Option Addr) (c : Nat) (w : World) (hR : Rdy w) (hl : KsG w n s c l) (hk : (k == 26) = false) :
    Calls Tryz.prog 104 #[.agg #[.int .i64 k, .string (bsA t), .int .i64 m, .int .i64 a, .slice s l.length c]] w fun e w' => e = .returned (.bool (false)) ∧ Below w.heap.size w w' := by
  have HN : Hid (Nd w n k t m a l s c (w.alloc (Obj.cells #[Value.int IntKind.i64 k, Value.string (bsA t), Value.int IntKind.i64 m, Value.int IntKind.i64 a, Value.slice s l.length c] 24))) := Nd.new w n _ t _ a l s c hR hl
  obtain ⟨d0, d1, d2, d3, d4, -, -, -, -, -⟩ := HN.out.box
  clear hl hR
  go_enter Tryz.func104, Tryz.ntmps104
  go_wp2_with (first | fail)
  all_goals (go_ret; exact ⟨rfl, HN.out.bel⟩)
theorem rate_in (n : Nat) (t : List UInt8) (m a : Int) (l : List (Tr n)) (s : Option Addr) (c : Nat) (w : World) (hR : Rdy w) (hl : KsG w n s c l) (ht : (bsA t).toList = [97, 108, 108] ∨ (bsA t).toList = [102, 105, 114, 115, 116] ∨ (bsA t).toList = [108, 97, 115, 116] ∨ (bsA t).toList = [115, 110, 97, 112, 115, 104, 111, 116]) :
    Calls Tryz.prog 104 #[.agg #[.int .i64 26, .string (bsA t), .int .i64 m, .int .i64 a, .slice s l.length c]] w fun e w' => e = .returned (.bool (witF m 1 65536 && areQ n l [unitP n [101, 118, 101, 110, 116, 115]] || witF m 1 1099511627776 && areQ n l [unitP n [109, 115]])) ∧ Below w.heap.size w w' := by
  cases ha : witF m 1 65536 with
  | true =>
    cases hr : areQ n l [unitP n [101, 118, 101, 110, 116, 115]] with
    | true => exact rate_a n t m a l s c w hR hl ht ha hr
    | false =>
      cases hb : witF m 1 1099511627776 with
      | true => exact rate_b n t m a l s c w hR hl ht ha hr hb
      | false => exact rate_c n t m a l s c w hR hl ht ha hr hb
  | false =>
    cases hb : witF m 1 1099511627776 with
    | true => exact rate_d n t m a l s c w hR hl ht ha hb
    | false => exact rate_e n t m a l s c w hR hl ht ha hb
theorem rate_any (n : Nat) (k : Int) (t : List UInt8) (m a : Int) (l : List (Tr n)) (s : Option Addr) (c : Nat) (w : World) (hR : Rdy w) (hl : KsG w n s c l) :
    Calls Tryz.prog 104 #[.agg #[.int .i64 k, .string (bsA t), .int .i64 m, .int .i64 a, .slice s l.length c]] w fun e w' => e = .returned (.bool (rateF n k t m l)) ∧ Below w.heap.size w w' := by
  unfold rateF
  rcases Classical.em (k = 26) with rfl | hk
  · show Calls _ _ _ _ fun e w' => e = .returned (.bool (rtL.contains t && _)) ∧ _
    rcases Classical.em (t = [97, 108, 108]) with rfl | h0
    · exact rate_in n _ m a l s c w hR hl (Or.inl (bsA_tl _))
    rcases Classical.em (t = [102, 105, 114, 115, 116]) with rfl | h1
    · exact rate_in n _ m a l s c w hR hl (Or.inr (Or.inl (bsA_tl _)))
    rcases Classical.em (t = [108, 97, 115, 116]) with rfl | h2
    · exact rate_in n _ m a l s c w hR hl (Or.inr (Or.inr (Or.inl (bsA_tl _))))
    rcases Classical.em (t = [115, 110, 97, 112, 115, 104, 111, 116]) with rfl | h3
    · exact rate_in n _ m a l s c w hR hl (Or.inr (Or.inr (Or.inr (bsA_tl _))))
    have e : rtL.contains t = false := by
      unfold rtL
      simp [*]
    rw [e]
    exact rate_x n t m a l s c w hR hl (by rw [bsA_tl, beqL]; exact decide_eq_false h0) (by rw [bsA_tl, beqL]; exact decide_eq_false h1) (by rw [bsA_tl, beqL]; exact decide_eq_false h2) (by rw [bsA_tl, beqL]; exact decide_eq_false h3)
  · rw [decide_eq_false hk]
    exact rate_k n k t m a l s c w hR hl (by simpa using hk)
theorem ent104 : Ent 104 := ent_of Tryz.func104 (by kernel_rfl) (by kernel_rfl)
def rateP (n : Nat) (y : Tr n) : Bool := rateF n.pred (kd n y) (tx n y) (nu n y) (ks n y)
theorem rate_may (n : Nat) (w : World) (hR : Rdy w) : May 104 [] n (rateP n) w := ⟨ent104, fun W hW y s c hy => by
  cases n with
  | zero => exact Empty.elim y
  | succ n => exact rate_any n (kd (n + 1) y) (tx (n + 1) y) (nu (n + 1) y) (pl (n + 1) y) (ks (n + 1) y) s c W (hR.below hW) (NdG.kids hy)⟩
end Go.Proofs.YtcemogaacicnfaaGreatDoor
