/- Which trees are statements, and the form of any tree: by the code. -/
import Derived.Test.YtcemogaacicnfaaGreatDoorSt4
namespace Go.Proofs.YtcemogaacicnfaaGreatDoor
set_option linter.unusedSimpArgs false
set_option maxRecDepth 20000
set_option maxHeartbeats 4000000
open Go.ChangeShapes Go.WideShapes Go.ChangeAt Go.RowKit

theorem part_58 (n : Nat) (t : List UInt8) (m a : Int) (l : List (Tr n)) (s : Option Addr) (c : Nat) (w : World) (hR : Rdy w) (hl : KsG w n s c l) :
    Calls Tryz.prog 58 #[.agg #[.int .i64 58, .string (bsA t), .int .i64 m, .int .i64 a, .slice s l.length c]] w fun e w' => e = .returned (.bool (plainF t m && manyP n l 1 32 (colOfP n))) ∧ Below w.heap.size w w' := by
  have HN : Hid (Nd w n 58 t m a l s c (w.alloc (Obj.cells #[Value.int IntKind.i64 58, Value.string (bsA t), Value.int IntKind.i64 m, Value.int IntKind.i64 a, Value.slice s l.length c] 24))) := Nd.new w n _ t _ a l s c hR hl
  obtain ⟨d0, d1, d2, d3, d4, -, -, -, -, -⟩ := HN.out.box
  clear hl hR
  go_enter Tryz.func58, Tryz.ntmps58
  go_wp2_with (first | (go_at_call 39; (refine (isPlain_any n _ _ _ _ l _ _ _ HN.out.rdy HN.out.kids).mono ?_; rintro e w1 ⟨rfl, hb1⟩; clear d0 d1 d2 d3 d4; replace HN : Hid _ := HN.out.step hb1; obtain ⟨d0, d1, d2, d3, d4, -, -, -, -, -⟩ := HN.out.box)) | (go_at_call 47; (refine (many_any n l s c _ _ 44 [] (colOfP n) _ HN.out.kids (colOf_may n _ HN.out.rdy)).mono ?_; rintro e w1 ⟨rfl, hb1⟩; clear d0 d1 d2 d3 d4; replace HN : Hid _ := HN.out.step hb1; obtain ⟨d0, d1, d2, d3, d4, -, -, -, -, -⟩ := HN.out.box)))
  all_goals (go_ret; exact ⟨by simp_all [bsA_tl, beqI, beqL], HN.out.bel⟩)
theorem part_59 (n : Nat) (t : List UInt8) (m a : Int) (l : List (Tr n)) (s : Option Addr) (c : Nat) (w : World) (hR : Rdy w) (hl : KsG w n s c l) :
    Calls Tryz.prog 58 #[.agg #[.int .i64 59, .string (bsA t), .int .i64 m, .int .i64 a, .slice s l.length c]] w fun e w' => e = .returned (.bool (hidF t m && manyP n l 1 32 (nitmP n))) ∧ Below w.heap.size w w' := by
  have HN : Hid (Nd w n 59 t m a l s c (w.alloc (Obj.cells #[Value.int IntKind.i64 59, Value.string (bsA t), Value.int IntKind.i64 m, Value.int IntKind.i64 a, Value.slice s l.length c] 24))) := Nd.new w n _ t _ a l s c hR hl
  obtain ⟨d0, d1, d2, d3, d4, -, -, -, -, -⟩ := HN.out.box
  clear hl hR
  go_enter Tryz.func58, Tryz.ntmps58
  go_wp2_with (first | (go_at_call 48; (refine (hasId_any n _ _ _ _ l _ _ _ HN.out.rdy HN.out.kids).mono ?_; rintro e w1 ⟨rfl, hb1⟩; clear d0 d1 d2 d3 d4; replace HN : Hid _ := HN.out.step hb1; obtain ⟨d0, d1, d2, d3, d4, -, -, -, -, -⟩ := HN.out.box)) | (go_at_call 47; (refine (many_any n l s c _ _ 96 [] (nitmP n) _ HN.out.kids (nitm_may n _ HN.out.rdy)).mono ?_; rintro e w1 ⟨rfl, hb1⟩; clear d0 d1 d2 d3 d4; replace HN : Hid _ := HN.out.step hb1; obtain ⟨d0, d1, d2, d3, d4, -, -, -, -, -⟩ := HN.out.box)))
  all_goals (go_ret; exact ⟨by simp_all [bsA_tl, beqI, beqL], HN.out.bel⟩)
theorem part_t (n : Nat) (t : List UInt8) (m a : Int) (l : List (Tr n)) (s : Option Addr) (c : Nat) (w : World) (hR : Rdy w) (hl : KsG w n s c l) (ht : (bsA t).toList = []) (hb : flagF m = true) :
    Calls Tryz.prog 58 #[.agg #[.int .i64 60, .string (bsA t), .int .i64 m, .int .i64 a, .slice s l.length c]] w fun e w' => e = .returned (.bool (areQ n l [nlsP n, eitP n (nlsP n) (ebtP n)])) ∧ Below w.heap.size w w' := by
  have HN0 : Hid (Nd w n 60 t m a l s c (w.alloc (Obj.cells #[Value.int IntKind.i64 60, Value.string (bsA t), Value.int IntKind.i64 m, Value.int IntKind.i64 a, Value.slice s l.length c] 24))) := Nd.new w n _ t _ a l s c hR hl
  obtain ⟨d0, d1, d2, d3, d4, -, -, -, -, -⟩ := HN0.out.box
  have HN : Hid (Nd w n 60 t m a l s c (w.alloc (Obj.cells #[Value.int IntKind.i64 60, Value.string (bsA t), Value.int IntKind.i64 m, Value.int IntKind.i64 a, Value.slice s l.length c] 24)).drew) := HN0.out.step (Below.refl _ _).drew
  have hG := isFlag_any m
  rw [hb] at hG
  have HG : Hid _ := hG
  clear hG hb
  clear hl hR
  go_enter Tryz.func58, Tryz.ntmps58
  go_wp2_with fail
  clear d0 d1 d2 d3 d4
  refine wp_region_held_drew (S := (fun wS => Box5 wS w.heap.size (.int .i64 60) (.string (bsA t)) (.int .i64 m) (.int .i64 a) (.slice s l.length c))) (by kernel_rfl) ?_ (fun hHeld => ?_)
  · (try dsimp only); exact HN.out.box
  refine tk 0 (some 25) (v := ?_) rfl ?_ ?_
  rotate_left
  · intro wS hSw; (try dsimp only at hSw); go_simp; (try with_reducible rfl)
  try simp only [Act.put, List.setIfInBounds_toArray, List.set_cons_zero, List.set_cons_succ]
  refine tk 1 (some 26) (v := ?_) rfl ?_ ?_
  rotate_left
  · intro wS hSw; (try dsimp only at hSw); have q0 := hSw.c0; have q1 := hSw.c1; have q2 := hSw.c2; have q3 := hSw.c3; have q4 := hSw.c4; go_simp; (try with_reducible rfl)
  try simp only [Act.put, List.setIfInBounds_toArray, List.set_cons_zero, List.set_cons_succ]
  refine tk 2 (some 27) (v := ?_) rfl ?_ ?_
  rotate_left
  · intro wS hSw; (try dsimp only at hSw); go_simp; (try with_reducible rfl)
  try simp only [Act.put, List.setIfInBounds_toArray, List.set_cons_zero, List.set_cons_succ]
  refine tk 3 (some 28) (v := ?_) rfl ?_ ?_
  rotate_left
  · intro wS hSw; (try dsimp only at hSw); go_simp; (try with_reducible rfl)
  try simp only [Act.put, List.setIfInBounds_toArray, List.set_cons_zero, List.set_cons_succ]
  refine tk 4 (some 29) (v := ?_) rfl ?_ ?_
  rotate_left
  · intro wS hSw; (try dsimp only at hSw); go_simp; (try with_reducible rfl)
  try simp only [Act.put, List.setIfInBounds_toArray, List.set_cons_zero, List.set_cons_succ]
  refine tk 5 (some 30) (v := ?_) rfl ?_ ?_
  rotate_left
  · intro wS hSw; (try dsimp only at hSw); have q0 := hSw.c0; have q1 := hSw.c1; have q2 := hSw.c2; have q3 := hSw.c3; have q4 := hSw.c4; go_simp; (try with_reducible rfl)
  try simp only [Act.put, List.setIfInBounds_toArray, List.set_cons_zero, List.set_cons_succ]
  refine wpAnyH_ready (rs := [6]) (by kernel_rfl) (by simp) ?_
  refine AllReadyH.cons rfl (fun K hK => ?_) AllReadyH.nil
  go_simp
  go_at_call 41
  refine (HG.out _).mono ?_
  rintro e w1 ⟨rfl, rfl⟩
  refine hK.out _ _ ?_ (fun hH6 => ?_)
  · (try dsimp only); exact HN.out.box
  clear hK K
  try simp only [Act.put, List.setIfInBounds_toArray, List.set_cons_zero, List.set_cons_succ]
  refine tk 7 (some 32) (v := ?_) rfl ?_ ?_
  rotate_left
  · intro wS hSw; (try dsimp only at hSw); go_simp; (try with_reducible rfl)
  try simp only [Act.put, List.setIfInBounds_toArray, List.set_cons_zero, List.set_cons_succ]
  refine tk 8 (some 33) (v := ?_) rfl ?_ ?_
  rotate_left
  · intro wS hSw; (try dsimp only at hSw); go_simp; (try with_reducible rfl)
  try simp only [Act.put, List.setIfInBounds_toArray, List.set_cons_zero, List.set_cons_succ]
  refine tk 9 (some 34) (v := ?_) rfl ?_ ?_
  rotate_left
  · intro wS hSw; (try dsimp only at hSw); go_simp; (try with_reducible rfl)
  try simp only [Act.put, List.setIfInBounds_toArray, List.set_cons_zero, List.set_cons_succ]
  refine tk 10 (some 35) (v := ?_) rfl ?_ ?_
  rotate_left
  · intro wS hSw; (try dsimp only at hSw); have q0 := hSw.c0; have q1 := hSw.c1; have q2 := hSw.c2; have q3 := hSw.c3; have q4 := hSw.c4; go_simp; (try with_reducible rfl)
  try simp only [Act.put, List.setIfInBounds_toArray, List.set_cons_zero, List.set_cons_succ]
  refine wpAnyH_ready (rs := [11]) (by kernel_rfl) (by simp) ?_
  refine AllReadyH.cons rfl (fun K hK => ?_) AllReadyH.nil
  go_simp
  go_at_call 52
  refine (either_any 97 98 [] [] _).mono ?_
  rintro e w1 ⟨⟨vsa, rfl, hv⟩, hb1⟩
  have HVa : Hid (May 92 vsa n (eitP n (nlsP n) (ebtP n)) w1) := hv n _ _ (nls_may n _ HN.out.rdy) (ebt_may n _ HN.out.rdy)
  replace HN : Hid _ := HN.out.step hb1
  clear hv
  unfold plV
  refine hK.out _ _ ?_ (fun hH11 => ?_)
  · (try dsimp only); exact HN.out.box
  clear hK K
  try simp only [Act.put, List.setIfInBounds_toArray, List.set_cons_zero, List.set_cons_succ]
  refine wpAnyH_ready (rs := [12]) (by kernel_rfl) (by simp) ?_
  refine AllReadyH.cons rfl (fun K hK => ?_) AllReadyH.nil
  go_simp
  refine hK.out _ _ ?_ (fun hH12 => ?_)
  · (try dsimp only); exact HN.out.box.below ((Below.refl _ _).alloc (Nat.le_refl _) _)
  clear hK K
  try simp only [Act.put, List.setIfInBounds_toArray, List.set_cons_zero, List.set_cons_succ]
  refine wpAnyH_ready (rs := [13]) (by kernel_rfl) (by simp) ?_
  refine AllReadyH.cons rfl (fun K hK => ?_) AllReadyH.nil
  go_simp
  go_at_call 40
  refine (are_b n l [(97, [], nlsP n), (92, vsa, eitP n (nlsP n) (ebtP n))] s c _ _ _ _ _ rfl rfl (by simp) HN.out.kids (List.forall_mem_cons.2 ⟨nls_may n _ HN.out.rdy, (List.forall_mem_cons.2 ⟨HVa.out, (by simp)⟩)⟩)).mono ?_
  rintro e w1 ⟨rfl, hb1⟩
  replace HN : Hid _ := HN.out.step hb1
  replace HVa : Hid _ := HVa.out.below hb1
  refine hK.out _ _ ?_ (fun hH13 => ?_)
  · (try dsimp only); exact HN.out.box
  clear hK K
  try simp only [Act.put, List.setIfInBounds_toArray, List.set_cons_zero, List.set_cons_succ]
  refine tk 14 (some 39) (v := ?_) rfl ?_ ?_
  rotate_left
  · intro wS hSw; (try dsimp only at hSw); go_simp; (try with_reducible rfl)
  try simp only [Act.put, List.setIfInBounds_toArray, List.set_cons_zero, List.set_cons_succ]
  refine tk 15 (some 2) (v := ?_) rfl ?_ ?_
  rotate_left
  · intro wS hSw; (try dsimp only at hSw); go_simp; (try with_reducible rfl)
  try simp only [Act.put, List.setIfInBounds_toArray, List.set_cons_zero, List.set_cons_succ]
  refine wpAnyH_done (by kernel_rfl) ?_ _
  go_wp2
  go_ret
  exact ⟨rfl, HN.out.bel⟩
theorem part_f (n : Nat) (t : List UInt8) (m a : Int) (l : List (Tr n)) (s : Option Addr) (c : Nat) (w : World) (hR : Rdy w) (hl : KsG w n s c l) (ht : (bsA t).toList = []) (hb : flagF m = false) :
    Calls Tryz.prog 58 #[.agg #[.int .i64 60, .string (bsA t), .int .i64 m, .int .i64 a, .slice s l.length c]] w fun e w' => e = .returned (.bool (false)) ∧ Below w.heap.size w w' := by
  have HN0 : Hid (Nd w n 60 t m a l s c (w.alloc (Obj.cells #[Value.int IntKind.i64 60, Value.string (bsA t), Value.int IntKind.i64 m, Value.int IntKind.i64 a, Value.slice s l.length c] 24))) := Nd.new w n _ t _ a l s c hR hl
  obtain ⟨d0, d1, d2, d3, d4, -, -, -, -, -⟩ := HN0.out.box
  have HN : Hid (Nd w n 60 t m a l s c (w.alloc (Obj.cells #[Value.int IntKind.i64 60, Value.string (bsA t), Value.int IntKind.i64 m, Value.int IntKind.i64 a, Value.slice s l.length c] 24)).drew) := HN0.out.step (Below.refl _ _).drew
  have hG := isFlag_any m
  rw [hb] at hG
  have HG : Hid _ := hG
  clear hG hb
  clear hl hR
  go_enter Tryz.func58, Tryz.ntmps58
  go_wp2_with fail
  clear d0 d1 d2 d3 d4
  refine wp_region_held_drew (S := (fun wS => Box5 wS w.heap.size (.int .i64 60) (.string (bsA t)) (.int .i64 m) (.int .i64 a) (.slice s l.length c))) (by kernel_rfl) ?_ (fun hHeld => ?_)
  · (try dsimp only); exact HN.out.box
  refine tk 0 (some 25) (v := ?_) rfl ?_ ?_
  rotate_left
  · intro wS hSw; (try dsimp only at hSw); go_simp; (try with_reducible rfl)
  try simp only [Act.put, List.setIfInBounds_toArray, List.set_cons_zero, List.set_cons_succ]
  refine tk 1 (some 26) (v := ?_) rfl ?_ ?_
  rotate_left
  · intro wS hSw; (try dsimp only at hSw); have q0 := hSw.c0; have q1 := hSw.c1; have q2 := hSw.c2; have q3 := hSw.c3; have q4 := hSw.c4; go_simp; (try with_reducible rfl)
  try simp only [Act.put, List.setIfInBounds_toArray, List.set_cons_zero, List.set_cons_succ]
  refine tk 2 (some 27) (v := ?_) rfl ?_ ?_
  rotate_left
  · intro wS hSw; (try dsimp only at hSw); go_simp; (try with_reducible rfl)
  try simp only [Act.put, List.setIfInBounds_toArray, List.set_cons_zero, List.set_cons_succ]
  refine tk 3 (some 28) (v := ?_) rfl ?_ ?_
  rotate_left
  · intro wS hSw; (try dsimp only at hSw); go_simp; (try with_reducible rfl)
  try simp only [Act.put, List.setIfInBounds_toArray, List.set_cons_zero, List.set_cons_succ]
  refine tk 4 (some 29) (v := ?_) rfl ?_ ?_
  rotate_left
  · intro wS hSw; (try dsimp only at hSw); go_simp; (try with_reducible rfl)
  try simp only [Act.put, List.setIfInBounds_toArray, List.set_cons_zero, List.set_cons_succ]
  refine tk 5 (some 30) (v := ?_) rfl ?_ ?_
  rotate_left
  · intro wS hSw; (try dsimp only at hSw); have q0 := hSw.c0; have q1 := hSw.c1; have q2 := hSw.c2; have q3 := hSw.c3; have q4 := hSw.c4; go_simp; (try with_reducible rfl)
  try simp only [Act.put, List.setIfInBounds_toArray, List.set_cons_zero, List.set_cons_succ]
  refine wpAnyH_ready (rs := [6]) (by kernel_rfl) (by simp) ?_
  refine AllReadyH.cons rfl (fun K hK => ?_) AllReadyH.nil
  go_simp
  go_at_call 41
  refine (HG.out _).mono ?_
  rintro e w1 ⟨rfl, rfl⟩
  refine hK.out _ _ ?_ (fun hH6 => ?_)
  · (try dsimp only); exact HN.out.box
  clear hK K
  try simp only [Act.put, List.setIfInBounds_toArray, List.set_cons_zero, List.set_cons_succ]
  refine tk 7 (some 32) (v := ?_) rfl ?_ ?_
  rotate_left
  · intro wS hSw; (try dsimp only at hSw); go_simp; (try with_reducible rfl)
  try simp only [Act.put, List.setIfInBounds_toArray, List.set_cons_zero, List.set_cons_succ]
  refine tk 8 (some 33) (v := ?_) rfl ?_ ?_
  rotate_left
  · intro wS hSw; (try dsimp only at hSw); go_simp; (try with_reducible rfl)
  try simp only [Act.put, List.setIfInBounds_toArray, List.set_cons_zero, List.set_cons_succ]
  refine tkS 9 (some 34) rfl ?_
  try simp only [Act.put, List.setIfInBounds_toArray, List.set_cons_zero, List.set_cons_succ]
  refine tkS 10 (some 35) rfl ?_
  try simp only [Act.put, List.setIfInBounds_toArray, List.set_cons_zero, List.set_cons_succ]
  refine tkS 11 (some 36) rfl ?_
  try simp only [Act.put, List.setIfInBounds_toArray, List.set_cons_zero, List.set_cons_succ]
  refine tkS 12 (some 37) rfl ?_
  try simp only [Act.put, List.setIfInBounds_toArray, List.set_cons_zero, List.set_cons_succ]
  refine tkS 13 (some 38) rfl ?_
  try simp only [Act.put, List.setIfInBounds_toArray, List.set_cons_zero, List.set_cons_succ]
  refine tk 14 (some 39) (v := ?_) rfl ?_ ?_
  rotate_left
  · intro wS hSw; (try dsimp only at hSw); go_simp; (try with_reducible rfl)
  try simp only [Act.put, List.setIfInBounds_toArray, List.set_cons_zero, List.set_cons_succ]
  refine tk 15 (some 2) (v := ?_) rfl ?_ ?_
  rotate_left
  · intro wS hSw; (try dsimp only at hSw); go_simp; (try with_reducible rfl)
  try simp only [Act.put, List.setIfInBounds_toArray, List.set_cons_zero, List.set_cons_succ]
  refine wpAnyH_done (by kernel_rfl) ?_ _
  go_wp2
  go_ret
  exact ⟨rfl, HN.out.bel⟩
theorem part_g (n : Nat) (t : List UInt8) (m a : Int) (l : List (Tr n)) (s : Option Addr) (c : Nat) (w : World) (hR : Rdy w) (hl : KsG w n s c l) (ht : (bsA t).toList.isEmpty = false) :
    Calls Tryz.prog 58 #[.agg #[.int .i64 60, .string (bsA t), .int .i64 m, .int .i64 a, .slice s l.length c]] w fun e w' => e = .returned (.bool (false)) ∧ Below w.heap.size w w' := by
  have HN0 : Hid (Nd w n 60 t m a l s c (w.alloc (Obj.cells #[Value.int IntKind.i64 60, Value.string (bsA t), Value.int IntKind.i64 m, Value.int IntKind.i64 a, Value.slice s l.length c] 24))) := Nd.new w n _ t _ a l s c hR hl
  obtain ⟨d0, d1, d2, d3, d4, -, -, -, -, -⟩ := HN0.out.box
  have HN : Hid (Nd w n 60 t m a l s c (w.alloc (Obj.cells #[Value.int IntKind.i64 60, Value.string (bsA t), Value.int IntKind.i64 m, Value.int IntKind.i64 a, Value.slice s l.length c] 24)).drew) := HN0.out.step (Below.refl _ _).drew
  clear hl hR
  go_enter Tryz.func58, Tryz.ntmps58
  go_wp2_with fail
  clear d0 d1 d2 d3 d4
  refine wp_region_held_drew (S := (fun wS => Box5 wS w.heap.size (.int .i64 60) (.string (bsA t)) (.int .i64 m) (.int .i64 a) (.slice s l.length c))) (by kernel_rfl) ?_ (fun hHeld => ?_)
  · (try dsimp only); exact HN.out.box
  refine tk 0 (some 25) (v := ?_) rfl ?_ ?_
  rotate_left
  · intro wS hSw; (try dsimp only at hSw); go_simp; (try with_reducible rfl)
  try simp only [Act.put, List.setIfInBounds_toArray, List.set_cons_zero, List.set_cons_succ]
  refine tk 1 (some 26) (v := ?_) rfl ?_ ?_
  rotate_left
  · intro wS hSw; (try dsimp only at hSw); have q0 := hSw.c0; have q1 := hSw.c1; have q2 := hSw.c2; have q3 := hSw.c3; have q4 := hSw.c4; go_simp; (try with_reducible rfl)
  try simp only [Act.put, List.setIfInBounds_toArray, List.set_cons_zero, List.set_cons_succ]
  refine tk 2 (some 27) (v := ?_) rfl ?_ ?_
  rotate_left
  · intro wS hSw; (try dsimp only at hSw); go_simp; (try with_reducible rfl)
  try simp only [Act.put, List.setIfInBounds_toArray, List.set_cons_zero, List.set_cons_succ]
  refine tk 3 (some 28) (v := ?_) rfl ?_ ?_
  rotate_left
  · intro wS hSw; (try dsimp only at hSw); go_simp; (try with_reducible rfl)
  try simp only [Act.put, List.setIfInBounds_toArray, List.set_cons_zero, List.set_cons_succ]
  refine tkS 4 (some 29) rfl ?_
  try simp only [Act.put, List.setIfInBounds_toArray, List.set_cons_zero, List.set_cons_succ]
  refine tkS 5 (some 30) rfl ?_
  try simp only [Act.put, List.setIfInBounds_toArray, List.set_cons_zero, List.set_cons_succ]
  refine tkS 6 (some 31) rfl ?_
  try simp only [Act.put, List.setIfInBounds_toArray, List.set_cons_zero, List.set_cons_succ]
  refine tk 7 (some 32) (v := ?_) rfl ?_ ?_
  rotate_left
  · intro wS hSw; (try dsimp only at hSw); go_simp; (try with_reducible rfl)
  try simp only [Act.put, List.setIfInBounds_toArray, List.set_cons_zero, List.set_cons_succ]
  refine tk 8 (some 33) (v := ?_) rfl ?_ ?_
  rotate_left
  · intro wS hSw; (try dsimp only at hSw); go_simp; (try with_reducible rfl)
  try simp only [Act.put, List.setIfInBounds_toArray, List.set_cons_zero, List.set_cons_succ]
  refine tkS 9 (some 34) rfl ?_
  try simp only [Act.put, List.setIfInBounds_toArray, List.set_cons_zero, List.set_cons_succ]
  refine tkS 10 (some 35) rfl ?_
  try simp only [Act.put, List.setIfInBounds_toArray, List.set_cons_zero, List.set_cons_succ]
  refine tkS 11 (some 36) rfl ?_
  try simp only [Act.put, List.setIfInBounds_toArray, List.set_cons_zero, List.set_cons_succ]
  refine tkS 12 (some 37) rfl ?_
  try simp only [Act.put, List.setIfInBounds_toArray, List.set_cons_zero, List.set_cons_succ]
  refine tkS 13 (some 38) rfl ?_
  try simp only [Act.put, List.setIfInBounds_toArray, List.set_cons_zero, List.set_cons_succ]
  refine tk 14 (some 39) (v := ?_) rfl ?_ ?_
  rotate_left
  · intro wS hSw; (try dsimp only at hSw); go_simp; (try with_reducible rfl)
  try simp only [Act.put, List.setIfInBounds_toArray, List.set_cons_zero, List.set_cons_succ]
  refine tk 15 (some 2) (v := ?_) rfl ?_ ?_
  rotate_left
  · intro wS hSw; (try dsimp only at hSw); go_simp; (try with_reducible rfl)
  try simp only [Act.put, List.setIfInBounds_toArray, List.set_cons_zero, List.set_cons_succ]
  refine wpAnyH_done (by kernel_rfl) ?_ _
  go_wp2
  go_ret
  exact ⟨rfl, HN.out.bel⟩
theorem part_x (n : Nat) (k : Int) (t : List UInt8) (m a : Int) (l : List (Tr n)) (s : Option Addr) (c : Nat) (w : World) (hR : Rdy w) (hl : KsG w n s c l) (h58 : (k == 58) = false) (h59 : (k == 59) = false) (h60 : (k == 60) = false) :
    Calls Tryz.prog 58 #[.agg #[.int .i64 k, .string (bsA t), .int .i64 m, .int .i64 a, .slice s l.length c]] w fun e w' => e = .returned (.bool (false)) ∧ Below w.heap.size w w' := by
  have HN : Hid (Nd w n k t m a l s c (w.alloc (Obj.cells #[Value.int IntKind.i64 k, Value.string (bsA t), Value.int IntKind.i64 m, Value.int IntKind.i64 a, Value.slice s l.length c] 24))) := Nd.new w n _ t _ a l s c hR hl
  obtain ⟨d0, d1, d2, d3, d4, -, -, -, -, -⟩ := HN.out.box
  clear hl hR
  go_enter Tryz.func58, Tryz.ntmps58
  go_wp2_with (first | fail)
  go_ret
  exact ⟨rfl, HN.out.bel⟩
def partF (n : Nat) (k : Int) (t : List UInt8) (m : Int) (l : List (Tr n)) : Bool := if k = 58 then plainF t m && manyP n l 1 32 (colOfP n) else if k = 59 then hidF t m && manyP n l 1 32 (nitmP n) else if k = 60 then decide (t = []) && flagF m && areQ n l [nlsP n, eitP n (nlsP n) (ebtP n)] else false
theorem part_any (n : Nat) (k : Int) (t : List UInt8) (m a : Int) (l : List (Tr n)) (s : Option Addr) (c : Nat) (w : World) (hR : Rdy w) (hl : KsG w n s c l) :
    Calls Tryz.prog 58 #[.agg #[.int .i64 k, .string (bsA t), .int .i64 m, .int .i64 a, .slice s l.length c]] w fun e w' => e = .returned (.bool (partF n k t m l)) ∧ Below w.heap.size w w' := by
  unfold partF
  rcases Classical.em (k = 58) with rfl | h58
  · rw [if_pos rfl]
    exact part_58 n t m a l s c w hR hl
  rcases Classical.em (k = 59) with rfl | h59
  · rw [if_neg (by decide), if_pos rfl]
    exact part_59 n t m a l s c w hR hl
  rcases Classical.em (k = 60) with rfl | h60
  · rw [if_neg (by decide), if_neg (by decide), if_pos rfl]
    rcases Classical.em (t = []) with rfl | ht
    · cases hb : flagF m with
      | true => exact part_t n _ m a l s c w hR hl (bsA_tl _) hb
      | false => exact part_f n _ m a l s c w hR hl (bsA_tl _) hb
    · rw [decide_eq_false ht]
      exact part_g n t m a l s c w hR hl (by rw [bsA_tl, isE]; exact decide_eq_false ht)
  rw [if_neg h58, if_neg h59, if_neg h60]
  exact part_x n k t m a l s c w hR hl (by simpa using h58) (by simpa using h59) (by simpa using h60)
theorem ent58 : Ent 58 := ent_of Tryz.func58 (by kernel_rfl) (by kernel_rfl)
def partP (n : Nat) (y : Tr n) : Bool := partF n.pred (kd n y) (tx n y) (nu n y) (ks n y)
theorem part_may (n : Nat) (w : World) (hR : Rdy w) : May 58 [] n (partP n) w := ⟨ent58, fun W hW y s c hy => by
  cases n with
  | zero => exact Empty.elim y
  | succ n => exact part_any n (kd (n + 1) y) (tx (n + 1) y) (nu (n + 1) y) (pl (n + 1) y) (ks (n + 1) y) s c W (hR.below hW) (NdG.kids hy)⟩
theorem sel_t (n : Nat) (k : Int) (t : List UInt8) (m a : Int) (l : List (Tr n)) (s : Option Addr) (c : Nat) (w : World) (hR : Rdy w) (hl : KsG w n s c l) (hb : idEF t = true) (hm : witF m 1 3 = true) :
    Calls Tryz.prog 59 #[.agg #[.int .i64 k, .string (bsA t), .int .i64 m, .int .i64 a, .slice s l.length c]] w fun e w' => e = .returned (.bool (areQ n l [optP n (nmeP n), itemsP n, eitP n (lstP n 1 2 (strmP n.pred)) (frpP n), optP n (exprP n), lstP n 0 32 (exprP n.pred), optP n (exprP n), lstP n 0 32 (odrP n.pred), optP n (rateP n)])) ∧ Below w.heap.size w w' := by
  have HN0 : Hid (Nd w n k t m a l s c (w.alloc (Obj.cells #[Value.int IntKind.i64 k, Value.string (bsA t), Value.int IntKind.i64 m, Value.int IntKind.i64 a, Value.slice s l.length c] 24))) := Nd.new w n _ t _ a l s c hR hl
  obtain ⟨d0, d1, d2, d3, d4, -, -, -, -, -⟩ := HN0.out.box
  have HN : Hid (Nd w n k t m a l s c (w.alloc (Obj.cells #[Value.int IntKind.i64 k, Value.string (bsA t), Value.int IntKind.i64 m, Value.int IntKind.i64 a, Value.slice s l.length c] 24)).drew) := HN0.out.step (Below.refl _ _).drew
  have hG := isIdE_any t
  rw [hb] at hG
  have HG : Hid _ := hG
  clear hG hb
  have hGm := wit_any m 1 3
  rw [hm] at hGm
  have HGm : Hid _ := hGm
  clear hGm hm
  clear hl hR
  go_enter Tryz.func59, Tryz.ntmps59
  go_wp2_with fail
  clear d0 d1 d2 d3 d4
  refine wp_region_held_drew (S := (fun wS => Box5 wS w.heap.size (.int .i64 k) (.string (bsA t)) (.int .i64 m) (.int .i64 a) (.slice s l.length c))) (by kernel_rfl) ?_ (fun hHeld => ?_)
  · (try dsimp only); exact HN.out.box
  refine tk 0 (some 3) (v := ?_) rfl ?_ ?_
  rotate_left
  · intro wS hSw; (try dsimp only at hSw); go_simp; (try with_reducible rfl)
  try simp only [Act.put, List.setIfInBounds_toArray, List.set_cons_zero, List.set_cons_succ]
  refine tk 1 (some 4) (v := ?_) rfl ?_ ?_
  rotate_left
  · intro wS hSw; (try dsimp only at hSw); have q0 := hSw.c0; have q1 := hSw.c1; have q2 := hSw.c2; have q3 := hSw.c3; have q4 := hSw.c4; go_simp; (try with_reducible rfl)
  try simp only [Act.put, List.setIfInBounds_toArray, List.set_cons_zero, List.set_cons_succ]
  refine wpAnyH_ready (rs := [2]) (by kernel_rfl) (by simp) ?_
  refine AllReadyH.cons rfl (fun K hK => ?_) AllReadyH.nil
  go_simp
  go_at_call 99
  refine (HG.out _ HN.out.rdy).mono ?_
  rintro e w1 ⟨rfl, hb1⟩
  replace HN : Hid _ := HN.out.step hb1
  refine hK.out _ _ ?_ (fun hH2 => ?_)
  · (try dsimp only); exact HN.out.box
  clear hK K
  try simp only [Act.put, List.setIfInBounds_toArray, List.set_cons_zero, List.set_cons_succ]
  refine tk 3 (some 6) (v := ?_) rfl ?_ ?_
  rotate_left
  · intro wS hSw; (try dsimp only at hSw); go_simp; (try with_reducible rfl)
  try simp only [Act.put, List.setIfInBounds_toArray, List.set_cons_zero, List.set_cons_succ]
  refine tk 4 (some 7) (v := ?_) rfl ?_ ?_
  rotate_left
  · intro wS hSw; (try dsimp only at hSw); go_simp; (try with_reducible rfl)
  try simp only [Act.put, List.setIfInBounds_toArray, List.set_cons_zero, List.set_cons_succ]
  refine tk 5 (some 8) (v := ?_) rfl ?_ ?_
  rotate_left
  · intro wS hSw; (try dsimp only at hSw); have q0 := hSw.c0; have q1 := hSw.c1; have q2 := hSw.c2; have q3 := hSw.c3; have q4 := hSw.c4; go_simp; (try with_reducible rfl)
  try simp only [Act.put, List.setIfInBounds_toArray, List.set_cons_zero, List.set_cons_succ]
  refine wpAnyH_ready (rs := [6]) (by kernel_rfl) (by simp) ?_
  refine AllReadyH.cons rfl (fun K hK => ?_) AllReadyH.nil
  go_simp
  go_at_call 54
  refine (HGm.out _).mono ?_
  rintro e w1 ⟨rfl, rfl⟩
  refine hK.out _ _ ?_ (fun hH6 => ?_)
  · (try dsimp only); exact HN.out.box
  clear hK K
  try simp only [Act.put, List.setIfInBounds_toArray, List.set_cons_zero, List.set_cons_succ]
  refine tk 7 (some 10) (v := ?_) rfl ?_ ?_
  rotate_left
  · intro wS hSw; (try dsimp only at hSw); go_simp; (try with_reducible rfl)
  try simp only [Act.put, List.setIfInBounds_toArray, List.set_cons_zero, List.set_cons_succ]
  refine tk 8 (some 11) (v := ?_) rfl ?_ ?_
  rotate_left
  · intro wS hSw; (try dsimp only at hSw); go_simp; (try with_reducible rfl)
  try simp only [Act.put, List.setIfInBounds_toArray, List.set_cons_zero, List.set_cons_succ]
  refine tk 9 (some 12) (v := ?_) rfl ?_ ?_
  rotate_left
  · intro wS hSw; (try dsimp only at hSw); go_simp; (try with_reducible rfl)
  try simp only [Act.put, List.setIfInBounds_toArray, List.set_cons_zero, List.set_cons_succ]
  refine tk 10 (some 13) (v := ?_) rfl ?_ ?_
  rotate_left
  · intro wS hSw; (try dsimp only at hSw); have q0 := hSw.c0; have q1 := hSw.c1; have q2 := hSw.c2; have q3 := hSw.c3; have q4 := hSw.c4; go_simp; (try with_reducible rfl)
  try simp only [Act.put, List.setIfInBounds_toArray, List.set_cons_zero, List.set_cons_succ]
  refine wpAnyH_ready (rs := [11]) (by kernel_rfl) (by simp) ?_
  refine AllReadyH.cons rfl (fun K hK => ?_) AllReadyH.nil
  go_simp
  go_at_call 50
  refine (optional_any 51 [] _ HN.out.rdy).mono ?_
  rintro e w1 ⟨⟨vsa, rfl, hv⟩, hb1⟩
  have HVa : Hid (May 92 vsa n (optP n (nmeP n)) w1) := hv n _ (nme_may n _ HN.out.rdy)
  replace HN : Hid _ := HN.out.step hb1
  clear hv
  unfold plV
  refine hK.out _ _ ?_ (fun hH11 => ?_)
  · (try dsimp only); exact HN.out.box
  clear hK K
  try simp only [Act.put, List.setIfInBounds_toArray, List.set_cons_zero, List.set_cons_succ]
  refine wpAnyH_ready (rs := [12]) (by kernel_rfl) (by simp) ?_
  refine AllReadyH.cons rfl (fun K hK => ?_) AllReadyH.nil
  go_simp
  go_at_call 100
  refine (listOf_any 1 2 101 [] _ HN.out.rdy).mono ?_
  rintro e w1 ⟨⟨vsb, rfl, hv⟩, hb1⟩
  have HVb : Hid (May 123 vsb n (lstP n 1 2 (strmP n.pred)) w1) := hv n _ (strm_may n.pred _ HN.out.rdy)
  replace HN : Hid _ := HN.out.step hb1
  replace HVa : Hid _ := HVa.out.below hb1
  clear hv
  unfold plV
  refine hK.out _ _ ?_ (fun hH12 => ?_)
  · (try dsimp only); exact HN.out.box
  clear hK K
  try simp only [Act.put, List.setIfInBounds_toArray, List.set_cons_zero, List.set_cons_succ]
  refine wpAnyH_ready (rs := [13]) (by kernel_rfl) (by simp) ?_
  refine AllReadyH.cons rfl (fun K hK => ?_) AllReadyH.nil
  go_simp
  go_at_call 52
  refine (either_any 123 102 vsb [] _).mono ?_
  rintro e w1 ⟨⟨vsc, rfl, hv⟩, hb1⟩
  have HVc : Hid (May 92 vsc n (eitP n (lstP n 1 2 (strmP n.pred)) (frpP n)) w1) := hv n _ _ HVb.out (frp_may n _ HN.out.rdy)
  replace HN : Hid _ := HN.out.step hb1
  replace HVa : Hid _ := HVa.out.below hb1
  replace HVb : Hid _ := HVb.out.below hb1
  clear hv
  unfold plV
  refine hK.out _ _ ?_ (fun hH13 => ?_)
  · (try dsimp only); exact HN.out.box
  clear hK K
  try simp only [Act.put, List.setIfInBounds_toArray, List.set_cons_zero, List.set_cons_succ]
  refine wpAnyH_ready (rs := [14]) (by kernel_rfl) (by simp) ?_
  refine AllReadyH.cons rfl (fun K hK => ?_) AllReadyH.nil
  go_simp
  go_at_call 50
  refine (optional_any 23 [] _ HN.out.rdy).mono ?_
  rintro e w1 ⟨⟨vsd, rfl, hv⟩, hb1⟩
  have HVd : Hid (May 92 vsd n (optP n (exprP n)) w1) := hv n _ (expr_may n _ HN.out.rdy)
  replace HN : Hid _ := HN.out.step hb1
  replace HVa : Hid _ := HVa.out.below hb1
  replace HVb : Hid _ := HVb.out.below hb1
  replace HVc : Hid _ := HVc.out.below hb1
  clear hv
  unfold plV
  refine hK.out _ _ ?_ (fun hH14 => ?_)
  · (try dsimp only); exact HN.out.box
  clear hK K
  try simp only [Act.put, List.setIfInBounds_toArray, List.set_cons_zero, List.set_cons_succ]
  refine wpAnyH_ready (rs := [15]) (by kernel_rfl) (by simp) ?_
  refine AllReadyH.cons rfl (fun K hK => ?_) AllReadyH.nil
  go_simp
  go_at_call 100
  refine (listOf_any 0 32 23 [] _ HN.out.rdy).mono ?_
  rintro e w1 ⟨⟨vse, rfl, hv⟩, hb1⟩
  have HVe : Hid (May 123 vse n (lstP n 0 32 (exprP n.pred)) w1) := hv n _ (expr_may n.pred _ HN.out.rdy)
  replace HN : Hid _ := HN.out.step hb1
  replace HVa : Hid _ := HVa.out.below hb1
  replace HVb : Hid _ := HVb.out.below hb1
  replace HVc : Hid _ := HVc.out.below hb1
  replace HVd : Hid _ := HVd.out.below hb1
  clear hv
  unfold plV
  refine hK.out _ _ ?_ (fun hH15 => ?_)
  · (try dsimp only); exact HN.out.box
  clear hK K
  try simp only [Act.put, List.setIfInBounds_toArray, List.set_cons_zero, List.set_cons_succ]
  refine wpAnyH_ready (rs := [16]) (by kernel_rfl) (by simp) ?_
  refine AllReadyH.cons rfl (fun K hK => ?_) AllReadyH.nil
  go_simp
  go_at_call 50
  refine (optional_any 23 [] _ HN.out.rdy).mono ?_
  rintro e w1 ⟨⟨vsf, rfl, hv⟩, hb1⟩
  have HVf : Hid (May 92 vsf n (optP n (exprP n)) w1) := hv n _ (expr_may n _ HN.out.rdy)
  replace HN : Hid _ := HN.out.step hb1
  replace HVa : Hid _ := HVa.out.below hb1
  replace HVb : Hid _ := HVb.out.below hb1
  replace HVc : Hid _ := HVc.out.below hb1
  replace HVd : Hid _ := HVd.out.below hb1
  replace HVe : Hid _ := HVe.out.below hb1
  clear hv
  unfold plV
  refine hK.out _ _ ?_ (fun hH16 => ?_)
  · (try dsimp only); exact HN.out.box
  clear hK K
  try simp only [Act.put, List.setIfInBounds_toArray, List.set_cons_zero, List.set_cons_succ]
  refine wpAnyH_ready (rs := [17]) (by kernel_rfl) (by simp) ?_
  refine AllReadyH.cons rfl (fun K hK => ?_) AllReadyH.nil
  go_simp
  go_at_call 100
  refine (listOf_any 0 32 103 [] _ HN.out.rdy).mono ?_
  rintro e w1 ⟨⟨vsg, rfl, hv⟩, hb1⟩
  have HVg : Hid (May 123 vsg n (lstP n 0 32 (odrP n.pred)) w1) := hv n _ (odr_may n.pred _ HN.out.rdy)
  replace HN : Hid _ := HN.out.step hb1
  replace HVa : Hid _ := HVa.out.below hb1
  replace HVb : Hid _ := HVb.out.below hb1
  replace HVc : Hid _ := HVc.out.below hb1
  replace HVd : Hid _ := HVd.out.below hb1
  replace HVe : Hid _ := HVe.out.below hb1
  replace HVf : Hid _ := HVf.out.below hb1
  clear hv
  unfold plV
  refine hK.out _ _ ?_ (fun hH17 => ?_)
  · (try dsimp only); exact HN.out.box
  clear hK K
  try simp only [Act.put, List.setIfInBounds_toArray, List.set_cons_zero, List.set_cons_succ]
  refine wpAnyH_ready (rs := [18]) (by kernel_rfl) (by simp) ?_
  refine AllReadyH.cons rfl (fun K hK => ?_) AllReadyH.nil
  go_simp
  go_at_call 50
  refine (optional_any 104 [] _ HN.out.rdy).mono ?_
  rintro e w1 ⟨⟨vsh, rfl, hv⟩, hb1⟩
  have HVh : Hid (May 92 vsh n (optP n (rateP n)) w1) := hv n _ (rate_may n _ HN.out.rdy)
  replace HN : Hid _ := HN.out.step hb1
  replace HVa : Hid _ := HVa.out.below hb1
  replace HVb : Hid _ := HVb.out.below hb1
  replace HVc : Hid _ := HVc.out.below hb1
  replace HVd : Hid _ := HVd.out.below hb1
  replace HVe : Hid _ := HVe.out.below hb1
  replace HVf : Hid _ := HVf.out.below hb1
  replace HVg : Hid _ := HVg.out.below hb1
  clear hv
  unfold plV
  refine hK.out _ _ ?_ (fun hH18 => ?_)
  · (try dsimp only); exact HN.out.box
  clear hK K
  try simp only [Act.put, List.setIfInBounds_toArray, List.set_cons_zero, List.set_cons_succ]
  refine wpAnyH_ready (rs := [19]) (by kernel_rfl) (by simp) ?_
  refine AllReadyH.cons rfl (fun K hK => ?_) AllReadyH.nil
  go_simp
  refine hK.out _ _ ?_ (fun hH19 => ?_)
  · (try dsimp only); exact HN.out.box.below ((Below.refl _ _).alloc (Nat.le_refl _) _)
  clear hK K
  try simp only [Act.put, List.setIfInBounds_toArray, List.set_cons_zero, List.set_cons_succ]
  refine wpAnyH_ready (rs := [20]) (by kernel_rfl) (by simp) ?_
  refine AllReadyH.cons rfl (fun K hK => ?_) AllReadyH.nil
  go_simp
  go_at_call 40
  refine (are_b n l [(92, vsa, optP n (nmeP n)), (63, [], itemsP n), (92, vsc, eitP n (lstP n 1 2 (strmP n.pred)) (frpP n)), (92, vsd, optP n (exprP n)), (123, vse, lstP n 0 32 (exprP n.pred)), (92, vsf, optP n (exprP n)), (123, vsg, lstP n 0 32 (odrP n.pred)), (92, vsh, optP n (rateP n))] s c _ _ _ _ _ rfl rfl (by simp) HN.out.kids (List.forall_mem_cons.2 ⟨HVa.out, (List.forall_mem_cons.2 ⟨items_may n _ HN.out.rdy, (List.forall_mem_cons.2 ⟨HVc.out, (List.forall_mem_cons.2 ⟨HVd.out, (List.forall_mem_cons.2 ⟨HVe.out, (List.forall_mem_cons.2 ⟨HVf.out, (List.forall_mem_cons.2 ⟨HVg.out, (List.forall_mem_cons.2 ⟨HVh.out, (by simp)⟩)⟩)⟩)⟩)⟩)⟩)⟩)⟩)).mono ?_
  rintro e w1 ⟨rfl, hb1⟩
  replace HN : Hid _ := HN.out.step hb1
  replace HVa : Hid _ := HVa.out.below hb1
  replace HVb : Hid _ := HVb.out.below hb1
  replace HVc : Hid _ := HVc.out.below hb1
  replace HVd : Hid _ := HVd.out.below hb1
  replace HVe : Hid _ := HVe.out.below hb1
  replace HVf : Hid _ := HVf.out.below hb1
  replace HVg : Hid _ := HVg.out.below hb1
  replace HVh : Hid _ := HVh.out.below hb1
  refine hK.out _ _ ?_ (fun hH20 => ?_)
  · (try dsimp only); exact HN.out.box
  clear hK K
  try simp only [Act.put, List.setIfInBounds_toArray, List.set_cons_zero, List.set_cons_succ]
  refine tk 21 (some 24) (v := ?_) rfl ?_ ?_
  rotate_left
  · intro wS hSw; (try dsimp only at hSw); go_simp; (try with_reducible rfl)
  try simp only [Act.put, List.setIfInBounds_toArray, List.set_cons_zero, List.set_cons_succ]
  refine tk 22 (some 2) (v := ?_) rfl ?_ ?_
  rotate_left
  · intro wS hSw; (try dsimp only at hSw); go_simp; (try with_reducible rfl)
  try simp only [Act.put, List.setIfInBounds_toArray, List.set_cons_zero, List.set_cons_succ]
  refine wpAnyH_done (by kernel_rfl) ?_ _
  go_wp2
  go_ret
  exact ⟨rfl, HN.out.bel⟩
theorem sel_f (n : Nat) (k : Int) (t : List UInt8) (m a : Int) (l : List (Tr n)) (s : Option Addr) (c : Nat) (w : World) (hR : Rdy w) (hl : KsG w n s c l) (hb : idEF t = true) (hm : witF m 1 3 = false) :
    Calls Tryz.prog 59 #[.agg #[.int .i64 k, .string (bsA t), .int .i64 m, .int .i64 a, .slice s l.length c]] w fun e w' => e = .returned (.bool (false)) ∧ Below w.heap.size w w' := by
  have HN0 : Hid (Nd w n k t m a l s c (w.alloc (Obj.cells #[Value.int IntKind.i64 k, Value.string (bsA t), Value.int IntKind.i64 m, Value.int IntKind.i64 a, Value.slice s l.length c] 24))) := Nd.new w n _ t _ a l s c hR hl
  obtain ⟨d0, d1, d2, d3, d4, -, -, -, -, -⟩ := HN0.out.box
  have HN : Hid (Nd w n k t m a l s c (w.alloc (Obj.cells #[Value.int IntKind.i64 k, Value.string (bsA t), Value.int IntKind.i64 m, Value.int IntKind.i64 a, Value.slice s l.length c] 24)).drew) := HN0.out.step (Below.refl _ _).drew
  have hG := isIdE_any t
  rw [hb] at hG
  have HG : Hid _ := hG
  clear hG hb
  have hGm := wit_any m 1 3
  rw [hm] at hGm
  have HGm : Hid _ := hGm
  clear hGm hm
  clear hl hR
  go_enter Tryz.func59, Tryz.ntmps59
  go_wp2_with fail
  clear d0 d1 d2 d3 d4
  refine wp_region_held_drew (S := (fun wS => Box5 wS w.heap.size (.int .i64 k) (.string (bsA t)) (.int .i64 m) (.int .i64 a) (.slice s l.length c))) (by kernel_rfl) ?_ (fun hHeld => ?_)
  · (try dsimp only); exact HN.out.box
  refine tk 0 (some 3) (v := ?_) rfl ?_ ?_
  rotate_left
  · intro wS hSw; (try dsimp only at hSw); go_simp; (try with_reducible rfl)
  try simp only [Act.put, List.setIfInBounds_toArray, List.set_cons_zero, List.set_cons_succ]
  refine tk 1 (some 4) (v := ?_) rfl ?_ ?_
  rotate_left
  · intro wS hSw; (try dsimp only at hSw); have q0 := hSw.c0; have q1 := hSw.c1; have q2 := hSw.c2; have q3 := hSw.c3; have q4 := hSw.c4; go_simp; (try with_reducible rfl)
  try simp only [Act.put, List.setIfInBounds_toArray, List.set_cons_zero, List.set_cons_succ]
  refine wpAnyH_ready (rs := [2]) (by kernel_rfl) (by simp) ?_
  refine AllReadyH.cons rfl (fun K hK => ?_) AllReadyH.nil
  go_simp
  go_at_call 99
  refine (HG.out _ HN.out.rdy).mono ?_
  rintro e w1 ⟨rfl, hb1⟩
  replace HN : Hid _ := HN.out.step hb1
  refine hK.out _ _ ?_ (fun hH2 => ?_)
  · (try dsimp only); exact HN.out.box
  clear hK K
  try simp only [Act.put, List.setIfInBounds_toArray, List.set_cons_zero, List.set_cons_succ]
  refine tk 3 (some 6) (v := ?_) rfl ?_ ?_
  rotate_left
  · intro wS hSw; (try dsimp only at hSw); go_simp; (try with_reducible rfl)
  try simp only [Act.put, List.setIfInBounds_toArray, List.set_cons_zero, List.set_cons_succ]
  refine tk 4 (some 7) (v := ?_) rfl ?_ ?_
  rotate_left
  · intro wS hSw; (try dsimp only at hSw); go_simp; (try with_reducible rfl)
  try simp only [Act.put, List.setIfInBounds_toArray, List.set_cons_zero, List.set_cons_succ]
  refine tk 5 (some 8) (v := ?_) rfl ?_ ?_
  rotate_left
  · intro wS hSw; (try dsimp only at hSw); have q0 := hSw.c0; have q1 := hSw.c1; have q2 := hSw.c2; have q3 := hSw.c3; have q4 := hSw.c4; go_simp; (try with_reducible rfl)
  try simp only [Act.put, List.setIfInBounds_toArray, List.set_cons_zero, List.set_cons_succ]
  refine wpAnyH_ready (rs := [6]) (by kernel_rfl) (by simp) ?_
  refine AllReadyH.cons rfl (fun K hK => ?_) AllReadyH.nil
  go_simp
  go_at_call 54
  refine (HGm.out _).mono ?_
  rintro e w1 ⟨rfl, rfl⟩
  refine hK.out _ _ ?_ (fun hH6 => ?_)
  · (try dsimp only); exact HN.out.box
  clear hK K
  try simp only [Act.put, List.setIfInBounds_toArray, List.set_cons_zero, List.set_cons_succ]
  refine tk 7 (some 10) (v := ?_) rfl ?_ ?_
  rotate_left
  · intro wS hSw; (try dsimp only at hSw); go_simp; (try with_reducible rfl)
  try simp only [Act.put, List.setIfInBounds_toArray, List.set_cons_zero, List.set_cons_succ]
  refine tk 8 (some 11) (v := ?_) rfl ?_ ?_
  rotate_left
  · intro wS hSw; (try dsimp only at hSw); go_simp; (try with_reducible rfl)
  try simp only [Act.put, List.setIfInBounds_toArray, List.set_cons_zero, List.set_cons_succ]
  refine tkS 9 (some 12) rfl ?_
  try simp only [Act.put, List.setIfInBounds_toArray, List.set_cons_zero, List.set_cons_succ]
  refine tkS 10 (some 13) rfl ?_
  try simp only [Act.put, List.setIfInBounds_toArray, List.set_cons_zero, List.set_cons_succ]
  refine tkS 11 (some 14) rfl ?_
  try simp only [Act.put, List.setIfInBounds_toArray, List.set_cons_zero, List.set_cons_succ]
  refine tkS 12 (some 15) rfl ?_
  try simp only [Act.put, List.setIfInBounds_toArray, List.set_cons_zero, List.set_cons_succ]
  refine tkS 13 (some 16) rfl ?_
  try simp only [Act.put, List.setIfInBounds_toArray, List.set_cons_zero, List.set_cons_succ]
  refine tkS 14 (some 17) rfl ?_
  try simp only [Act.put, List.setIfInBounds_toArray, List.set_cons_zero, List.set_cons_succ]
  refine tkS 15 (some 18) rfl ?_
  try simp only [Act.put, List.setIfInBounds_toArray, List.set_cons_zero, List.set_cons_succ]
  refine tkS 16 (some 19) rfl ?_
  try simp only [Act.put, List.setIfInBounds_toArray, List.set_cons_zero, List.set_cons_succ]
  refine tkS 17 (some 20) rfl ?_
  try simp only [Act.put, List.setIfInBounds_toArray, List.set_cons_zero, List.set_cons_succ]
  refine tkS 18 (some 21) rfl ?_
  try simp only [Act.put, List.setIfInBounds_toArray, List.set_cons_zero, List.set_cons_succ]
  refine tkS 19 (some 22) rfl ?_
  try simp only [Act.put, List.setIfInBounds_toArray, List.set_cons_zero, List.set_cons_succ]
  refine tkS 20 (some 23) rfl ?_
  try simp only [Act.put, List.setIfInBounds_toArray, List.set_cons_zero, List.set_cons_succ]
  refine tk 21 (some 24) (v := ?_) rfl ?_ ?_
  rotate_left
  · intro wS hSw; (try dsimp only at hSw); go_simp; (try with_reducible rfl)
  try simp only [Act.put, List.setIfInBounds_toArray, List.set_cons_zero, List.set_cons_succ]
  refine tk 22 (some 2) (v := ?_) rfl ?_ ?_
  rotate_left
  · intro wS hSw; (try dsimp only at hSw); go_simp; (try with_reducible rfl)
  try simp only [Act.put, List.setIfInBounds_toArray, List.set_cons_zero, List.set_cons_succ]
  refine wpAnyH_done (by kernel_rfl) ?_ _
  go_wp2
  go_ret
  exact ⟨rfl, HN.out.bel⟩
theorem sel_g (n : Nat) (k : Int) (t : List UInt8) (m a : Int) (l : List (Tr n)) (s : Option Addr) (c : Nat) (w : World) (hR : Rdy w) (hl : KsG w n s c l) (hb : idEF t = false) :
    Calls Tryz.prog 59 #[.agg #[.int .i64 k, .string (bsA t), .int .i64 m, .int .i64 a, .slice s l.length c]] w fun e w' => e = .returned (.bool (false)) ∧ Below w.heap.size w w' := by
  have HN0 : Hid (Nd w n k t m a l s c (w.alloc (Obj.cells #[Value.int IntKind.i64 k, Value.string (bsA t), Value.int IntKind.i64 m, Value.int IntKind.i64 a, Value.slice s l.length c] 24))) := Nd.new w n _ t _ a l s c hR hl
  obtain ⟨d0, d1, d2, d3, d4, -, -, -, -, -⟩ := HN0.out.box
  have HN : Hid (Nd w n k t m a l s c (w.alloc (Obj.cells #[Value.int IntKind.i64 k, Value.string (bsA t), Value.int IntKind.i64 m, Value.int IntKind.i64 a, Value.slice s l.length c] 24)).drew) := HN0.out.step (Below.refl _ _).drew
  have hG := isIdE_any t
  rw [hb] at hG
  have HG : Hid _ := hG
  clear hG hb
  clear hl hR
  go_enter Tryz.func59, Tryz.ntmps59
  go_wp2_with fail
  clear d0 d1 d2 d3 d4
  refine wp_region_held_drew (S := (fun wS => Box5 wS w.heap.size (.int .i64 k) (.string (bsA t)) (.int .i64 m) (.int .i64 a) (.slice s l.length c))) (by kernel_rfl) ?_ (fun hHeld => ?_)
  · (try dsimp only); exact HN.out.box
  refine tk 0 (some 3) (v := ?_) rfl ?_ ?_
  rotate_left
  · intro wS hSw; (try dsimp only at hSw); go_simp; (try with_reducible rfl)
  try simp only [Act.put, List.setIfInBounds_toArray, List.set_cons_zero, List.set_cons_succ]
  refine tk 1 (some 4) (v := ?_) rfl ?_ ?_
  rotate_left
  · intro wS hSw; (try dsimp only at hSw); have q0 := hSw.c0; have q1 := hSw.c1; have q2 := hSw.c2; have q3 := hSw.c3; have q4 := hSw.c4; go_simp; (try with_reducible rfl)
  try simp only [Act.put, List.setIfInBounds_toArray, List.set_cons_zero, List.set_cons_succ]
  refine wpAnyH_ready (rs := [2]) (by kernel_rfl) (by simp) ?_
  refine AllReadyH.cons rfl (fun K hK => ?_) AllReadyH.nil
  go_simp
  go_at_call 99
  refine (HG.out _ HN.out.rdy).mono ?_
  rintro e w1 ⟨rfl, hb1⟩
  replace HN : Hid _ := HN.out.step hb1
  refine hK.out _ _ ?_ (fun hH2 => ?_)
  · (try dsimp only); exact HN.out.box
  clear hK K
  try simp only [Act.put, List.setIfInBounds_toArray, List.set_cons_zero, List.set_cons_succ]
  refine tk 3 (some 6) (v := ?_) rfl ?_ ?_
  rotate_left
  · intro wS hSw; (try dsimp only at hSw); go_simp; (try with_reducible rfl)
  try simp only [Act.put, List.setIfInBounds_toArray, List.set_cons_zero, List.set_cons_succ]
  refine tkS 4 (some 7) rfl ?_
  try simp only [Act.put, List.setIfInBounds_toArray, List.set_cons_zero, List.set_cons_succ]
  refine tkS 5 (some 8) rfl ?_
  try simp only [Act.put, List.setIfInBounds_toArray, List.set_cons_zero, List.set_cons_succ]
  refine tkS 6 (some 9) rfl ?_
  try simp only [Act.put, List.setIfInBounds_toArray, List.set_cons_zero, List.set_cons_succ]
  refine tk 7 (some 10) (v := ?_) rfl ?_ ?_
  rotate_left
  · intro wS hSw; (try dsimp only at hSw); go_simp; (try with_reducible rfl)
  try simp only [Act.put, List.setIfInBounds_toArray, List.set_cons_zero, List.set_cons_succ]
  refine tk 8 (some 11) (v := ?_) rfl ?_ ?_
  rotate_left
  · intro wS hSw; (try dsimp only at hSw); go_simp; (try with_reducible rfl)
  try simp only [Act.put, List.setIfInBounds_toArray, List.set_cons_zero, List.set_cons_succ]
  refine tkS 9 (some 12) rfl ?_
  try simp only [Act.put, List.setIfInBounds_toArray, List.set_cons_zero, List.set_cons_succ]
  refine tkS 10 (some 13) rfl ?_
  try simp only [Act.put, List.setIfInBounds_toArray, List.set_cons_zero, List.set_cons_succ]
  refine tkS 11 (some 14) rfl ?_
  try simp only [Act.put, List.setIfInBounds_toArray, List.set_cons_zero, List.set_cons_succ]
  refine tkS 12 (some 15) rfl ?_
  try simp only [Act.put, List.setIfInBounds_toArray, List.set_cons_zero, List.set_cons_succ]
  refine tkS 13 (some 16) rfl ?_
  try simp only [Act.put, List.setIfInBounds_toArray, List.set_cons_zero, List.set_cons_succ]
  refine tkS 14 (some 17) rfl ?_
  try simp only [Act.put, List.setIfInBounds_toArray, List.set_cons_zero, List.set_cons_succ]
  refine tkS 15 (some 18) rfl ?_
  try simp only [Act.put, List.setIfInBounds_toArray, List.set_cons_zero, List.set_cons_succ]
  refine tkS 16 (some 19) rfl ?_
  try simp only [Act.put, List.setIfInBounds_toArray, List.set_cons_zero, List.set_cons_succ]
  refine tkS 17 (some 20) rfl ?_
  try simp only [Act.put, List.setIfInBounds_toArray, List.set_cons_zero, List.set_cons_succ]
  refine tkS 18 (some 21) rfl ?_
  try simp only [Act.put, List.setIfInBounds_toArray, List.set_cons_zero, List.set_cons_succ]
  refine tkS 19 (some 22) rfl ?_
  try simp only [Act.put, List.setIfInBounds_toArray, List.set_cons_zero, List.set_cons_succ]
  refine tkS 20 (some 23) rfl ?_
  try simp only [Act.put, List.setIfInBounds_toArray, List.set_cons_zero, List.set_cons_succ]
  refine tk 21 (some 24) (v := ?_) rfl ?_ ?_
  rotate_left
  · intro wS hSw; (try dsimp only at hSw); go_simp; (try with_reducible rfl)
  try simp only [Act.put, List.setIfInBounds_toArray, List.set_cons_zero, List.set_cons_succ]
  refine tk 22 (some 2) (v := ?_) rfl ?_ ?_
  rotate_left
  · intro wS hSw; (try dsimp only at hSw); go_simp; (try with_reducible rfl)
  try simp only [Act.put, List.setIfInBounds_toArray, List.set_cons_zero, List.set_cons_succ]
  refine wpAnyH_done (by kernel_rfl) ?_ _
  go_wp2
  go_ret
  exact ⟨rfl, HN.out.bel⟩
def selF (n : Nat) (_ : Int) (t : List UInt8) (m : Int) (l : List (Tr n)) : Bool := idEF t && witF m 1 3 && areQ n l [optP n (nmeP n), itemsP n, eitP n (lstP n 1 2 (strmP n.pred)) (frpP n), optP n (exprP n), lstP n 0 32 (exprP n.pred), optP n (exprP n), lstP n 0 32 (odrP n.pred), optP n (rateP n)]
theorem sel_any (n : Nat) (k : Int) (t : List UInt8) (m a : Int) (l : List (Tr n)) (s : Option Addr) (c : Nat) (w : World) (hR : Rdy w) (hl : KsG w n s c l) :
    Calls Tryz.prog 59 #[.agg #[.int .i64 k, .string (bsA t), .int .i64 m, .int .i64 a, .slice s l.length c]] w fun e w' => e = .returned (.bool (selF n k t m l)) ∧ Below w.heap.size w w' := by
  unfold selF
  cases hb : idEF t with
  | true =>
    cases hm : witF m 1 3 with
    | true => exact sel_t n k t m a l s c w hR hl hb hm
    | false => exact sel_f n k t m a l s c w hR hl hb hm
  | false => exact sel_g n k t m a l s c w hR hl hb
theorem stmt_50 (n : Nat) (t : List UInt8) (m a : Int) (l : List (Tr n)) (s : Option Addr) (c : Nat) (w : World) (hR : Rdy w) (hl : KsG w n s c l) :
    Calls Tryz.prog 25 #[.agg #[.int .i64 50, .string (bsA t), .int .i64 m, .int .i64 a, .slice s l.length c]] w fun e w' => e = .returned (.bool (hidF t m && manyP n l 1 32 (colP n))) ∧ Below w.heap.size w w' := by
  have HN : Hid (Nd w n 50 t m a l s c (w.alloc (Obj.cells #[Value.int IntKind.i64 50, Value.string (bsA t), Value.int IntKind.i64 m, Value.int IntKind.i64 a, Value.slice s l.length c] 24))) := Nd.new w n _ t _ a l s c hR hl
  obtain ⟨d0, d1, d2, d3, d4, -, -, -, -, -⟩ := HN.out.box
  clear hl hR
  go_enter Tryz.func25, Tryz.ntmps25
  go_wp2_with (first | (go_at_call 48; (refine (hasId_any n _ _ _ _ l _ _ _ HN.out.rdy HN.out.kids).mono ?_; rintro e w1 ⟨rfl, hb1⟩; clear d0 d1 d2 d3 d4; replace HN : Hid _ := HN.out.step hb1; obtain ⟨d0, d1, d2, d3, d4, -, -, -, -, -⟩ := HN.out.box)) | (go_at_call 47; (refine (many_any n l s c _ _ 55 [] (colP n) _ HN.out.kids (col_may n _ HN.out.rdy)).mono ?_; rintro e w1 ⟨rfl, hb1⟩; clear d0 d1 d2 d3 d4; replace HN : Hid _ := HN.out.step hb1; obtain ⟨d0, d1, d2, d3, d4, -, -, -, -, -⟩ := HN.out.box)))
  all_goals (go_ret; exact ⟨by simp_all [bsA_tl, beqI, beqL], HN.out.bel⟩)
theorem stmt_51 (n : Nat) (t : List UInt8) (m a : Int) (l : List (Tr n)) (s : Option Addr) (c : Nat) (w : World) (hR : Rdy w) (hl : KsG w n s c l) :
    Calls Tryz.prog 25 #[.agg #[.int .i64 51, .string (bsA t), .int .i64 m, .int .i64 a, .slice s l.length c]] w fun e w' => e = .returned (.bool (hidF t m && areQ n (l.take 1) [nmeP n] && manyP n (l.drop 1) 1 4 (viewP n))) ∧ Below w.heap.size w w' := by
  have HN : Hid (Nd w n 51 t m a l s c (w.alloc (Obj.cells #[Value.int IntKind.i64 51, Value.string (bsA t), Value.int IntKind.i64 m, Value.int IntKind.i64 a, Value.slice s l.length c] 24))) := Nd.new w n _ t _ a l s c hR hl
  obtain ⟨d0, d1, d2, d3, d4, -, -, -, -, -⟩ := HN.out.box
  clear hl hR
  go_enter Tryz.func25, Tryz.ntmps25
  go_wp2_with (first | (go_at_call 56; refine (split_any n l s c 1 _ HN.out.kids).mono ?_; rintro e w1 ⟨⟨s2, c2, l1, l2, HL1, HL2, rfl, hk1, hk2⟩, hb1⟩; have HK1 : Hid (KsG w1 n s c l1) := hk1.below hb1; have HK2 : Hid (KsG w1 n s2 c2 l2) := hk2.below hb1; clear hk1 hk2; clear d0 d1 d2 d3 d4; replace HN : Hid _ := HN.out.step hb1; obtain ⟨d0, d1, d2, d3, d4, -, -, -, -, -⟩ := HN.out.box) | (go_at_call 48; refine (hasId_any n _ _ _ _ l _ _ _ HN.out.rdy HN.out.kids).mono ?_; rintro e w1 ⟨rfl, hb1⟩; clear d0 d1 d2 d3 d4; replace HN : Hid _ := HN.out.step hb1; obtain ⟨d0, d1, d2, d3, d4, -, -, -, -, -⟩ := HN.out.box; (try replace HK1 : Hid (KsG w1 n s c l1) := HK1.out.below hb1); (try replace HK2 : Hid (KsG w1 n s2 c2 l2) := HK2.out.below hb1); (try replace HVa : Hid _ := HVa.out.below hb1); (try replace HVb : Hid _ := HVb.out.below hb1)) | (go_at_call 40; refine (are_b n l1 [(51, [], nmeP n)] s c _ _ _ _ _ rfl rfl (by simp) HK1.out (List.forall_mem_cons.2 ⟨nme_may n _ HN.out.rdy, by simp⟩)).mono ?_; rintro e w1 ⟨rfl, hb1⟩; clear d0 d1 d2 d3 d4; replace HN : Hid _ := HN.out.step hb1; obtain ⟨d0, d1, d2, d3, d4, -, -, -, -, -⟩ := HN.out.box; (try replace HK1 : Hid (KsG w1 n s c l1) := HK1.out.below hb1); (try replace HK2 : Hid (KsG w1 n s2 c2 l2) := HK2.out.below hb1); (try replace HVa : Hid _ := HVa.out.below hb1); (try replace HVb : Hid _ := HVb.out.below hb1)) | (go_at_call 47; refine (many_any n l2 s2 c2 _ _ 57 [] (viewP n) _ HK2.out (view_may n _ HN.out.rdy)).mono ?_; rintro e w1 ⟨rfl, hb1⟩; clear d0 d1 d2 d3 d4; replace HN : Hid _ := HN.out.step hb1; obtain ⟨d0, d1, d2, d3, d4, -, -, -, -, -⟩ := HN.out.box; (try replace HK1 : Hid (KsG w1 n s c l1) := HK1.out.below hb1); (try replace HK2 : Hid (KsG w1 n s2 c2 l2) := HK2.out.below hb1); (try replace HVa : Hid _ := HVa.out.below hb1); (try replace HVb : Hid _ := HVb.out.below hb1)))
  all_goals (go_ret; refine ⟨?_, HN.out.bel⟩; have e1 := HL1.out; have e2 := HL2.out; rw [← e1, ← e2]; simp_all)
theorem stmt_52 (n : Nat) (t : List UInt8) (m a : Int) (l : List (Tr n)) (s : Option Addr) (c : Nat) (w : World) (hR : Rdy w) (hl : KsG w n s c l) :
    Calls Tryz.prog 25 #[.agg #[.int .i64 52, .string (bsA t), .int .i64 m, .int .i64 a, .slice s l.length c]] w fun e w' => e = .returned (.bool (hidF t m && areQ n l [partP n])) ∧ Below w.heap.size w w' := by
  have HN : Hid (Nd w n 52 t m a l s c (w.alloc (Obj.cells #[Value.int IntKind.i64 52, Value.string (bsA t), Value.int IntKind.i64 m, Value.int IntKind.i64 a, Value.slice s l.length c] 24))) := Nd.new w n _ t _ a l s c hR hl
  obtain ⟨d0, d1, d2, d3, d4, -, -, -, -, -⟩ := HN.out.box
  clear hl hR
  go_enter Tryz.func25, Tryz.ntmps25
  go_wp2_with (first | (go_at_call 48; (refine (hasId_any n _ _ _ _ l _ _ _ HN.out.rdy HN.out.kids).mono ?_; rintro e w1 ⟨rfl, hb1⟩; clear d0 d1 d2 d3 d4; replace HN : Hid _ := HN.out.step hb1; obtain ⟨d0, d1, d2, d3, d4, -, -, -, -, -⟩ := HN.out.box)) | (go_at_call 40; (refine (are_b n l [(58, [], partP n)] s c _ _ _ _ _ rfl rfl (by simp) HN.out.kids (List.forall_mem_cons.2 ⟨part_may n _ HN.out.rdy, (by simp)⟩)).mono ?_; rintro e w1 ⟨rfl, hb1⟩; clear d0 d1 d2 d3 d4; replace HN : Hid _ := HN.out.step hb1; obtain ⟨d0, d1, d2, d3, d4, -, -, -, -, -⟩ := HN.out.box)))
  all_goals (go_ret; exact ⟨by simp_all [bsA_tl, beqI, beqL], HN.out.bel⟩)
theorem stmt_53 (n : Nat) (t : List UInt8) (m a : Int) (l : List (Tr n)) (s : Option Addr) (c : Nat) (w : World) (hR : Rdy w) (hl : KsG w n s c l) :
    Calls Tryz.prog 25 #[.agg #[.int .i64 53, .string (bsA t), .int .i64 m, .int .i64 a, .slice s l.length c]] w fun e w' => e = .returned (.bool (selF n 53 t m l)) ∧ Below w.heap.size w w' := by
  have HN : Hid (Nd w n 53 t m a l s c (w.alloc (Obj.cells #[Value.int IntKind.i64 53, Value.string (bsA t), Value.int IntKind.i64 m, Value.int IntKind.i64 a, Value.slice s l.length c] 24))) := Nd.new w n _ t _ a l s c hR hl
  obtain ⟨d0, d1, d2, d3, d4, -, -, -, -, -⟩ := HN.out.box
  clear hl hR
  go_enter Tryz.func25, Tryz.ntmps25
  go_wp2_with (first | (go_at_call 59; (refine (sel_any n _ _ _ _ l _ _ _ HN.out.rdy HN.out.kids).mono ?_; rintro e w1 ⟨rfl, hb1⟩; clear d0 d1 d2 d3 d4; replace HN : Hid _ := HN.out.step hb1; obtain ⟨d0, d1, d2, d3, d4, -, -, -, -, -⟩ := HN.out.box)))
  all_goals (go_ret; exact ⟨by simp_all [bsA_tl, beqI, beqL], HN.out.bel⟩)
theorem stmt_54t (n : Nat) (t : List UInt8) (m a : Int) (l : List (Tr n)) (s : Option Addr) (c : Nat) (w : World) (hR : Rdy w) (hl : KsG w n s c l) (hb : plainF t m = true) :
    Calls Tryz.prog 25 #[.agg #[.int .i64 54, .string (bsA t), .int .i64 m, .int .i64 a, .slice s l.length c]] w fun e w' => e = .returned (.bool (areQ n l [srcP n, tgtP n, optP n (exprP n)])) ∧ Below w.heap.size w w' := by
  have HN0 : Hid (Nd w n 54 t m a l s c (w.alloc (Obj.cells #[Value.int IntKind.i64 54, Value.string (bsA t), Value.int IntKind.i64 m, Value.int IntKind.i64 a, Value.slice s l.length c] 24))) := Nd.new w n _ t _ a l s c hR hl
  obtain ⟨d0, d1, d2, d3, d4, -, -, -, -, -⟩ := HN0.out.box
  have HN : Hid (Nd w n 54 t m a l s c (w.alloc (Obj.cells #[Value.int IntKind.i64 54, Value.string (bsA t), Value.int IntKind.i64 m, Value.int IntKind.i64 a, Value.slice s l.length c] 24)).drew) := HN0.out.step (Below.refl _ _).drew
  have hG := isPlain_any n 54 t m a l s c
  rw [hb] at hG
  have HG : Hid _ := hG
  clear hG hb
  clear hl hR
  go_enter Tryz.func25, Tryz.ntmps25
  go_wp2_with fail
  clear d0 d1 d2 d3 d4
  refine wp_region_held_drew (S := (fun wS => Box5 wS w.heap.size (.int .i64 54) (.string (bsA t)) (.int .i64 m) (.int .i64 a) (.slice s l.length c))) (by kernel_rfl) ?_ (fun hHeld => ?_)
  · (try dsimp only); exact HN.out.box
  refine tk 0 (some 51) (v := ?_) rfl ?_ ?_
  rotate_left
  · intro wS hSw; (try dsimp only at hSw); have q0 := hSw.c0; have q1 := hSw.c1; have q2 := hSw.c2; have q3 := hSw.c3; have q4 := hSw.c4; go_simp; (try with_reducible rfl)
  try simp only [Act.put, List.setIfInBounds_toArray, List.set_cons_zero, List.set_cons_succ]
  refine wpAnyH_ready (rs := [1]) (by kernel_rfl) (by simp) ?_
  refine AllReadyH.cons rfl (fun K hK => ?_) AllReadyH.nil
  go_simp
  go_at_call 39
  refine (HG.out _ HN.out.rdy HN.out.kids).mono ?_
  rintro e w1 ⟨rfl, hb1⟩
  replace HN : Hid _ := HN.out.step hb1
  refine hK.out _ _ ?_ (fun hH1 => ?_)
  · (try dsimp only); exact HN.out.box
  clear hK K
  try simp only [Act.put, List.setIfInBounds_toArray, List.set_cons_zero, List.set_cons_succ]
  refine tk 2 (some 53) (v := ?_) rfl ?_ ?_
  rotate_left
  · intro wS hSw; (try dsimp only at hSw); go_simp; (try with_reducible rfl)
  try simp only [Act.put, List.setIfInBounds_toArray, List.set_cons_zero, List.set_cons_succ]
  refine tk 3 (some 54) (v := ?_) rfl ?_ ?_
  rotate_left
  · intro wS hSw; (try dsimp only at hSw); go_simp; (try with_reducible rfl)
  try simp only [Act.put, List.setIfInBounds_toArray, List.set_cons_zero, List.set_cons_succ]
  refine tk 4 (some 55) (v := ?_) rfl ?_ ?_
  rotate_left
  · intro wS hSw; (try dsimp only at hSw); have q0 := hSw.c0; have q1 := hSw.c1; have q2 := hSw.c2; have q3 := hSw.c3; have q4 := hSw.c4; go_simp; (try with_reducible rfl)
  try simp only [Act.put, List.setIfInBounds_toArray, List.set_cons_zero, List.set_cons_succ]
  refine wpAnyH_ready (rs := [5]) (by kernel_rfl) (by simp) ?_
  refine AllReadyH.cons rfl (fun K hK => ?_) AllReadyH.nil
  go_simp
  go_at_call 50
  refine (optional_any 23 [] _ HN.out.rdy).mono ?_
  rintro e w1 ⟨⟨vsa, rfl, hv⟩, hb1⟩
  have HVa : Hid (May 92 vsa n (optP n (exprP n)) w1) := hv n _ (expr_may n _ HN.out.rdy)
  replace HN : Hid _ := HN.out.step hb1
  clear hv
  unfold plV
  refine hK.out _ _ ?_ (fun hH5 => ?_)
  · (try dsimp only); exact HN.out.box
  clear hK K
  try simp only [Act.put, List.setIfInBounds_toArray, List.set_cons_zero, List.set_cons_succ]
  refine wpAnyH_ready (rs := [6]) (by kernel_rfl) (by simp) ?_
  refine AllReadyH.cons rfl (fun K hK => ?_) AllReadyH.nil
  go_simp
  refine hK.out _ _ ?_ (fun hH6 => ?_)
  · (try dsimp only); exact HN.out.box.below ((Below.refl _ _).alloc (Nat.le_refl _) _)
  clear hK K
  try simp only [Act.put, List.setIfInBounds_toArray, List.set_cons_zero, List.set_cons_succ]
  refine wpAnyH_ready (rs := [7]) (by kernel_rfl) (by simp) ?_
  refine AllReadyH.cons rfl (fun K hK => ?_) AllReadyH.nil
  go_simp
  go_at_call 40
  refine (are_b n l [(60, [], srcP n), (61, [], tgtP n), (92, vsa, optP n (exprP n))] s c _ _ _ _ _ rfl rfl (by simp) HN.out.kids (List.forall_mem_cons.2 ⟨src_may n _ HN.out.rdy, (List.forall_mem_cons.2 ⟨tgt_may n _ HN.out.rdy, (List.forall_mem_cons.2 ⟨HVa.out, (by simp)⟩)⟩)⟩)).mono ?_
  rintro e w1 ⟨rfl, hb1⟩
  replace HN : Hid _ := HN.out.step hb1
  replace HVa : Hid _ := HVa.out.below hb1
  refine hK.out _ _ ?_ (fun hH7 => ?_)
  · (try dsimp only); exact HN.out.box
  clear hK K
  try simp only [Act.put, List.setIfInBounds_toArray, List.set_cons_zero, List.set_cons_succ]
  refine tk 8 (some 59) (v := ?_) rfl ?_ ?_
  rotate_left
  · intro wS hSw; (try dsimp only at hSw); go_simp; (try with_reducible rfl)
  try simp only [Act.put, List.setIfInBounds_toArray, List.set_cons_zero, List.set_cons_succ]
  refine tk 9 (some 2) (v := ?_) rfl ?_ ?_
  rotate_left
  · intro wS hSw; (try dsimp only at hSw); go_simp; (try with_reducible rfl)
  try simp only [Act.put, List.setIfInBounds_toArray, List.set_cons_zero, List.set_cons_succ]
  refine wpAnyH_done (by kernel_rfl) ?_ _
  go_wp2
  go_ret
  exact ⟨rfl, HN.out.bel⟩
theorem stmt_54f (n : Nat) (t : List UInt8) (m a : Int) (l : List (Tr n)) (s : Option Addr) (c : Nat) (w : World) (hR : Rdy w) (hl : KsG w n s c l) (hb : plainF t m = false) :
    Calls Tryz.prog 25 #[.agg #[.int .i64 54, .string (bsA t), .int .i64 m, .int .i64 a, .slice s l.length c]] w fun e w' => e = .returned (.bool (false)) ∧ Below w.heap.size w w' := by
  have HN0 : Hid (Nd w n 54 t m a l s c (w.alloc (Obj.cells #[Value.int IntKind.i64 54, Value.string (bsA t), Value.int IntKind.i64 m, Value.int IntKind.i64 a, Value.slice s l.length c] 24))) := Nd.new w n _ t _ a l s c hR hl
  obtain ⟨d0, d1, d2, d3, d4, -, -, -, -, -⟩ := HN0.out.box
  have HN : Hid (Nd w n 54 t m a l s c (w.alloc (Obj.cells #[Value.int IntKind.i64 54, Value.string (bsA t), Value.int IntKind.i64 m, Value.int IntKind.i64 a, Value.slice s l.length c] 24)).drew) := HN0.out.step (Below.refl _ _).drew
  have hG := isPlain_any n 54 t m a l s c
  rw [hb] at hG
  have HG : Hid _ := hG
  clear hG hb
  clear hl hR
  go_enter Tryz.func25, Tryz.ntmps25
  go_wp2_with fail
  clear d0 d1 d2 d3 d4
  refine wp_region_held_drew (S := (fun wS => Box5 wS w.heap.size (.int .i64 54) (.string (bsA t)) (.int .i64 m) (.int .i64 a) (.slice s l.length c))) (by kernel_rfl) ?_ (fun hHeld => ?_)
  · (try dsimp only); exact HN.out.box
  refine tk 0 (some 51) (v := ?_) rfl ?_ ?_
  rotate_left
  · intro wS hSw; (try dsimp only at hSw); have q0 := hSw.c0; have q1 := hSw.c1; have q2 := hSw.c2; have q3 := hSw.c3; have q4 := hSw.c4; go_simp; (try with_reducible rfl)
  try simp only [Act.put, List.setIfInBounds_toArray, List.set_cons_zero, List.set_cons_succ]
  refine wpAnyH_ready (rs := [1]) (by kernel_rfl) (by simp) ?_
  refine AllReadyH.cons rfl (fun K hK => ?_) AllReadyH.nil
  go_simp
  go_at_call 39
  refine (HG.out _ HN.out.rdy HN.out.kids).mono ?_
  rintro e w1 ⟨rfl, hb1⟩
  replace HN : Hid _ := HN.out.step hb1
  refine hK.out _ _ ?_ (fun hH1 => ?_)
  · (try dsimp only); exact HN.out.box
  clear hK K
  try simp only [Act.put, List.setIfInBounds_toArray, List.set_cons_zero, List.set_cons_succ]
  refine tk 2 (some 53) (v := ?_) rfl ?_ ?_
  rotate_left
  · intro wS hSw; (try dsimp only at hSw); go_simp; (try with_reducible rfl)
  try simp only [Act.put, List.setIfInBounds_toArray, List.set_cons_zero, List.set_cons_succ]
  refine tkS 3 (some 54) rfl ?_
  try simp only [Act.put, List.setIfInBounds_toArray, List.set_cons_zero, List.set_cons_succ]
  refine tkS 4 (some 55) rfl ?_
  try simp only [Act.put, List.setIfInBounds_toArray, List.set_cons_zero, List.set_cons_succ]
  refine tkS 5 (some 56) rfl ?_
  try simp only [Act.put, List.setIfInBounds_toArray, List.set_cons_zero, List.set_cons_succ]
  refine tkS 6 (some 57) rfl ?_
  try simp only [Act.put, List.setIfInBounds_toArray, List.set_cons_zero, List.set_cons_succ]
  refine tkS 7 (some 58) rfl ?_
  try simp only [Act.put, List.setIfInBounds_toArray, List.set_cons_zero, List.set_cons_succ]
  refine tk 8 (some 59) (v := ?_) rfl ?_ ?_
  rotate_left
  · intro wS hSw; (try dsimp only at hSw); go_simp; (try with_reducible rfl)
  try simp only [Act.put, List.setIfInBounds_toArray, List.set_cons_zero, List.set_cons_succ]
  refine tk 9 (some 2) (v := ?_) rfl ?_ ?_
  rotate_left
  · intro wS hSw; (try dsimp only at hSw); go_simp; (try with_reducible rfl)
  try simp only [Act.put, List.setIfInBounds_toArray, List.set_cons_zero, List.set_cons_succ]
  refine wpAnyH_done (by kernel_rfl) ?_ _
  go_wp2
  go_ret
  exact ⟨rfl, HN.out.bel⟩
theorem stmt_55t (n : Nat) (t : List UInt8) (m a : Int) (l : List (Tr n)) (s : Option Addr) (c : Nat) (w : World) (hR : Rdy w) (hl : KsG w n s c l) (hb : plainF t m = true) :
    Calls Tryz.prog 25 #[.agg #[.int .i64 55, .string (bsA t), .int .i64 m, .int .i64 a, .slice s l.length c]] w fun e w' => e = .returned (.bool (areQ n l [srcP n, tgtP n, setsP n, optP n (exprP n)])) ∧ Below w.heap.size w w' := by
  have HN0 : Hid (Nd w n 55 t m a l s c (w.alloc (Obj.cells #[Value.int IntKind.i64 55, Value.string (bsA t), Value.int IntKind.i64 m, Value.int IntKind.i64 a, Value.slice s l.length c] 24))) := Nd.new w n _ t _ a l s c hR hl
  obtain ⟨d0, d1, d2, d3, d4, -, -, -, -, -⟩ := HN0.out.box
  have HN : Hid (Nd w n 55 t m a l s c (w.alloc (Obj.cells #[Value.int IntKind.i64 55, Value.string (bsA t), Value.int IntKind.i64 m, Value.int IntKind.i64 a, Value.slice s l.length c] 24)).drew) := HN0.out.step (Below.refl _ _).drew
  have hG := isPlain_any n 55 t m a l s c
  rw [hb] at hG
  have HG : Hid _ := hG
  clear hG hb
  clear hl hR
  go_enter Tryz.func25, Tryz.ntmps25
  go_wp2_with fail
  clear d0 d1 d2 d3 d4
  refine wp_region_held_drew (S := (fun wS => Box5 wS w.heap.size (.int .i64 55) (.string (bsA t)) (.int .i64 m) (.int .i64 a) (.slice s l.length c))) (by kernel_rfl) ?_ (fun hHeld => ?_)
  · (try dsimp only); exact HN.out.box
  refine tk 0 (some 62) (v := ?_) rfl ?_ ?_
  rotate_left
  · intro wS hSw; (try dsimp only at hSw); have q0 := hSw.c0; have q1 := hSw.c1; have q2 := hSw.c2; have q3 := hSw.c3; have q4 := hSw.c4; go_simp; (try with_reducible rfl)
  try simp only [Act.put, List.setIfInBounds_toArray, List.set_cons_zero, List.set_cons_succ]
  refine wpAnyH_ready (rs := [1]) (by kernel_rfl) (by simp) ?_
  refine AllReadyH.cons rfl (fun K hK => ?_) AllReadyH.nil
  go_simp
  go_at_call 39
  refine (HG.out _ HN.out.rdy HN.out.kids).mono ?_
  rintro e w1 ⟨rfl, hb1⟩
  replace HN : Hid _ := HN.out.step hb1
  refine hK.out _ _ ?_ (fun hH1 => ?_)
  · (try dsimp only); exact HN.out.box
  clear hK K
  try simp only [Act.put, List.setIfInBounds_toArray, List.set_cons_zero, List.set_cons_succ]
  refine tk 2 (some 64) (v := ?_) rfl ?_ ?_
  rotate_left
  · intro wS hSw; (try dsimp only at hSw); go_simp; (try with_reducible rfl)
  try simp only [Act.put, List.setIfInBounds_toArray, List.set_cons_zero, List.set_cons_succ]
  refine tk 3 (some 65) (v := ?_) rfl ?_ ?_
  rotate_left
  · intro wS hSw; (try dsimp only at hSw); go_simp; (try with_reducible rfl)
  try simp only [Act.put, List.setIfInBounds_toArray, List.set_cons_zero, List.set_cons_succ]
  refine tk 4 (some 66) (v := ?_) rfl ?_ ?_
  rotate_left
  · intro wS hSw; (try dsimp only at hSw); have q0 := hSw.c0; have q1 := hSw.c1; have q2 := hSw.c2; have q3 := hSw.c3; have q4 := hSw.c4; go_simp; (try with_reducible rfl)
  try simp only [Act.put, List.setIfInBounds_toArray, List.set_cons_zero, List.set_cons_succ]
  refine wpAnyH_ready (rs := [5]) (by kernel_rfl) (by simp) ?_
  refine AllReadyH.cons rfl (fun K hK => ?_) AllReadyH.nil
  go_simp
  go_at_call 50
  refine (optional_any 23 [] _ HN.out.rdy).mono ?_
  rintro e w1 ⟨⟨vsa, rfl, hv⟩, hb1⟩
  have HVa : Hid (May 92 vsa n (optP n (exprP n)) w1) := hv n _ (expr_may n _ HN.out.rdy)
  replace HN : Hid _ := HN.out.step hb1
  clear hv
  unfold plV
  refine hK.out _ _ ?_ (fun hH5 => ?_)
  · (try dsimp only); exact HN.out.box
  clear hK K
  try simp only [Act.put, List.setIfInBounds_toArray, List.set_cons_zero, List.set_cons_succ]
  refine wpAnyH_ready (rs := [6]) (by kernel_rfl) (by simp) ?_
  refine AllReadyH.cons rfl (fun K hK => ?_) AllReadyH.nil
  go_simp
  refine hK.out _ _ ?_ (fun hH6 => ?_)
  · (try dsimp only); exact HN.out.box.below ((Below.refl _ _).alloc (Nat.le_refl _) _)
  clear hK K
  try simp only [Act.put, List.setIfInBounds_toArray, List.set_cons_zero, List.set_cons_succ]
  refine wpAnyH_ready (rs := [7]) (by kernel_rfl) (by simp) ?_
  refine AllReadyH.cons rfl (fun K hK => ?_) AllReadyH.nil
  go_simp
  go_at_call 40
  refine (are_b n l [(60, [], srcP n), (61, [], tgtP n), (62, [], setsP n), (92, vsa, optP n (exprP n))] s c _ _ _ _ _ rfl rfl (by simp) HN.out.kids (List.forall_mem_cons.2 ⟨src_may n _ HN.out.rdy, (List.forall_mem_cons.2 ⟨tgt_may n _ HN.out.rdy, (List.forall_mem_cons.2 ⟨sets_may n _ HN.out.rdy, (List.forall_mem_cons.2 ⟨HVa.out, (by simp)⟩)⟩)⟩)⟩)).mono ?_
  rintro e w1 ⟨rfl, hb1⟩
  replace HN : Hid _ := HN.out.step hb1
  replace HVa : Hid _ := HVa.out.below hb1
  refine hK.out _ _ ?_ (fun hH7 => ?_)
  · (try dsimp only); exact HN.out.box
  clear hK K
  try simp only [Act.put, List.setIfInBounds_toArray, List.set_cons_zero, List.set_cons_succ]
  refine tk 8 (some 70) (v := ?_) rfl ?_ ?_
  rotate_left
  · intro wS hSw; (try dsimp only at hSw); go_simp; (try with_reducible rfl)
  try simp only [Act.put, List.setIfInBounds_toArray, List.set_cons_zero, List.set_cons_succ]
  refine tk 9 (some 2) (v := ?_) rfl ?_ ?_
  rotate_left
  · intro wS hSw; (try dsimp only at hSw); go_simp; (try with_reducible rfl)
  try simp only [Act.put, List.setIfInBounds_toArray, List.set_cons_zero, List.set_cons_succ]
  refine wpAnyH_done (by kernel_rfl) ?_ _
  go_wp2
  go_ret
  exact ⟨rfl, HN.out.bel⟩
theorem stmt_55f (n : Nat) (t : List UInt8) (m a : Int) (l : List (Tr n)) (s : Option Addr) (c : Nat) (w : World) (hR : Rdy w) (hl : KsG w n s c l) (hb : plainF t m = false) :
    Calls Tryz.prog 25 #[.agg #[.int .i64 55, .string (bsA t), .int .i64 m, .int .i64 a, .slice s l.length c]] w fun e w' => e = .returned (.bool (false)) ∧ Below w.heap.size w w' := by
  have HN0 : Hid (Nd w n 55 t m a l s c (w.alloc (Obj.cells #[Value.int IntKind.i64 55, Value.string (bsA t), Value.int IntKind.i64 m, Value.int IntKind.i64 a, Value.slice s l.length c] 24))) := Nd.new w n _ t _ a l s c hR hl
  obtain ⟨d0, d1, d2, d3, d4, -, -, -, -, -⟩ := HN0.out.box
  have HN : Hid (Nd w n 55 t m a l s c (w.alloc (Obj.cells #[Value.int IntKind.i64 55, Value.string (bsA t), Value.int IntKind.i64 m, Value.int IntKind.i64 a, Value.slice s l.length c] 24)).drew) := HN0.out.step (Below.refl _ _).drew
  have hG := isPlain_any n 55 t m a l s c
  rw [hb] at hG
  have HG : Hid _ := hG
  clear hG hb
  clear hl hR
  go_enter Tryz.func25, Tryz.ntmps25
  go_wp2_with fail
  clear d0 d1 d2 d3 d4
  refine wp_region_held_drew (S := (fun wS => Box5 wS w.heap.size (.int .i64 55) (.string (bsA t)) (.int .i64 m) (.int .i64 a) (.slice s l.length c))) (by kernel_rfl) ?_ (fun hHeld => ?_)
  · (try dsimp only); exact HN.out.box
  refine tk 0 (some 62) (v := ?_) rfl ?_ ?_
  rotate_left
  · intro wS hSw; (try dsimp only at hSw); have q0 := hSw.c0; have q1 := hSw.c1; have q2 := hSw.c2; have q3 := hSw.c3; have q4 := hSw.c4; go_simp; (try with_reducible rfl)
  try simp only [Act.put, List.setIfInBounds_toArray, List.set_cons_zero, List.set_cons_succ]
  refine wpAnyH_ready (rs := [1]) (by kernel_rfl) (by simp) ?_
  refine AllReadyH.cons rfl (fun K hK => ?_) AllReadyH.nil
  go_simp
  go_at_call 39
  refine (HG.out _ HN.out.rdy HN.out.kids).mono ?_
  rintro e w1 ⟨rfl, hb1⟩
  replace HN : Hid _ := HN.out.step hb1
  refine hK.out _ _ ?_ (fun hH1 => ?_)
  · (try dsimp only); exact HN.out.box
  clear hK K
  try simp only [Act.put, List.setIfInBounds_toArray, List.set_cons_zero, List.set_cons_succ]
  refine tk 2 (some 64) (v := ?_) rfl ?_ ?_
  rotate_left
  · intro wS hSw; (try dsimp only at hSw); go_simp; (try with_reducible rfl)
  try simp only [Act.put, List.setIfInBounds_toArray, List.set_cons_zero, List.set_cons_succ]
  refine tkS 3 (some 65) rfl ?_
  try simp only [Act.put, List.setIfInBounds_toArray, List.set_cons_zero, List.set_cons_succ]
  refine tkS 4 (some 66) rfl ?_
  try simp only [Act.put, List.setIfInBounds_toArray, List.set_cons_zero, List.set_cons_succ]
  refine tkS 5 (some 67) rfl ?_
  try simp only [Act.put, List.setIfInBounds_toArray, List.set_cons_zero, List.set_cons_succ]
  refine tkS 6 (some 68) rfl ?_
  try simp only [Act.put, List.setIfInBounds_toArray, List.set_cons_zero, List.set_cons_succ]
  refine tkS 7 (some 69) rfl ?_
  try simp only [Act.put, List.setIfInBounds_toArray, List.set_cons_zero, List.set_cons_succ]
  refine tk 8 (some 70) (v := ?_) rfl ?_ ?_
  rotate_left
  · intro wS hSw; (try dsimp only at hSw); go_simp; (try with_reducible rfl)
  try simp only [Act.put, List.setIfInBounds_toArray, List.set_cons_zero, List.set_cons_succ]
  refine tk 9 (some 2) (v := ?_) rfl ?_ ?_
  rotate_left
  · intro wS hSw; (try dsimp only at hSw); go_simp; (try with_reducible rfl)
  try simp only [Act.put, List.setIfInBounds_toArray, List.set_cons_zero, List.set_cons_succ]
  refine wpAnyH_done (by kernel_rfl) ?_ _
  go_wp2
  go_ret
  exact ⟨rfl, HN.out.bel⟩
theorem stmt_56t (n : Nat) (t : List UInt8) (m a : Int) (l : List (Tr n)) (s : Option Addr) (c : Nat) (w : World) (hR : Rdy w) (hl : KsG w n s c l) (hb : plainF t m = true) :
    Calls Tryz.prog 25 #[.agg #[.int .i64 56, .string (bsA t), .int .i64 m, .int .i64 a, .slice s l.length c]] w fun e w' => e = .returned (.bool (areQ n l [srcP n, tgtP n, itemsP n, optP n (exprP n)])) ∧ Below w.heap.size w w' := by
  have HN0 : Hid (Nd w n 56 t m a l s c (w.alloc (Obj.cells #[Value.int IntKind.i64 56, Value.string (bsA t), Value.int IntKind.i64 m, Value.int IntKind.i64 a, Value.slice s l.length c] 24))) := Nd.new w n _ t _ a l s c hR hl
  obtain ⟨d0, d1, d2, d3, d4, -, -, -, -, -⟩ := HN0.out.box
  have HN : Hid (Nd w n 56 t m a l s c (w.alloc (Obj.cells #[Value.int IntKind.i64 56, Value.string (bsA t), Value.int IntKind.i64 m, Value.int IntKind.i64 a, Value.slice s l.length c] 24)).drew) := HN0.out.step (Below.refl _ _).drew
  have hG := isPlain_any n 56 t m a l s c
  rw [hb] at hG
  have HG : Hid _ := hG
  clear hG hb
  clear hl hR
  go_enter Tryz.func25, Tryz.ntmps25
  go_wp2_with fail
  clear d0 d1 d2 d3 d4
  refine wp_region_held_drew (S := (fun wS => Box5 wS w.heap.size (.int .i64 56) (.string (bsA t)) (.int .i64 m) (.int .i64 a) (.slice s l.length c))) (by kernel_rfl) ?_ (fun hHeld => ?_)
  · (try dsimp only); exact HN.out.box
  refine tk 0 (some 73) (v := ?_) rfl ?_ ?_
  rotate_left
  · intro wS hSw; (try dsimp only at hSw); have q0 := hSw.c0; have q1 := hSw.c1; have q2 := hSw.c2; have q3 := hSw.c3; have q4 := hSw.c4; go_simp; (try with_reducible rfl)
  try simp only [Act.put, List.setIfInBounds_toArray, List.set_cons_zero, List.set_cons_succ]
  refine wpAnyH_ready (rs := [1]) (by kernel_rfl) (by simp) ?_
  refine AllReadyH.cons rfl (fun K hK => ?_) AllReadyH.nil
  go_simp
  go_at_call 39
  refine (HG.out _ HN.out.rdy HN.out.kids).mono ?_
  rintro e w1 ⟨rfl, hb1⟩
  replace HN : Hid _ := HN.out.step hb1
  refine hK.out _ _ ?_ (fun hH1 => ?_)
  · (try dsimp only); exact HN.out.box
  clear hK K
  try simp only [Act.put, List.setIfInBounds_toArray, List.set_cons_zero, List.set_cons_succ]
  refine tk 2 (some 75) (v := ?_) rfl ?_ ?_
  rotate_left
  · intro wS hSw; (try dsimp only at hSw); go_simp; (try with_reducible rfl)
  try simp only [Act.put, List.setIfInBounds_toArray, List.set_cons_zero, List.set_cons_succ]
  refine tk 3 (some 76) (v := ?_) rfl ?_ ?_
  rotate_left
  · intro wS hSw; (try dsimp only at hSw); go_simp; (try with_reducible rfl)
  try simp only [Act.put, List.setIfInBounds_toArray, List.set_cons_zero, List.set_cons_succ]
  refine tk 4 (some 77) (v := ?_) rfl ?_ ?_
  rotate_left
  · intro wS hSw; (try dsimp only at hSw); have q0 := hSw.c0; have q1 := hSw.c1; have q2 := hSw.c2; have q3 := hSw.c3; have q4 := hSw.c4; go_simp; (try with_reducible rfl)
  try simp only [Act.put, List.setIfInBounds_toArray, List.set_cons_zero, List.set_cons_succ]
  refine wpAnyH_ready (rs := [5]) (by kernel_rfl) (by simp) ?_
  refine AllReadyH.cons rfl (fun K hK => ?_) AllReadyH.nil
  go_simp
  go_at_call 50
  refine (optional_any 23 [] _ HN.out.rdy).mono ?_
  rintro e w1 ⟨⟨vsa, rfl, hv⟩, hb1⟩
  have HVa : Hid (May 92 vsa n (optP n (exprP n)) w1) := hv n _ (expr_may n _ HN.out.rdy)
  replace HN : Hid _ := HN.out.step hb1
  clear hv
  unfold plV
  refine hK.out _ _ ?_ (fun hH5 => ?_)
  · (try dsimp only); exact HN.out.box
  clear hK K
  try simp only [Act.put, List.setIfInBounds_toArray, List.set_cons_zero, List.set_cons_succ]
  refine wpAnyH_ready (rs := [6]) (by kernel_rfl) (by simp) ?_
  refine AllReadyH.cons rfl (fun K hK => ?_) AllReadyH.nil
  go_simp
  refine hK.out _ _ ?_ (fun hH6 => ?_)
  · (try dsimp only); exact HN.out.box.below ((Below.refl _ _).alloc (Nat.le_refl _) _)
  clear hK K
  try simp only [Act.put, List.setIfInBounds_toArray, List.set_cons_zero, List.set_cons_succ]
  refine wpAnyH_ready (rs := [7]) (by kernel_rfl) (by simp) ?_
  refine AllReadyH.cons rfl (fun K hK => ?_) AllReadyH.nil
  go_simp
  go_at_call 40
  refine (are_b n l [(60, [], srcP n), (61, [], tgtP n), (63, [], itemsP n), (92, vsa, optP n (exprP n))] s c _ _ _ _ _ rfl rfl (by simp) HN.out.kids (List.forall_mem_cons.2 ⟨src_may n _ HN.out.rdy, (List.forall_mem_cons.2 ⟨tgt_may n _ HN.out.rdy, (List.forall_mem_cons.2 ⟨items_may n _ HN.out.rdy, (List.forall_mem_cons.2 ⟨HVa.out, (by simp)⟩)⟩)⟩)⟩)).mono ?_
  rintro e w1 ⟨rfl, hb1⟩
  replace HN : Hid _ := HN.out.step hb1
  replace HVa : Hid _ := HVa.out.below hb1
  refine hK.out _ _ ?_ (fun hH7 => ?_)
  · (try dsimp only); exact HN.out.box
  clear hK K
  try simp only [Act.put, List.setIfInBounds_toArray, List.set_cons_zero, List.set_cons_succ]
  refine tk 8 (some 81) (v := ?_) rfl ?_ ?_
  rotate_left
  · intro wS hSw; (try dsimp only at hSw); go_simp; (try with_reducible rfl)
  try simp only [Act.put, List.setIfInBounds_toArray, List.set_cons_zero, List.set_cons_succ]
  refine tk 9 (some 2) (v := ?_) rfl ?_ ?_
  rotate_left
  · intro wS hSw; (try dsimp only at hSw); go_simp; (try with_reducible rfl)
  try simp only [Act.put, List.setIfInBounds_toArray, List.set_cons_zero, List.set_cons_succ]
  refine wpAnyH_done (by kernel_rfl) ?_ _
  go_wp2
  go_ret
  exact ⟨rfl, HN.out.bel⟩
theorem stmt_56f (n : Nat) (t : List UInt8) (m a : Int) (l : List (Tr n)) (s : Option Addr) (c : Nat) (w : World) (hR : Rdy w) (hl : KsG w n s c l) (hb : plainF t m = false) :
    Calls Tryz.prog 25 #[.agg #[.int .i64 56, .string (bsA t), .int .i64 m, .int .i64 a, .slice s l.length c]] w fun e w' => e = .returned (.bool (false)) ∧ Below w.heap.size w w' := by
  have HN0 : Hid (Nd w n 56 t m a l s c (w.alloc (Obj.cells #[Value.int IntKind.i64 56, Value.string (bsA t), Value.int IntKind.i64 m, Value.int IntKind.i64 a, Value.slice s l.length c] 24))) := Nd.new w n _ t _ a l s c hR hl
  obtain ⟨d0, d1, d2, d3, d4, -, -, -, -, -⟩ := HN0.out.box
  have HN : Hid (Nd w n 56 t m a l s c (w.alloc (Obj.cells #[Value.int IntKind.i64 56, Value.string (bsA t), Value.int IntKind.i64 m, Value.int IntKind.i64 a, Value.slice s l.length c] 24)).drew) := HN0.out.step (Below.refl _ _).drew
  have hG := isPlain_any n 56 t m a l s c
  rw [hb] at hG
  have HG : Hid _ := hG
  clear hG hb
  clear hl hR
  go_enter Tryz.func25, Tryz.ntmps25
  go_wp2_with fail
  clear d0 d1 d2 d3 d4
  refine wp_region_held_drew (S := (fun wS => Box5 wS w.heap.size (.int .i64 56) (.string (bsA t)) (.int .i64 m) (.int .i64 a) (.slice s l.length c))) (by kernel_rfl) ?_ (fun hHeld => ?_)
  · (try dsimp only); exact HN.out.box
  refine tk 0 (some 73) (v := ?_) rfl ?_ ?_
  rotate_left
  · intro wS hSw; (try dsimp only at hSw); have q0 := hSw.c0; have q1 := hSw.c1; have q2 := hSw.c2; have q3 := hSw.c3; have q4 := hSw.c4; go_simp; (try with_reducible rfl)
  try simp only [Act.put, List.setIfInBounds_toArray, List.set_cons_zero, List.set_cons_succ]
  refine wpAnyH_ready (rs := [1]) (by kernel_rfl) (by simp) ?_
  refine AllReadyH.cons rfl (fun K hK => ?_) AllReadyH.nil
  go_simp
  go_at_call 39
  refine (HG.out _ HN.out.rdy HN.out.kids).mono ?_
  rintro e w1 ⟨rfl, hb1⟩
  replace HN : Hid _ := HN.out.step hb1
  refine hK.out _ _ ?_ (fun hH1 => ?_)
  · (try dsimp only); exact HN.out.box
  clear hK K
  try simp only [Act.put, List.setIfInBounds_toArray, List.set_cons_zero, List.set_cons_succ]
  refine tk 2 (some 75) (v := ?_) rfl ?_ ?_
  rotate_left
  · intro wS hSw; (try dsimp only at hSw); go_simp; (try with_reducible rfl)
  try simp only [Act.put, List.setIfInBounds_toArray, List.set_cons_zero, List.set_cons_succ]
  refine tkS 3 (some 76) rfl ?_
  try simp only [Act.put, List.setIfInBounds_toArray, List.set_cons_zero, List.set_cons_succ]
  refine tkS 4 (some 77) rfl ?_
  try simp only [Act.put, List.setIfInBounds_toArray, List.set_cons_zero, List.set_cons_succ]
  refine tkS 5 (some 78) rfl ?_
  try simp only [Act.put, List.setIfInBounds_toArray, List.set_cons_zero, List.set_cons_succ]
  refine tkS 6 (some 79) rfl ?_
  try simp only [Act.put, List.setIfInBounds_toArray, List.set_cons_zero, List.set_cons_succ]
  refine tkS 7 (some 80) rfl ?_
  try simp only [Act.put, List.setIfInBounds_toArray, List.set_cons_zero, List.set_cons_succ]
  refine tk 8 (some 81) (v := ?_) rfl ?_ ?_
  rotate_left
  · intro wS hSw; (try dsimp only at hSw); go_simp; (try with_reducible rfl)
  try simp only [Act.put, List.setIfInBounds_toArray, List.set_cons_zero, List.set_cons_succ]
  refine tk 9 (some 2) (v := ?_) rfl ?_ ?_
  rotate_left
  · intro wS hSw; (try dsimp only at hSw); go_simp; (try with_reducible rfl)
  try simp only [Act.put, List.setIfInBounds_toArray, List.set_cons_zero, List.set_cons_succ]
  refine wpAnyH_done (by kernel_rfl) ?_ _
  go_wp2
  go_ret
  exact ⟨rfl, HN.out.bel⟩
theorem stmt_57 (n : Nat) (t : List UInt8) (m a : Int) (l : List (Tr n)) (s : Option Addr) (c : Nat) (w : World) (hR : Rdy w) (hl : KsG w n s c l) :
    Calls Tryz.prog 25 #[.agg #[.int .i64 57, .string (bsA t), .int .i64 m, .int .i64 a, .slice s l.length c]] w fun e w' => e = .returned (.bool (decide (t = []) && flagF m && areQ n l [srcP n, tgtP n, exprP n, setsP n])) ∧ Below w.heap.size w w' := by
  have HN : Hid (Nd w n 57 t m a l s c (w.alloc (Obj.cells #[Value.int IntKind.i64 57, Value.string (bsA t), Value.int IntKind.i64 m, Value.int IntKind.i64 a, Value.slice s l.length c] 24))) := Nd.new w n _ t _ a l s c hR hl
  obtain ⟨d0, d1, d2, d3, d4, -, -, -, -, -⟩ := HN.out.box
  clear hl hR
  go_enter Tryz.func25, Tryz.ntmps25
  go_wp2_with (first | (go_at_call 41; go_loud (refine (isFlag_any _ _).mono ?_; rintro e w1 ⟨rfl, rfl⟩)) | (go_at_call 40; (refine (are_b n l [(60, [], srcP n), (61, [], tgtP n), (23, [], exprP n), (62, [], setsP n)] s c _ _ _ _ _ rfl rfl (by simp) HN.out.kids (List.forall_mem_cons.2 ⟨src_may n _ HN.out.rdy, (List.forall_mem_cons.2 ⟨tgt_may n _ HN.out.rdy, (List.forall_mem_cons.2 ⟨expr_may n _ HN.out.rdy, (List.forall_mem_cons.2 ⟨sets_may n _ HN.out.rdy, (by simp)⟩)⟩)⟩)⟩)).mono ?_; rintro e w1 ⟨rfl, hb1⟩; clear d0 d1 d2 d3 d4; replace HN : Hid _ := HN.out.step hb1; obtain ⟨d0, d1, d2, d3, d4, -, -, -, -, -⟩ := HN.out.box)))
  all_goals (go_ret; exact ⟨by simp_all [bsA_tl, beqI, beqL], HN.out.bel⟩)
theorem stmt_x (n : Nat) (k : Int) (t : List UInt8) (m a : Int) (l : List (Tr n)) (s : Option Addr) (c : Nat) (w : World) (hR : Rdy w) (hl : KsG w n s c l) (h50 : (k == 50) = false) (h51 : (k == 51) = false) (h52 : (k == 52) = false) (h53 : (k == 53) = false) (h54 : (k == 54) = false) (h55 : (k == 55) = false) (h56 : (k == 56) = false) (h57 : (k == 57) = false) :
    Calls Tryz.prog 25 #[.agg #[.int .i64 k, .string (bsA t), .int .i64 m, .int .i64 a, .slice s l.length c]] w fun e w' => e = .returned (.bool (false)) ∧ Below w.heap.size w w' := by
  have HN : Hid (Nd w n k t m a l s c (w.alloc (Obj.cells #[Value.int IntKind.i64 k, Value.string (bsA t), Value.int IntKind.i64 m, Value.int IntKind.i64 a, Value.slice s l.length c] 24))) := Nd.new w n _ t _ a l s c hR hl
  obtain ⟨d0, d1, d2, d3, d4, -, -, -, -, -⟩ := HN.out.box
  clear hl hR
  go_enter Tryz.func25, Tryz.ntmps25
  go_wp2_with (first | fail)
  go_ret
  exact ⟨rfl, HN.out.bel⟩
def stmtF (n : Nat) (k : Int) (t : List UInt8) (m : Int) (l : List (Tr n)) : Bool := 
  if k = 50 then hidF t m && manyP n l 1 32 (colP n)
  else if k = 51 then hidF t m && areQ n (l.take 1) [nmeP n] && manyP n (l.drop 1) 1 4 (viewP n)
  else if k = 52 then hidF t m && areQ n l [partP n]
  else if k = 53 then selF n 53 t m l
  else if k = 54 then plainF t m && areQ n l [srcP n, tgtP n, optP n (exprP n)]
  else if k = 55 then plainF t m && areQ n l [srcP n, tgtP n, setsP n, optP n (exprP n)]
  else if k = 56 then plainF t m && areQ n l [srcP n, tgtP n, itemsP n, optP n (exprP n)]
  else if k = 57 then decide (t = []) && flagF m && areQ n l [srcP n, tgtP n, exprP n, setsP n]
  else false
theorem stmt_any (n : Nat) (k : Int) (t : List UInt8) (m a : Int) (l : List (Tr n)) (s : Option Addr) (c : Nat) (w : World) (hR : Rdy w) (hl : KsG w n s c l) :
    Calls Tryz.prog 25 #[.agg #[.int .i64 k, .string (bsA t), .int .i64 m, .int .i64 a, .slice s l.length c]] w fun e w' => e = .returned (.bool (stmtF n k t m l)) ∧ Below w.heap.size w w' := by
  unfold stmtF
  rcases Classical.em (k = 50) with rfl | h50
  · rw [if_pos rfl]
    exact stmt_50 n t m a l s c w hR hl
  rcases Classical.em (k = 51) with rfl | h51
  · rw [if_neg (by decide), if_pos rfl]
    exact stmt_51 n t m a l s c w hR hl
  rcases Classical.em (k = 52) with rfl | h52
  · rw [if_neg (by decide), if_neg (by decide), if_pos rfl]
    exact stmt_52 n t m a l s c w hR hl
  rcases Classical.em (k = 53) with rfl | h53
  · rw [if_neg (by decide), if_neg (by decide), if_neg (by decide), if_pos rfl]
    exact stmt_53 n t m a l s c w hR hl
  rcases Classical.em (k = 54) with rfl | h54
  · rw [if_neg (by decide), if_neg (by decide), if_neg (by decide), if_neg (by decide), if_pos rfl]
    cases hb : plainF t m with
    | true => exact stmt_54t n t m a l s c w hR hl hb
    | false => exact stmt_54f n t m a l s c w hR hl hb
  rcases Classical.em (k = 55) with rfl | h55
  · rw [if_neg (by decide), if_neg (by decide), if_neg (by decide), if_neg (by decide), if_neg (by decide), if_pos rfl]
    cases hb : plainF t m with
    | true => exact stmt_55t n t m a l s c w hR hl hb
    | false => exact stmt_55f n t m a l s c w hR hl hb
  rcases Classical.em (k = 56) with rfl | h56
  · rw [if_neg (by decide), if_neg (by decide), if_neg (by decide), if_neg (by decide), if_neg (by decide), if_neg (by decide), if_pos rfl]
    cases hb : plainF t m with
    | true => exact stmt_56t n t m a l s c w hR hl hb
    | false => exact stmt_56f n t m a l s c w hR hl hb
  rcases Classical.em (k = 57) with rfl | h57
  · rw [if_neg (by decide), if_neg (by decide), if_neg (by decide), if_neg (by decide), if_neg (by decide), if_neg (by decide), if_neg (by decide), if_pos rfl]
    exact stmt_57 n t m a l s c w hR hl
  rw [if_neg h50, if_neg h51, if_neg h52, if_neg h53, if_neg h54, if_neg h55, if_neg h56, if_neg h57]
  exact stmt_x n k t m a l s c w hR hl (by simpa using h50) (by simpa using h51) (by simpa using h52) (by simpa using h53) (by simpa using h54) (by simpa using h55) (by simpa using h56) (by simpa using h57)
theorem ent25 : Ent 25 := ent_of Tryz.func25 (by kernel_rfl) (by kernel_rfl)
def stmtP (n : Nat) (y : Tr n) : Bool := stmtF n.pred (kd n y) (tx n y) (nu n y) (ks n y)
theorem stmt_may (n : Nat) (w : World) (hR : Rdy w) : May 25 [] n (stmtP n) w := ⟨ent25, fun W hW y s c hy => by
  cases n with
  | zero => exact Empty.elim y
  | succ n => exact stmt_any n (kd (n + 1) y) (tx (n + 1) y) (nu (n + 1) y) (pl (n + 1) y) (ks (n + 1) y) s c W (hR.below hW) (NdG.kids hy)⟩
/-- The form of a tree. -/
def formI (E P S : Bool) : Int := if E then 1 else if P then 2 else if S then 3 else 0
theorem Form_any (n : Nat) (x : Tr n) (s : Option Addr) (c : Nat) (w : World) (hR : Rdy w) (hx : NdG w n x s c) :
    Calls Tryz.prog 8 #[ndV n x s c] w fun e w' => e = .returned (.int .i64 (formI (exprP n x) (patP n x) (stmtP n x))) ∧ Below w.heap.size w w' := by
  have hA : Below w.heap.size w (w.alloc (Obj.cells #[Value.int IntKind.i64 (kd n x), Value.string (bsA (tx n x)), Value.int IntKind.i64 (nu n x), Value.int IntKind.i64 (pl n x), Value.slice s (ks n x).length c] 24)) := (Below.refl _ _).alloc (Nat.le_refl _) _
  have HBX : Hid _ := Box5.new w (.int .i64 (kd n x)) (.string (bsA (tx n x))) (.int .i64 (nu n x)) (.int .i64 (pl n x)) (.slice s (ks n x).length c) 24
  have hX := NdG.below hA hx
  have h1 := (expr_may n _ (hR.below hA)).run _ (Below.refl _ _) x s c hX
  have h2 := fun W (hb : Below (w.alloc (Obj.cells #[Value.int IntKind.i64 (kd n x), Value.string (bsA (tx n x)), Value.int IntKind.i64 (nu n x), Value.int IntKind.i64 (pl n x), Value.slice s (ks n x).length c] 24)).heap.size (w.alloc (Obj.cells #[Value.int IntKind.i64 (kd n x), Value.string (bsA (tx n x)), Value.int IntKind.i64 (nu n x), Value.int IntKind.i64 (pl n x), Value.slice s (ks n x).length c] 24)) W) => (pat_may n _ ((hR.below hA).below hb)).run W (Below.refl _ _) x s c (NdG.below hb hX)
  have h3 := fun W (hb : Below (w.alloc (Obj.cells #[Value.int IntKind.i64 (kd n x), Value.string (bsA (tx n x)), Value.int IntKind.i64 (nu n x), Value.int IntKind.i64 (pl n x), Value.slice s (ks n x).length c] 24)).heap.size (w.alloc (Obj.cells #[Value.int IntKind.i64 (kd n x), Value.string (bsA (tx n x)), Value.int IntKind.i64 (nu n x), Value.int IntKind.i64 (pl n x), Value.slice s (ks n x).length c] 24)) W) => (stmt_may n _ ((hR.below hA).below hb)).run W (Below.refl _ _) x s c (NdG.below hb hX)
  unfold ndV at h1 h2 h3 ⊢
  have H2 : Hid _ := h2
  have H3 : Hid _ := h3
  clear h2 h3 hx hX hR
  generalize exprP n x = E at *
  generalize patP n x = P at *
  generalize stmtP n x = S at *
  have HA : Hid _ := hA
  obtain ⟨d0, d1, d2, d3, d4, -, -, -, -, -⟩ := HBX.out
  have HW : Hid _ := Below.refl (w.alloc (Obj.cells #[Value.int IntKind.i64 (kd n x), Value.string (bsA (tx n x)), Value.int IntKind.i64 (nu n x), Value.int IntKind.i64 (pl n x), Value.slice s (ks n x).length c] 24)).heap.size (w.alloc (Obj.cells #[Value.int IntKind.i64 (kd n x), Value.string (bsA (tx n x)), Value.int IntKind.i64 (nu n x), Value.int IntKind.i64 (pl n x), Value.slice s (ks n x).length c] 24))
  clear hA
  go_enter Tryz.func8, Tryz.ntmps8
  go_wp2_with (first | (go_at_call 23; refine h1.mono ?_; rintro e w1 ⟨rfl, hb1⟩; clear d0 d1 d2 d3 d4; replace HBX : Hid _ := HBX.out.below hb1; obtain ⟨d0, d1, d2, d3, d4, -, -, -, -, -⟩ := HBX.out; replace HW : Hid _ := HW.out.trans (hb1.mono HW.out.size); replace HA : Hid _ := HA.out.trans (hb1.mono HA.out.size)) | (go_at_call 24; refine (H2.out _ HW.out).mono ?_; rintro e w1 ⟨rfl, hb1⟩; clear d0 d1 d2 d3 d4; replace HBX : Hid _ := HBX.out.below hb1; obtain ⟨d0, d1, d2, d3, d4, -, -, -, -, -⟩ := HBX.out; replace HW : Hid _ := HW.out.trans (hb1.mono HW.out.size); replace HA : Hid _ := HA.out.trans (hb1.mono HA.out.size)) | (go_at_call 25; refine (H3.out _ HW.out).mono ?_; rintro e w1 ⟨rfl, hb1⟩; clear d0 d1 d2 d3 d4; replace HBX : Hid _ := HBX.out.below hb1; obtain ⟨d0, d1, d2, d3, d4, -, -, -, -, -⟩ := HBX.out; replace HW : Hid _ := HW.out.trans (hb1.mono HW.out.size); replace HA : Hid _ := HA.out.trans (hb1.mono HA.out.size)))
  all_goals (go_ret; exact ⟨by simp_all [formI], HA.out⟩)
end Go.Proofs.YtcemogaacicnfaaGreatDoor
