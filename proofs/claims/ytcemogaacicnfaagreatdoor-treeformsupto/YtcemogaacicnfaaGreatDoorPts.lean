/- Which trees are patterns: by the code. -/
import Derived.Test.YtcemogaacicnfaaGreatDoorExs
namespace Go.Proofs.YtcemogaacicnfaaGreatDoor
set_option linter.unusedSimpArgs false
set_option maxRecDepth 20000
set_option maxHeartbeats 4000000
open Go.ChangeShapes Go.WideShapes Go.ChangeAt Go.RowKit

def optP (n : Nat) (P : Tr n → Bool) (y : Tr n) : Bool := P y || noneP n y
def eitP (n : Nat) (P Q : Tr n → Bool) (y : Tr n) : Bool := P y || Q y
theorem optional_any (k : FuncId) (cs : List Value) (w : World) (hR : Rdy w) :
    Calls Tryz.prog 50 #[plV k cs] w fun e w' => (∃ vs, e = .returned (plV 92 vs) ∧ ∀ n P, May k cs n P w → May 92 vs n (optP n P) w') ∧ Below w.heap.size w w' := by
  have h1 := either_any k 91 cs [] w
  unfold plV at h1 ⊢
  go_enter Tryz.func50, Tryz.ntmps50
  go_wp2_with fail
  refine h1.mono ?_
  rintro e w1 ⟨⟨vs, rfl, hv⟩, hb1⟩
  have HV : Hid (∀ n P, May k cs n P w → May 92 vs n (optP n P) w1) := fun n P hP => hv n P (noneP n) hP (none_may n w hR)
  clear h1 hv
  go_wp2
  go_ret
  exact ⟨⟨vs, rfl, HV.out⟩, hb1⟩
def witF (m lo hi : Int) : Bool := decide (lo ≤ m) && decide (m ≤ hi)
theorem wit_any (m lo hi : Int) (w : World) : Calls Tryz.prog 54 #[.int .i64 m, .int .i64 lo, .int .i64 hi] w fun e w' => e = .returned (.bool (witF m lo hi)) ∧ w' = w := within_any m lo hi w
def notF (n : Nat) (k : Int) (t : List UInt8) (m : Int) (l : List (Tr n)) (P : Tr n → Bool) : Bool := decide (k = 35) && plainF t m && areQ n l [P]
theorem not_35 (n : Nat) (t : List UInt8) (m a : Int) (l : List (Tr n)) (s : Option Addr) (c : Nat) (w : World) (hR : Rdy w) (hl : KsG w n s c l) (P : Tr n → Bool) (hP : May 24 [] n P w) :
    Calls Tryz.prog 53 #[.agg #[.int .i64 35, .string (bsA t), .int .i64 m, .int .i64 a, .slice s l.length c]] w fun e w' => e = .returned (.bool (plainF t m && areQ n l [P])) ∧ Below w.heap.size w w' := by
  have HN : Hid (Nd w n 35 t m a l s c (w.alloc (Obj.cells #[Value.int IntKind.i64 35, Value.string (bsA t), Value.int IntKind.i64 m, Value.int IntKind.i64 a, Value.slice s l.length c] 24))) := Nd.new w n _ t _ a l s c hR hl
  obtain ⟨d0, d1, d2, d3, d4, -, -, -, -, -⟩ := HN.out.box
  have HM : Hid (May 24 [] n P w) := hP
  clear hP
  clear hl hR
  go_enter Tryz.func53, Tryz.ntmps53
  go_wp2_with (first | (go_at_call 39; (refine (isPlain_any n _ _ _ _ l _ _ _ HN.out.rdy HN.out.kids).mono ?_; rintro e w1 ⟨rfl, hb1⟩; clear d0 d1 d2 d3 d4; replace HN : Hid _ := HN.out.step hb1; obtain ⟨d0, d1, d2, d3, d4, -, -, -, -, -⟩ := HN.out.box)) | (go_at_call 40; (refine (are_b n l [(24, [], P)] s c _ _ _ _ _ rfl rfl (by simp) HN.out.kids (List.forall_mem_cons.2 ⟨HM.out.below HN.out.bel, (by simp)⟩)).mono ?_; rintro e w1 ⟨rfl, hb1⟩; clear d0 d1 d2 d3 d4; replace HN : Hid _ := HN.out.step hb1; obtain ⟨d0, d1, d2, d3, d4, -, -, -, -, -⟩ := HN.out.box)))
  all_goals (go_ret; exact ⟨by simp_all [bsA_tl, beqI, beqL], HN.out.bel⟩)
theorem not_x (n : Nat) (k : Int) (t : List UInt8) (m a : Int) (l : List (Tr n)) (s : Option Addr) (c : Nat) (w : World) (hR : Rdy w) (hl : KsG w n s c l) (h0 : (k == 35) = false) :
    Calls Tryz.prog 53 #[.agg #[.int .i64 k, .string (bsA t), .int .i64 m, .int .i64 a, .slice s l.length c]] w fun e w' => e = .returned (.bool (false)) ∧ Below w.heap.size w w' := by
  have HN : Hid (Nd w n k t m a l s c (w.alloc (Obj.cells #[Value.int IntKind.i64 k, Value.string (bsA t), Value.int IntKind.i64 m, Value.int IntKind.i64 a, Value.slice s l.length c] 24))) := Nd.new w n _ t _ a l s c hR hl
  obtain ⟨d0, d1, d2, d3, d4, -, -, -, -, -⟩ := HN.out.box
  clear hl hR
  go_enter Tryz.func53, Tryz.ntmps53
  go_wp2_with (first | fail)
  all_goals (go_ret; exact ⟨by simp_all [bsA_tl, beqI, beqL], HN.out.bel⟩)
theorem not_any (n : Nat) (k : Int) (t : List UInt8) (m a : Int) (l : List (Tr n)) (s : Option Addr) (c : Nat) (w : World) (hR : Rdy w) (hl : KsG w n s c l) (P : Tr n → Bool) (hP : May 24 [] n P w) :
    Calls Tryz.prog 53 #[.agg #[.int .i64 k, .string (bsA t), .int .i64 m, .int .i64 a, .slice s l.length c]] w fun e w' => e = .returned (.bool (notF n k t m l P)) ∧ Below w.heap.size w w' := by
  unfold notF
  rcases Classical.em (k = 35) with rfl | h
  · exact not_35 n t m a l s c w hR hl P hP
  · rw [decide_eq_false h]
    exact not_x n k t m a l s c w hR hl (by simpa using h)
theorem pat_30 (n : Nat) (t : List UInt8) (m a : Int) (l : List (Tr n)) (s : Option Addr) (c : Nat) (w : World) (hR : Rdy w) (hl : KsG w n s c l) :
    Calls Tryz.prog 24 #[.agg #[.int .i64 30, .string (bsA t), .int .i64 m, .int .i64 a, .slice s l.length c]] w fun e w' => e = .returned (.bool (hidF t m && areQ n l [optP n (exprP n), optP n (nmeP n)])) ∧ Below w.heap.size w w' := by
  have HN0 : Hid (Nd w n 30 t m a l s c (w.alloc (Obj.cells #[Value.int IntKind.i64 30, Value.string (bsA t), Value.int IntKind.i64 m, Value.int IntKind.i64 a, Value.slice s l.length c] 24))) := Nd.new w n _ t _ a l s c hR hl
  obtain ⟨d0, d1, d2, d3, d4, -, -, -, -, -⟩ := HN0.out.box
  have HN : Hid (Nd w n 30 t m a l s c (w.alloc (Obj.cells #[Value.int IntKind.i64 30, Value.string (bsA t), Value.int IntKind.i64 m, Value.int IntKind.i64 a, Value.slice s l.length c] 24)).drew) := HN0.out.step (Below.refl _ _).drew
  have hG := hasId_any n 30 t m a l s c
  cases hb : hidF t m with
  | true =>
    rw [hb] at hG
    have HG : Hid _ := hG
    have HB : Hid _ := hb
    clear hG hb hl hR
    go_enter Tryz.func24, Tryz.ntmps24
    go_wp2_with fail
    clear d0 d1 d2 d3 d4
    refine wp_region_held_drew (S := (fun wS => Box5 wS w.heap.size (.int .i64 30) (.string (bsA t)) (.int .i64 m) (.int .i64 a) (.slice s l.length c))) (by kernel_rfl) ?_ (fun hHeld => ?_)
    · (try dsimp only); exact HN.out.box
    refine tk 0 (some 7) (v := ?_) rfl ?_ ?_
    rotate_left
    · intro wS hSw; (try dsimp only at hSw); have q0 := hSw.c0; have q1 := hSw.c1; have q2 := hSw.c2; have q3 := hSw.c3; have q4 := hSw.c4; go_simp; (try with_reducible rfl)
    try simp only [Act.put, List.setIfInBounds_toArray, List.set_cons_zero, List.set_cons_succ]
    refine wpAnyH_ready (rs := [1]) (by kernel_rfl) (by simp) ?_
    refine AllReadyH.cons rfl (fun K hK => ?_) AllReadyH.nil
    go_simp
    go_at_call 48
    refine (HG.out _ HN.out.rdy HN.out.kids).mono ?_
    rintro e w1 ⟨rfl, hb1⟩
    replace HN : Hid _ := HN.out.step hb1
    refine hK.out _ _ ?_ (fun hH1 => ?_)
    · (try dsimp only); exact HN.out.box
    clear hK K
    try simp only [Act.put, List.setIfInBounds_toArray, List.set_cons_zero, List.set_cons_succ]
    refine tk 2 (some 9) (v := ?_) rfl ?_ ?_
    rotate_left
    · intro wS hSw; (try dsimp only at hSw); go_simp; (try with_reducible rfl)
    try simp only [Act.put, List.setIfInBounds_toArray, List.set_cons_zero, List.set_cons_succ]
    refine tk 3 (some 10) (v := ?_) rfl ?_ ?_
    rotate_left
    · intro wS hSw; (try dsimp only at hSw); go_simp; (try with_reducible rfl)
    try simp only [Act.put, List.setIfInBounds_toArray, List.set_cons_zero, List.set_cons_succ]
    refine tk 4 (some 11) (v := ?_) rfl ?_ ?_
    rotate_left
    · intro wS hSw; (try dsimp only at hSw); have q0 := hSw.c0; have q1 := hSw.c1; have q2 := hSw.c2; have q3 := hSw.c3; have q4 := hSw.c4; go_simp; (try with_reducible rfl)
    try simp only [Act.put, List.setIfInBounds_toArray, List.set_cons_zero, List.set_cons_succ]
    refine wpAnyH_ready (rs := [5]) (by kernel_rfl) (by simp) ?_
    refine AllReadyH.cons rfl (fun K hK => ?_) AllReadyH.nil
    go_simp
    go_at_call 50
    refine (optional_any 23 [] _ HN.out.rdy).mono ?_
    rintro e w2 ⟨⟨vsa, rfl, hv⟩, hb2⟩
    have HVa : Hid (May 92 vsa n (optP n (exprP n)) w2) := hv n _ (expr_may n _ HN.out.rdy)
    replace HN : Hid _ := HN.out.step hb2
    clear hv
    unfold plV
    refine hK.out _ _ ?_ (fun hH5 => ?_)
    · (try dsimp only); exact HN.out.box
    clear hK K
    try simp only [Act.put, List.setIfInBounds_toArray, List.set_cons_zero, List.set_cons_succ]
    refine wpAnyH_ready (rs := [6]) (by kernel_rfl) (by simp) ?_
    refine AllReadyH.cons rfl (fun K hK => ?_) AllReadyH.nil
    go_simp
    go_at_call 50
    refine (optional_any 51 [] _ HN.out.rdy).mono ?_
    rintro e w2 ⟨⟨vsb, rfl, hv⟩, hb2⟩
    have HVb : Hid (May 92 vsb n (optP n (nmeP n)) w2) := hv n _ (nme_may n _ HN.out.rdy)
    replace HN : Hid _ := HN.out.step hb2
    (try replace HVa : Hid _ := HVa.out.below hb2)
    clear hv
    unfold plV
    refine hK.out _ _ ?_ (fun hH6 => ?_)
    · (try dsimp only); exact HN.out.box
    clear hK K
    try simp only [Act.put, List.setIfInBounds_toArray, List.set_cons_zero, List.set_cons_succ]
    refine wpAnyH_ready (rs := [7]) (by kernel_rfl) (by simp) ?_
    refine AllReadyH.cons rfl (fun K hK => ?_) AllReadyH.nil
    go_simp
    refine hK.out _ _ ?_ (fun hH7 => ?_)
    · (try dsimp only); exact HN.out.box.below ((Below.refl _ _).alloc (Nat.le_refl _) _)
    clear hK K
    try simp only [Act.put, List.setIfInBounds_toArray, List.set_cons_zero, List.set_cons_succ]
    refine wpAnyH_ready (rs := [8]) (by kernel_rfl) (by simp) ?_
    refine AllReadyH.cons rfl (fun K hK => ?_) AllReadyH.nil
    go_simp
    go_at_call 40
    refine (are_b n l [(92, vsa, optP n (exprP n)), (92, vsb, optP n (nmeP n))] s c _ _ _ _ _ rfl rfl (by simp) HN.out.kids (List.forall_mem_cons.2 ⟨HVa.out, List.forall_mem_cons.2 ⟨HVb.out, by simp⟩⟩)).mono ?_
    rintro e w3 ⟨rfl, hb3⟩
    replace HN : Hid _ := HN.out.step hb3
    refine hK.out _ _ ?_ (fun hH8 => ?_)
    · (try dsimp only); exact HN.out.box
    clear hK K
    try simp only [Act.put, List.setIfInBounds_toArray, List.set_cons_zero, List.set_cons_succ]
    refine tk 9 (some 16) (v := ?_) rfl ?_ ?_
    rotate_left
    · intro wS hSw; (try dsimp only at hSw); go_simp; (try with_reducible rfl)
    try simp only [Act.put, List.setIfInBounds_toArray, List.set_cons_zero, List.set_cons_succ]
    refine tk 10 (some 2) (v := ?_) rfl ?_ ?_
    rotate_left
    · intro wS hSw; (try dsimp only at hSw); go_simp; (try with_reducible rfl)
    try simp only [Act.put, List.setIfInBounds_toArray, List.set_cons_zero, List.set_cons_succ]
    refine wpAnyH_done (by kernel_rfl) ?_ _
    go_wp2
    go_ret
    exact ⟨by simp [HB.out], HN.out.bel⟩
  | false =>
    rw [hb] at hG
    have HG : Hid _ := hG
    have HB : Hid _ := hb
    clear hG hb hl hR
    go_enter Tryz.func24, Tryz.ntmps24
    go_wp2_with fail
    clear d0 d1 d2 d3 d4
    refine wp_region_held_drew (S := (fun wS => Box5 wS w.heap.size (.int .i64 30) (.string (bsA t)) (.int .i64 m) (.int .i64 a) (.slice s l.length c))) (by kernel_rfl) ?_ (fun hHeld => ?_)
    · (try dsimp only); exact HN.out.box
    refine tk 0 (some 7) (v := ?_) rfl ?_ ?_
    rotate_left
    · intro wS hSw; (try dsimp only at hSw); have q0 := hSw.c0; have q1 := hSw.c1; have q2 := hSw.c2; have q3 := hSw.c3; have q4 := hSw.c4; go_simp; (try with_reducible rfl)
    try simp only [Act.put, List.setIfInBounds_toArray, List.set_cons_zero, List.set_cons_succ]
    refine wpAnyH_ready (rs := [1]) (by kernel_rfl) (by simp) ?_
    refine AllReadyH.cons rfl (fun K hK => ?_) AllReadyH.nil
    go_simp
    go_at_call 48
    refine (HG.out _ HN.out.rdy HN.out.kids).mono ?_
    rintro e w1 ⟨rfl, hb1⟩
    replace HN : Hid _ := HN.out.step hb1
    refine hK.out _ _ ?_ (fun hH1 => ?_)
    · (try dsimp only); exact HN.out.box
    clear hK K
    try simp only [Act.put, List.setIfInBounds_toArray, List.set_cons_zero, List.set_cons_succ]
    refine tk 2 (some 9) (v := ?_) rfl ?_ ?_
    rotate_left
    · intro wS hSw; (try dsimp only at hSw); go_simp; (try with_reducible rfl)
    try simp only [Act.put, List.setIfInBounds_toArray, List.set_cons_zero, List.set_cons_succ]
    refine tkS 3 (some 10) rfl ?_
    try simp only [Act.put, List.setIfInBounds_toArray, List.set_cons_zero, List.set_cons_succ]
    refine tkS 4 (some 11) rfl ?_
    try simp only [Act.put, List.setIfInBounds_toArray, List.set_cons_zero, List.set_cons_succ]
    refine tkS 5 (some 12) rfl ?_
    try simp only [Act.put, List.setIfInBounds_toArray, List.set_cons_zero, List.set_cons_succ]
    refine tkS 6 (some 13) rfl ?_
    try simp only [Act.put, List.setIfInBounds_toArray, List.set_cons_zero, List.set_cons_succ]
    refine tkS 7 (some 14) rfl ?_
    try simp only [Act.put, List.setIfInBounds_toArray, List.set_cons_zero, List.set_cons_succ]
    refine tkS 8 (some 15) rfl ?_
    try simp only [Act.put, List.setIfInBounds_toArray, List.set_cons_zero, List.set_cons_succ]
    refine tk 9 (some 16) (v := ?_) rfl ?_ ?_
    rotate_left
    · intro wS hSw; (try dsimp only at hSw); go_simp; (try with_reducible rfl)
    try simp only [Act.put, List.setIfInBounds_toArray, List.set_cons_zero, List.set_cons_succ]
    refine tk 10 (some 2) (v := ?_) rfl ?_ ?_
    rotate_left
    · intro wS hSw; (try dsimp only at hSw); go_simp; (try with_reducible rfl)
    try simp only [Act.put, List.setIfInBounds_toArray, List.set_cons_zero, List.set_cons_succ]
    refine wpAnyH_done (by kernel_rfl) ?_ _
    go_wp2
    go_ret
    exact ⟨by simp [HB.out], HN.out.bel⟩
theorem pat_31 (n : Nat) (t : List UInt8) (m a : Int) (l : List (Tr n)) (s : Option Addr) (c : Nat) (w : World) (hR : Rdy w) (hl : KsG w n s c l) (P : Tr n → Bool) (hP : May 24 [] n P w) :
    Calls Tryz.prog 24 #[.agg #[.int .i64 31, .string (bsA t), .int .i64 m, .int .i64 a, .slice s l.length c]] w fun e w' => e = .returned (.bool (plainF t m && areQ n l [P])) ∧ Below w.heap.size w w' := by
  have HN : Hid (Nd w n 31 t m a l s c (w.alloc (Obj.cells #[Value.int IntKind.i64 31, Value.string (bsA t), Value.int IntKind.i64 m, Value.int IntKind.i64 a, Value.slice s l.length c] 24))) := Nd.new w n _ t _ a l s c hR hl
  obtain ⟨d0, d1, d2, d3, d4, -, -, -, -, -⟩ := HN.out.box
  have HM : Hid (May 24 [] n P w) := hP
  clear hP
  clear hl hR
  go_enter Tryz.func24, Tryz.ntmps24
  go_wp2_with (first | (go_at_call 39; (refine (isPlain_any n _ _ _ _ l _ _ _ HN.out.rdy HN.out.kids).mono ?_; rintro e w1 ⟨rfl, hb1⟩; clear d0 d1 d2 d3 d4; replace HN : Hid _ := HN.out.step hb1; obtain ⟨d0, d1, d2, d3, d4, -, -, -, -, -⟩ := HN.out.box)) | (go_at_call 40; (refine (are_b n l [(24, [], P)] s c _ _ _ _ _ rfl rfl (by simp) HN.out.kids (List.forall_mem_cons.2 ⟨HM.out.below HN.out.bel, (by simp)⟩)).mono ?_; rintro e w1 ⟨rfl, hb1⟩; clear d0 d1 d2 d3 d4; replace HN : Hid _ := HN.out.step hb1; obtain ⟨d0, d1, d2, d3, d4, -, -, -, -, -⟩ := HN.out.box)))
  all_goals (go_ret; exact ⟨by simp_all [bsA_tl, beqI, beqL], HN.out.bel⟩)
theorem pat_32 (n : Nat) (t : List UInt8) (m a : Int) (l : List (Tr n)) (s : Option Addr) (c : Nat) (w : World) (hR : Rdy w) (hl : KsG w n s c l) (P : Tr n → Bool) (hP : May 24 [] n P w) :
    Calls Tryz.prog 24 #[.agg #[.int .i64 32, .string (bsA t), .int .i64 m, .int .i64 a, .slice s l.length c]] w fun e w' => e = .returned (.bool (plainF t m && areQ n l [P, P])) ∧ Below w.heap.size w w' := by
  have HN : Hid (Nd w n 32 t m a l s c (w.alloc (Obj.cells #[Value.int IntKind.i64 32, Value.string (bsA t), Value.int IntKind.i64 m, Value.int IntKind.i64 a, Value.slice s l.length c] 24))) := Nd.new w n _ t _ a l s c hR hl
  obtain ⟨d0, d1, d2, d3, d4, -, -, -, -, -⟩ := HN.out.box
  have HM : Hid (May 24 [] n P w) := hP
  clear hP
  clear hl hR
  go_enter Tryz.func24, Tryz.ntmps24
  go_wp2_with (first | (go_at_call 39; (refine (isPlain_any n _ _ _ _ l _ _ _ HN.out.rdy HN.out.kids).mono ?_; rintro e w1 ⟨rfl, hb1⟩; clear d0 d1 d2 d3 d4; replace HN : Hid _ := HN.out.step hb1; obtain ⟨d0, d1, d2, d3, d4, -, -, -, -, -⟩ := HN.out.box)) | (go_at_call 40; (refine (are_b n l [(24, [], P), (24, [], P)] s c _ _ _ _ _ rfl rfl (by simp) HN.out.kids (List.forall_mem_cons.2 ⟨HM.out.below HN.out.bel, (List.forall_mem_cons.2 ⟨HM.out.below HN.out.bel, (by simp)⟩)⟩)).mono ?_; rintro e w1 ⟨rfl, hb1⟩; clear d0 d1 d2 d3 d4; replace HN : Hid _ := HN.out.step hb1; obtain ⟨d0, d1, d2, d3, d4, -, -, -, -, -⟩ := HN.out.box)))
  all_goals (go_ret; exact ⟨by simp_all [bsA_tl, beqI, beqL], HN.out.bel⟩)
theorem pat_34 (n : Nat) (t : List UInt8) (m a : Int) (l : List (Tr n)) (s : Option Addr) (c : Nat) (w : World) (hR : Rdy w) (hl : KsG w n s c l) (P : Tr n → Bool) (hP : May 24 [] n P w) :
    Calls Tryz.prog 24 #[.agg #[.int .i64 34, .string (bsA t), .int .i64 m, .int .i64 a, .slice s l.length c]] w fun e w' => e = .returned (.bool (plainF t m && areQ n l [P, P])) ∧ Below w.heap.size w w' := by
  have HN : Hid (Nd w n 34 t m a l s c (w.alloc (Obj.cells #[Value.int IntKind.i64 34, Value.string (bsA t), Value.int IntKind.i64 m, Value.int IntKind.i64 a, Value.slice s l.length c] 24))) := Nd.new w n _ t _ a l s c hR hl
  obtain ⟨d0, d1, d2, d3, d4, -, -, -, -, -⟩ := HN.out.box
  have HM : Hid (May 24 [] n P w) := hP
  clear hP
  clear hl hR
  go_enter Tryz.func24, Tryz.ntmps24
  go_wp2_with (first | (go_at_call 39; (refine (isPlain_any n _ _ _ _ l _ _ _ HN.out.rdy HN.out.kids).mono ?_; rintro e w1 ⟨rfl, hb1⟩; clear d0 d1 d2 d3 d4; replace HN : Hid _ := HN.out.step hb1; obtain ⟨d0, d1, d2, d3, d4, -, -, -, -, -⟩ := HN.out.box)) | (go_at_call 40; (refine (are_b n l [(24, [], P), (24, [], P)] s c _ _ _ _ _ rfl rfl (by simp) HN.out.kids (List.forall_mem_cons.2 ⟨HM.out.below HN.out.bel, (List.forall_mem_cons.2 ⟨HM.out.below HN.out.bel, (by simp)⟩)⟩)).mono ?_; rintro e w1 ⟨rfl, hb1⟩; clear d0 d1 d2 d3 d4; replace HN : Hid _ := HN.out.step hb1; obtain ⟨d0, d1, d2, d3, d4, -, -, -, -, -⟩ := HN.out.box)))
  all_goals (go_ret; exact ⟨by simp_all [bsA_tl, beqI, beqL], HN.out.bel⟩)
theorem pat_33 (n : Nat) (t : List UInt8) (m a : Int) (l : List (Tr n)) (s : Option Addr) (c : Nat) (w : World) (hR : Rdy w) (hl : KsG w n s c l) (P : Tr n → Bool) (hP : May 24 [] n P w) (Q : Tr n → Bool) (hQ : May 53 [] n Q w) :
    Calls Tryz.prog 24 #[.agg #[.int .i64 33, .string (bsA t), .int .i64 m, .int .i64 a, .slice s l.length c]] w fun e w' => e = .returned (.bool (plainF t m && areQ n l [P, eitP n P Q])) ∧ Below w.heap.size w w' := by
  have HN0 : Hid (Nd w n 33 t m a l s c (w.alloc (Obj.cells #[Value.int IntKind.i64 33, Value.string (bsA t), Value.int IntKind.i64 m, Value.int IntKind.i64 a, Value.slice s l.length c] 24))) := Nd.new w n _ t _ a l s c hR hl
  obtain ⟨d0, d1, d2, d3, d4, -, -, -, -, -⟩ := HN0.out.box
  have HN : Hid (Nd w n 33 t m a l s c (w.alloc (Obj.cells #[Value.int IntKind.i64 33, Value.string (bsA t), Value.int IntKind.i64 m, Value.int IntKind.i64 a, Value.slice s l.length c] 24)).drew) := HN0.out.step (Below.refl _ _).drew
  have HM : Hid (May 24 [] n P w) := hP
  have HQ : Hid (May 53 [] n Q w) := hQ
  clear hP hQ
  have hG := isPlain_any n 33 t m a l s c
  cases hb : plainF t m with
  | true =>
    rw [hb] at hG
    have HG : Hid _ := hG
    have HB : Hid _ := hb
    clear hG hb hl hR
    go_enter Tryz.func24, Tryz.ntmps24
    go_wp2_with fail
    clear d0 d1 d2 d3 d4
    refine wp_region_held_drew (S := (fun wS => Box5 wS w.heap.size (.int .i64 33) (.string (bsA t)) (.int .i64 m) (.int .i64 a) (.slice s l.length c))) (by kernel_rfl) ?_ (fun hHeld => ?_)
    · (try dsimp only); exact HN.out.box
    refine tk 0 (some 40) (v := ?_) rfl ?_ ?_
    rotate_left
    · intro wS hSw; (try dsimp only at hSw); have q0 := hSw.c0; have q1 := hSw.c1; have q2 := hSw.c2; have q3 := hSw.c3; have q4 := hSw.c4; go_simp; (try with_reducible rfl)
    try simp only [Act.put, List.setIfInBounds_toArray, List.set_cons_zero, List.set_cons_succ]
    refine wpAnyH_ready (rs := [1]) (by kernel_rfl) (by simp) ?_
    refine AllReadyH.cons rfl (fun K hK => ?_) AllReadyH.nil
    go_simp
    go_at_call 39
    refine (HG.out _ HN.out.rdy HN.out.kids).mono ?_
    rintro e w1 ⟨rfl, hb1⟩
    replace HN : Hid _ := HN.out.step hb1
    refine hK.out _ _ ?_ (fun hH1 => ?_)
    · (try dsimp only); exact HN.out.box
    clear hK K
    try simp only [Act.put, List.setIfInBounds_toArray, List.set_cons_zero, List.set_cons_succ]
    refine tk 2 (some 42) (v := ?_) rfl ?_ ?_
    rotate_left
    · intro wS hSw; (try dsimp only at hSw); go_simp; (try with_reducible rfl)
    try simp only [Act.put, List.setIfInBounds_toArray, List.set_cons_zero, List.set_cons_succ]
    refine tk 3 (some 43) (v := ?_) rfl ?_ ?_
    rotate_left
    · intro wS hSw; (try dsimp only at hSw); go_simp; (try with_reducible rfl)
    try simp only [Act.put, List.setIfInBounds_toArray, List.set_cons_zero, List.set_cons_succ]
    refine tk 4 (some 44) (v := ?_) rfl ?_ ?_
    rotate_left
    · intro wS hSw; (try dsimp only at hSw); have q0 := hSw.c0; have q1 := hSw.c1; have q2 := hSw.c2; have q3 := hSw.c3; have q4 := hSw.c4; go_simp; (try with_reducible rfl)
    try simp only [Act.put, List.setIfInBounds_toArray, List.set_cons_zero, List.set_cons_succ]
    refine wpAnyH_ready (rs := [5]) (by kernel_rfl) (by simp) ?_
    refine AllReadyH.cons rfl (fun K hK => ?_) AllReadyH.nil
    go_simp
    go_at_call 52
    refine (either_any 24 53 [] [] _).mono ?_
    rintro e w2 ⟨⟨vsa, rfl, hv⟩, hb2⟩
    have HVa : Hid (May 92 vsa n (eitP n P Q) w2) := hv n _ _ (HM.out.below HN.out.bel) (HQ.out.below HN.out.bel)
    replace HN : Hid _ := HN.out.step hb2
    clear hv
    unfold plV
    refine hK.out _ _ ?_ (fun hH5 => ?_)
    · (try dsimp only); exact HN.out.box
    clear hK K
    try simp only [Act.put, List.setIfInBounds_toArray, List.set_cons_zero, List.set_cons_succ]
    refine wpAnyH_ready (rs := [6]) (by kernel_rfl) (by simp) ?_
    refine AllReadyH.cons rfl (fun K hK => ?_) AllReadyH.nil
    go_simp
    refine hK.out _ _ ?_ (fun hH6 => ?_)
    · (try dsimp only); exact HN.out.box.below ((Below.refl _ _).alloc (Nat.le_refl _) _)
    clear hK K
    try simp only [Act.put, List.setIfInBounds_toArray, List.set_cons_zero, List.set_cons_succ]
    refine wpAnyH_ready (rs := [7]) (by kernel_rfl) (by simp) ?_
    refine AllReadyH.cons rfl (fun K hK => ?_) AllReadyH.nil
    go_simp
    go_at_call 40
    refine (are_b n l [(24, [], P), (92, vsa, eitP n P Q)] s c _ _ _ _ _ rfl rfl (by simp) HN.out.kids (List.forall_mem_cons.2 ⟨HM.out.below HN.out.bel, List.forall_mem_cons.2 ⟨HVa.out, by simp⟩⟩)).mono ?_
    rintro e w3 ⟨rfl, hb3⟩
    replace HN : Hid _ := HN.out.step hb3
    refine hK.out _ _ ?_ (fun hH7 => ?_)
    · (try dsimp only); exact HN.out.box
    clear hK K
    try simp only [Act.put, List.setIfInBounds_toArray, List.set_cons_zero, List.set_cons_succ]
    refine tk 8 (some 48) (v := ?_) rfl ?_ ?_
    rotate_left
    · intro wS hSw; (try dsimp only at hSw); go_simp; (try with_reducible rfl)
    try simp only [Act.put, List.setIfInBounds_toArray, List.set_cons_zero, List.set_cons_succ]
    refine tk 9 (some 2) (v := ?_) rfl ?_ ?_
    rotate_left
    · intro wS hSw; (try dsimp only at hSw); go_simp; (try with_reducible rfl)
    try simp only [Act.put, List.setIfInBounds_toArray, List.set_cons_zero, List.set_cons_succ]
    refine wpAnyH_done (by kernel_rfl) ?_ _
    go_wp2
    go_ret
    exact ⟨by simp [HB.out], HN.out.bel⟩
  | false =>
    rw [hb] at hG
    have HG : Hid _ := hG
    have HB : Hid _ := hb
    clear hG hb hl hR
    go_enter Tryz.func24, Tryz.ntmps24
    go_wp2_with fail
    clear d0 d1 d2 d3 d4
    refine wp_region_held_drew (S := (fun wS => Box5 wS w.heap.size (.int .i64 33) (.string (bsA t)) (.int .i64 m) (.int .i64 a) (.slice s l.length c))) (by kernel_rfl) ?_ (fun hHeld => ?_)
    · (try dsimp only); exact HN.out.box
    refine tk 0 (some 40) (v := ?_) rfl ?_ ?_
    rotate_left
    · intro wS hSw; (try dsimp only at hSw); have q0 := hSw.c0; have q1 := hSw.c1; have q2 := hSw.c2; have q3 := hSw.c3; have q4 := hSw.c4; go_simp; (try with_reducible rfl)
    try simp only [Act.put, List.setIfInBounds_toArray, List.set_cons_zero, List.set_cons_succ]
    refine wpAnyH_ready (rs := [1]) (by kernel_rfl) (by simp) ?_
    refine AllReadyH.cons rfl (fun K hK => ?_) AllReadyH.nil
    go_simp
    go_at_call 39
    refine (HG.out _ HN.out.rdy HN.out.kids).mono ?_
    rintro e w1 ⟨rfl, hb1⟩
    replace HN : Hid _ := HN.out.step hb1
    refine hK.out _ _ ?_ (fun hH1 => ?_)
    · (try dsimp only); exact HN.out.box
    clear hK K
    try simp only [Act.put, List.setIfInBounds_toArray, List.set_cons_zero, List.set_cons_succ]
    refine tk 2 (some 42) (v := ?_) rfl ?_ ?_
    rotate_left
    · intro wS hSw; (try dsimp only at hSw); go_simp; (try with_reducible rfl)
    try simp only [Act.put, List.setIfInBounds_toArray, List.set_cons_zero, List.set_cons_succ]
    refine tkS 3 (some 43) rfl ?_
    try simp only [Act.put, List.setIfInBounds_toArray, List.set_cons_zero, List.set_cons_succ]
    refine tkS 4 (some 44) rfl ?_
    try simp only [Act.put, List.setIfInBounds_toArray, List.set_cons_zero, List.set_cons_succ]
    refine tkS 5 (some 45) rfl ?_
    try simp only [Act.put, List.setIfInBounds_toArray, List.set_cons_zero, List.set_cons_succ]
    refine tkS 6 (some 46) rfl ?_
    try simp only [Act.put, List.setIfInBounds_toArray, List.set_cons_zero, List.set_cons_succ]
    refine tkS 7 (some 47) rfl ?_
    try simp only [Act.put, List.setIfInBounds_toArray, List.set_cons_zero, List.set_cons_succ]
    refine tk 8 (some 48) (v := ?_) rfl ?_ ?_
    rotate_left
    · intro wS hSw; (try dsimp only at hSw); go_simp; (try with_reducible rfl)
    try simp only [Act.put, List.setIfInBounds_toArray, List.set_cons_zero, List.set_cons_succ]
    refine tk 9 (some 2) (v := ?_) rfl ?_ ?_
    rotate_left
    · intro wS hSw; (try dsimp only at hSw); go_simp; (try with_reducible rfl)
    try simp only [Act.put, List.setIfInBounds_toArray, List.set_cons_zero, List.set_cons_succ]
    refine wpAnyH_done (by kernel_rfl) ?_ _
    go_wp2
    go_ret
    exact ⟨by simp [HB.out], HN.out.bel⟩
theorem pat_36 (n : Nat) (t : List UInt8) (m a : Int) (l : List (Tr n)) (s : Option Addr) (c : Nat) (w : World) (hR : Rdy w) (hl : KsG w n s c l) :
    Calls Tryz.prog 24 #[.agg #[.int .i64 36, .string (bsA t), .int .i64 m, .int .i64 a, .slice s l.length c]] w fun e w' => e = .returned (.bool (decide (t = []) && witF m 0 1099511627776 && emp n l)) ∧ Below w.heap.size w w' := by
  have HN : Hid (Nd w n 36 t m a l s c (w.alloc (Obj.cells #[Value.int IntKind.i64 36, Value.string (bsA t), Value.int IntKind.i64 m, Value.int IntKind.i64 a, Value.slice s l.length c] 24))) := Nd.new w n _ t _ a l s c hR hl
  obtain ⟨d0, d1, d2, d3, d4, -, -, -, -, -⟩ := HN.out.box
  clear hl hR
  go_enter Tryz.func24, Tryz.ntmps24
  go_wp2_with (first | (go_at_call 54; refine (wit_any _ _ _ _).mono ?_; rintro e w1 ⟨rfl, rfl⟩) | (go_at_call 40; (refine (are_e n l s c _ HN.out.kids).mono ?_; rintro e w1 ⟨rfl, hb1⟩; clear d0 d1 d2 d3 d4; replace HN : Hid _ := HN.out.step hb1; obtain ⟨d0, d1, d2, d3, d4, -, -, -, -, -⟩ := HN.out.box)))
  all_goals (go_ret; exact ⟨by simp_all [bsA_tl, beqI, beqL], HN.out.bel⟩)
theorem pat_37 (n : Nat) (t : List UInt8) (m a : Int) (l : List (Tr n)) (s : Option Addr) (c : Nat) (w : World) (hR : Rdy w) (hl : KsG w n s c l) (P : Tr n → Bool) (hP : May 24 [] n P w) :
    Calls Tryz.prog 24 #[.agg #[.int .i64 37, .string (bsA t), .int .i64 m, .int .i64 a, .slice s l.length c]] w fun e w' => e = .returned (.bool (decide (t = []) && witF m 0 1099511627776 && areQ n l [P])) ∧ Below w.heap.size w w' := by
  have HN : Hid (Nd w n 37 t m a l s c (w.alloc (Obj.cells #[Value.int IntKind.i64 37, Value.string (bsA t), Value.int IntKind.i64 m, Value.int IntKind.i64 a, Value.slice s l.length c] 24))) := Nd.new w n _ t _ a l s c hR hl
  obtain ⟨d0, d1, d2, d3, d4, -, -, -, -, -⟩ := HN.out.box
  have HM : Hid (May 24 [] n P w) := hP
  clear hP
  clear hl hR
  go_enter Tryz.func24, Tryz.ntmps24
  go_wp2_with (first | (go_at_call 54; refine (wit_any _ _ _ _).mono ?_; rintro e w1 ⟨rfl, rfl⟩) | (go_at_call 40; (refine (are_b n l [(24, [], P)] s c _ _ _ _ _ rfl rfl (by simp) HN.out.kids (List.forall_mem_cons.2 ⟨HM.out.below HN.out.bel, (by simp)⟩)).mono ?_; rintro e w1 ⟨rfl, hb1⟩; clear d0 d1 d2 d3 d4; replace HN : Hid _ := HN.out.step hb1; obtain ⟨d0, d1, d2, d3, d4, -, -, -, -, -⟩ := HN.out.box)))
  all_goals (go_ret; exact ⟨by simp_all [bsA_tl, beqI, beqL], HN.out.bel⟩)
theorem pat_x (n : Nat) (k : Int) (t : List UInt8) (m a : Int) (l : List (Tr n)) (s : Option Addr) (c : Nat) (w : World) (hR : Rdy w) (hl : KsG w n s c l) (h30 : (k == 30) = false) (h31 : (k == 31) = false) (h32 : (k == 32) = false) (h33 : (k == 33) = false) (h34 : (k == 34) = false) (h36 : (k == 36) = false) (h37 : (k == 37) = false) :
    Calls Tryz.prog 24 #[.agg #[.int .i64 k, .string (bsA t), .int .i64 m, .int .i64 a, .slice s l.length c]] w fun e w' => e = .returned (.bool (false)) ∧ Below w.heap.size w w' := by
  have HN : Hid (Nd w n k t m a l s c (w.alloc (Obj.cells #[Value.int IntKind.i64 k, Value.string (bsA t), Value.int IntKind.i64 m, Value.int IntKind.i64 a, Value.slice s l.length c] 24))) := Nd.new w n _ t _ a l s c hR hl
  obtain ⟨d0, d1, d2, d3, d4, -, -, -, -, -⟩ := HN.out.box
  clear hl hR
  go_enter Tryz.func24, Tryz.ntmps24
  go_wp2_with (first | fail)
  all_goals (go_ret; exact ⟨by simp_all [bsA_tl, beqI, beqL], HN.out.bel⟩)
def paF (n : Nat) (k : Int) (t : List UInt8) (m : Int) (l : List (Tr n)) (P Q : Tr n → Bool) : Bool :=
  if k = 30 then hidF t m && areQ n l [optP n (exprP n), optP n (nmeP n)]
  else if k = 31 then plainF t m && areQ n l [P]
  else if k = 32 then plainF t m && areQ n l [P, P]
  else if k = 33 then plainF t m && areQ n l [P, eitP n P Q]
  else if k = 34 then plainF t m && areQ n l [P, P]
  else if k = 36 then decide (t = []) && witF m 0 1099511627776 && emp n l
  else if k = 37 then decide (t = []) && witF m 0 1099511627776 && areQ n l [P]
  else false
theorem ent24 : Ent 24 := ent_of Tryz.func24 (by kernel_rfl) (by kernel_rfl)
theorem ent53 : Ent 53 := ent_of Tryz.func53 (by kernel_rfl) (by kernel_rfl)
theorem pat_any (n : Nat) (k : Int) (t : List UInt8) (m a : Int) (l : List (Tr n)) (s : Option Addr) (c : Nat) (w : World) (hR : Rdy w) (hl : KsG w n s c l) (P : Tr n → Bool) (hP : May 24 [] n P w) (Q : Tr n → Bool) (hQ : May 53 [] n Q w) :
    Calls Tryz.prog 24 #[.agg #[.int .i64 k, .string (bsA t), .int .i64 m, .int .i64 a, .slice s l.length c]] w fun e w' => e = .returned (.bool (paF n k t m l P Q)) ∧ Below w.heap.size w w' := by
  unfold paF
  rcases Classical.em (k = 30) with rfl | h30
  · rw [if_pos rfl]
    exact pat_30 n t m a l s c w hR hl
  rcases Classical.em (k = 31) with rfl | h31
  · rw [if_neg (by decide), if_pos rfl]
    exact pat_31 n t m a l s c w hR hl P hP
  rcases Classical.em (k = 32) with rfl | h32
  · rw [if_neg (by decide), if_neg (by decide), if_pos rfl]
    exact pat_32 n t m a l s c w hR hl P hP
  rcases Classical.em (k = 33) with rfl | h33
  · rw [if_neg (by decide), if_neg (by decide), if_neg (by decide), if_pos rfl]
    exact pat_33 n t m a l s c w hR hl P hP Q hQ
  rcases Classical.em (k = 34) with rfl | h34
  · rw [if_neg (by decide), if_neg (by decide), if_neg (by decide), if_neg (by decide), if_pos rfl]
    exact pat_34 n t m a l s c w hR hl P hP
  rcases Classical.em (k = 36) with rfl | h36
  · rw [if_neg (by decide), if_neg (by decide), if_neg (by decide), if_neg (by decide), if_neg (by decide), if_pos rfl]
    exact pat_36 n t m a l s c w hR hl
  rcases Classical.em (k = 37) with rfl | h37
  · rw [if_neg (by decide), if_neg (by decide), if_neg (by decide), if_neg (by decide), if_neg (by decide), if_neg (by decide), if_pos rfl]
    exact pat_37 n t m a l s c w hR hl P hP
  rw [if_neg h30, if_neg h31, if_neg h32, if_neg h33, if_neg h34, if_neg h36, if_neg h37]
  exact pat_x n k t m a l s c w hR hl (by simpa using h30) (by simpa using h31) (by simpa using h32) (by simpa using h33) (by simpa using h34) (by simpa using h36) (by simpa using h37)
/-- Which trees are patterns, which are a PatNot of one. -/
def pnP : (n : Nat) → Tr n → Bool × Bool
  | 0, _ => (false, false)
  | n + 1, x => (paF n (kd (n + 1) x) (tx (n + 1) x) (nu (n + 1) x) (ks (n + 1) x) (fun y => (pnP n y).1) (fun y => (pnP n y).2), notF n (kd (n + 1) x) (tx (n + 1) x) (nu (n + 1) x) (ks (n + 1) x) (fun y => (pnP n y).1))
def patP (n : Nat) (y : Tr n) : Bool := (pnP n y).1
def notP (n : Nat) (y : Tr n) : Bool := (pnP n y).2
theorem pat_not : ∀ (n : Nat) (w : World), Rdy w → May 24 [] n (patP n) w ∧ May 53 [] n (notP n) w
  | 0, _, _ => ⟨⟨ent24, fun _ _ y => Empty.elim y⟩, ⟨ent53, fun _ _ y => Empty.elim y⟩⟩
  | n + 1, _, hR => ⟨⟨ent24, fun W hW y s c hy => pat_any n (kd (n + 1) y) (tx (n + 1) y) (nu (n + 1) y) (pl (n + 1) y) (ks (n + 1) y) s c W (hR.below hW) (NdG.kids hy) (patP n) (pat_not n W (hR.below hW)).1 (notP n) (pat_not n W (hR.below hW)).2⟩,
    ⟨ent53, fun W hW y s c hy => not_any n (kd (n + 1) y) (tx (n + 1) y) (nu (n + 1) y) (pl (n + 1) y) (ks (n + 1) y) s c W (hR.below hW) (NdG.kids hy) (patP n) (pat_not n W (hR.below hW)).1⟩⟩
theorem pat_may (n : Nat) (w : World) (hR : Rdy w) : May 24 [] n (patP n) w := (pat_not n w hR).1
end Go.Proofs.YtcemogaacicnfaaGreatDoor
