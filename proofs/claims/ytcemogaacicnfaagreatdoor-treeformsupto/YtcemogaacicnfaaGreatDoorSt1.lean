/- The parts of statements: by the code. -/
import Derived.Test.YtcemogaacicnfaaGreatDoorPts
namespace Go.Proofs.YtcemogaacicnfaaGreatDoor
set_option linter.unusedSimpArgs false
set_option maxRecDepth 20000
set_option maxHeartbeats 4000000
open Go.ChangeShapes Go.WideShapes Go.ChangeAt Go.RowKit

def sizF (n : Nat) (k : Int) (t : List UInt8) (m : Int) (l : List (Tr n)) : Bool := decide (k = 3) && decide (t = []) && witF m 1 65536 && emp n l
theorem siz_any (n : Nat) (k : Int) (t : List UInt8) (m a : Int) (l : List (Tr n)) (s : Option Addr) (c : Nat) (w : World) (hR : Rdy w) (hl : KsG w n s c l) :
    Calls Tryz.prog 93 #[.agg #[.int .i64 k, .string (bsA t), .int .i64 m, .int .i64 a, .slice s l.length c]] w fun e w' => e = .returned (.bool (sizF n k t m l)) ∧ Below w.heap.size w w' := by
  rcases Classical.em (k = 3) with rfl | h0
  · have HN : Hid (Nd w n 3 t m a l s c (w.alloc (Obj.cells #[Value.int IntKind.i64 3, Value.string (bsA t), Value.int IntKind.i64 m, Value.int IntKind.i64 a, Value.slice s l.length c] 24))) := Nd.new w n _ t _ a l s c hR hl
    obtain ⟨d0, d1, d2, d3, d4, -, -, -, -, -⟩ := HN.out.box
    clear hl hR
    go_enter Tryz.func93, Tryz.ntmps93
    go_wp2_with (first | (go_at_call 54; refine (wit_any _ _ _ _).mono ?_; rintro e w1 ⟨rfl, rfl⟩) | (go_at_call 40; (refine (are_e n l s c _ HN.out.kids).mono ?_; rintro e w1 ⟨rfl, hb1⟩; clear d0 d1 d2 d3 d4; replace HN : Hid _ := HN.out.step hb1; obtain ⟨d0, d1, d2, d3, d4, -, -, -, -, -⟩ := HN.out.box)))
    all_goals (go_ret; exact ⟨by simp_all [bsA_tl, beqI, beqL, sizF], HN.out.bel⟩)
  · have HN : Hid (Nd w n k t m a l s c (w.alloc (Obj.cells #[Value.int IntKind.i64 k, Value.string (bsA t), Value.int IntKind.i64 m, Value.int IntKind.i64 a, Value.slice s l.length c] 24))) := Nd.new w n _ t _ a l s c hR hl
    obtain ⟨d0, d1, d2, d3, d4, -, -, -, -, -⟩ := HN.out.box
    clear hl hR
    go_enter Tryz.func93, Tryz.ntmps93
    go_wp2_with (first | (go_at_call 54; refine (wit_any _ _ _ _).mono ?_; rintro e w1 ⟨rfl, rfl⟩) | (go_at_call 40; (refine (are_e n l s c _ HN.out.kids).mono ?_; rintro e w1 ⟨rfl, hb1⟩; clear d0 d1 d2 d3 d4; replace HN : Hid _ := HN.out.step hb1; obtain ⟨d0, d1, d2, d3, d4, -, -, -, -, -⟩ := HN.out.box)))
    all_goals (go_ret; exact ⟨by simp_all [bsA_tl, beqI, beqL, sizF], HN.out.bel⟩)
theorem ent93 : Ent 93 := ent_of Tryz.func93 (by kernel_rfl) (by kernel_rfl)
def sizP (n : Nat) (y : Tr n) : Bool := sizF n.pred (kd n y) (tx n y) (nu n y) (ks n y)
theorem siz_may (n : Nat) (w : World) (hR : Rdy w) : May 93 [] n (sizP n) w := ⟨ent93, fun W hW y s c hy => by
  cases n with
  | zero => exact Empty.elim y
  | succ n => exact siz_any n (kd (n + 1) y) (tx (n + 1) y) (nu (n + 1) y) (pl (n + 1) y) (ks (n + 1) y) s c W (hR.below hW) (NdG.kids hy)⟩
def prdF (n : Nat) (k : Int) (t : List UInt8) (m : Int) (l : List (Tr n)) : Bool := decide (k = 3) && decide (t = [109, 115]) && witF m 1 1099511627776 && emp n l
theorem prd_any (n : Nat) (k : Int) (t : List UInt8) (m a : Int) (l : List (Tr n)) (s : Option Addr) (c : Nat) (w : World) (hR : Rdy w) (hl : KsG w n s c l) :
    Calls Tryz.prog 94 #[.agg #[.int .i64 k, .string (bsA t), .int .i64 m, .int .i64 a, .slice s l.length c]] w fun e w' => e = .returned (.bool (prdF n k t m l)) ∧ Below w.heap.size w w' := by
  rcases Classical.em (k = 3) with rfl | h0
  · have HN : Hid (Nd w n 3 t m a l s c (w.alloc (Obj.cells #[Value.int IntKind.i64 3, Value.string (bsA t), Value.int IntKind.i64 m, Value.int IntKind.i64 a, Value.slice s l.length c] 24))) := Nd.new w n _ t _ a l s c hR hl
    obtain ⟨d0, d1, d2, d3, d4, -, -, -, -, -⟩ := HN.out.box
    clear hl hR
    go_enter Tryz.func94, Tryz.ntmps94
    go_wp2_with (first | (go_at_call 54; refine (wit_any _ _ _ _).mono ?_; rintro e w1 ⟨rfl, rfl⟩) | (go_at_call 40; (refine (are_e n l s c _ HN.out.kids).mono ?_; rintro e w1 ⟨rfl, hb1⟩; clear d0 d1 d2 d3 d4; replace HN : Hid _ := HN.out.step hb1; obtain ⟨d0, d1, d2, d3, d4, -, -, -, -, -⟩ := HN.out.box)))
    all_goals (go_ret; exact ⟨by simp_all [bsA_tl, beqI, beqL, prdF], HN.out.bel⟩)
  · have HN : Hid (Nd w n k t m a l s c (w.alloc (Obj.cells #[Value.int IntKind.i64 k, Value.string (bsA t), Value.int IntKind.i64 m, Value.int IntKind.i64 a, Value.slice s l.length c] 24))) := Nd.new w n _ t _ a l s c hR hl
    obtain ⟨d0, d1, d2, d3, d4, -, -, -, -, -⟩ := HN.out.box
    clear hl hR
    go_enter Tryz.func94, Tryz.ntmps94
    go_wp2_with (first | (go_at_call 54; refine (wit_any _ _ _ _).mono ?_; rintro e w1 ⟨rfl, rfl⟩) | (go_at_call 40; (refine (are_e n l s c _ HN.out.kids).mono ?_; rintro e w1 ⟨rfl, hb1⟩; clear d0 d1 d2 d3 d4; replace HN : Hid _ := HN.out.step hb1; obtain ⟨d0, d1, d2, d3, d4, -, -, -, -, -⟩ := HN.out.box)))
    all_goals (go_ret; exact ⟨by simp_all [bsA_tl, beqI, beqL, prdF], HN.out.bel⟩)
theorem ent94 : Ent 94 := ent_of Tryz.func94 (by kernel_rfl) (by kernel_rfl)
def prdP (n : Nat) (y : Tr n) : Bool := prdF n.pred (kd n y) (tx n y) (nu n y) (ks n y)
theorem prd_may (n : Nat) (w : World) (hR : Rdy w) : May 94 [] n (prdP n) w := ⟨ent94, fun W hW y s c hy => by
  cases n with
  | zero => exact Empty.elim y
  | succ n => exact prd_any n (kd (n + 1) y) (tx (n + 1) y) (nu (n + 1) y) (pl (n + 1) y) (ks (n + 1) y) s c W (hR.below hW) (NdG.kids hy)⟩
def colF (n : Nat) (k : Int) (t : List UInt8) (m : Int) (l : List (Tr n)) : Bool := decide (k = 39) && idC t && witF m 1 4 && emp n l
theorem col_any (n : Nat) (k : Int) (t : List UInt8) (m a : Int) (l : List (Tr n)) (s : Option Addr) (c : Nat) (w : World) (hR : Rdy w) (hl : KsG w n s c l) :
    Calls Tryz.prog 55 #[.agg #[.int .i64 k, .string (bsA t), .int .i64 m, .int .i64 a, .slice s l.length c]] w fun e w' => e = .returned (.bool (colF n k t m l)) ∧ Below w.heap.size w w' := by
  rcases Classical.em (k = 39) with rfl | h0
  · have HN : Hid (Nd w n 39 t m a l s c (w.alloc (Obj.cells #[Value.int IntKind.i64 39, Value.string (bsA t), Value.int IntKind.i64 m, Value.int IntKind.i64 a, Value.slice s l.length c] 24))) := Nd.new w n _ t _ a l s c hR hl
    obtain ⟨d0, d1, d2, d3, d4, -, -, -, -, -⟩ := HN.out.box
    clear hl hR
    go_enter Tryz.func55, Tryz.ntmps55
    go_wp2_with (first | (go_at_call 89; (refine (isId_any _ _ HN.out.rdy).mono ?_; rintro e w1 ⟨rfl, hb1⟩; clear d0 d1 d2 d3 d4; replace HN : Hid _ := HN.out.step hb1; obtain ⟨d0, d1, d2, d3, d4, -, -, -, -, -⟩ := HN.out.box)) | (go_at_call 54; refine (wit_any _ _ _ _).mono ?_; rintro e w1 ⟨rfl, rfl⟩) | (go_at_call 40; (refine (are_e n l s c _ HN.out.kids).mono ?_; rintro e w1 ⟨rfl, hb1⟩; clear d0 d1 d2 d3 d4; replace HN : Hid _ := HN.out.step hb1; obtain ⟨d0, d1, d2, d3, d4, -, -, -, -, -⟩ := HN.out.box)))
    all_goals (go_ret; exact ⟨by simp_all [bsA_tl, beqI, beqL, colF], HN.out.bel⟩)
  · have HN : Hid (Nd w n k t m a l s c (w.alloc (Obj.cells #[Value.int IntKind.i64 k, Value.string (bsA t), Value.int IntKind.i64 m, Value.int IntKind.i64 a, Value.slice s l.length c] 24))) := Nd.new w n _ t _ a l s c hR hl
    obtain ⟨d0, d1, d2, d3, d4, -, -, -, -, -⟩ := HN.out.box
    clear hl hR
    go_enter Tryz.func55, Tryz.ntmps55
    go_wp2_with (first | (go_at_call 89; (refine (isId_any _ _ HN.out.rdy).mono ?_; rintro e w1 ⟨rfl, hb1⟩; clear d0 d1 d2 d3 d4; replace HN : Hid _ := HN.out.step hb1; obtain ⟨d0, d1, d2, d3, d4, -, -, -, -, -⟩ := HN.out.box)) | (go_at_call 54; refine (wit_any _ _ _ _).mono ?_; rintro e w1 ⟨rfl, rfl⟩) | (go_at_call 40; (refine (are_e n l s c _ HN.out.kids).mono ?_; rintro e w1 ⟨rfl, hb1⟩; clear d0 d1 d2 d3 d4; replace HN : Hid _ := HN.out.step hb1; obtain ⟨d0, d1, d2, d3, d4, -, -, -, -, -⟩ := HN.out.box)))
    all_goals (go_ret; exact ⟨by simp_all [bsA_tl, beqI, beqL, colF], HN.out.bel⟩)
theorem ent55 : Ent 55 := ent_of Tryz.func55 (by kernel_rfl) (by kernel_rfl)
def colP (n : Nat) (y : Tr n) : Bool := colF n.pred (kd n y) (tx n y) (nu n y) (ks n y)
theorem col_may (n : Nat) (w : World) (hR : Rdy w) : May 55 [] n (colP n) w := ⟨ent55, fun W hW y s c hy => by
  cases n with
  | zero => exact Empty.elim y
  | succ n => exact col_any n (kd (n + 1) y) (tx (n + 1) y) (nu (n + 1) y) (pl (n + 1) y) (ks (n + 1) y) s c W (hR.below hW) (NdG.kids hy)⟩
def starF (n : Nat) (k : Int) (t : List UInt8) (m : Int) (l : List (Tr n)) : Bool := decide (k = 22) && plainF t m && emp n l
theorem star_any (n : Nat) (k : Int) (t : List UInt8) (m a : Int) (l : List (Tr n)) (s : Option Addr) (c : Nat) (w : World) (hR : Rdy w) (hl : KsG w n s c l) :
    Calls Tryz.prog 106 #[.agg #[.int .i64 k, .string (bsA t), .int .i64 m, .int .i64 a, .slice s l.length c]] w fun e w' => e = .returned (.bool (starF n k t m l)) ∧ Below w.heap.size w w' := by
  rcases Classical.em (k = 22) with rfl | h0
  · have HN : Hid (Nd w n 22 t m a l s c (w.alloc (Obj.cells #[Value.int IntKind.i64 22, Value.string (bsA t), Value.int IntKind.i64 m, Value.int IntKind.i64 a, Value.slice s l.length c] 24))) := Nd.new w n _ t _ a l s c hR hl
    obtain ⟨d0, d1, d2, d3, d4, -, -, -, -, -⟩ := HN.out.box
    clear hl hR
    go_enter Tryz.func106, Tryz.ntmps106
    go_wp2_with (first | (go_at_call 39; (refine (isPlain_any n _ _ _ _ l _ _ _ HN.out.rdy HN.out.kids).mono ?_; rintro e w1 ⟨rfl, hb1⟩; clear d0 d1 d2 d3 d4; replace HN : Hid _ := HN.out.step hb1; obtain ⟨d0, d1, d2, d3, d4, -, -, -, -, -⟩ := HN.out.box)) | (go_at_call 40; (refine (are_e n l s c _ HN.out.kids).mono ?_; rintro e w1 ⟨rfl, hb1⟩; clear d0 d1 d2 d3 d4; replace HN : Hid _ := HN.out.step hb1; obtain ⟨d0, d1, d2, d3, d4, -, -, -, -, -⟩ := HN.out.box)))
    all_goals (go_ret; exact ⟨by simp_all [bsA_tl, beqI, beqL, starF], HN.out.bel⟩)
  · have HN : Hid (Nd w n k t m a l s c (w.alloc (Obj.cells #[Value.int IntKind.i64 k, Value.string (bsA t), Value.int IntKind.i64 m, Value.int IntKind.i64 a, Value.slice s l.length c] 24))) := Nd.new w n _ t _ a l s c hR hl
    obtain ⟨d0, d1, d2, d3, d4, -, -, -, -, -⟩ := HN.out.box
    clear hl hR
    go_enter Tryz.func106, Tryz.ntmps106
    go_wp2_with (first | (go_at_call 39; (refine (isPlain_any n _ _ _ _ l _ _ _ HN.out.rdy HN.out.kids).mono ?_; rintro e w1 ⟨rfl, hb1⟩; clear d0 d1 d2 d3 d4; replace HN : Hid _ := HN.out.step hb1; obtain ⟨d0, d1, d2, d3, d4, -, -, -, -, -⟩ := HN.out.box)) | (go_at_call 40; (refine (are_e n l s c _ HN.out.kids).mono ?_; rintro e w1 ⟨rfl, hb1⟩; clear d0 d1 d2 d3 d4; replace HN : Hid _ := HN.out.step hb1; obtain ⟨d0, d1, d2, d3, d4, -, -, -, -, -⟩ := HN.out.box)))
    all_goals (go_ret; exact ⟨by simp_all [bsA_tl, beqI, beqL, starF], HN.out.bel⟩)
theorem ent106 : Ent 106 := ent_of Tryz.func106 (by kernel_rfl) (by kernel_rfl)
def starP (n : Nat) (y : Tr n) : Bool := starF n.pred (kd n y) (tx n y) (nu n y) (ks n y)
theorem star_may (n : Nat) (w : World) (hR : Rdy w) : May 106 [] n (starP n) w := ⟨ent106, fun W hW y s c hy => by
  cases n with
  | zero => exact Empty.elim y
  | succ n => exact star_any n (kd (n + 1) y) (tx (n + 1) y) (nu (n + 1) y) (pl (n + 1) y) (ks (n + 1) y) s c W (hR.below hW) (NdG.kids hy)⟩
def idEF (t : List UInt8) : Bool := decide (t = []) || idC t
theorem isIdE_any (t : List UInt8) (w : World) (hR : Rdy w) : Calls Tryz.prog 99 #[.string (bsA t)] w fun e w' => e = .returned (.bool (idEF t)) ∧ Below w.heap.size w w' := by
  have h1 := isId_any t w hR
  unfold idEF
  go_enter Tryz.func99, Tryz.ntmps99
  rcases Classical.em (t = []) with rfl | ht
  · have h0 : (bsA []).toList = [] := bsA_tl []
    clear h1
    go_wp2
    go_ret
    exact ⟨rfl, Below.refl _ _⟩
  · have ht2 : ¬ (bsA t).toList = [] := by rw [bsA_tl]; exact ht
    generalize idC t = b at *
    go_wp2_with fail
    refine h1.mono ?_
    rintro e w1 ⟨rfl, hb1⟩
    clear h1
    go_wp2
    go_ret
    exact ⟨by simp_all [bsA_tl, beqI, beqL], hb1⟩
def itmF (n : Nat) (k : Int) (t : List UInt8) (m : Int) (l : List (Tr n)) : Bool := decide (k = 21) && idEF t && decide (m = 0) && areQ n l [exprP n]
theorem itm_any (n : Nat) (k : Int) (t : List UInt8) (m a : Int) (l : List (Tr n)) (s : Option Addr) (c : Nat) (w : World) (hR : Rdy w) (hl : KsG w n s c l) :
    Calls Tryz.prog 107 #[.agg #[.int .i64 k, .string (bsA t), .int .i64 m, .int .i64 a, .slice s l.length c]] w fun e w' => e = .returned (.bool (itmF n k t m l)) ∧ Below w.heap.size w w' := by
  rcases Classical.em (k = 21) with rfl | h0
  all_goals rcases Classical.em (m = 0) with rfl | h1
  · have HN : Hid (Nd w n 21 t 0 a l s c (w.alloc (Obj.cells #[Value.int IntKind.i64 21, Value.string (bsA t), Value.int IntKind.i64 0, Value.int IntKind.i64 a, Value.slice s l.length c] 24))) := Nd.new w n _ t _ a l s c hR hl
    obtain ⟨d0, d1, d2, d3, d4, -, -, -, -, -⟩ := HN.out.box
    clear hl hR
    go_enter Tryz.func107, Tryz.ntmps107
    go_wp2_with (first | (go_at_call 99; (refine (isIdE_any _ _ HN.out.rdy).mono ?_; rintro e w1 ⟨rfl, hb1⟩; clear d0 d1 d2 d3 d4; replace HN : Hid _ := HN.out.step hb1; obtain ⟨d0, d1, d2, d3, d4, -, -, -, -, -⟩ := HN.out.box)) | (go_at_call 40; (refine (are_b n l [(23, [], exprP n)] s c _ _ _ _ _ rfl rfl (by simp) HN.out.kids (List.forall_mem_cons.2 ⟨expr_may n _ HN.out.rdy, (by simp)⟩)).mono ?_; rintro e w1 ⟨rfl, hb1⟩; clear d0 d1 d2 d3 d4; replace HN : Hid _ := HN.out.step hb1; obtain ⟨d0, d1, d2, d3, d4, -, -, -, -, -⟩ := HN.out.box)))
    all_goals (go_ret; exact ⟨by simp_all [bsA_tl, beqI, beqL, itmF], HN.out.bel⟩)
  · have HN : Hid (Nd w n 21 t m a l s c (w.alloc (Obj.cells #[Value.int IntKind.i64 21, Value.string (bsA t), Value.int IntKind.i64 m, Value.int IntKind.i64 a, Value.slice s l.length c] 24))) := Nd.new w n _ t _ a l s c hR hl
    obtain ⟨d0, d1, d2, d3, d4, -, -, -, -, -⟩ := HN.out.box
    clear hl hR
    go_enter Tryz.func107, Tryz.ntmps107
    go_wp2_with (first | (go_at_call 99; (refine (isIdE_any _ _ HN.out.rdy).mono ?_; rintro e w1 ⟨rfl, hb1⟩; clear d0 d1 d2 d3 d4; replace HN : Hid _ := HN.out.step hb1; obtain ⟨d0, d1, d2, d3, d4, -, -, -, -, -⟩ := HN.out.box)) | (go_at_call 40; (refine (are_b n l [(23, [], exprP n)] s c _ _ _ _ _ rfl rfl (by simp) HN.out.kids (List.forall_mem_cons.2 ⟨expr_may n _ HN.out.rdy, (by simp)⟩)).mono ?_; rintro e w1 ⟨rfl, hb1⟩; clear d0 d1 d2 d3 d4; replace HN : Hid _ := HN.out.step hb1; obtain ⟨d0, d1, d2, d3, d4, -, -, -, -, -⟩ := HN.out.box)))
    all_goals (go_ret; exact ⟨by simp_all [bsA_tl, beqI, beqL, itmF], HN.out.bel⟩)
  · have HN : Hid (Nd w n k t 0 a l s c (w.alloc (Obj.cells #[Value.int IntKind.i64 k, Value.string (bsA t), Value.int IntKind.i64 0, Value.int IntKind.i64 a, Value.slice s l.length c] 24))) := Nd.new w n _ t _ a l s c hR hl
    obtain ⟨d0, d1, d2, d3, d4, -, -, -, -, -⟩ := HN.out.box
    clear hl hR
    go_enter Tryz.func107, Tryz.ntmps107
    go_wp2_with (first | (go_at_call 99; (refine (isIdE_any _ _ HN.out.rdy).mono ?_; rintro e w1 ⟨rfl, hb1⟩; clear d0 d1 d2 d3 d4; replace HN : Hid _ := HN.out.step hb1; obtain ⟨d0, d1, d2, d3, d4, -, -, -, -, -⟩ := HN.out.box)) | (go_at_call 40; (refine (are_b n l [(23, [], exprP n)] s c _ _ _ _ _ rfl rfl (by simp) HN.out.kids (List.forall_mem_cons.2 ⟨expr_may n _ HN.out.rdy, (by simp)⟩)).mono ?_; rintro e w1 ⟨rfl, hb1⟩; clear d0 d1 d2 d3 d4; replace HN : Hid _ := HN.out.step hb1; obtain ⟨d0, d1, d2, d3, d4, -, -, -, -, -⟩ := HN.out.box)))
    all_goals (go_ret; exact ⟨by simp_all [bsA_tl, beqI, beqL, itmF], HN.out.bel⟩)
  · have HN : Hid (Nd w n k t m a l s c (w.alloc (Obj.cells #[Value.int IntKind.i64 k, Value.string (bsA t), Value.int IntKind.i64 m, Value.int IntKind.i64 a, Value.slice s l.length c] 24))) := Nd.new w n _ t _ a l s c hR hl
    obtain ⟨d0, d1, d2, d3, d4, -, -, -, -, -⟩ := HN.out.box
    clear hl hR
    go_enter Tryz.func107, Tryz.ntmps107
    go_wp2_with (first | (go_at_call 99; (refine (isIdE_any _ _ HN.out.rdy).mono ?_; rintro e w1 ⟨rfl, hb1⟩; clear d0 d1 d2 d3 d4; replace HN : Hid _ := HN.out.step hb1; obtain ⟨d0, d1, d2, d3, d4, -, -, -, -, -⟩ := HN.out.box)) | (go_at_call 40; (refine (are_b n l [(23, [], exprP n)] s c _ _ _ _ _ rfl rfl (by simp) HN.out.kids (List.forall_mem_cons.2 ⟨expr_may n _ HN.out.rdy, (by simp)⟩)).mono ?_; rintro e w1 ⟨rfl, hb1⟩; clear d0 d1 d2 d3 d4; replace HN : Hid _ := HN.out.step hb1; obtain ⟨d0, d1, d2, d3, d4, -, -, -, -, -⟩ := HN.out.box)))
    all_goals (go_ret; exact ⟨by simp_all [bsA_tl, beqI, beqL, itmF], HN.out.bel⟩)
theorem ent107 : Ent 107 := ent_of Tryz.func107 (by kernel_rfl) (by kernel_rfl)
def itmP (n : Nat) (y : Tr n) : Bool := itmF n.pred (kd n y) (tx n y) (nu n y) (ks n y)
theorem itm_may (n : Nat) (w : World) (hR : Rdy w) : May 107 [] n (itmP n) w := ⟨ent107, fun W hW y s c hy => by
  cases n with
  | zero => exact Empty.elim y
  | succ n => exact itm_any n (kd (n + 1) y) (tx (n + 1) y) (nu (n + 1) y) (pl (n + 1) y) (ks (n + 1) y) s c W (hR.below hW) (NdG.kids hy)⟩
theorem isE (t : List UInt8) : t.isEmpty = decide (t = []) := by cases t <;> simp
def nitmF (n : Nat) (k : Int) (t : List UInt8) (m : Int) (l : List (Tr n)) : Bool := itmF n k t m l && !decide (t = [])
theorem nitm_any (n : Nat) (k : Int) (t : List UInt8) (m a : Int) (l : List (Tr n)) (s : Option Addr) (c : Nat) (w : World) (hR : Rdy w) (hl : KsG w n s c l) :
    Calls Tryz.prog 96 #[.agg #[.int .i64 k, .string (bsA t), .int .i64 m, .int .i64 a, .slice s l.length c]] w fun e w' => e = .returned (.bool (nitmF n k t m l)) ∧ Below w.heap.size w w' := by
  have HN : Hid (Nd w n k t m a l s c (w.alloc (Obj.cells #[Value.int IntKind.i64 k, Value.string (bsA t), Value.int IntKind.i64 m, Value.int IntKind.i64 a, Value.slice s l.length c] 24))) := Nd.new w n _ t _ a l s c hR hl
  obtain ⟨d0, d1, d2, d3, d4, -, -, -, -, -⟩ := HN.out.box
  clear hl hR
  go_enter Tryz.func96, Tryz.ntmps96
  go_wp2_with (first | (go_at_call 107; (refine (itm_any n _ _ _ _ l _ _ _ HN.out.rdy HN.out.kids).mono ?_; rintro e w1 ⟨rfl, hb1⟩; clear d0 d1 d2 d3 d4; replace HN : Hid _ := HN.out.step hb1; obtain ⟨d0, d1, d2, d3, d4, -, -, -, -, -⟩ := HN.out.box)))
  all_goals (go_ret; exact ⟨by simp_all [bsA_tl, beqI, beqL, nitmF, isE], HN.out.bel⟩)
theorem ent96 : Ent 96 := ent_of Tryz.func96 (by kernel_rfl) (by kernel_rfl)
def nitmP (n : Nat) (y : Tr n) : Bool := nitmF n.pred (kd n y) (tx n y) (nu n y) (ks n y)
theorem nitm_may (n : Nat) (w : World) (hR : Rdy w) : May 96 [] n (nitmP n) w := ⟨ent96, fun W hW y s c hy => by
  cases n with
  | zero => exact Empty.elim y
  | succ n => exact nitm_any n (kd (n + 1) y) (tx (n + 1) y) (nu (n + 1) y) (pl (n + 1) y) (ks (n + 1) y) s c W (hR.below hW) (NdG.kids hy)⟩
def setF (n : Nat) (k : Int) (t : List UInt8) (m : Int) (l : List (Tr n)) : Bool := decide (k = 27) && hidF t m && areQ n l [exprP n]
theorem set_any (n : Nat) (k : Int) (t : List UInt8) (m a : Int) (l : List (Tr n)) (s : Option Addr) (c : Nat) (w : World) (hR : Rdy w) (hl : KsG w n s c l) :
    Calls Tryz.prog 105 #[.agg #[.int .i64 k, .string (bsA t), .int .i64 m, .int .i64 a, .slice s l.length c]] w fun e w' => e = .returned (.bool (setF n k t m l)) ∧ Below w.heap.size w w' := by
  rcases Classical.em (k = 27) with rfl | h0
  · have HN : Hid (Nd w n 27 t m a l s c (w.alloc (Obj.cells #[Value.int IntKind.i64 27, Value.string (bsA t), Value.int IntKind.i64 m, Value.int IntKind.i64 a, Value.slice s l.length c] 24))) := Nd.new w n _ t _ a l s c hR hl
    obtain ⟨d0, d1, d2, d3, d4, -, -, -, -, -⟩ := HN.out.box
    clear hl hR
    go_enter Tryz.func105, Tryz.ntmps105
    go_wp2_with (first | (go_at_call 48; (refine (hasId_any n _ _ _ _ l _ _ _ HN.out.rdy HN.out.kids).mono ?_; rintro e w1 ⟨rfl, hb1⟩; clear d0 d1 d2 d3 d4; replace HN : Hid _ := HN.out.step hb1; obtain ⟨d0, d1, d2, d3, d4, -, -, -, -, -⟩ := HN.out.box)) | (go_at_call 40; (refine (are_b n l [(23, [], exprP n)] s c _ _ _ _ _ rfl rfl (by simp) HN.out.kids (List.forall_mem_cons.2 ⟨expr_may n _ HN.out.rdy, (by simp)⟩)).mono ?_; rintro e w1 ⟨rfl, hb1⟩; clear d0 d1 d2 d3 d4; replace HN : Hid _ := HN.out.step hb1; obtain ⟨d0, d1, d2, d3, d4, -, -, -, -, -⟩ := HN.out.box)))
    all_goals (go_ret; exact ⟨by simp_all [bsA_tl, beqI, beqL, setF], HN.out.bel⟩)
  · have HN : Hid (Nd w n k t m a l s c (w.alloc (Obj.cells #[Value.int IntKind.i64 k, Value.string (bsA t), Value.int IntKind.i64 m, Value.int IntKind.i64 a, Value.slice s l.length c] 24))) := Nd.new w n _ t _ a l s c hR hl
    obtain ⟨d0, d1, d2, d3, d4, -, -, -, -, -⟩ := HN.out.box
    clear hl hR
    go_enter Tryz.func105, Tryz.ntmps105
    go_wp2_with (first | (go_at_call 48; (refine (hasId_any n _ _ _ _ l _ _ _ HN.out.rdy HN.out.kids).mono ?_; rintro e w1 ⟨rfl, hb1⟩; clear d0 d1 d2 d3 d4; replace HN : Hid _ := HN.out.step hb1; obtain ⟨d0, d1, d2, d3, d4, -, -, -, -, -⟩ := HN.out.box)) | (go_at_call 40; (refine (are_b n l [(23, [], exprP n)] s c _ _ _ _ _ rfl rfl (by simp) HN.out.kids (List.forall_mem_cons.2 ⟨expr_may n _ HN.out.rdy, (by simp)⟩)).mono ?_; rintro e w1 ⟨rfl, hb1⟩; clear d0 d1 d2 d3 d4; replace HN : Hid _ := HN.out.step hb1; obtain ⟨d0, d1, d2, d3, d4, -, -, -, -, -⟩ := HN.out.box)))
    all_goals (go_ret; exact ⟨by simp_all [bsA_tl, beqI, beqL, setF], HN.out.bel⟩)
theorem ent105 : Ent 105 := ent_of Tryz.func105 (by kernel_rfl) (by kernel_rfl)
def setP (n : Nat) (y : Tr n) : Bool := setF n.pred (kd n y) (tx n y) (nu n y) (ks n y)
theorem set_may (n : Nat) (w : World) (hR : Rdy w) : May 105 [] n (setP n) w := ⟨ent105, fun W hW y s c hy => by
  cases n with
  | zero => exact Empty.elim y
  | succ n => exact set_any n (kd (n + 1) y) (tx (n + 1) y) (nu (n + 1) y) (pl (n + 1) y) (ks (n + 1) y) s c W (hR.below hW) (NdG.kids hy)⟩
theorem ordOf_25 (n : Nat) (t : List UInt8) (m a : Int) (l : List (Tr n)) (s : Option Addr) (c : Nat) (w : World) (hR : Rdy w) (hl : KsG w n s c l) (q : FuncId) (cs : List Value) (M : Tr n → Bool) (hM : May q cs n M w) :
    Calls Tryz.prog 122 #[.agg #[.int .i64 25, .string (bsA t), .int .i64 m, .int .i64 a, .slice s l.length c], plV q cs] w fun e w' => e = .returned (.bool (decide (t = []) && flagF m && areQ n l [M])) ∧ Below w.heap.size w w' := by
  have HN : Hid (Nd w n 25 t m a l s c (w.alloc (Obj.cells #[Value.int IntKind.i64 25, Value.string (bsA t), Value.int IntKind.i64 m, Value.int IntKind.i64 a, Value.slice s l.length c] 24))) := Nd.new w n _ t _ a l s c hR hl
  obtain ⟨d0, d1, d2, d3, d4, -, -, -, -, -⟩ := HN.out.box
  have HM : Hid (May q cs n M w) := hM
  clear hM
  unfold plV
  clear hl hR
  go_enter Tryz.func122, Tryz.ntmps122
  go_wp2_with (first | (go_at_call 41; go_loud (refine (isFlag_any _ _).mono ?_; rintro e w1 ⟨rfl, rfl⟩)) | (go_at_call 40; (refine (are_b n l [(q, cs, M)] s c _ _ _ _ _ rfl rfl (by simp) HN.out.kids (List.forall_mem_cons.2 ⟨HM.out.below HN.out.bel, by simp⟩)).mono ?_; rintro e w1 ⟨rfl, hb1⟩; clear d0 d1 d2 d3 d4; replace HN : Hid _ := HN.out.step hb1; obtain ⟨d0, d1, d2, d3, d4, -, -, -, -, -⟩ := HN.out.box)))
  all_goals (go_ret; exact ⟨by simp_all [bsA_tl, beqI, beqL], HN.out.bel⟩)
theorem ordOf_x (n : Nat) (k : Int) (t : List UInt8) (m a : Int) (l : List (Tr n)) (s : Option Addr) (c : Nat) (w : World) (hR : Rdy w) (hl : KsG w n s c l) (q : FuncId) (cs : List Value) (h0 : (k == 25) = false) :
    Calls Tryz.prog 122 #[.agg #[.int .i64 k, .string (bsA t), .int .i64 m, .int .i64 a, .slice s l.length c], plV q cs] w fun e w' => e = .returned (.bool (false)) ∧ Below w.heap.size w w' := by
  have HN : Hid (Nd w n k t m a l s c (w.alloc (Obj.cells #[Value.int IntKind.i64 k, Value.string (bsA t), Value.int IntKind.i64 m, Value.int IntKind.i64 a, Value.slice s l.length c] 24))) := Nd.new w n _ t _ a l s c hR hl
  obtain ⟨d0, d1, d2, d3, d4, -, -, -, -, -⟩ := HN.out.box
  unfold plV
  clear hl hR
  go_enter Tryz.func122, Tryz.ntmps122
  go_wp2_with (first | fail)
  all_goals (go_ret; exact ⟨by simp_all [bsA_tl, beqI, beqL], HN.out.bel⟩)
def oofF (n : Nat) (k : Int) (t : List UInt8) (m : Int) (l : List (Tr n)) (M : Tr n → Bool) : Bool := decide (k = 25) && decide (t = []) && flagF m && areQ n l [M]
theorem ordOf_any (n : Nat) (k : Int) (t : List UInt8) (m a : Int) (l : List (Tr n)) (s : Option Addr) (c : Nat) (w : World) (hR : Rdy w) (hl : KsG w n s c l) (q : FuncId) (cs : List Value) (M : Tr n → Bool) (hM : May q cs n M w) :
    Calls Tryz.prog 122 #[.agg #[.int .i64 k, .string (bsA t), .int .i64 m, .int .i64 a, .slice s l.length c], plV q cs] w fun e w' => e = .returned (.bool (oofF n k t m l M)) ∧ Below w.heap.size w w' := by
  unfold oofF
  rcases Classical.em (k = 25) with rfl | h
  · exact ordOf_25 n t m a l s c w hR hl q cs M hM
  · rw [decide_eq_false h]
    exact ordOf_x n k t m a l s c w hR hl q cs (by simpa using h)
def odrF (n : Nat) (k : Int) (t : List UInt8) (m : Int) (l : List (Tr n)) : Bool := oofF n k t m l (exprP n)
theorem odr_any (n : Nat) (k : Int) (t : List UInt8) (m a : Int) (l : List (Tr n)) (s : Option Addr) (c : Nat) (w : World) (hR : Rdy w) (hl : KsG w n s c l) :
    Calls Tryz.prog 103 #[.agg #[.int .i64 k, .string (bsA t), .int .i64 m, .int .i64 a, .slice s l.length c]] w fun e w' => e = .returned (.bool (odrF n k t m l)) ∧ Below w.heap.size w w' := by
  have HN : Hid (Nd w n k t m a l s c (w.alloc (Obj.cells #[Value.int IntKind.i64 k, Value.string (bsA t), Value.int IntKind.i64 m, Value.int IntKind.i64 a, Value.slice s l.length c] 24))) := Nd.new w n _ t _ a l s c hR hl
  obtain ⟨d0, d1, d2, d3, d4, -, -, -, -, -⟩ := HN.out.box
  clear hl hR
  go_enter Tryz.func103, Tryz.ntmps103
  go_wp2_with (first | (go_at_call 122; (refine (ordOf_any n _ _ _ _ l _ _ _ HN.out.rdy HN.out.kids 23 [] (exprP n) (expr_may n _ HN.out.rdy)).mono ?_; rintro e w1 ⟨rfl, hb1⟩; clear d0 d1 d2 d3 d4; replace HN : Hid _ := HN.out.step hb1; obtain ⟨d0, d1, d2, d3, d4, -, -, -, -, -⟩ := HN.out.box)))
  all_goals (go_ret; exact ⟨by simp_all [bsA_tl, beqI, beqL, odrF], HN.out.bel⟩)
theorem ent103 : Ent 103 := ent_of Tryz.func103 (by kernel_rfl) (by kernel_rfl)
def odrP (n : Nat) (y : Tr n) : Bool := odrF n.pred (kd n y) (tx n y) (nu n y) (ks n y)
theorem odr_may (n : Nat) (w : World) (hR : Rdy w) : May 103 [] n (odrP n) w := ⟨ent103, fun W hW y s c hy => by
  cases n with
  | zero => exact Empty.elim y
  | succ n => exact odr_any n (kd (n + 1) y) (tx (n + 1) y) (nu (n + 1) y) (pl (n + 1) y) (ks (n + 1) y) s c W (hR.below hW) (NdG.kids hy)⟩
def oownF (n : Nat) (k : Int) (t : List UInt8) (m : Int) (l : List (Tr n)) : Bool := oofF n k t m l (ownP n)
theorem oown_any (n : Nat) (k : Int) (t : List UInt8) (m a : Int) (l : List (Tr n)) (s : Option Addr) (c : Nat) (w : World) (hR : Rdy w) (hl : KsG w n s c l) :
    Calls Tryz.prog 95 #[.agg #[.int .i64 k, .string (bsA t), .int .i64 m, .int .i64 a, .slice s l.length c]] w fun e w' => e = .returned (.bool (oownF n k t m l)) ∧ Below w.heap.size w w' := by
  have HN : Hid (Nd w n k t m a l s c (w.alloc (Obj.cells #[Value.int IntKind.i64 k, Value.string (bsA t), Value.int IntKind.i64 m, Value.int IntKind.i64 a, Value.slice s l.length c] 24))) := Nd.new w n _ t _ a l s c hR hl
  obtain ⟨d0, d1, d2, d3, d4, -, -, -, -, -⟩ := HN.out.box
  clear hl hR
  go_enter Tryz.func95, Tryz.ntmps95
  go_wp2_with (first | (go_at_call 122; (refine (ordOf_any n _ _ _ _ l _ _ _ HN.out.rdy HN.out.kids 43 [] (ownP n) (own_may n _ HN.out.rdy)).mono ?_; rintro e w1 ⟨rfl, hb1⟩; clear d0 d1 d2 d3 d4; replace HN : Hid _ := HN.out.step hb1; obtain ⟨d0, d1, d2, d3, d4, -, -, -, -, -⟩ := HN.out.box)))
  all_goals (go_ret; exact ⟨by simp_all [bsA_tl, beqI, beqL, oownF], HN.out.bel⟩)
theorem ent95 : Ent 95 := ent_of Tryz.func95 (by kernel_rfl) (by kernel_rfl)
def oownP (n : Nat) (y : Tr n) : Bool := oownF n.pred (kd n y) (tx n y) (nu n y) (ks n y)
theorem oown_may (n : Nat) (w : World) (hR : Rdy w) : May 95 [] n (oownP n) w := ⟨ent95, fun W hW y s c hy => by
  cases n with
  | zero => exact Empty.elim y
  | succ n => exact oown_any n (kd (n + 1) y) (tx (n + 1) y) (nu (n + 1) y) (pl (n + 1) y) (ks (n + 1) y) s c W (hR.below hW) (NdG.kids hy)⟩
def vw0 : List (List UInt8) := [[107, 101, 101, 112, 97, 108, 108], [108, 97, 115, 116, 101, 118, 101, 110, 116], [102, 105, 114, 115, 116, 101, 118, 101, 110, 116]]
def vw1 : List (List UInt8) := [[108, 101, 110, 103, 116, 104], [108, 101, 110, 103, 116, 104, 95, 98, 97, 116, 99, 104]]
def vw2 : List (List UInt8) := [[116, 105, 109, 101], [116, 105, 109, 101, 95, 98, 97, 116, 99, 104]]
def vwF (n : Nat) (t : List UInt8) (l : List (Tr n)) : Bool :=
  if vw0.contains t then emp n l
  else if vw1.contains t then areQ n l [sizP n]
  else if vw2.contains t then areQ n l [prdP n]
  else if t = [117, 110, 105, 113, 117, 101] then manyP n l 1 32 (ownP n)
  else if t = [115, 111, 114, 116, 101, 100] then areQ n l [sizP n, oownP n]
  else false
theorem view_00 (n : Nat) (t : List UInt8) (a : Int) (l : List (Tr n)) (s : Option Addr) (c : Nat) (w : World) (hR : Rdy w) (hl : KsG w n s c l) (ht : (bsA t).toList = [107, 101, 101, 112, 97, 108, 108]) :
    Calls Tryz.prog 57 #[.agg #[.int .i64 23, .string (bsA t), .int .i64 0, .int .i64 a, .slice s l.length c]] w fun e w' => e = .returned (.bool (emp n l)) ∧ Below w.heap.size w w' := by
  have HN : Hid (Nd w n 23 t 0 a l s c (w.alloc (Obj.cells #[Value.int IntKind.i64 23, Value.string (bsA t), Value.int IntKind.i64 0, Value.int IntKind.i64 a, Value.slice s l.length c] 24))) := Nd.new w n _ t _ a l s c hR hl
  obtain ⟨d0, d1, d2, d3, d4, -, -, -, -, -⟩ := HN.out.box
  clear hl hR
  go_enter Tryz.func57, Tryz.ntmps57
  go_wp2_with (first | (go_at_call 40; (refine (are_e n l s c _ HN.out.kids).mono ?_; rintro e w1 ⟨rfl, hb1⟩; clear d0 d1 d2 d3 d4; replace HN : Hid _ := HN.out.step hb1; obtain ⟨d0, d1, d2, d3, d4, -, -, -, -, -⟩ := HN.out.box)))
  go_ret
  exact ⟨rfl, HN.out.bel⟩
theorem view_01 (n : Nat) (t : List UInt8) (a : Int) (l : List (Tr n)) (s : Option Addr) (c : Nat) (w : World) (hR : Rdy w) (hl : KsG w n s c l) (ht : (bsA t).toList = [108, 97, 115, 116, 101, 118, 101, 110, 116]) :
    Calls Tryz.prog 57 #[.agg #[.int .i64 23, .string (bsA t), .int .i64 0, .int .i64 a, .slice s l.length c]] w fun e w' => e = .returned (.bool (emp n l)) ∧ Below w.heap.size w w' := by
  have HN : Hid (Nd w n 23 t 0 a l s c (w.alloc (Obj.cells #[Value.int IntKind.i64 23, Value.string (bsA t), Value.int IntKind.i64 0, Value.int IntKind.i64 a, Value.slice s l.length c] 24))) := Nd.new w n _ t _ a l s c hR hl
  obtain ⟨d0, d1, d2, d3, d4, -, -, -, -, -⟩ := HN.out.box
  clear hl hR
  go_enter Tryz.func57, Tryz.ntmps57
  go_wp2_with (first | (go_at_call 40; (refine (are_e n l s c _ HN.out.kids).mono ?_; rintro e w1 ⟨rfl, hb1⟩; clear d0 d1 d2 d3 d4; replace HN : Hid _ := HN.out.step hb1; obtain ⟨d0, d1, d2, d3, d4, -, -, -, -, -⟩ := HN.out.box)))
  go_ret
  exact ⟨rfl, HN.out.bel⟩
theorem view_02 (n : Nat) (t : List UInt8) (a : Int) (l : List (Tr n)) (s : Option Addr) (c : Nat) (w : World) (hR : Rdy w) (hl : KsG w n s c l) (ht : (bsA t).toList = [102, 105, 114, 115, 116, 101, 118, 101, 110, 116]) :
    Calls Tryz.prog 57 #[.agg #[.int .i64 23, .string (bsA t), .int .i64 0, .int .i64 a, .slice s l.length c]] w fun e w' => e = .returned (.bool (emp n l)) ∧ Below w.heap.size w w' := by
  have HN : Hid (Nd w n 23 t 0 a l s c (w.alloc (Obj.cells #[Value.int IntKind.i64 23, Value.string (bsA t), Value.int IntKind.i64 0, Value.int IntKind.i64 a, Value.slice s l.length c] 24))) := Nd.new w n _ t _ a l s c hR hl
  obtain ⟨d0, d1, d2, d3, d4, -, -, -, -, -⟩ := HN.out.box
  clear hl hR
  go_enter Tryz.func57, Tryz.ntmps57
  go_wp2_with (first | (go_at_call 40; (refine (are_e n l s c _ HN.out.kids).mono ?_; rintro e w1 ⟨rfl, hb1⟩; clear d0 d1 d2 d3 d4; replace HN : Hid _ := HN.out.step hb1; obtain ⟨d0, d1, d2, d3, d4, -, -, -, -, -⟩ := HN.out.box)))
  go_ret
  exact ⟨rfl, HN.out.bel⟩
theorem view_10 (n : Nat) (t : List UInt8) (a : Int) (l : List (Tr n)) (s : Option Addr) (c : Nat) (w : World) (hR : Rdy w) (hl : KsG w n s c l) (ht : (bsA t).toList = [108, 101, 110, 103, 116, 104]) :
    Calls Tryz.prog 57 #[.agg #[.int .i64 23, .string (bsA t), .int .i64 0, .int .i64 a, .slice s l.length c]] w fun e w' => e = .returned (.bool (areQ n l [sizP n])) ∧ Below w.heap.size w w' := by
  have HN : Hid (Nd w n 23 t 0 a l s c (w.alloc (Obj.cells #[Value.int IntKind.i64 23, Value.string (bsA t), Value.int IntKind.i64 0, Value.int IntKind.i64 a, Value.slice s l.length c] 24))) := Nd.new w n _ t _ a l s c hR hl
  obtain ⟨d0, d1, d2, d3, d4, -, -, -, -, -⟩ := HN.out.box
  clear hl hR
  go_enter Tryz.func57, Tryz.ntmps57
  go_wp2_with (first | (go_at_call 40; (refine (are_b n l [(93, [], sizP n)] s c _ _ _ _ _ rfl rfl (by simp) HN.out.kids (List.forall_mem_cons.2 ⟨siz_may n _ HN.out.rdy, (by simp)⟩)).mono ?_; rintro e w1 ⟨rfl, hb1⟩; clear d0 d1 d2 d3 d4; replace HN : Hid _ := HN.out.step hb1; obtain ⟨d0, d1, d2, d3, d4, -, -, -, -, -⟩ := HN.out.box)))
  go_ret
  exact ⟨rfl, HN.out.bel⟩
theorem view_11 (n : Nat) (t : List UInt8) (a : Int) (l : List (Tr n)) (s : Option Addr) (c : Nat) (w : World) (hR : Rdy w) (hl : KsG w n s c l) (ht : (bsA t).toList = [108, 101, 110, 103, 116, 104, 95, 98, 97, 116, 99, 104]) :
    Calls Tryz.prog 57 #[.agg #[.int .i64 23, .string (bsA t), .int .i64 0, .int .i64 a, .slice s l.length c]] w fun e w' => e = .returned (.bool (areQ n l [sizP n])) ∧ Below w.heap.size w w' := by
  have HN : Hid (Nd w n 23 t 0 a l s c (w.alloc (Obj.cells #[Value.int IntKind.i64 23, Value.string (bsA t), Value.int IntKind.i64 0, Value.int IntKind.i64 a, Value.slice s l.length c] 24))) := Nd.new w n _ t _ a l s c hR hl
  obtain ⟨d0, d1, d2, d3, d4, -, -, -, -, -⟩ := HN.out.box
  clear hl hR
  go_enter Tryz.func57, Tryz.ntmps57
  go_wp2_with (first | (go_at_call 40; (refine (are_b n l [(93, [], sizP n)] s c _ _ _ _ _ rfl rfl (by simp) HN.out.kids (List.forall_mem_cons.2 ⟨siz_may n _ HN.out.rdy, (by simp)⟩)).mono ?_; rintro e w1 ⟨rfl, hb1⟩; clear d0 d1 d2 d3 d4; replace HN : Hid _ := HN.out.step hb1; obtain ⟨d0, d1, d2, d3, d4, -, -, -, -, -⟩ := HN.out.box)))
  go_ret
  exact ⟨rfl, HN.out.bel⟩
theorem view_20 (n : Nat) (t : List UInt8) (a : Int) (l : List (Tr n)) (s : Option Addr) (c : Nat) (w : World) (hR : Rdy w) (hl : KsG w n s c l) (ht : (bsA t).toList = [116, 105, 109, 101]) :
    Calls Tryz.prog 57 #[.agg #[.int .i64 23, .string (bsA t), .int .i64 0, .int .i64 a, .slice s l.length c]] w fun e w' => e = .returned (.bool (areQ n l [prdP n])) ∧ Below w.heap.size w w' := by
  have HN : Hid (Nd w n 23 t 0 a l s c (w.alloc (Obj.cells #[Value.int IntKind.i64 23, Value.string (bsA t), Value.int IntKind.i64 0, Value.int IntKind.i64 a, Value.slice s l.length c] 24))) := Nd.new w n _ t _ a l s c hR hl
  obtain ⟨d0, d1, d2, d3, d4, -, -, -, -, -⟩ := HN.out.box
  clear hl hR
  go_enter Tryz.func57, Tryz.ntmps57
  go_wp2_with (first | (go_at_call 40; (refine (are_b n l [(94, [], prdP n)] s c _ _ _ _ _ rfl rfl (by simp) HN.out.kids (List.forall_mem_cons.2 ⟨prd_may n _ HN.out.rdy, (by simp)⟩)).mono ?_; rintro e w1 ⟨rfl, hb1⟩; clear d0 d1 d2 d3 d4; replace HN : Hid _ := HN.out.step hb1; obtain ⟨d0, d1, d2, d3, d4, -, -, -, -, -⟩ := HN.out.box)))
  go_ret
  exact ⟨rfl, HN.out.bel⟩
theorem view_21 (n : Nat) (t : List UInt8) (a : Int) (l : List (Tr n)) (s : Option Addr) (c : Nat) (w : World) (hR : Rdy w) (hl : KsG w n s c l) (ht : (bsA t).toList = [116, 105, 109, 101, 95, 98, 97, 116, 99, 104]) :
    Calls Tryz.prog 57 #[.agg #[.int .i64 23, .string (bsA t), .int .i64 0, .int .i64 a, .slice s l.length c]] w fun e w' => e = .returned (.bool (areQ n l [prdP n])) ∧ Below w.heap.size w w' := by
  have HN : Hid (Nd w n 23 t 0 a l s c (w.alloc (Obj.cells #[Value.int IntKind.i64 23, Value.string (bsA t), Value.int IntKind.i64 0, Value.int IntKind.i64 a, Value.slice s l.length c] 24))) := Nd.new w n _ t _ a l s c hR hl
  obtain ⟨d0, d1, d2, d3, d4, -, -, -, -, -⟩ := HN.out.box
  clear hl hR
  go_enter Tryz.func57, Tryz.ntmps57
  go_wp2_with (first | (go_at_call 40; (refine (are_b n l [(94, [], prdP n)] s c _ _ _ _ _ rfl rfl (by simp) HN.out.kids (List.forall_mem_cons.2 ⟨prd_may n _ HN.out.rdy, (by simp)⟩)).mono ?_; rintro e w1 ⟨rfl, hb1⟩; clear d0 d1 d2 d3 d4; replace HN : Hid _ := HN.out.step hb1; obtain ⟨d0, d1, d2, d3, d4, -, -, -, -, -⟩ := HN.out.box)))
  go_ret
  exact ⟨rfl, HN.out.bel⟩
theorem view_30 (n : Nat) (t : List UInt8) (a : Int) (l : List (Tr n)) (s : Option Addr) (c : Nat) (w : World) (hR : Rdy w) (hl : KsG w n s c l) (ht : (bsA t).toList = [117, 110, 105, 113, 117, 101]) :
    Calls Tryz.prog 57 #[.agg #[.int .i64 23, .string (bsA t), .int .i64 0, .int .i64 a, .slice s l.length c]] w fun e w' => e = .returned (.bool (manyP n l 1 32 (ownP n))) ∧ Below w.heap.size w w' := by
  have HN : Hid (Nd w n 23 t 0 a l s c (w.alloc (Obj.cells #[Value.int IntKind.i64 23, Value.string (bsA t), Value.int IntKind.i64 0, Value.int IntKind.i64 a, Value.slice s l.length c] 24))) := Nd.new w n _ t _ a l s c hR hl
  obtain ⟨d0, d1, d2, d3, d4, -, -, -, -, -⟩ := HN.out.box
  clear hl hR
  go_enter Tryz.func57, Tryz.ntmps57
  go_wp2_with (first | (go_at_call 47; (refine (many_any n l s c _ _ 43 [] (ownP n) _ HN.out.kids (own_may n _ HN.out.rdy)).mono ?_; rintro e w1 ⟨rfl, hb1⟩; clear d0 d1 d2 d3 d4; replace HN : Hid _ := HN.out.step hb1; obtain ⟨d0, d1, d2, d3, d4, -, -, -, -, -⟩ := HN.out.box)))
  go_ret
  exact ⟨rfl, HN.out.bel⟩
theorem view_40 (n : Nat) (t : List UInt8) (a : Int) (l : List (Tr n)) (s : Option Addr) (c : Nat) (w : World) (hR : Rdy w) (hl : KsG w n s c l) (ht : (bsA t).toList = [115, 111, 114, 116, 101, 100]) :
    Calls Tryz.prog 57 #[.agg #[.int .i64 23, .string (bsA t), .int .i64 0, .int .i64 a, .slice s l.length c]] w fun e w' => e = .returned (.bool (areQ n l [sizP n, oownP n])) ∧ Below w.heap.size w w' := by
  have HN : Hid (Nd w n 23 t 0 a l s c (w.alloc (Obj.cells #[Value.int IntKind.i64 23, Value.string (bsA t), Value.int IntKind.i64 0, Value.int IntKind.i64 a, Value.slice s l.length c] 24))) := Nd.new w n _ t _ a l s c hR hl
  obtain ⟨d0, d1, d2, d3, d4, -, -, -, -, -⟩ := HN.out.box
  clear hl hR
  go_enter Tryz.func57, Tryz.ntmps57
  go_wp2_with (first | (go_at_call 40; (refine (are_b n l [(93, [], sizP n), (95, [], oownP n)] s c _ _ _ _ _ rfl rfl (by simp) HN.out.kids (List.forall_mem_cons.2 ⟨siz_may n _ HN.out.rdy, (List.forall_mem_cons.2 ⟨oown_may n _ HN.out.rdy, (by simp)⟩)⟩)).mono ?_; rintro e w1 ⟨rfl, hb1⟩; clear d0 d1 d2 d3 d4; replace HN : Hid _ := HN.out.step hb1; obtain ⟨d0, d1, d2, d3, d4, -, -, -, -, -⟩ := HN.out.box)))
  go_ret
  exact ⟨rfl, HN.out.bel⟩
theorem view_x (n : Nat) (t : List UInt8) (a : Int) (l : List (Tr n)) (s : Option Addr) (c : Nat) (w : World) (hR : Rdy w) (hl : KsG w n s c l) (ht0 : ((bsA t).toList == [107, 101, 101, 112, 97, 108, 108]) = false) (ht1 : ((bsA t).toList == [108, 97, 115, 116, 101, 118, 101, 110, 116]) = false) (ht2 : ((bsA t).toList == [102, 105, 114, 115, 116, 101, 118, 101, 110, 116]) = false) (ht3 : ((bsA t).toList == [108, 101, 110, 103, 116, 104]) = false) (ht4 : ((bsA t).toList == [108, 101, 110, 103, 116, 104, 95, 98, 97, 116, 99, 104]) = false) (ht5 : ((bsA t).toList == [116, 105, 109, 101]) = false) (ht6 : ((bsA t).toList == [116, 105, 109, 101, 95, 98, 97, 116, 99, 104]) = false) (ht7 : ((bsA t).toList == [117, 110, 105, 113, 117, 101]) = false) (ht8 : ((bsA t).toList == [115, 111, 114, 116, 101, 100]) = false) :
    Calls Tryz.prog 57 #[.agg #[.int .i64 23, .string (bsA t), .int .i64 0, .int .i64 a, .slice s l.length c]] w fun e w' => e = .returned (.bool (false)) ∧ Below w.heap.size w w' := by
  have HN : Hid (Nd w n 23 t 0 a l s c (w.alloc (Obj.cells #[Value.int IntKind.i64 23, Value.string (bsA t), Value.int IntKind.i64 0, Value.int IntKind.i64 a, Value.slice s l.length c] 24))) := Nd.new w n _ t _ a l s c hR hl
  obtain ⟨d0, d1, d2, d3, d4, -, -, -, -, -⟩ := HN.out.box
  clear hl hR
  go_enter Tryz.func57, Tryz.ntmps57
  go_wp2_with (first | fail)
  go_ret
  exact ⟨rfl, HN.out.bel⟩
theorem view_m (n : Nat) (t : List UInt8) (m a : Int) (l : List (Tr n)) (s : Option Addr) (c : Nat) (w : World) (hR : Rdy w) (hl : KsG w n s c l) (hm : (m == 0) = false) :
    Calls Tryz.prog 57 #[.agg #[.int .i64 23, .string (bsA t), .int .i64 m, .int .i64 a, .slice s l.length c]] w fun e w' => e = .returned (.bool (false)) ∧ Below w.heap.size w w' := by
  have HN : Hid (Nd w n 23 t m a l s c (w.alloc (Obj.cells #[Value.int IntKind.i64 23, Value.string (bsA t), Value.int IntKind.i64 m, Value.int IntKind.i64 a, Value.slice s l.length c] 24))) := Nd.new w n _ t _ a l s c hR hl
  obtain ⟨d0, d1, d2, d3, d4, -, -, -, -, -⟩ := HN.out.box
  clear hl hR
  go_enter Tryz.func57, Tryz.ntmps57
  go_wp2_with (first | fail)
  go_ret
  exact ⟨rfl, HN.out.bel⟩
theorem view_k (n : Nat) (k : Int) (t : List UInt8) (m a : Int) (l : List (Tr n)) (s : Option Addr) (c : Nat) (w : World) (hR : Rdy w) (hl : KsG w n s c l) (hk : (k == 23) = false) :
    Calls Tryz.prog 57 #[.agg #[.int .i64 k, .string (bsA t), .int .i64 m, .int .i64 a, .slice s l.length c]] w fun e w' => e = .returned (.bool (false)) ∧ Below w.heap.size w w' := by
  have HN : Hid (Nd w n k t m a l s c (w.alloc (Obj.cells #[Value.int IntKind.i64 k, Value.string (bsA t), Value.int IntKind.i64 m, Value.int IntKind.i64 a, Value.slice s l.length c] 24))) := Nd.new w n _ t _ a l s c hR hl
  obtain ⟨d0, d1, d2, d3, d4, -, -, -, -, -⟩ := HN.out.box
  clear hl hR
  go_enter Tryz.func57, Tryz.ntmps57
  go_wp2_with (first | fail)
  all_goals (go_ret; exact ⟨rfl, HN.out.bel⟩)
def viewF (n : Nat) (k : Int) (t : List UInt8) (m : Int) (l : List (Tr n)) : Bool := decide (k = 23) && decide (m = 0) && vwF n t l
theorem view_any (n : Nat) (k : Int) (t : List UInt8) (m a : Int) (l : List (Tr n)) (s : Option Addr) (c : Nat) (w : World) (hR : Rdy w) (hl : KsG w n s c l) :
    Calls Tryz.prog 57 #[.agg #[.int .i64 k, .string (bsA t), .int .i64 m, .int .i64 a, .slice s l.length c]] w fun e w' => e = .returned (.bool (viewF n k t m l)) ∧ Below w.heap.size w w' := by
  unfold viewF
  rcases Classical.em (k = 23) with rfl | hk
  · rcases Classical.em (m = 0) with rfl | hm
    · show Calls _ _ _ _ fun e w' => e = .returned (.bool (vwF n t l)) ∧ _
      rcases Classical.em (t = [107, 101, 101, 112, 97, 108, 108]) with rfl | h0
      · exact view_00 n _ a l s c w hR hl (bsA_tl _)
      rcases Classical.em (t = [108, 97, 115, 116, 101, 118, 101, 110, 116]) with rfl | h1
      · exact view_01 n _ a l s c w hR hl (bsA_tl _)
      rcases Classical.em (t = [102, 105, 114, 115, 116, 101, 118, 101, 110, 116]) with rfl | h2
      · exact view_02 n _ a l s c w hR hl (bsA_tl _)
      rcases Classical.em (t = [108, 101, 110, 103, 116, 104]) with rfl | h3
      · exact view_10 n _ a l s c w hR hl (bsA_tl _)
      rcases Classical.em (t = [108, 101, 110, 103, 116, 104, 95, 98, 97, 116, 99, 104]) with rfl | h4
      · exact view_11 n _ a l s c w hR hl (bsA_tl _)
      rcases Classical.em (t = [116, 105, 109, 101]) with rfl | h5
      · exact view_20 n _ a l s c w hR hl (bsA_tl _)
      rcases Classical.em (t = [116, 105, 109, 101, 95, 98, 97, 116, 99, 104]) with rfl | h6
      · exact view_21 n _ a l s c w hR hl (bsA_tl _)
      rcases Classical.em (t = [117, 110, 105, 113, 117, 101]) with rfl | h7
      · exact view_30 n _ a l s c w hR hl (bsA_tl _)
      rcases Classical.em (t = [115, 111, 114, 116, 101, 100]) with rfl | h8
      · exact view_40 n _ a l s c w hR hl (bsA_tl _)
      have e : vwF n t l = false := by
        unfold vwF vw0 vw1 vw2
        simp [*]
      rw [e]
      exact view_x n t a l s c w hR hl (by rw [bsA_tl, beqL]; exact decide_eq_false h0) (by rw [bsA_tl, beqL]; exact decide_eq_false h1) (by rw [bsA_tl, beqL]; exact decide_eq_false h2) (by rw [bsA_tl, beqL]; exact decide_eq_false h3) (by rw [bsA_tl, beqL]; exact decide_eq_false h4) (by rw [bsA_tl, beqL]; exact decide_eq_false h5) (by rw [bsA_tl, beqL]; exact decide_eq_false h6) (by rw [bsA_tl, beqL]; exact decide_eq_false h7) (by rw [bsA_tl, beqL]; exact decide_eq_false h8)
    · rw [decide_eq_false hm]
      exact view_m n t m a l s c w hR hl (by simpa using hm)
  · rw [decide_eq_false hk]
    exact view_k n k t m a l s c w hR hl (by simpa using hk)
theorem ent57 : Ent 57 := ent_of Tryz.func57 (by kernel_rfl) (by kernel_rfl)
def viewP (n : Nat) (y : Tr n) : Bool := viewF n.pred (kd n y) (tx n y) (nu n y) (ks n y)
theorem view_may (n : Nat) (w : World) (hR : Rdy w) : May 57 [] n (viewP n) w := ⟨ent57, fun W hW y s c hy => by
  cases n with
  | zero => exact Empty.elim y
  | succ n => exact view_any n (kd (n + 1) y) (tx (n + 1) y) (nu (n + 1) y) (pl (n + 1) y) (ks (n + 1) y) s c W (hR.below hW) (NdG.kids hy)⟩
end Go.Proofs.YtcemogaacicnfaaGreatDoor
