/- Which trees are statements, and the form of any tree: by the document. -/
import Derived.Test.YtcemogaacicnfaaGreatDoorRf7
namespace Go.Proofs.YtcemogaacicnfaaGreatDoor
set_option linter.unusedSimpArgs false
set_option maxRecDepth 20000
set_option maxHeartbeats 4000000
open Go.ChangeShapes Go.WideShapes Go.ChangeAt Go.RowKit

theorem rlst_0 (lo : Int) (n : Nat) (y : Tr n) (s : Option Addr) (c : Nat) (w : World) (hR : Rdy w) (hy : NdG w n y s c) (hT : Txs n y) :
    Calls Tryz.prog 79 #[ndV n y s c, .int .i64 0, .int .i64 lo] w fun e w' => e = .returned (.bool (lstP n lo 32 (exprP n.pred) y)) ∧ Below w.heap.size w w' := by
  cases n with
  | zero => exact Empty.elim y
  | succ n => exact rlist_0_any lo n (kd (n + 1) y) (tx (n + 1) y) (nu (n + 1) y) (pl (n + 1) y) (ks (n + 1) y) s c w hR (NdG.kids hy) hT.2
theorem rlst_21 (lo : Int) (n : Nat) (y : Tr n) (s : Option Addr) (c : Nat) (w : World) (hR : Rdy w) (hy : NdG w n y s c) (hT : Txs n y) :
    Calls Tryz.prog 79 #[ndV n y s c, .int .i64 21, .int .i64 lo] w fun e w' => e = .returned (.bool (lstP n lo 32 (itmP n.pred) y)) ∧ Below w.heap.size w w' := by
  cases n with
  | zero => exact Empty.elim y
  | succ n => exact rlist_21_any lo n (kd (n + 1) y) (tx (n + 1) y) (nu (n + 1) y) (pl (n + 1) y) (ks (n + 1) y) s c w hR (NdG.kids hy) hT.2
theorem rlst_27 (lo : Int) (n : Nat) (y : Tr n) (s : Option Addr) (c : Nat) (w : World) (hR : Rdy w) (hy : NdG w n y s c) (hT : Txs n y) :
    Calls Tryz.prog 79 #[ndV n y s c, .int .i64 27, .int .i64 lo] w fun e w' => e = .returned (.bool (lstP n lo 32 (setP n.pred) y)) ∧ Below w.heap.size w w' := by
  cases n with
  | zero => exact Empty.elim y
  | succ n => exact rlist_27_any lo n (kd (n + 1) y) (tx (n + 1) y) (nu (n + 1) y) (pl (n + 1) y) (ks (n + 1) y) s c w hR (NdG.kids hy) hT.2
theorem rlst_25 (lo : Int) (n : Nat) (y : Tr n) (s : Option Addr) (c : Nat) (w : World) (hR : Rdy w) (hy : NdG w n y s c) (hT : Txs n y) :
    Calls Tryz.prog 79 #[ndV n y s c, .int .i64 25, .int .i64 lo] w fun e w' => e = .returned (.bool (lstP n lo 32 (odrP n.pred) y)) ∧ Below w.heap.size w w' := by
  cases n with
  | zero => exact Empty.elim y
  | succ n => exact rlist_25_any lo n (kd (n + 1) y) (tx (n + 1) y) (nu (n + 1) y) (pl (n + 1) y) (ks (n + 1) y) s c w hR (NdG.kids hy) hT.2
theorem rnme_rm2 (n : Nat) (w : World) (hR : Rdy w) : RM 66 n (nmeP n) w := ⟨fun W hW y s c hy _ => rnme_rm rId_said n W (hR.below hW) y s c hy⟩
theorem rsel_i (n : Nat) (k : Int) (t : List UInt8) (m a : Int) (l : List (Tr n)) (s : Option Addr) (c : Nat) (w : World) (hR : Rdy w) (hl : KsG w n s c l) (ht : ((bsA t).toList == []) = false) (hi : idC t = false) :
    Calls Tryz.prog 76 #[.agg #[.int .i64 k, .string (bsA t), .int .i64 m, .int .i64 a, .slice s l.length c]] w fun e w' => e = .returned (.bool (false)) ∧ Below w.heap.size w w' := by
  have HN : Hid (Nd w n k t m a l s c (w.alloc (Obj.cells #[Value.int IntKind.i64 k, Value.string (bsA t), Value.int IntKind.i64 m, Value.int IntKind.i64 a, Value.slice s l.length c] 24))) := Nd.new w n _ t _ a l s c hR hl
  obtain ⟨d0, d1, d2, d3, d4, -, -, -, -, -⟩ := HN.out.box
  have HI : Hid _ := hi
  clear hi
  clear hl hR
  go_enter Tryz.func76, Tryz.ntmps76
  go_wp2_with (first | (go_at_call 65; refine (rId_said _ _ HN.out.rdy).mono ?_; rintro e w1 ⟨rfl, hb1⟩; rw [HI.out]; clear d0 d1 d2 d3 d4; replace HN : Hid _ := HN.out.step hb1; obtain ⟨d0, d1, d2, d3, d4, -, -, -, -, -⟩ := HN.out.box))
  all_goals (go_ret; exact ⟨rfl, HN.out.bel⟩)
theorem rsel_la (n : Nat) (k : Int) (t : List UInt8) (m a : Int) (l : List (Tr n)) (s : Option Addr) (c : Nat) (w : World) (hR : Rdy w) (hl : KsG w n s c l) (ht : ((bsA t).toList == []) = true) (e1 : (m < 1) = True) :
    Calls Tryz.prog 76 #[.agg #[.int .i64 k, .string (bsA t), .int .i64 m, .int .i64 a, .slice s l.length c]] w fun e w' => e = .returned (.bool (false)) ∧ Below w.heap.size w w' := by
  have HN : Hid (Nd w n k t m a l s c (w.alloc (Obj.cells #[Value.int IntKind.i64 k, Value.string (bsA t), Value.int IntKind.i64 m, Value.int IntKind.i64 a, Value.slice s l.length c] 24))) := Nd.new w n _ t _ a l s c hR hl
  obtain ⟨d0, d1, d2, d3, d4, -, -, -, -, -⟩ := HN.out.box
  clear hl hR
  go_enter Tryz.func76, Tryz.ntmps76
  go_wp2_with (first | fail)
  all_goals (go_ret; exact ⟨rfl, HN.out.bel⟩)
theorem rsel_ha (n : Nat) (k : Int) (t : List UInt8) (m a : Int) (l : List (Tr n)) (s : Option Addr) (c : Nat) (w : World) (hR : Rdy w) (hl : KsG w n s c l) (ht : ((bsA t).toList == []) = true) (e1 : (m < 1) = False) (e2 : (3 < m) = True) :
    Calls Tryz.prog 76 #[.agg #[.int .i64 k, .string (bsA t), .int .i64 m, .int .i64 a, .slice s l.length c]] w fun e w' => e = .returned (.bool (false)) ∧ Below w.heap.size w w' := by
  have HN : Hid (Nd w n k t m a l s c (w.alloc (Obj.cells #[Value.int IntKind.i64 k, Value.string (bsA t), Value.int IntKind.i64 m, Value.int IntKind.i64 a, Value.slice s l.length c] 24))) := Nd.new w n _ t _ a l s c hR hl
  obtain ⟨d0, d1, d2, d3, d4, -, -, -, -, -⟩ := HN.out.box
  clear hl hR
  go_enter Tryz.func76, Tryz.ntmps76
  go_wp2_with (first | fail)
  all_goals (go_ret; exact ⟨rfl, HN.out.bel⟩)
theorem rsel_na (n : Nat) (k : Int) (t : List UInt8) (m a : Int) (l : List (Tr n)) (s : Option Addr) (c : Nat) (w : World) (hR : Rdy w) (hl : KsG w n s c l) (ht : ((bsA t).toList == []) = true) (e1 : (m < 1) = False) (e2 : (3 < m) = False) (g8 : ((l.length : Int) != 8) = true) :
    Calls Tryz.prog 76 #[.agg #[.int .i64 k, .string (bsA t), .int .i64 m, .int .i64 a, .slice s l.length c]] w fun e w' => e = .returned (.bool (false)) ∧ Below w.heap.size w w' := by
  have HN : Hid (Nd w n k t m a l s c (w.alloc (Obj.cells #[Value.int IntKind.i64 k, Value.string (bsA t), Value.int IntKind.i64 m, Value.int IntKind.i64 a, Value.slice s l.length c] 24))) := Nd.new w n _ t _ a l s c hR hl
  obtain ⟨d0, d1, d2, d3, d4, -, -, -, -, -⟩ := HN.out.box
  clear hl hR
  go_enter Tryz.func76, Tryz.ntmps76
  go_wp2_with (first | fail)
  all_goals (go_ret; exact ⟨rfl, HN.out.bel⟩)
theorem rsel_a (n : Nat) (k : Int) (t : List UInt8) (m : Int) (a : Int) (y0 y1 y2 y3 y4 y5 y6 y7 : Tr n) (b off c : Nat) (w : World) (hR : Rdy w) (hl : KsG w n (some ⟨b, off, none⟩) c [y0, y1, y2, y3, y4, y5, y6, y7]) (hT : ∀ y ∈ [y0, y1, y2, y3, y4, y5, y6, y7], Txs n y) (ht : ((bsA t).toList == []) = true) (e1 : (m < 1) = False) (e2 : (3 < m) = False) :
    Calls Tryz.prog 76 #[.agg #[.int .i64 k, .string (bsA t), .int .i64 m, .int .i64 a, .slice (some ⟨b, off, none⟩) 8 c]] w fun e w' => e = .returned (.bool (optP n (nmeP n) y0 && itemsP n y1 && frmP n y2 && optP n (exprP n) y3 && lstP n 0 32 (exprP n.pred) y4 && optP n (exprP n) y5 && lstP n 0 32 (odrP n.pred) y6 && optP n (rateP n) y7)) ∧ Below w.heap.size w w' := by
  have HN : Hid (Nd w n k t m a [y0, y1, y2, y3, y4, y5, y6, y7] (some ⟨b, off, none⟩) c (w.alloc (Obj.cells #[Value.int IntKind.i64 k, Value.string (bsA t), Value.int IntKind.i64 m, Value.int IntKind.i64 a, Value.slice (some ⟨b, off, none⟩) 8 c] 24))) := Nd.new w n k t m a [y0, y1, y2, y3, y4, y5, y6, y7] (some ⟨b, off, none⟩) c hR hl
  obtain ⟨d0, d1, d2, d3, d4, -, -, -, -, -⟩ := HN.out.box
  obtain ⟨sy, ky, ⟨c0, c1, c2, c3, c4⟩, hgc⟩ := HN.out.kids.kid 0 y0 rfl
  simp only [Nat.reduceMul, Nat.add_zero, Nat.reduceAdd, Nat.add_assoc, Nat.zero_mul] at c0 c1 c2 c3 c4
  have HT : Hid (∀ y ∈ [y0, y1, y2, y3, y4, y5, y6, y7], Txs n y) := hT
  have HM0 : Hid True := trivial
  have HM1 : Hid True := trivial
  have HM2 : Hid True := trivial
  have HM3 : Hid True := trivial
  have HM4 : Hid True := trivial
  have HM5 : Hid True := trivial
  have HM6 : Hid True := trivial
  have HM7 : Hid True := trivial
  clear hl hR hT
  go_enter Tryz.func76, Tryz.ntmps76
  go_wp2_with (first | (go_at_call 72; clear HM0; refine ((rnmo_rm rId_said n _ HN.out.rdy).run _ (Below.refl _ _) y0 sy ky hgc (HT.out y0 (by simp))).mono ?_; rintro e w1 ⟨rfl, hb1⟩; clear c0 c1 c2 c3 c4 hgc; clear d0 d1 d2 d3 d4; replace HN : Hid _ := HN.out.step hb1; obtain ⟨d0, d1, d2, d3, d4, -, -, -, -, -⟩ := HN.out.box; obtain ⟨sy, ky, ⟨c0, c1, c2, c3, c4⟩, hgc⟩ := HN.out.kids.kid 1 y1 rfl; simp only [Nat.reduceMul, Nat.add_zero, Nat.reduceAdd, Nat.add_assoc, Nat.zero_mul] at c0 c1 c2 c3 c4) | (go_at_call 80; clear HM1; refine ((ritems_rm n _ HN.out.rdy).run _ (Below.refl _ _) y1 sy ky hgc (HT.out y1 (by simp))).mono ?_; rintro e w1 ⟨rfl, hb1⟩; clear c0 c1 c2 c3 c4 hgc; clear d0 d1 d2 d3 d4; replace HN : Hid _ := HN.out.step hb1; obtain ⟨d0, d1, d2, d3, d4, -, -, -, -, -⟩ := HN.out.box; obtain ⟨sy, ky, ⟨c0, c1, c2, c3, c4⟩, hgc⟩ := HN.out.kids.kid 2 y2 rfl; simp only [Nat.reduceMul, Nat.add_zero, Nat.reduceAdd, Nat.add_assoc, Nat.zero_mul] at c0 c1 c2 c3 c4) | (go_at_call 115; clear HM2; refine ((rfrom_rm n _ HN.out.rdy).run _ (Below.refl _ _) y2 sy ky hgc (HT.out y2 (by simp))).mono ?_; rintro e w1 ⟨rfl, hb1⟩; clear c0 c1 c2 c3 c4 hgc; clear d0 d1 d2 d3 d4; replace HN : Hid _ := HN.out.step hb1; obtain ⟨d0, d1, d2, d3, d4, -, -, -, -, -⟩ := HN.out.box; obtain ⟨sy, ky, ⟨c0, c1, c2, c3, c4⟩, hgc⟩ := HN.out.kids.kid 3 y3 rfl; simp only [Nat.reduceMul, Nat.add_zero, Nat.reduceAdd, Nat.add_assoc, Nat.zero_mul] at c0 c1 c2 c3 c4) | (go_at_call 71; clear HM3; refine ((rexo_rm rId_said n _ HN.out.rdy).run _ (Below.refl _ _) y3 sy ky hgc (HT.out y3 (by simp))).mono ?_; rintro e w1 ⟨rfl, hb1⟩; clear c0 c1 c2 c3 c4 hgc; clear d0 d1 d2 d3 d4; replace HN : Hid _ := HN.out.step hb1; obtain ⟨d0, d1, d2, d3, d4, -, -, -, -, -⟩ := HN.out.box; obtain ⟨sy, ky, ⟨c0, c1, c2, c3, c4⟩, hgc⟩ := HN.out.kids.kid 4 y4 rfl; simp only [Nat.reduceMul, Nat.add_zero, Nat.reduceAdd, Nat.add_assoc, Nat.zero_mul] at c0 c1 c2 c3 c4) | (go_at_call 79; clear HM4; refine (rlst_0 0 n y4 sy ky _ HN.out.rdy hgc (HT.out y4 (by simp))).mono ?_; rintro e w1 ⟨rfl, hb1⟩; clear c0 c1 c2 c3 c4 hgc; clear d0 d1 d2 d3 d4; replace HN : Hid _ := HN.out.step hb1; obtain ⟨d0, d1, d2, d3, d4, -, -, -, -, -⟩ := HN.out.box; obtain ⟨sy, ky, ⟨c0, c1, c2, c3, c4⟩, hgc⟩ := HN.out.kids.kid 5 y5 rfl; simp only [Nat.reduceMul, Nat.add_zero, Nat.reduceAdd, Nat.add_assoc, Nat.zero_mul] at c0 c1 c2 c3 c4) | (go_at_call 71; clear HM5; refine ((rexo_rm rId_said n _ HN.out.rdy).run _ (Below.refl _ _) y5 sy ky hgc (HT.out y5 (by simp))).mono ?_; rintro e w1 ⟨rfl, hb1⟩; clear c0 c1 c2 c3 c4 hgc; clear d0 d1 d2 d3 d4; replace HN : Hid _ := HN.out.step hb1; obtain ⟨d0, d1, d2, d3, d4, -, -, -, -, -⟩ := HN.out.box; obtain ⟨sy, ky, ⟨c0, c1, c2, c3, c4⟩, hgc⟩ := HN.out.kids.kid 6 y6 rfl; simp only [Nat.reduceMul, Nat.add_zero, Nat.reduceAdd, Nat.add_assoc, Nat.zero_mul] at c0 c1 c2 c3 c4) | (go_at_call 79; clear HM6; refine (rlst_25 0 n y6 sy ky _ HN.out.rdy hgc (HT.out y6 (by simp))).mono ?_; rintro e w1 ⟨rfl, hb1⟩; clear c0 c1 c2 c3 c4 hgc; clear d0 d1 d2 d3 d4; replace HN : Hid _ := HN.out.step hb1; obtain ⟨d0, d1, d2, d3, d4, -, -, -, -, -⟩ := HN.out.box; obtain ⟨sy, ky, ⟨c0, c1, c2, c3, c4⟩, hgc⟩ := HN.out.kids.kid 7 y7 rfl; simp only [Nat.reduceMul, Nat.add_zero, Nat.reduceAdd, Nat.add_assoc, Nat.zero_mul] at c0 c1 c2 c3 c4) | (go_at_call 116; clear HM7; refine ((rrate_rm n _ HN.out.rdy).run _ (Below.refl _ _) y7 sy ky hgc (HT.out y7 (by simp))).mono ?_; rintro e w1 ⟨rfl, hb1⟩; clear c0 c1 c2 c3 c4 hgc; clear d0 d1 d2 d3 d4; replace HN : Hid _ := HN.out.step hb1; obtain ⟨d0, d1, d2, d3, d4, -, -, -, -, -⟩ := HN.out.box; obtain ⟨sy, ky, ⟨c0, c1, c2, c3, c4⟩, hgc⟩ := HN.out.kids.kid 7 y7 rfl; simp only [Nat.reduceMul, Nat.add_zero, Nat.reduceAdd, Nat.add_assoc, Nat.zero_mul] at c0 c1 c2 c3 c4))
  all_goals (go_ret; exact ⟨by simp_all [bsA_tl, beqI, beqL], HN.out.bel⟩)
theorem rsel_lb (n : Nat) (k : Int) (t : List UInt8) (m a : Int) (l : List (Tr n)) (s : Option Addr) (c : Nat) (w : World) (hR : Rdy w) (hl : KsG w n s c l) (ht : ((bsA t).toList == []) = false) (hi : idC t = true) (e1 : (m < 1) = True) :
    Calls Tryz.prog 76 #[.agg #[.int .i64 k, .string (bsA t), .int .i64 m, .int .i64 a, .slice s l.length c]] w fun e w' => e = .returned (.bool (false)) ∧ Below w.heap.size w w' := by
  have HN : Hid (Nd w n k t m a l s c (w.alloc (Obj.cells #[Value.int IntKind.i64 k, Value.string (bsA t), Value.int IntKind.i64 m, Value.int IntKind.i64 a, Value.slice s l.length c] 24))) := Nd.new w n _ t _ a l s c hR hl
  obtain ⟨d0, d1, d2, d3, d4, -, -, -, -, -⟩ := HN.out.box
  have HI : Hid _ := hi
  clear hi
  clear hl hR
  go_enter Tryz.func76, Tryz.ntmps76
  go_wp2_with (first | (go_at_call 65; refine (rId_said _ _ HN.out.rdy).mono ?_; rintro e w1 ⟨rfl, hb1⟩; rw [HI.out]; clear d0 d1 d2 d3 d4; replace HN : Hid _ := HN.out.step hb1; obtain ⟨d0, d1, d2, d3, d4, -, -, -, -, -⟩ := HN.out.box))
  all_goals (go_ret; exact ⟨rfl, HN.out.bel⟩)
theorem rsel_hb (n : Nat) (k : Int) (t : List UInt8) (m a : Int) (l : List (Tr n)) (s : Option Addr) (c : Nat) (w : World) (hR : Rdy w) (hl : KsG w n s c l) (ht : ((bsA t).toList == []) = false) (hi : idC t = true) (e1 : (m < 1) = False) (e2 : (3 < m) = True) :
    Calls Tryz.prog 76 #[.agg #[.int .i64 k, .string (bsA t), .int .i64 m, .int .i64 a, .slice s l.length c]] w fun e w' => e = .returned (.bool (false)) ∧ Below w.heap.size w w' := by
  have HN : Hid (Nd w n k t m a l s c (w.alloc (Obj.cells #[Value.int IntKind.i64 k, Value.string (bsA t), Value.int IntKind.i64 m, Value.int IntKind.i64 a, Value.slice s l.length c] 24))) := Nd.new w n _ t _ a l s c hR hl
  obtain ⟨d0, d1, d2, d3, d4, -, -, -, -, -⟩ := HN.out.box
  have HI : Hid _ := hi
  clear hi
  clear hl hR
  go_enter Tryz.func76, Tryz.ntmps76
  go_wp2_with (first | (go_at_call 65; refine (rId_said _ _ HN.out.rdy).mono ?_; rintro e w1 ⟨rfl, hb1⟩; rw [HI.out]; clear d0 d1 d2 d3 d4; replace HN : Hid _ := HN.out.step hb1; obtain ⟨d0, d1, d2, d3, d4, -, -, -, -, -⟩ := HN.out.box))
  all_goals (go_ret; exact ⟨rfl, HN.out.bel⟩)
theorem rsel_nb (n : Nat) (k : Int) (t : List UInt8) (m a : Int) (l : List (Tr n)) (s : Option Addr) (c : Nat) (w : World) (hR : Rdy w) (hl : KsG w n s c l) (ht : ((bsA t).toList == []) = false) (hi : idC t = true) (e1 : (m < 1) = False) (e2 : (3 < m) = False) (g8 : ((l.length : Int) != 8) = true) :
    Calls Tryz.prog 76 #[.agg #[.int .i64 k, .string (bsA t), .int .i64 m, .int .i64 a, .slice s l.length c]] w fun e w' => e = .returned (.bool (false)) ∧ Below w.heap.size w w' := by
  have HN : Hid (Nd w n k t m a l s c (w.alloc (Obj.cells #[Value.int IntKind.i64 k, Value.string (bsA t), Value.int IntKind.i64 m, Value.int IntKind.i64 a, Value.slice s l.length c] 24))) := Nd.new w n _ t _ a l s c hR hl
  obtain ⟨d0, d1, d2, d3, d4, -, -, -, -, -⟩ := HN.out.box
  have HI : Hid _ := hi
  clear hi
  clear hl hR
  go_enter Tryz.func76, Tryz.ntmps76
  go_wp2_with (first | (go_at_call 65; refine (rId_said _ _ HN.out.rdy).mono ?_; rintro e w1 ⟨rfl, hb1⟩; rw [HI.out]; clear d0 d1 d2 d3 d4; replace HN : Hid _ := HN.out.step hb1; obtain ⟨d0, d1, d2, d3, d4, -, -, -, -, -⟩ := HN.out.box))
  all_goals (go_ret; exact ⟨rfl, HN.out.bel⟩)
theorem rsel_b (n : Nat) (k : Int) (t : List UInt8) (m : Int) (a : Int) (y0 y1 y2 y3 y4 y5 y6 y7 : Tr n) (b off c : Nat) (w : World) (hR : Rdy w) (hl : KsG w n (some ⟨b, off, none⟩) c [y0, y1, y2, y3, y4, y5, y6, y7]) (hT : ∀ y ∈ [y0, y1, y2, y3, y4, y5, y6, y7], Txs n y) (ht : ((bsA t).toList == []) = false) (hi : idC t = true) (e1 : (m < 1) = False) (e2 : (3 < m) = False) :
    Calls Tryz.prog 76 #[.agg #[.int .i64 k, .string (bsA t), .int .i64 m, .int .i64 a, .slice (some ⟨b, off, none⟩) 8 c]] w fun e w' => e = .returned (.bool (optP n (nmeP n) y0 && itemsP n y1 && frmP n y2 && optP n (exprP n) y3 && lstP n 0 32 (exprP n.pred) y4 && optP n (exprP n) y5 && lstP n 0 32 (odrP n.pred) y6 && optP n (rateP n) y7)) ∧ Below w.heap.size w w' := by
  have HN : Hid (Nd w n k t m a [y0, y1, y2, y3, y4, y5, y6, y7] (some ⟨b, off, none⟩) c (w.alloc (Obj.cells #[Value.int IntKind.i64 k, Value.string (bsA t), Value.int IntKind.i64 m, Value.int IntKind.i64 a, Value.slice (some ⟨b, off, none⟩) 8 c] 24))) := Nd.new w n k t m a [y0, y1, y2, y3, y4, y5, y6, y7] (some ⟨b, off, none⟩) c hR hl
  obtain ⟨d0, d1, d2, d3, d4, -, -, -, -, -⟩ := HN.out.box
  obtain ⟨sy, ky, ⟨c0, c1, c2, c3, c4⟩, hgc⟩ := HN.out.kids.kid 0 y0 rfl
  simp only [Nat.reduceMul, Nat.add_zero, Nat.reduceAdd, Nat.add_assoc, Nat.zero_mul] at c0 c1 c2 c3 c4
  have HT : Hid (∀ y ∈ [y0, y1, y2, y3, y4, y5, y6, y7], Txs n y) := hT
  have HM0 : Hid True := trivial
  have HM1 : Hid True := trivial
  have HM2 : Hid True := trivial
  have HM3 : Hid True := trivial
  have HM4 : Hid True := trivial
  have HM5 : Hid True := trivial
  have HM6 : Hid True := trivial
  have HM7 : Hid True := trivial
  have HI : Hid _ := hi
  clear hi
  clear hl hR hT
  go_enter Tryz.func76, Tryz.ntmps76
  go_wp2_with (first | (go_at_call 65; refine (rId_said _ _ HN.out.rdy).mono ?_; rintro e w1 ⟨rfl, hb1⟩; rw [HI.out]; clear c0 c1 c2 c3 c4 hgc; clear d0 d1 d2 d3 d4; replace HN : Hid _ := HN.out.step hb1; obtain ⟨d0, d1, d2, d3, d4, -, -, -, -, -⟩ := HN.out.box; obtain ⟨sy, ky, ⟨c0, c1, c2, c3, c4⟩, hgc⟩ := HN.out.kids.kid 0 y0 rfl; simp only [Nat.reduceMul, Nat.add_zero, Nat.reduceAdd, Nat.add_assoc, Nat.zero_mul] at c0 c1 c2 c3 c4) | (go_at_call 72; clear HM0; refine ((rnmo_rm rId_said n _ HN.out.rdy).run _ (Below.refl _ _) y0 sy ky hgc (HT.out y0 (by simp))).mono ?_; rintro e w1 ⟨rfl, hb1⟩; clear c0 c1 c2 c3 c4 hgc; clear d0 d1 d2 d3 d4; replace HN : Hid _ := HN.out.step hb1; obtain ⟨d0, d1, d2, d3, d4, -, -, -, -, -⟩ := HN.out.box; obtain ⟨sy, ky, ⟨c0, c1, c2, c3, c4⟩, hgc⟩ := HN.out.kids.kid 1 y1 rfl; simp only [Nat.reduceMul, Nat.add_zero, Nat.reduceAdd, Nat.add_assoc, Nat.zero_mul] at c0 c1 c2 c3 c4) | (go_at_call 80; clear HM1; refine ((ritems_rm n _ HN.out.rdy).run _ (Below.refl _ _) y1 sy ky hgc (HT.out y1 (by simp))).mono ?_; rintro e w1 ⟨rfl, hb1⟩; clear c0 c1 c2 c3 c4 hgc; clear d0 d1 d2 d3 d4; replace HN : Hid _ := HN.out.step hb1; obtain ⟨d0, d1, d2, d3, d4, -, -, -, -, -⟩ := HN.out.box; obtain ⟨sy, ky, ⟨c0, c1, c2, c3, c4⟩, hgc⟩ := HN.out.kids.kid 2 y2 rfl; simp only [Nat.reduceMul, Nat.add_zero, Nat.reduceAdd, Nat.add_assoc, Nat.zero_mul] at c0 c1 c2 c3 c4) | (go_at_call 115; clear HM2; refine ((rfrom_rm n _ HN.out.rdy).run _ (Below.refl _ _) y2 sy ky hgc (HT.out y2 (by simp))).mono ?_; rintro e w1 ⟨rfl, hb1⟩; clear c0 c1 c2 c3 c4 hgc; clear d0 d1 d2 d3 d4; replace HN : Hid _ := HN.out.step hb1; obtain ⟨d0, d1, d2, d3, d4, -, -, -, -, -⟩ := HN.out.box; obtain ⟨sy, ky, ⟨c0, c1, c2, c3, c4⟩, hgc⟩ := HN.out.kids.kid 3 y3 rfl; simp only [Nat.reduceMul, Nat.add_zero, Nat.reduceAdd, Nat.add_assoc, Nat.zero_mul] at c0 c1 c2 c3 c4) | (go_at_call 71; clear HM3; refine ((rexo_rm rId_said n _ HN.out.rdy).run _ (Below.refl _ _) y3 sy ky hgc (HT.out y3 (by simp))).mono ?_; rintro e w1 ⟨rfl, hb1⟩; clear c0 c1 c2 c3 c4 hgc; clear d0 d1 d2 d3 d4; replace HN : Hid _ := HN.out.step hb1; obtain ⟨d0, d1, d2, d3, d4, -, -, -, -, -⟩ := HN.out.box; obtain ⟨sy, ky, ⟨c0, c1, c2, c3, c4⟩, hgc⟩ := HN.out.kids.kid 4 y4 rfl; simp only [Nat.reduceMul, Nat.add_zero, Nat.reduceAdd, Nat.add_assoc, Nat.zero_mul] at c0 c1 c2 c3 c4) | (go_at_call 79; clear HM4; refine (rlst_0 0 n y4 sy ky _ HN.out.rdy hgc (HT.out y4 (by simp))).mono ?_; rintro e w1 ⟨rfl, hb1⟩; clear c0 c1 c2 c3 c4 hgc; clear d0 d1 d2 d3 d4; replace HN : Hid _ := HN.out.step hb1; obtain ⟨d0, d1, d2, d3, d4, -, -, -, -, -⟩ := HN.out.box; obtain ⟨sy, ky, ⟨c0, c1, c2, c3, c4⟩, hgc⟩ := HN.out.kids.kid 5 y5 rfl; simp only [Nat.reduceMul, Nat.add_zero, Nat.reduceAdd, Nat.add_assoc, Nat.zero_mul] at c0 c1 c2 c3 c4) | (go_at_call 71; clear HM5; refine ((rexo_rm rId_said n _ HN.out.rdy).run _ (Below.refl _ _) y5 sy ky hgc (HT.out y5 (by simp))).mono ?_; rintro e w1 ⟨rfl, hb1⟩; clear c0 c1 c2 c3 c4 hgc; clear d0 d1 d2 d3 d4; replace HN : Hid _ := HN.out.step hb1; obtain ⟨d0, d1, d2, d3, d4, -, -, -, -, -⟩ := HN.out.box; obtain ⟨sy, ky, ⟨c0, c1, c2, c3, c4⟩, hgc⟩ := HN.out.kids.kid 6 y6 rfl; simp only [Nat.reduceMul, Nat.add_zero, Nat.reduceAdd, Nat.add_assoc, Nat.zero_mul] at c0 c1 c2 c3 c4) | (go_at_call 79; clear HM6; refine (rlst_25 0 n y6 sy ky _ HN.out.rdy hgc (HT.out y6 (by simp))).mono ?_; rintro e w1 ⟨rfl, hb1⟩; clear c0 c1 c2 c3 c4 hgc; clear d0 d1 d2 d3 d4; replace HN : Hid _ := HN.out.step hb1; obtain ⟨d0, d1, d2, d3, d4, -, -, -, -, -⟩ := HN.out.box; obtain ⟨sy, ky, ⟨c0, c1, c2, c3, c4⟩, hgc⟩ := HN.out.kids.kid 7 y7 rfl; simp only [Nat.reduceMul, Nat.add_zero, Nat.reduceAdd, Nat.add_assoc, Nat.zero_mul] at c0 c1 c2 c3 c4) | (go_at_call 116; clear HM7; refine ((rrate_rm n _ HN.out.rdy).run _ (Below.refl _ _) y7 sy ky hgc (HT.out y7 (by simp))).mono ?_; rintro e w1 ⟨rfl, hb1⟩; clear c0 c1 c2 c3 c4 hgc; clear d0 d1 d2 d3 d4; replace HN : Hid _ := HN.out.step hb1; obtain ⟨d0, d1, d2, d3, d4, -, -, -, -, -⟩ := HN.out.box; obtain ⟨sy, ky, ⟨c0, c1, c2, c3, c4⟩, hgc⟩ := HN.out.kids.kid 7 y7 rfl; simp only [Nat.reduceMul, Nat.add_zero, Nat.reduceAdd, Nat.add_assoc, Nat.zero_mul] at c0 c1 c2 c3 c4))
  all_goals (go_ret; exact ⟨by simp_all [bsA_tl, beqI, beqL], HN.out.bel⟩)
theorem rsel_any (n : Nat) (k : Int) (t : List UInt8) (m a : Int) (l : List (Tr n)) (s : Option Addr) (c : Nat) (w : World) (hR : Rdy w) (hl : KsG w n s c l) (hT : ∀ y ∈ l, Txs n y) : Calls Tryz.prog 76 #[.agg #[.int .i64 k, .string (bsA t), .int .i64 m, .int .i64 a, .slice s l.length c]] w fun e w' => e = .returned (.bool (selF n k t m l)) ∧ Below w.heap.size w w' := by
  unfold selF idEF witF
  by_cases ht : t = []
  · have gt : ((bsA t).toList == []) = true := by rw [bsA_tl, ht]; rfl
    rw [decide_eq_true ht, Bool.true_or, Bool.true_and]
    by_cases h1 : m < 1
    · rw [decide_eq_false (by omega : ¬ 1 ≤ m), Bool.false_and, Bool.false_and]
      exact rsel_la n k t m a l s c w hR hl gt (eq_true h1)
    by_cases h3 : 3 < m
    · rw [decide_eq_false (by omega : ¬ m ≤ 3), Bool.and_false, Bool.false_and]
      exact rsel_ha n k t m a l s c w hR hl gt (eq_false h1) (eq_true h3)
    rw [decide_eq_true (by omega : 1 ≤ m), decide_eq_true (by omega : m ≤ 3), Bool.true_and, Bool.true_and]
    by_cases h8 : l.length = 8
    · obtain ⟨y0, y1, y2, y3, y4, y5, y6, y7, rfl⟩ := len8 h8
      obtain ⟨b, off, rfl⟩ := hl.addr
      have h := rsel_a n k t m a y0 y1 y2 y3 y4 y5 y6 y7 b off c w hR hl hT gt (eq_false h1) (eq_false h3)
      rw [areQ_cons, areQ_cons, areQ_cons, areQ_cons, areQ_cons, areQ_cons, areQ_cons, areQ_cons, areQ_nil, Bool.and_true]
      simp only [Bool.and_assoc] at h
      exact h
    · rw [areQ_ne _ _ _ (by simpa using h8)]
      exact rsel_na n k t m a l s c w hR hl gt (eq_false h1) (eq_false h3) (len_nb h8)
  · have gt : ((bsA t).toList == []) = false := by rw [bsA_tl, beqL]; exact decide_eq_false ht
    rw [decide_eq_false ht, Bool.false_or]
    cases hi : idC t with
    | false =>
      rw [Bool.false_and, Bool.false_and]
      exact rsel_i n k t m a l s c w hR hl gt hi
    | true =>
      rw [Bool.true_and]
      by_cases h1 : m < 1
      · rw [decide_eq_false (by omega : ¬ 1 ≤ m), Bool.false_and, Bool.false_and]
        exact rsel_lb n k t m a l s c w hR hl gt hi (eq_true h1)
      by_cases h3 : 3 < m
      · rw [decide_eq_false (by omega : ¬ m ≤ 3), Bool.and_false, Bool.false_and]
        exact rsel_hb n k t m a l s c w hR hl gt hi (eq_false h1) (eq_true h3)
      rw [decide_eq_true (by omega : 1 ≤ m), decide_eq_true (by omega : m ≤ 3), Bool.true_and, Bool.true_and]
      by_cases h8 : l.length = 8
      · obtain ⟨y0, y1, y2, y3, y4, y5, y6, y7, rfl⟩ := len8 h8
        obtain ⟨b, off, rfl⟩ := hl.addr
        have h := rsel_b n k t m a y0 y1 y2 y3 y4 y5 y6 y7 b off c w hR hl hT gt hi (eq_false h1) (eq_false h3)
        rw [areQ_cons, areQ_cons, areQ_cons, areQ_cons, areQ_cons, areQ_cons, areQ_cons, areQ_cons, areQ_nil, Bool.and_true]
        simp only [Bool.and_assoc] at h
        exact h
      · rw [areQ_ne _ _ _ (by simpa using h8)]
        exact rsel_nb n k t m a l s c w hR hl gt hi (eq_false h1) (eq_false h3) (len_nb h8)
theorem rctx_58 (n : Nat) (t : List UInt8) (m a : Int) (l : List (Tr (n + 1))) (b off c : Nat) (w : World) (hR : Rdy w) (hl : KsG w (n + 1) (some ⟨b, off, none⟩) c l) (hT : ∀ y ∈ l, Txs (n + 1) y) :
    Calls Tryz.prog 75 #[.agg #[.int .i64 58, .string (bsA t), .int .i64 m, .int .i64 a, .slice (some ⟨b, off, none⟩) l.length c]] w fun e w' => e = .returned (.bool (allF (n + 1) l (colOfP (n + 1)) && (plainF t m && decide (1 ≤ (l.length : Int)) && decide ((l.length : Int) ≤ 32)))) ∧ Below w.heap.size w w' := by
  have HN : Hid (Nd w (n + 1) 58 t m a l (some ⟨b, off, none⟩) c (w.alloc (Obj.cells #[Value.int IntKind.i64 58, Value.string (bsA t), Value.int IntKind.i64 m, Value.int IntKind.i64 a, Value.slice (some ⟨b, off, none⟩) l.length c] 24))) := Nd.new w (n + 1) 58 t m a l _ c hR hl
  obtain ⟨d0, d1, d2, d3, d4, -, -, -, -, -⟩ := HN.out.box
  have HT : Hid (∀ y ∈ l, Txs (n + 1) y) := hT
  have hlen : l.length ≤ 9223372036854775807 := hl.1
  clear hl hR hT
  go_enter Tryz.func75, Tryz.ntmps75
  go_wp2
  clear d0 d1 d2 d3 d4
  go_loopw [3] (fun i wr => ∃ k : Nat, k ≤ l.length ∧ i = .int .i64 k ∧ (l.take k).all (colOfP (n + 1)) = true ∧ Nd w (n + 1) 58 t m a l (some ⟨b, off, none⟩) c wr) (fun i _ => l.length - (intOf i).toNat)
  case atStart => exact ⟨0, Nat.zero_le _, rfl, rfl, HN.out⟩
  case round =>
    obtain ⟨k, hk, rfl, hV, hN⟩ := hrel
    have HV : Hid ((l.take k).all (colOfP (n + 1)) = true) := hV
    replace HN : Hid (Nd w (n + 1) 58 t m a l (some ⟨b, off, none⟩) c wr) := hN
    obtain ⟨d0, d1, d2, d3, d4, -, -, -, -, -⟩ := HN.out.box
    clear hV hN
    rcases Nat.lt_or_ge k l.length with hlt | hge
    · obtain ⟨y, gy⟩ : ∃ y, l[k]? = some y := ⟨_, List.getElem?_eq_getElem hlt⟩
      have HGY : Hid _ := gy
      obtain ⟨sy, cy, ⟨c0, c1, c2, c3, c4⟩, hp⟩ := HN.out.kids.kid k y gy
      have hTy := HT.out y (List.mem_of_getElem? gy)
      have HF : Hid ((colOfP (n + 1)) y = false → l.all (colOfP (n + 1)) = false) := fun h => by
        rw [List.all_eq_false]
        exact ⟨y, List.mem_of_getElem? gy, by rw [h]; simp⟩
      have HG0 : Hid ((colOfP (n + 1)) y = true → (l.take (k + 1)).all (colOfP (n + 1)) = true) := fun h => by rw [all_snoc (colOfP (n + 1)) gy, HV.out, h]; rfl
      clear HV gy
      cases hk1 : (kd (n + 1) y != 6) with
      | true =>
        have HE : Hid (colOfP (n + 1) y = false) := by
          show (decide (kd (n + 1) y = 6) && hidF (tx (n + 1) y) (nu (n + 1) y) && areQ n (ks (n + 1) y) [nmeP n]) = _
          rw [decide_eq_false (by simpa using hk1)]
          simp
        have HX : Hid (Nx w (n + 1) 58 t m a l (some ⟨b, off, none⟩) c wr.heap.size y sy cy (wr.alloc (Obj.cells #[Value.int IntKind.i64 (kd (n + 1) y), Value.string (bsA (tx (n + 1) y)), Value.int IntKind.i64 (nu (n + 1) y), Value.int IntKind.i64 (pl (n + 1) y), Value.slice sy (ks (n + 1) y).length cy] 24))) := Nx.new HN.out hp
        obtain ⟨x0, x1, x2, x3, x4, -, -, -, -, -⟩ := HX.out.box
        clear hp hTy
        go_wp2
        go_ret
        exact ⟨ret_bool (by show false = (allF (n + 1) l (colOfP (n + 1)) && (plainF t m && decide (1 ≤ (l.length : Int)) && decide ((l.length : Int) ≤ 32))); unfold allF; rw [HF.out HE.out, Bool.false_and]), HX.out.nd.bel⟩
      | false =>
      have HK : Hid (decide (kd (n + 1) y = 6) = true) := by show _ = _; simpa using hk1
      cases hi : idC (tx (n + 1) y) with
      | false =>
        have HI : Hid _ := hi
        clear hi
        have HE : Hid (colOfP (n + 1) y = false) := by
          show (decide (kd (n + 1) y = 6) && hidF (tx (n + 1) y) (nu (n + 1) y) && areQ n (ks (n + 1) y) [nmeP n]) = _
          unfold hidF
          rw [HI.out]
          simp
        have HX : Hid (Nx w (n + 1) 58 t m a l (some ⟨b, off, none⟩) c wr.heap.size y sy cy (wr.alloc (Obj.cells #[Value.int IntKind.i64 (kd (n + 1) y), Value.string (bsA (tx (n + 1) y)), Value.int IntKind.i64 (nu (n + 1) y), Value.int IntKind.i64 (pl (n + 1) y), Value.slice sy (ks (n + 1) y).length cy] 24))) := Nx.new HN.out hp
        obtain ⟨x0, x1, x2, x3, x4, -, -, -, -, -⟩ := HX.out.box
        clear hp hTy
        go_wp2_with fail
        refine (rId_said _ _ HX.out.nd.rdy).mono ?_
        rintro e w1 ⟨rfl, hb1⟩
        rw [HI.out]
        replace HX : Hid _ := HX.out.step hb1
        clear c0 c1 c2 c3 c4 d0 d1 d2 d3 d4 x0 x1 x2 x3 x4
        obtain ⟨x0, x1, x2, x3, x4, -, -, -, -, -⟩ := HX.out.box
        go_wp2
        go_ret
        exact ⟨ret_bool (by show false = (allF (n + 1) l (colOfP (n + 1)) && (plainF t m && decide (1 ≤ (l.length : Int)) && decide ((l.length : Int) ≤ 32))); unfold allF; rw [HF.out HE.out, Bool.false_and]), HX.out.nd.bel⟩
      | true =>
      have HI : Hid _ := hi
      clear hi
      cases hn1 : (nu (n + 1) y != 0) with
      | true =>
        have HE : Hid (colOfP (n + 1) y = false) := by
          show (decide (kd (n + 1) y = 6) && hidF (tx (n + 1) y) (nu (n + 1) y) && areQ n (ks (n + 1) y) [nmeP n]) = _
          unfold hidF
          rw [decide_eq_false (by simpa using hn1 : ¬ nu (n + 1) y = 0)]
          simp
        have HX : Hid (Nx w (n + 1) 58 t m a l (some ⟨b, off, none⟩) c wr.heap.size y sy cy (wr.alloc (Obj.cells #[Value.int IntKind.i64 (kd (n + 1) y), Value.string (bsA (tx (n + 1) y)), Value.int IntKind.i64 (nu (n + 1) y), Value.int IntKind.i64 (pl (n + 1) y), Value.slice sy (ks (n + 1) y).length cy] 24))) := Nx.new HN.out hp
        obtain ⟨x0, x1, x2, x3, x4, -, -, -, -, -⟩ := HX.out.box
        clear hp hTy
        go_wp2_with fail
        refine (rId_said _ _ HX.out.nd.rdy).mono ?_
        rintro e w1 ⟨rfl, hb1⟩
        rw [HI.out]
        replace HX : Hid _ := HX.out.step hb1
        clear c0 c1 c2 c3 c4 d0 d1 d2 d3 d4 x0 x1 x2 x3 x4
        obtain ⟨x0, x1, x2, x3, x4, -, -, -, -, -⟩ := HX.out.box
        go_wp2
        go_ret
        exact ⟨ret_bool (by show false = (allF (n + 1) l (colOfP (n + 1)) && (plainF t m && decide (1 ≤ (l.length : Int)) && decide ((l.length : Int) ≤ 32))); unfold allF; rw [HF.out HE.out, Bool.false_and]), HX.out.nd.bel⟩
      | false =>
      have HN0 : Hid (decide (nu (n + 1) y = 0) = true) := by show _ = _; simpa using hn1
      by_cases h1 : (ks (n + 1) y).length = 1
      · obtain ⟨z, hz⟩ := List.length_eq_one_iff.1 h1
        have HEV : Hid (colOfP (n + 1) y = nmeP n z) := by
          show (decide (kd (n + 1) y = 6) && hidF (tx (n + 1) y) (nu (n + 1) y) && areQ n (ks (n + 1) y) [nmeP n]) = _
          unfold hidF
          rw [hz, areQ_cons, areQ_nil, Bool.and_true, HI.out, HK.out, HN0.out]
          simp
        obtain ⟨bz, oz, sz, kz, rfl, ⟨z0, z1, z2, z3, z4⟩, hgz⟩ := kid_one hp hz
        rw [hz, List.length_singleton] at c4
        have HTZ : Hid (Txs n z) := hTy.2 z (by rw [hz]; simp)
        have HX : Hid (Nx w (n + 1) 58 t m a l (some ⟨b, off, none⟩) c wr.heap.size y (some ⟨bz, oz, none⟩) cy (wr.alloc (Obj.cells #[Value.int IntKind.i64 (kd (n + 1) y), Value.string (bsA (tx (n + 1) y)), Value.int IntKind.i64 (nu (n + 1) y), Value.int IntKind.i64 (pl (n + 1) y), Value.slice (some ⟨bz, oz, none⟩) 1 cy] 24))) := by
          have h := Nx.new HN.out hp
          rw [hz, List.length_singleton] at h
          exact h
        have HZ : Hid _ := hz
        obtain ⟨x0, x1, x2, x3, x4, -, -, -, -, -⟩ := HX.out.box
        rw [hz, List.length_singleton] at x4
        clear z0 z1 z2 z3 z4 hgz hp hTy hz h1
        cases hq : nmeP n z with
        | false =>
          have HQ : Hid _ := hq
          clear hq
          have HE : Hid (colOfP (n + 1) y = false) := by show _ = _; rw [HEV.out, HQ.out]
          go_wp2_with fail
          refine (rId_said _ _ HX.out.nd.rdy).mono ?_
          rintro e w1 ⟨rfl, hb1⟩
          rw [HI.out]
          replace HX : Hid _ := HX.out.step hb1
          clear c0 c1 c2 c3 c4 d0 d1 d2 d3 d4 x0 x1 x2 x3 x4
          obtain ⟨x0, x1, x2, x3, x4, -, -, -, -, -⟩ := HX.out.box
          rw [HZ.out, List.length_singleton] at x4
          obtain ⟨bz, oz, sz, kz, ez, ⟨z0, z1, z2, z3, z4⟩, hgz⟩ := kid_one HX.out.kid HZ.out
          cases ez
          go_wp2_with fail
          refine ((rnme_rm2 n _ HX.out.nd.rdy).run _ (Below.refl _ _) z sz kz hgz HTZ.out).mono ?_
          rintro e w2 ⟨rfl, hb1⟩
          rw [HQ.out]
          replace HX : Hid _ := HX.out.step hb1
          clear x0 x1 x2 x3 x4 z0 z1 z2 z3 z4 hgz
          obtain ⟨x0, x1, x2, x3, x4, -, -, -, -, -⟩ := HX.out.box
          go_wp2
          go_ret
          exact ⟨ret_bool (by show false = (allF (n + 1) l (colOfP (n + 1)) && (plainF t m && decide (1 ≤ (l.length : Int)) && decide ((l.length : Int) ≤ 32))); unfold allF; rw [HF.out HE.out, Bool.false_and]), HX.out.nd.bel⟩
        | true =>
          have HQ : Hid _ := hq
          clear hq
          have HE : Hid (colOfP (n + 1) y = true) := by show _ = _; rw [HEV.out, HQ.out]
          go_wp2_with fail
          refine (rId_said _ _ HX.out.nd.rdy).mono ?_
          rintro e w1 ⟨rfl, hb1⟩
          rw [HI.out]
          replace HX : Hid _ := HX.out.step hb1
          clear c0 c1 c2 c3 c4 d0 d1 d2 d3 d4 x0 x1 x2 x3 x4
          obtain ⟨x0, x1, x2, x3, x4, -, -, -, -, -⟩ := HX.out.box
          rw [HZ.out, List.length_singleton] at x4
          obtain ⟨bz, oz, sz, kz, ez, ⟨z0, z1, z2, z3, z4⟩, hgz⟩ := kid_one HX.out.kid HZ.out
          cases ez
          go_wp2_with fail
          refine ((rnme_rm2 n _ HX.out.nd.rdy).run _ (Below.refl _ _) z sz kz hgz HTZ.out).mono ?_
          rintro e w2 ⟨rfl, hb1⟩
          rw [HQ.out]
          replace HX : Hid _ := HX.out.step hb1
          clear x0 x1 x2 x3 x4 z0 z1 z2 z3 z4 hgz
          obtain ⟨x0, x1, x2, x3, x4, -, -, -, -, -⟩ := HX.out.box
          have HG : Hid _ := HG0.out HE.out
          go_wp2
          go_roundw
          case rel => exact ⟨k + 1, by omega, by go_num, HG.out, HX.out.nd⟩
          case measure => simp [intOf]; omega
      · have HE : Hid (colOfP (n + 1) y = false) := by
          show (decide (kd (n + 1) y = 6) && hidF (tx (n + 1) y) (nu (n + 1) y) && areQ n (ks (n + 1) y) [nmeP n]) = _
          rw [areQ_ne _ _ _ (by simpa using h1)]
          simp
        have hl1 : (((ks (n + 1) y).length : Int) != 1) = true := len_nb h1
        clear h1
        have HX : Hid (Nx w (n + 1) 58 t m a l (some ⟨b, off, none⟩) c wr.heap.size y sy cy (wr.alloc (Obj.cells #[Value.int IntKind.i64 (kd (n + 1) y), Value.string (bsA (tx (n + 1) y)), Value.int IntKind.i64 (nu (n + 1) y), Value.int IntKind.i64 (pl (n + 1) y), Value.slice sy (ks (n + 1) y).length cy] 24))) := Nx.new HN.out hp
        obtain ⟨x0, x1, x2, x3, x4, -, -, -, -, -⟩ := HX.out.box
        clear hp hTy
        go_wp2_with fail
        refine (rId_said _ _ HX.out.nd.rdy).mono ?_
        rintro e w1 ⟨rfl, hb1⟩
        rw [HI.out]
        replace HX : Hid _ := HX.out.step hb1
        clear c0 c1 c2 c3 c4 d0 d1 d2 d3 d4 x0 x1 x2 x3 x4
        obtain ⟨x0, x1, x2, x3, x4, -, -, -, -, -⟩ := HX.out.box
        go_wp2
        go_ret
        exact ⟨ret_bool (by show false = (allF (n + 1) l (colOfP (n + 1)) && (plainF t m && decide (1 ≤ (l.length : Int)) && decide ((l.length : Int) ≤ 32))); unfold allF; rw [HF.out HE.out, Bool.false_and]), HX.out.nd.bel⟩
    · have HX : Hid (l.all (colOfP (n + 1)) = true) := by
        show _ = _
        rw [← HV.out, List.take_of_length_le hge]
      go_wp2_with (go_at_call 70; refine (rplain_any (n + 1) _ _ _ _ l _ _ _ HN.out.rdy HN.out.kids).mono ?_; rintro e w1 ⟨rfl, hb1⟩; clear d0 d1 d2 d3 d4; replace HN : Hid _ := HN.out.step hb1; obtain ⟨d0, d1, d2, d3, d4, -, -, -, -, -⟩ := HN.out.box)
      all_goals (go_ret; refine ⟨?_, HN.out.bel⟩; unfold allF; rw [HX.out]; first | (simp_all; done) | (simp_all; intros; omega))
theorem rctx_58e (n : Nat) (t : List UInt8) (m a : Int) (s : Option Addr) (c : Nat) (w : World) (hR : Rdy w) (hl : KsG w n s c []) :
    Calls Tryz.prog 75 #[.agg #[.int .i64 58, .string (bsA t), .int .i64 m, .int .i64 a, .slice s 0 c]] w fun e w' => e = .returned (.bool (false)) ∧ Below w.heap.size w w' := by
  have HN : Hid (Nd w n 58 t m a [] s c (w.alloc (Obj.cells #[Value.int IntKind.i64 58, Value.string (bsA t), Value.int IntKind.i64 m, Value.int IntKind.i64 a, Value.slice s 0 c] 24))) := Nd.new w n _ t _ a [] s c hR hl
  obtain ⟨d0, d1, d2, d3, d4, -, -, -, -, -⟩ := HN.out.box
  clear hl hR
  go_enter Tryz.func75, Tryz.ntmps75
  go_wp2
  refine wp_loop_rounds 1 ?_
  rw [rounds_succ]
  go_wp2_with (first | (go_at_call 70; (refine (rplain_any n _ _ _ _ [] _ _ _ HN.out.rdy HN.out.kids).mono ?_; rintro e w1 ⟨rfl, hb1⟩; clear d0 d1 d2 d3 d4; replace HN : Hid _ := HN.out.step hb1; obtain ⟨d0, d1, d2, d3, d4, -, -, -, -, -⟩ := HN.out.box)))
  all_goals (go_ret; exact ⟨rfl, HN.out.bel⟩)
def tnE (n : Nat) (y : Tr n) : Bool := !decide (tx n y = [])
theorem rctx_59 (n : Nat) (t : List UInt8) (m a : Int) (l : List (Tr n)) (b off c : Nat) (w : World) (hR : Rdy w) (hl : KsG w n (some ⟨b, off, none⟩) c l) (hT : ∀ y ∈ l, Txs n y) (qm : Bool) (gm : (m == 0) = qm) :
    Calls Tryz.prog 75 #[.agg #[.int .i64 59, .string (bsA t), .int .i64 m, .int .i64 a, .slice (some ⟨b, off, none⟩) l.length c]] w fun e w' => e = .returned (.bool (allF n l (tnE n) && (idC t && qm && listF n 28 [] 0 l 1 32 (itmP n)))) ∧ Below w.heap.size w w' := by
  have HN : Hid (Nd w n 59 t m a l (some ⟨b, off, none⟩) c (w.alloc (Obj.cells #[Value.int IntKind.i64 59, Value.string (bsA t), Value.int IntKind.i64 m, Value.int IntKind.i64 a, Value.slice (some ⟨b, off, none⟩) l.length c] 24))) := Nd.new w n 59 t m a l _ c hR hl
  obtain ⟨d0, d1, d2, d3, d4, -, -, -, -, -⟩ := HN.out.box
  have HT : Hid (∀ y ∈ l, Txs n y) := hT
  have hlen : l.length ≤ 9223372036854775807 := hl.1
  have hA2 : Below (w.alloc (Obj.cells #[Value.int IntKind.i64 59, Value.string (bsA t), Value.int IntKind.i64 m, Value.int IntKind.i64 a, Value.slice (some ⟨b, off, none⟩) l.length c] 24)).heap.size (w.alloc (Obj.cells #[Value.int IntKind.i64 59, Value.string (bsA t), Value.int IntKind.i64 m, Value.int IntKind.i64 a, Value.slice (some ⟨b, off, none⟩) l.length c] 24)) ((w.alloc (Obj.cells #[Value.int IntKind.i64 59, Value.string (bsA t), Value.int IntKind.i64 m, Value.int IntKind.i64 a, Value.slice (some ⟨b, off, none⟩) l.length c] 24)).alloc (Obj.cells #[Value.int IntKind.i64 28, Value.string { data := #[] }, Value.int IntKind.i64 0, Value.int IntKind.i64 0, Value.slice (some ⟨b, off, none⟩) l.length c] 24)) := (Below.refl _ _).alloc (Nat.le_refl _) _
  have hB2 := Box5.new (w.alloc (Obj.cells #[Value.int IntKind.i64 59, Value.string (bsA t), Value.int IntKind.i64 m, Value.int IntKind.i64 a, Value.slice (some ⟨b, off, none⟩) l.length c] 24)) (.int .i64 28) (.string ⟨#[]⟩) (.int .i64 0) (.int .i64 0) (.slice (some ⟨b, off, none⟩) l.length c) 24
  rw [World.size_alloc] at hB2
  have HB2 : Hid (Box5 ((w.alloc (Obj.cells #[Value.int IntKind.i64 59, Value.string (bsA t), Value.int IntKind.i64 m, Value.int IntKind.i64 a, Value.slice (some ⟨b, off, none⟩) l.length c] 24)).alloc (Obj.cells #[Value.int IntKind.i64 28, Value.string { data := #[] }, Value.int IntKind.i64 0, Value.int IntKind.i64 0, Value.slice (some ⟨b, off, none⟩) l.length c] 24)) (w.heap.size + 1) (.int .i64 28) (.string ⟨#[]⟩) (.int .i64 0) (.int .i64 0) (.slice (some ⟨b, off, none⟩) l.length c)) := hB2
  have HN2 : Hid (Nd w n 59 t m a l (some ⟨b, off, none⟩) c ((w.alloc (Obj.cells #[Value.int IntKind.i64 59, Value.string (bsA t), Value.int IntKind.i64 m, Value.int IntKind.i64 a, Value.slice (some ⟨b, off, none⟩) l.length c] 24)).alloc (Obj.cells #[Value.int IntKind.i64 28, Value.string { data := #[] }, Value.int IntKind.i64 0, Value.int IntKind.i64 0, Value.slice (some ⟨b, off, none⟩) l.length c] 24))) := HN.out.step hA2
  clear hA2 hB2
  clear hl hR hT
  go_enter Tryz.func75, Tryz.ntmps75
  go_wp2
  clear d0 d1 d2 d3 d4
  go_loopw [6] (fun i wr => ∃ k : Nat, k ≤ l.length ∧ i = .int .i64 k ∧ (l.take k).all (tnE n) = true ∧ Nd w n 59 t m a l (some ⟨b, off, none⟩) c wr ∧ Box5 wr (w.heap.size + 1) (.int .i64 28) (.string ⟨#[]⟩) (.int .i64 0) (.int .i64 0) (.slice (some ⟨b, off, none⟩) l.length c)) (fun i _ => l.length - (intOf i).toNat)
  case atStart => exact ⟨0, Nat.zero_le _, rfl, rfl, HN2.out, HB2.out⟩
  case round =>
    obtain ⟨k, hk, rfl, hV, hN, hBx⟩ := hrel
    have HV : Hid ((l.take k).all (tnE n) = true) := hV
    replace HN : Hid (Nd w n 59 t m a l (some ⟨b, off, none⟩) c wr) := hN
    obtain ⟨d0, d1, d2, d3, d4, -, -, -, -, -⟩ := HN.out.box
    have HB3 : Hid _ := hBx
    clear hV hN hBx HN2 HB2
    rcases Nat.lt_or_ge k l.length with hlt | hge
    · obtain ⟨y, gy⟩ : ∃ y, l[k]? = some y := ⟨_, List.getElem?_eq_getElem hlt⟩
      have HGY : Hid _ := gy
      obtain ⟨sy, cy, ⟨c0, c1, c2, c3, c4⟩, hp⟩ := HN.out.kids.kid k y gy
      have hTy := HT.out y (List.mem_of_getElem? gy)
      have HF : Hid ((tnE n) y = false → l.all (tnE n) = false) := fun h => by
        rw [List.all_eq_false]
        exact ⟨y, List.mem_of_getElem? gy, by rw [h]; simp⟩
      have HG0 : Hid ((tnE n) y = true → (l.take (k + 1)).all (tnE n) = true) := fun h => by rw [all_snoc (tnE n) gy, HV.out, h]; rfl
      clear HV gy
      by_cases h3 : tx n y = []
      · have gt : ((bsA (tx n y)).toList == []) = true := by rw [bsA_tl, h3]; rfl
        have HE : Hid (tnE n y = false) := by
          show (!decide (tx n y = [])) = _
          rw [decide_eq_true h3]
          rfl
        clear h3 hp hTy
        go_wp2
        go_ret
        exact ⟨ret_bool (by show false = (allF n l (tnE n) && (idC t && qm && listF n 28 [] 0 l 1 32 (itmP n))); unfold allF; rw [HF.out HE.out, Bool.false_and]), HN.out.bel⟩
      · have gt : ((bsA (tx n y)).toList == []) = false := by rw [bsA_tl, beqL]; exact decide_eq_false h3
        have HE : Hid (tnE n y = true) := by
          show (!decide (tx n y = [])) = _
          rw [decide_eq_false h3]
          rfl
        clear h3 hp hTy
        have HG : Hid _ := HG0.out HE.out
        go_wp2
        go_roundw
        case rel => exact ⟨k + 1, by omega, by go_num, HG.out, HN.out, HB3.out⟩
        case measure => simp [intOf]; omega
    · have HX : Hid (l.all (tnE n) = true) := by
        show _ = _
        rw [← HV.out, List.take_of_length_le hge]
      obtain ⟨x0, x1, x2, x3, x4, -, -, -, -, -⟩ := HB3.out
      go_wp2_with (first | (go_at_call 65; refine (rId_said _ _ HN.out.rdy).mono ?_; rintro e w1 ⟨rfl, hb1⟩; clear d0 d1 d2 d3 d4 x0 x1 x2 x3 x4; replace HB3 : Hid _ := HB3.out.below hb1; replace HN : Hid _ := HN.out.step hb1; obtain ⟨d0, d1, d2, d3, d4, -, -, -, -, -⟩ := HN.out.box; obtain ⟨x0, x1, x2, x3, x4, -, -, -, -, -⟩ := HB3.out) | (go_at_call 79; refine (rlist_21_any 1 n 28 [] 0 0 l _ _ _ HN.out.rdy HN.out.kids HT.out).mono ?_; rintro e w1 ⟨rfl, hb1⟩; clear d0 d1 d2 d3 d4 x0 x1 x2 x3 x4; replace HB3 : Hid _ := HB3.out.below hb1; replace HN : Hid _ := HN.out.step hb1; obtain ⟨d0, d1, d2, d3, d4, -, -, -, -, -⟩ := HN.out.box; obtain ⟨x0, x1, x2, x3, x4, -, -, -, -, -⟩ := HB3.out))
      all_goals (go_ret; refine ⟨?_, HN.out.bel⟩; unfold allF; rw [HX.out]; first | (simp_all; done) | (simp_all; intros; omega))
theorem rctx_59e (n : Nat) (t : List UInt8) (m a : Int) (s : Option Addr) (c : Nat) (w : World) (hR : Rdy w) (hl : KsG w n s c []) (qm : Bool) (gm : (m == 0) = qm) :
    Calls Tryz.prog 75 #[.agg #[.int .i64 59, .string (bsA t), .int .i64 m, .int .i64 a, .slice s 0 c]] w fun e w' => e = .returned (.bool (false)) ∧ Below w.heap.size w w' := by
  have HN0 : Hid (Nd w n 59 t m a [] s c (w.alloc (Obj.cells #[Value.int IntKind.i64 59, Value.string (bsA t), Value.int IntKind.i64 m, Value.int IntKind.i64 a, Value.slice s 0 c] 24))) := Nd.new w n _ t _ a [] s c hR hl
  obtain ⟨d0, d1, d2, d3, d4, -, -, -, -, -⟩ := HN0.out.box
  have hA2 : Below (w.alloc (Obj.cells #[Value.int IntKind.i64 59, Value.string (bsA t), Value.int IntKind.i64 m, Value.int IntKind.i64 a, Value.slice s 0 c] 24)).heap.size (w.alloc (Obj.cells #[Value.int IntKind.i64 59, Value.string (bsA t), Value.int IntKind.i64 m, Value.int IntKind.i64 a, Value.slice s 0 c] 24)) ((w.alloc (Obj.cells #[Value.int IntKind.i64 59, Value.string (bsA t), Value.int IntKind.i64 m, Value.int IntKind.i64 a, Value.slice s 0 c] 24)).alloc (Obj.cells #[Value.int IntKind.i64 28, Value.string { data := #[] }, Value.int IntKind.i64 0, Value.int IntKind.i64 0, Value.slice s 0 c] 24)) := (Below.refl _ _).alloc (Nat.le_refl _) _
  have hB2 := Box5.new (w.alloc (Obj.cells #[Value.int IntKind.i64 59, Value.string (bsA t), Value.int IntKind.i64 m, Value.int IntKind.i64 a, Value.slice s 0 c] 24)) (.int .i64 28) (.string ⟨#[]⟩) (.int .i64 0) (.int .i64 0) (.slice s 0 c) 24
  rw [World.size_alloc] at hB2
  have HB3 : Hid (Box5 ((w.alloc (Obj.cells #[Value.int IntKind.i64 59, Value.string (bsA t), Value.int IntKind.i64 m, Value.int IntKind.i64 a, Value.slice s 0 c] 24)).alloc (Obj.cells #[Value.int IntKind.i64 28, Value.string { data := #[] }, Value.int IntKind.i64 0, Value.int IntKind.i64 0, Value.slice s 0 c] 24)) (w.heap.size + 1) (.int .i64 28) (.string ⟨#[]⟩) (.int .i64 0) (.int .i64 0) (.slice s 0 c)) := hB2
  have HN : Hid (Nd w n 59 t m a [] s c ((w.alloc (Obj.cells #[Value.int IntKind.i64 59, Value.string (bsA t), Value.int IntKind.i64 m, Value.int IntKind.i64 a, Value.slice s 0 c] 24)).alloc (Obj.cells #[Value.int IntKind.i64 28, Value.string { data := #[] }, Value.int IntKind.i64 0, Value.int IntKind.i64 0, Value.slice s 0 c] 24))) := HN0.out.step hA2
  clear hA2 hB2 hl hR HN0
  go_enter Tryz.func75, Tryz.ntmps75
  go_wp2
  clear d0 d1 d2 d3 d4
  obtain ⟨d0, d1, d2, d3, d4, -, -, -, -, -⟩ := HN.out.box
  obtain ⟨x0, x1, x2, x3, x4, -, -, -, -, -⟩ := HB3.out
  refine wp_loop_rounds 1 ?_
  rw [rounds_succ]
  go_wp2_with (first | (go_at_call 65; refine (rId_said _ _ HN.out.rdy).mono ?_; rintro e w1 ⟨rfl, hb1⟩; clear d0 d1 d2 d3 d4 x0 x1 x2 x3 x4; replace HB3 : Hid _ := HB3.out.below hb1; replace HN : Hid _ := HN.out.step hb1; obtain ⟨d0, d1, d2, d3, d4, -, -, -, -, -⟩ := HN.out.box; obtain ⟨x0, x1, x2, x3, x4, -, -, -, -, -⟩ := HB3.out) | (go_at_call 79; refine (rlist_21_any 1 n 28 [] 0 0 [] _ _ _ HN.out.rdy HN.out.kids (by simp)).mono ?_; rintro e w1 ⟨rfl, hb1⟩; clear d0 d1 d2 d3 d4 x0 x1 x2 x3 x4; replace HB3 : Hid _ := HB3.out.below hb1; replace HN : Hid _ := HN.out.step hb1; obtain ⟨d0, d1, d2, d3, d4, -, -, -, -, -⟩ := HN.out.box; obtain ⟨x0, x1, x2, x3, x4, -, -, -, -, -⟩ := HB3.out))
  all_goals (go_ret; exact ⟨by simp_all [listF, manyP], HN.out.bel⟩)
theorem rctx_60f (n : Nat) (t : List UInt8) (m a : Int) (y0 y1 : Tr n) (b off c : Nat) (w : World) (hR : Rdy w) (hl : KsG w n (some ⟨b, off, none⟩) c [y0, y1]) (hT : ∀ y ∈ [y0, y1], Txs n y) (ht : ((bsA t).toList == []) = true) (hb : bitF m = true) (ha : nlsP n y0 = false) :
    Calls Tryz.prog 75 #[.agg #[.int .i64 60, .string (bsA t), .int .i64 m, .int .i64 a, .slice (some ⟨b, off, none⟩) 2 c]] w fun e w' => e = .returned (.bool (false)) ∧ Below w.heap.size w w' := by
  have HN : Hid (Nd w n 60 t m a [y0, y1] (some ⟨b, off, none⟩) c (w.alloc (Obj.cells #[Value.int IntKind.i64 60, Value.string (bsA t), Value.int IntKind.i64 m, Value.int IntKind.i64 a, Value.slice (some ⟨b, off, none⟩) 2 c] 24))) := Nd.new w n 60 t m a [y0, y1] (some ⟨b, off, none⟩) c hR hl
  obtain ⟨d0, d1, d2, d3, d4, -, -, -, -, -⟩ := HN.out.box
  obtain ⟨s0, k0, ⟨c0, c1, c2, c3, c4⟩, hg0⟩ := HN.out.kids.kid 0 y0 rfl
  simp only [Nat.reduceMul, Nat.add_zero, Nat.reduceAdd, Nat.add_assoc, Nat.zero_mul] at c0 c1 c2 c3 c4
  obtain ⟨s1, k1, ⟨e0, e1, e2, e3, e4⟩, hg1⟩ := HN.out.kids.kid 1 y1 rfl
  simp only [Nat.reduceMul, Nat.add_zero, Nat.reduceAdd, Nat.add_assoc, Nat.zero_mul] at e0 e1 e2 e3 e4
  have HT : Hid (∀ y ∈ [y0, y1], Txs n y) := hT
  clear hl hR hT
  have HB : Hid _ := hb
  have HA : Hid _ := ha
  clear hb ha
  go_enter Tryz.func75, Tryz.ntmps75
  go_wp2_with (first | (go_at_call 69; refine (rbit_any n _ _ _ _ [y0, y1] _ _ _ HN.out.rdy HN.out.kids).mono ?_; rintro e w1 ⟨rfl, hb1⟩; rw [HB.out]; clear c0 c1 c2 c3 c4 hg0; clear e0 e1 e2 e3 e4 hg1; clear d0 d1 d2 d3 d4; replace HN : Hid _ := HN.out.step hb1; obtain ⟨d0, d1, d2, d3, d4, -, -, -, -, -⟩ := HN.out.box; obtain ⟨s0, k0, ⟨c0, c1, c2, c3, c4⟩, hg0⟩ := HN.out.kids.kid 0 y0 rfl; simp only [Nat.reduceMul, Nat.add_zero, Nat.reduceAdd, Nat.add_assoc, Nat.zero_mul] at c0 c1 c2 c3 c4; obtain ⟨s1, k1, ⟨e0, e1, e2, e3, e4⟩, hg1⟩ := HN.out.kids.kid 1 y1 rfl; simp only [Nat.reduceMul, Nat.add_zero, Nat.reduceAdd, Nat.add_assoc, Nat.zero_mul] at e0 e1 e2 e3 e4) | (go_at_call 114; refine ((rnls_rm n _ HN.out.rdy).run _ (Below.refl _ _) y0 s0 k0 hg0 (HT.out y0 (by simp))).mono ?_; rintro e w1 ⟨rfl, hb1⟩; rw [HA.out]; clear c0 c1 c2 c3 c4 hg0; clear e0 e1 e2 e3 e4 hg1; clear d0 d1 d2 d3 d4; replace HN : Hid _ := HN.out.step hb1; obtain ⟨d0, d1, d2, d3, d4, -, -, -, -, -⟩ := HN.out.box; obtain ⟨s0, k0, ⟨c0, c1, c2, c3, c4⟩, hg0⟩ := HN.out.kids.kid 0 y0 rfl; simp only [Nat.reduceMul, Nat.add_zero, Nat.reduceAdd, Nat.add_assoc, Nat.zero_mul] at c0 c1 c2 c3 c4; obtain ⟨s1, k1, ⟨e0, e1, e2, e3, e4⟩, hg1⟩ := HN.out.kids.kid 1 y1 rfl; simp only [Nat.reduceMul, Nat.add_zero, Nat.reduceAdd, Nat.add_assoc, Nat.zero_mul] at e0 e1 e2 e3 e4))
  all_goals (go_ret; exact ⟨rfl, HN.out.bel⟩)
theorem rctx_60t (n : Nat) (t : List UInt8) (m a : Int) (y0 y1 : Tr n) (b off c : Nat) (w : World) (hR : Rdy w) (hl : KsG w n (some ⟨b, off, none⟩) c [y0, y1]) (hT : ∀ y ∈ [y0, y1], Txs n y) (ht : ((bsA t).toList == []) = true) (hb : bitF m = true) (ha : nlsP n y0 = true) (qk : Bool) (gk : (kd n y1 == 36) = qk) :
    Calls Tryz.prog 75 #[.agg #[.int .i64 60, .string (bsA t), .int .i64 m, .int .i64 a, .slice (some ⟨b, off, none⟩) 2 c]] w fun e w' => e = .returned (.bool (nlsP n y1 || qk && patP n y1 && decide (1 ≤ nu n y1))) ∧ Below w.heap.size w w' := by
  have HN : Hid (Nd w n 60 t m a [y0, y1] (some ⟨b, off, none⟩) c (w.alloc (Obj.cells #[Value.int IntKind.i64 60, Value.string (bsA t), Value.int IntKind.i64 m, Value.int IntKind.i64 a, Value.slice (some ⟨b, off, none⟩) 2 c] 24))) := Nd.new w n 60 t m a [y0, y1] (some ⟨b, off, none⟩) c hR hl
  obtain ⟨d0, d1, d2, d3, d4, -, -, -, -, -⟩ := HN.out.box
  obtain ⟨s0, k0, ⟨c0, c1, c2, c3, c4⟩, hg0⟩ := HN.out.kids.kid 0 y0 rfl
  simp only [Nat.reduceMul, Nat.add_zero, Nat.reduceAdd, Nat.add_assoc, Nat.zero_mul] at c0 c1 c2 c3 c4
  obtain ⟨s1, k1, ⟨e0, e1, e2, e3, e4⟩, hg1⟩ := HN.out.kids.kid 1 y1 rfl
  simp only [Nat.reduceMul, Nat.add_zero, Nat.reduceAdd, Nat.add_assoc, Nat.zero_mul] at e0 e1 e2 e3 e4
  have HT : Hid (∀ y ∈ [y0, y1], Txs n y) := hT
  clear hl hR hT
  have HB : Hid _ := hb
  have HA : Hid _ := ha
  clear hb ha
  go_enter Tryz.func75, Tryz.ntmps75
  go_wp2_with (go_at_call 69; refine (rbit_any n _ _ _ _ [y0, y1] _ _ _ HN.out.rdy HN.out.kids).mono ?_; rintro e w1 ⟨rfl, hb1⟩; rw [HB.out]; clear c0 c1 c2 c3 c4 hg0; clear e0 e1 e2 e3 e4 hg1; clear d0 d1 d2 d3 d4; replace HN : Hid _ := HN.out.step hb1; obtain ⟨d0, d1, d2, d3, d4, -, -, -, -, -⟩ := HN.out.box; obtain ⟨s0, k0, ⟨c0, c1, c2, c3, c4⟩, hg0⟩ := HN.out.kids.kid 0 y0 rfl; simp only [Nat.reduceMul, Nat.add_zero, Nat.reduceAdd, Nat.add_assoc, Nat.zero_mul] at c0 c1 c2 c3 c4; obtain ⟨s1, k1, ⟨e0, e1, e2, e3, e4⟩, hg1⟩ := HN.out.kids.kid 1 y1 rfl; simp only [Nat.reduceMul, Nat.add_zero, Nat.reduceAdd, Nat.add_assoc, Nat.zero_mul] at e0 e1 e2 e3 e4)
  refine ((rnls_rm n _ HN.out.rdy).run _ (Below.refl _ _) y0 s0 k0 hg0 (HT.out y0 (by simp))).mono ?_
  rintro e w1 ⟨rfl, hb1⟩
  rw [HA.out]
  clear c0 c1 c2 c3 c4 hg0
  clear e0 e1 e2 e3 e4 hg1
  clear d0 d1 d2 d3 d4
  replace HN : Hid _ := HN.out.step hb1
  obtain ⟨d0, d1, d2, d3, d4, -, -, -, -, -⟩ := HN.out.box
  obtain ⟨s0, k0, ⟨c0, c1, c2, c3, c4⟩, hg0⟩ := HN.out.kids.kid 0 y0 rfl
  simp only [Nat.reduceMul, Nat.add_zero, Nat.reduceAdd, Nat.add_assoc, Nat.zero_mul] at c0 c1 c2 c3 c4
  obtain ⟨s1, k1, ⟨e0, e1, e2, e3, e4⟩, hg1⟩ := HN.out.kids.kid 1 y1 rfl
  simp only [Nat.reduceMul, Nat.add_zero, Nat.reduceAdd, Nat.add_assoc, Nat.zero_mul] at e0 e1 e2 e3 e4
  have HX : Hid (Nx w n 60 t m a [y0, y1] (some ⟨b, off, none⟩) c w1.heap.size y1 s1 k1 (w1.alloc (Obj.cells #[Value.int IntKind.i64 (kd n y1), Value.string (bsA (tx n y1)), Value.int IntKind.i64 (nu n y1), Value.int IntKind.i64 (pl n y1), Value.slice s1 (ks n y1).length k1] 24))) := Nx.new HN.out hg1
  obtain ⟨x0, x1, x2, x3, x4, -, -, -, -, -⟩ := HX.out.box
  clear hg0 hb1
  go_wp2_with fail
  refine ((rnls_rm n _ HX.out.nd.rdy).run _ (Below.refl _ _) y1 s1 k1 HX.out.kid (HT.out y1 (by simp))).mono ?_
  rintro e w2 ⟨rfl, hb1⟩
  replace HX : Hid (Nx w n 60 t m a [y0, y1] (some ⟨b, off, none⟩) c w1.heap.size y1 s1 k1 w2) := HX.out.step hb1
  clear x0 x1 x2 x3 x4 hb1 HN d0 d1 d2 d3 d4 c0 c1 c2 c3 c4 e0 e1 e2 e3 e4 hg1
  obtain ⟨bx, hbx⟩ : ∃ bx, bx = w1.heap.size := ⟨_, rfl⟩
  rw [← hbx] at HX ⊢
  clear hbx
  obtain ⟨x0, x1, x2, x3, x4, -, -, -, -, -⟩ := HX.out.box
  go_wp2_with (go_at_call 27; refine ((rpat_rm n _ HX.out.nd.rdy).run _ (Below.refl _ _) y1 s1 k1 HX.out.kid (HT.out y1 (by simp))).mono ?_; rintro e w3 ⟨rfl, hb1⟩; clear x0 x1 x2 x3 x4; replace HX : Hid _ := HX.out.step hb1; obtain ⟨x0, x1, x2, x3, x4, -, -, -, -, -⟩ := HX.out.box)
  all_goals (go_ret; refine ⟨?_, HX.out.nd.bel⟩; first | (simp_all; done) | (simp_all; intros; omega))
theorem rctx_60n (n : Nat) (t : List UInt8) (m a : Int) (l : List (Tr n)) (s : Option Addr) (c : Nat) (w : World) (hR : Rdy w) (hl : KsG w n s c l) (ht : ((bsA t).toList == []) = true) (hb : bitF m = true) (g2 : ((l.length : Int) != 2) = true) :
    Calls Tryz.prog 75 #[.agg #[.int .i64 60, .string (bsA t), .int .i64 m, .int .i64 a, .slice s l.length c]] w fun e w' => e = .returned (.bool (false)) ∧ Below w.heap.size w w' := by
  have HN : Hid (Nd w n 60 t m a l s c (w.alloc (Obj.cells #[Value.int IntKind.i64 60, Value.string (bsA t), Value.int IntKind.i64 m, Value.int IntKind.i64 a, Value.slice s l.length c] 24))) := Nd.new w n _ t _ a l s c hR hl
  obtain ⟨d0, d1, d2, d3, d4, -, -, -, -, -⟩ := HN.out.box
  have HB : Hid _ := hb
  clear hb
  clear hl hR
  go_enter Tryz.func75, Tryz.ntmps75
  go_wp2_with (first | (go_at_call 69; refine (rbit_any n _ _ _ _ l _ _ _ HN.out.rdy HN.out.kids).mono ?_; rintro e w1 ⟨rfl, hb1⟩; rw [HB.out]; clear d0 d1 d2 d3 d4; replace HN : Hid _ := HN.out.step hb1; obtain ⟨d0, d1, d2, d3, d4, -, -, -, -, -⟩ := HN.out.box))
  all_goals (go_ret; exact ⟨rfl, HN.out.bel⟩)
theorem rctx_60b (n : Nat) (t : List UInt8) (m a : Int) (l : List (Tr n)) (s : Option Addr) (c : Nat) (w : World) (hR : Rdy w) (hl : KsG w n s c l) (ht : ((bsA t).toList == []) = true) (hb : bitF m = false) :
    Calls Tryz.prog 75 #[.agg #[.int .i64 60, .string (bsA t), .int .i64 m, .int .i64 a, .slice s l.length c]] w fun e w' => e = .returned (.bool (false)) ∧ Below w.heap.size w w' := by
  have HN : Hid (Nd w n 60 t m a l s c (w.alloc (Obj.cells #[Value.int IntKind.i64 60, Value.string (bsA t), Value.int IntKind.i64 m, Value.int IntKind.i64 a, Value.slice s l.length c] 24))) := Nd.new w n _ t _ a l s c hR hl
  obtain ⟨d0, d1, d2, d3, d4, -, -, -, -, -⟩ := HN.out.box
  have HB : Hid _ := hb
  clear hb
  clear hl hR
  go_enter Tryz.func75, Tryz.ntmps75
  go_wp2_with (first | (go_at_call 69; refine (rbit_any n _ _ _ _ l _ _ _ HN.out.rdy HN.out.kids).mono ?_; rintro e w1 ⟨rfl, hb1⟩; rw [HB.out]; clear d0 d1 d2 d3 d4; replace HN : Hid _ := HN.out.step hb1; obtain ⟨d0, d1, d2, d3, d4, -, -, -, -, -⟩ := HN.out.box))
  all_goals (go_ret; exact ⟨rfl, HN.out.bel⟩)
theorem rctx_60s (n : Nat) (t : List UInt8) (m a : Int) (l : List (Tr n)) (s : Option Addr) (c : Nat) (w : World) (hR : Rdy w) (hl : KsG w n s c l) (ht : ((bsA t).toList == []) = false) :
    Calls Tryz.prog 75 #[.agg #[.int .i64 60, .string (bsA t), .int .i64 m, .int .i64 a, .slice s l.length c]] w fun e w' => e = .returned (.bool (false)) ∧ Below w.heap.size w w' := by
  have HN : Hid (Nd w n 60 t m a l s c (w.alloc (Obj.cells #[Value.int IntKind.i64 60, Value.string (bsA t), Value.int IntKind.i64 m, Value.int IntKind.i64 a, Value.slice s l.length c] 24))) := Nd.new w n _ t _ a l s c hR hl
  obtain ⟨d0, d1, d2, d3, d4, -, -, -, -, -⟩ := HN.out.box
  clear hl hR
  go_enter Tryz.func75, Tryz.ntmps75
  go_wp2_with (first | fail)
  all_goals (go_ret; exact ⟨rfl, HN.out.bel⟩)
theorem rctx_x (n : Nat) (k : Int) (t : List UInt8) (m a : Int) (l : List (Tr n)) (s : Option Addr) (c : Nat) (w : World) (hR : Rdy w) (hl : KsG w n s c l) (h58 : (k == 58) = false) (h59 : (k == 59) = false) (h60 : (k == 60) = false) :
    Calls Tryz.prog 75 #[.agg #[.int .i64 k, .string (bsA t), .int .i64 m, .int .i64 a, .slice s l.length c]] w fun e w' => e = .returned (.bool (false)) ∧ Below w.heap.size w w' := by
  have HN : Hid (Nd w n k t m a l s c (w.alloc (Obj.cells #[Value.int IntKind.i64 k, Value.string (bsA t), Value.int IntKind.i64 m, Value.int IntKind.i64 a, Value.slice s l.length c] 24))) := Nd.new w n _ t _ a l s c hR hl
  obtain ⟨d0, d1, d2, d3, d4, -, -, -, -, -⟩ := HN.out.box
  clear hl hR
  go_enter Tryz.func75, Tryz.ntmps75
  go_wp2_with (first | fail)
  all_goals (go_ret; exact ⟨rfl, HN.out.bel⟩)
theorem all_two {α : Type} (p q : α → Bool) (l : List α) : (l.all fun y => p y && q y) = (l.all p && l.all q) := by
  induction l with
  | nil => rfl
  | cons y l ih =>
    rw [List.all_cons, List.all_cons, List.all_cons, ih]
    cases p y <;> cases q y <;> simp
theorem rctx_60 (n : Nat) (t : List UInt8) (m a : Int) (y0 y1 : Tr n) (b off c : Nat) (w : World) (hR : Rdy w) (hl : KsG w n (some ⟨b, off, none⟩) c [y0, y1]) (hT : ∀ y ∈ [y0, y1], Txs n y) (ht : ((bsA t).toList == []) = true) (hb : bitF m = true) :
    Calls Tryz.prog 75 #[.agg #[.int .i64 60, .string (bsA t), .int .i64 m, .int .i64 a, .slice (some ⟨b, off, none⟩) 2 c]] w fun e w' => e = .returned (.bool (nlsP n y0 && eitP n (nlsP n) (ebtP n) y1)) ∧ Below w.heap.size w w' := by
  cases ha : nlsP n y0 with
  | false => exact rctx_60f n t m a y0 y1 b off c w hR hl hT ht hb ha
  | true =>
    have h := rctx_60t n t m a y0 y1 b off c w hR hl hT ht hb ha _ rfl
    have e : eitP n (nlsP n) (ebtP n) y1 = (nlsP n y1 || (kd n y1 == 36) && patP n y1 && decide (1 ≤ nu n y1)) := by
      cases n with
      | zero => exact Empty.elim y0
      | succ n =>
        have e1 : ebtP (n + 1) y1 = (decide (kd (n + 1) y1 = 36) && decide (0 < nu (n + 1) y1) && paF n 36 (tx (n + 1) y1) (nu (n + 1) y1) (ks (n + 1) y1) (patP n) (notP n)) := rfl
        have e2 : patP (n + 1) y1 = paF n (kd (n + 1) y1) (tx (n + 1) y1) (nu (n + 1) y1) (ks (n + 1) y1) (patP n) (notP n) := rfl
        have e3 : decide (0 < nu (n + 1) y1) = decide (1 ≤ nu (n + 1) y1) := decide_eq_decide.2 (by omega)
        unfold eitP
        rw [e1, e2, e3, beqI]
        by_cases hk : kd (n + 1) y1 = 36
        · rw [hk, decide_eq_true rfl, Bool.true_and, Bool.true_and, Bool.and_comm (decide (1 ≤ nu (n + 1) y1))]
        · rw [decide_eq_false hk, Bool.false_and, Bool.false_and, Bool.false_and, Bool.false_and]
    rw [e, Bool.true_and]
    exact h
theorem rctx_any (n : Nat) (k : Int) (t : List UInt8) (m a : Int) (l : List (Tr n)) (s : Option Addr) (c : Nat) (w : World) (hR : Rdy w) (hl : KsG w n s c l) (hT : ∀ y ∈ l, Txs n y) : Calls Tryz.prog 75 #[.agg #[.int .i64 k, .string (bsA t), .int .i64 m, .int .i64 a, .slice s l.length c]] w fun e w' => e = .returned (.bool (partF n k t m l)) ∧ Below w.heap.size w w' := by
  unfold partF
  rcases Classical.em (k = 58) with rfl | h58
  · rw [if_pos rfl]
    cases l with
    | nil =>
      have e : (plainF t m && manyP n [] 1 32 (colOfP n)) = false := by unfold manyP; simp
      rw [e]
      exact rctx_58e n t m a s c w hR hl
    | cons y l =>
      obtain ⟨b, off, rfl⟩ := hl.addr
      cases n with
      | zero => exact Empty.elim y
      | succ n =>
        have h := rctx_58 n t m a (y :: l) b off c w hR hl hT
        have e : (plainF t m && manyP (n + 1) (y :: l) 1 32 (colOfP (n + 1))) = (allF (n + 1) (y :: l) (colOfP (n + 1)) && (plainF t m && decide (1 ≤ ((y :: l).length : Int)) && decide (((y :: l).length : Int) ≤ 32))) := by
          unfold manyP allF
          rw [Bool.and_comm ((y :: l).all _)]
          simp only [Bool.and_assoc]
        rw [e]
        exact h
  rw [if_neg h58]
  rcases Classical.em (k = 59) with rfl | h59
  · rw [if_pos rfl]
    cases l with
    | nil =>
      have e : (hidF t m && manyP n [] 1 32 (nitmP n)) = false := by unfold manyP; simp
      rw [e]
      exact rctx_59e n t m a s c w hR hl _ rfl
    | cons y l =>
      obtain ⟨b, off, rfl⟩ := hl.addr
      have h := rctx_59 n t m a (y :: l) b off c w hR hl hT _ rfl
      have e : (hidF t m && manyP n (y :: l) 1 32 (nitmP n)) = (allF n (y :: l) (tnE n) && (idC t && (m == 0) && listF n 28 [] 0 (y :: l) 1 32 (itmP n))) := by
        have e1 : (y :: l).all (nitmP n) = ((y :: l).all (itmP n) && (y :: l).all (tnE n)) := all_two (itmP n) (tnE n) (y :: l)
        have e2 : listF n 28 [] 0 (y :: l) 1 32 (itmP n) = manyP n (y :: l) 1 32 (itmP n) := by
          unfold listF
          rw [show (decide ((28 : Int) = 28) && plainF [] 0) = true from rfl, Bool.true_and]
        rw [e2, beqI]
        unfold manyP allF hidF
        rw [e1, Bool.and_comm ((y :: l).all (tnE n))]
        simp only [Bool.and_assoc]
      rw [e]
      exact h
  rw [if_neg h59]
  rcases Classical.em (k = 60) with rfl | h60
  · rw [if_pos rfl, ← bit_flag]
    by_cases ht : t = []
    · have gt : ((bsA t).toList == []) = true := by rw [bsA_tl, ht]; rfl
      rw [decide_eq_true ht, Bool.true_and]
      cases hb : bitF m with
      | false => exact rctx_60b n t m a l s c w hR hl gt hb
      | true =>
        rw [Bool.true_and]
        by_cases h2 : l.length = 2
        · obtain ⟨y0, y1, rfl⟩ := len2 h2
          obtain ⟨b, off, rfl⟩ := hl.addr
          rw [areQ_cons, areQ_cons, areQ_nil, Bool.and_true]
          exact rctx_60 n t m a y0 y1 b off c w hR hl hT gt hb
        · rw [areQ_ne _ _ _ (by simpa using h2)]
          exact rctx_60n n t m a l s c w hR hl gt hb (len_nb h2)
    · rw [decide_eq_false ht, Bool.false_and, Bool.false_and]
      exact rctx_60s n t m a l s c w hR hl (by rw [bsA_tl, beqL]; exact decide_eq_false ht)
  rw [if_neg h60]
  exact rctx_x n k t m a l s c w hR hl (by simpa using h58) (by simpa using h59) (by simpa using h60)
theorem rctx_rm (n : Nat) (w : World) (hR : Rdy w) : RM 75 n (partP n) w := ⟨fun W hW y s c hy ht => by
  cases n with
  | zero => exact Empty.elim y
  | succ n => exact rctx_any n (kd (n + 1) y) (tx (n + 1) y) (nu (n + 1) y) (pl (n + 1) y) (ks (n + 1) y) s c W (hR.below hW) (NdG.kids hy) ht.2⟩
theorem rstmt_54 (n : Nat) (t : List UInt8) (m : Int) (a : Int) (y0 y1 y2 : Tr n) (b off c : Nat) (w : World) (hR : Rdy w) (hl : KsG w n (some ⟨b, off, none⟩) c [y0, y1, y2]) (hT : ∀ y ∈ [y0, y1, y2], Txs n y) :
    Calls Tryz.prog 28 #[.agg #[.int .i64 54, .string (bsA t), .int .i64 m, .int .i64 a, .slice (some ⟨b, off, none⟩) 3 c]] w fun e w' => e = .returned (.bool (plainF t m && (srcP n y0 && tgtP n y1 && optP n (exprP n) y2))) ∧ Below w.heap.size w w' := by
  have HN : Hid (Nd w n 54 t m a [y0, y1, y2] (some ⟨b, off, none⟩) c (w.alloc (Obj.cells #[Value.int IntKind.i64 54, Value.string (bsA t), Value.int IntKind.i64 m, Value.int IntKind.i64 a, Value.slice (some ⟨b, off, none⟩) 3 c] 24))) := Nd.new w n 54 t m a [y0, y1, y2] (some ⟨b, off, none⟩) c hR hl
  obtain ⟨d0, d1, d2, d3, d4, -, -, -, -, -⟩ := HN.out.box
  obtain ⟨sy, ky, ⟨c0, c1, c2, c3, c4⟩, hgc⟩ := HN.out.kids.kid 0 y0 rfl
  simp only [Nat.reduceMul, Nat.add_zero, Nat.reduceAdd, Nat.add_assoc, Nat.zero_mul] at c0 c1 c2 c3 c4
  have HT : Hid (∀ y ∈ [y0, y1, y2], Txs n y) := hT
  have HM0 : Hid True := trivial
  have HM1 : Hid True := trivial
  have HM2 : Hid True := trivial
  clear hl hR hT
  go_enter Tryz.func28, Tryz.ntmps28
  go_wp2_with (first | (go_at_call 70; refine (rplain_any n _ _ _ _ [y0, y1, y2] _ _ _ HN.out.rdy HN.out.kids).mono ?_; rintro e w1 ⟨rfl, hb1⟩; clear c0 c1 c2 c3 c4 hgc; clear d0 d1 d2 d3 d4; replace HN : Hid _ := HN.out.step hb1; obtain ⟨d0, d1, d2, d3, d4, -, -, -, -, -⟩ := HN.out.box; obtain ⟨sy, ky, ⟨c0, c1, c2, c3, c4⟩, hgc⟩ := HN.out.kids.kid 0 y0 rfl; simp only [Nat.reduceMul, Nat.add_zero, Nat.reduceAdd, Nat.add_assoc, Nat.zero_mul] at c0 c1 c2 c3 c4) | (go_at_call 77; clear HM0; refine ((rsrc_rm n _ HN.out.rdy).run _ (Below.refl _ _) y0 sy ky hgc (HT.out y0 (by simp))).mono ?_; rintro e w1 ⟨rfl, hb1⟩; clear c0 c1 c2 c3 c4 hgc; clear d0 d1 d2 d3 d4; replace HN : Hid _ := HN.out.step hb1; obtain ⟨d0, d1, d2, d3, d4, -, -, -, -, -⟩ := HN.out.box; obtain ⟨sy, ky, ⟨c0, c1, c2, c3, c4⟩, hgc⟩ := HN.out.kids.kid 1 y1 rfl; simp only [Nat.reduceMul, Nat.add_zero, Nat.reduceAdd, Nat.add_assoc, Nat.zero_mul] at c0 c1 c2 c3 c4) | (go_at_call 78; clear HM1; refine ((rtgt_rm n _ HN.out.rdy).run _ (Below.refl _ _) y1 sy ky hgc (HT.out y1 (by simp))).mono ?_; rintro e w1 ⟨rfl, hb1⟩; clear c0 c1 c2 c3 c4 hgc; clear d0 d1 d2 d3 d4; replace HN : Hid _ := HN.out.step hb1; obtain ⟨d0, d1, d2, d3, d4, -, -, -, -, -⟩ := HN.out.box; obtain ⟨sy, ky, ⟨c0, c1, c2, c3, c4⟩, hgc⟩ := HN.out.kids.kid 2 y2 rfl; simp only [Nat.reduceMul, Nat.add_zero, Nat.reduceAdd, Nat.add_assoc, Nat.zero_mul] at c0 c1 c2 c3 c4) | (go_at_call 71; clear HM2; refine ((rexo_rm rId_said n _ HN.out.rdy).run _ (Below.refl _ _) y2 sy ky hgc (HT.out y2 (by simp))).mono ?_; rintro e w1 ⟨rfl, hb1⟩; clear c0 c1 c2 c3 c4 hgc; clear d0 d1 d2 d3 d4; replace HN : Hid _ := HN.out.step hb1; obtain ⟨d0, d1, d2, d3, d4, -, -, -, -, -⟩ := HN.out.box; obtain ⟨sy, ky, ⟨c0, c1, c2, c3, c4⟩, hgc⟩ := HN.out.kids.kid 2 y2 rfl; simp only [Nat.reduceMul, Nat.add_zero, Nat.reduceAdd, Nat.add_assoc, Nat.zero_mul] at c0 c1 c2 c3 c4))
  all_goals (go_ret; exact ⟨by simp_all [bsA_tl, beqI, beqL], HN.out.bel⟩)
theorem rstmt_54n (n : Nat) (t : List UInt8) (m a : Int) (l : List (Tr n)) (s : Option Addr) (c : Nat) (w : World) (hR : Rdy w) (hl : KsG w n s c l) (g1 : ((l.length : Int) == 3) = false) :
    Calls Tryz.prog 28 #[.agg #[.int .i64 54, .string (bsA t), .int .i64 m, .int .i64 a, .slice s l.length c]] w fun e w' => e = .returned (.bool (false)) ∧ Below w.heap.size w w' := by
  have HN : Hid (Nd w n 54 t m a l s c (w.alloc (Obj.cells #[Value.int IntKind.i64 54, Value.string (bsA t), Value.int IntKind.i64 m, Value.int IntKind.i64 a, Value.slice s l.length c] 24))) := Nd.new w n _ t _ a l s c hR hl
  obtain ⟨d0, d1, d2, d3, d4, -, -, -, -, -⟩ := HN.out.box
  clear hl hR
  go_enter Tryz.func28, Tryz.ntmps28
  go_wp2_with (first | (go_at_call 70; (refine (rplain_any n _ _ _ _ l _ _ _ HN.out.rdy HN.out.kids).mono ?_; rintro e w1 ⟨rfl, hb1⟩; clear d0 d1 d2 d3 d4; replace HN : Hid _ := HN.out.step hb1; obtain ⟨d0, d1, d2, d3, d4, -, -, -, -, -⟩ := HN.out.box)))
  all_goals (go_ret; exact ⟨rfl, HN.out.bel⟩)
theorem rstmt_55 (n : Nat) (t : List UInt8) (m : Int) (a : Int) (y0 y1 y2 y3 : Tr n) (b off c : Nat) (w : World) (hR : Rdy w) (hl : KsG w n (some ⟨b, off, none⟩) c [y0, y1, y2, y3]) (hT : ∀ y ∈ [y0, y1, y2, y3], Txs n y) :
    Calls Tryz.prog 28 #[.agg #[.int .i64 55, .string (bsA t), .int .i64 m, .int .i64 a, .slice (some ⟨b, off, none⟩) 4 c]] w fun e w' => e = .returned (.bool (plainF t m && (srcP n y0 && tgtP n y1 && lstP n 1 32 (setP n.pred) y2 && optP n (exprP n) y3))) ∧ Below w.heap.size w w' := by
  have HN : Hid (Nd w n 55 t m a [y0, y1, y2, y3] (some ⟨b, off, none⟩) c (w.alloc (Obj.cells #[Value.int IntKind.i64 55, Value.string (bsA t), Value.int IntKind.i64 m, Value.int IntKind.i64 a, Value.slice (some ⟨b, off, none⟩) 4 c] 24))) := Nd.new w n 55 t m a [y0, y1, y2, y3] (some ⟨b, off, none⟩) c hR hl
  obtain ⟨d0, d1, d2, d3, d4, -, -, -, -, -⟩ := HN.out.box
  obtain ⟨sy, ky, ⟨c0, c1, c2, c3, c4⟩, hgc⟩ := HN.out.kids.kid 0 y0 rfl
  simp only [Nat.reduceMul, Nat.add_zero, Nat.reduceAdd, Nat.add_assoc, Nat.zero_mul] at c0 c1 c2 c3 c4
  have HT : Hid (∀ y ∈ [y0, y1, y2, y3], Txs n y) := hT
  have HM0 : Hid True := trivial
  have HM1 : Hid True := trivial
  have HM2 : Hid True := trivial
  have HM3 : Hid True := trivial
  clear hl hR hT
  go_enter Tryz.func28, Tryz.ntmps28
  go_wp2_with (first | (go_at_call 70; refine (rplain_any n _ _ _ _ [y0, y1, y2, y3] _ _ _ HN.out.rdy HN.out.kids).mono ?_; rintro e w1 ⟨rfl, hb1⟩; clear c0 c1 c2 c3 c4 hgc; clear d0 d1 d2 d3 d4; replace HN : Hid _ := HN.out.step hb1; obtain ⟨d0, d1, d2, d3, d4, -, -, -, -, -⟩ := HN.out.box; obtain ⟨sy, ky, ⟨c0, c1, c2, c3, c4⟩, hgc⟩ := HN.out.kids.kid 0 y0 rfl; simp only [Nat.reduceMul, Nat.add_zero, Nat.reduceAdd, Nat.add_assoc, Nat.zero_mul] at c0 c1 c2 c3 c4) | (go_at_call 77; clear HM0; refine ((rsrc_rm n _ HN.out.rdy).run _ (Below.refl _ _) y0 sy ky hgc (HT.out y0 (by simp))).mono ?_; rintro e w1 ⟨rfl, hb1⟩; clear c0 c1 c2 c3 c4 hgc; clear d0 d1 d2 d3 d4; replace HN : Hid _ := HN.out.step hb1; obtain ⟨d0, d1, d2, d3, d4, -, -, -, -, -⟩ := HN.out.box; obtain ⟨sy, ky, ⟨c0, c1, c2, c3, c4⟩, hgc⟩ := HN.out.kids.kid 1 y1 rfl; simp only [Nat.reduceMul, Nat.add_zero, Nat.reduceAdd, Nat.add_assoc, Nat.zero_mul] at c0 c1 c2 c3 c4) | (go_at_call 78; clear HM1; refine ((rtgt_rm n _ HN.out.rdy).run _ (Below.refl _ _) y1 sy ky hgc (HT.out y1 (by simp))).mono ?_; rintro e w1 ⟨rfl, hb1⟩; clear c0 c1 c2 c3 c4 hgc; clear d0 d1 d2 d3 d4; replace HN : Hid _ := HN.out.step hb1; obtain ⟨d0, d1, d2, d3, d4, -, -, -, -, -⟩ := HN.out.box; obtain ⟨sy, ky, ⟨c0, c1, c2, c3, c4⟩, hgc⟩ := HN.out.kids.kid 2 y2 rfl; simp only [Nat.reduceMul, Nat.add_zero, Nat.reduceAdd, Nat.add_assoc, Nat.zero_mul] at c0 c1 c2 c3 c4) | (go_at_call 79; clear HM2; refine (rlst_27 1 n y2 sy ky _ HN.out.rdy hgc (HT.out y2 (by simp))).mono ?_; rintro e w1 ⟨rfl, hb1⟩; clear c0 c1 c2 c3 c4 hgc; clear d0 d1 d2 d3 d4; replace HN : Hid _ := HN.out.step hb1; obtain ⟨d0, d1, d2, d3, d4, -, -, -, -, -⟩ := HN.out.box; obtain ⟨sy, ky, ⟨c0, c1, c2, c3, c4⟩, hgc⟩ := HN.out.kids.kid 3 y3 rfl; simp only [Nat.reduceMul, Nat.add_zero, Nat.reduceAdd, Nat.add_assoc, Nat.zero_mul] at c0 c1 c2 c3 c4) | (go_at_call 71; clear HM3; refine ((rexo_rm rId_said n _ HN.out.rdy).run _ (Below.refl _ _) y3 sy ky hgc (HT.out y3 (by simp))).mono ?_; rintro e w1 ⟨rfl, hb1⟩; clear c0 c1 c2 c3 c4 hgc; clear d0 d1 d2 d3 d4; replace HN : Hid _ := HN.out.step hb1; obtain ⟨d0, d1, d2, d3, d4, -, -, -, -, -⟩ := HN.out.box; obtain ⟨sy, ky, ⟨c0, c1, c2, c3, c4⟩, hgc⟩ := HN.out.kids.kid 3 y3 rfl; simp only [Nat.reduceMul, Nat.add_zero, Nat.reduceAdd, Nat.add_assoc, Nat.zero_mul] at c0 c1 c2 c3 c4))
  all_goals (go_ret; exact ⟨by simp_all [bsA_tl, beqI, beqL], HN.out.bel⟩)
theorem rstmt_55n (n : Nat) (t : List UInt8) (m a : Int) (l : List (Tr n)) (s : Option Addr) (c : Nat) (w : World) (hR : Rdy w) (hl : KsG w n s c l) (g1 : ((l.length : Int) == 4) = false) :
    Calls Tryz.prog 28 #[.agg #[.int .i64 55, .string (bsA t), .int .i64 m, .int .i64 a, .slice s l.length c]] w fun e w' => e = .returned (.bool (false)) ∧ Below w.heap.size w w' := by
  have HN : Hid (Nd w n 55 t m a l s c (w.alloc (Obj.cells #[Value.int IntKind.i64 55, Value.string (bsA t), Value.int IntKind.i64 m, Value.int IntKind.i64 a, Value.slice s l.length c] 24))) := Nd.new w n _ t _ a l s c hR hl
  obtain ⟨d0, d1, d2, d3, d4, -, -, -, -, -⟩ := HN.out.box
  clear hl hR
  go_enter Tryz.func28, Tryz.ntmps28
  go_wp2_with (first | (go_at_call 70; (refine (rplain_any n _ _ _ _ l _ _ _ HN.out.rdy HN.out.kids).mono ?_; rintro e w1 ⟨rfl, hb1⟩; clear d0 d1 d2 d3 d4; replace HN : Hid _ := HN.out.step hb1; obtain ⟨d0, d1, d2, d3, d4, -, -, -, -, -⟩ := HN.out.box)))
  all_goals (go_ret; exact ⟨rfl, HN.out.bel⟩)
theorem rstmt_56 (n : Nat) (t : List UInt8) (m : Int) (a : Int) (y0 y1 y2 y3 : Tr n) (b off c : Nat) (w : World) (hR : Rdy w) (hl : KsG w n (some ⟨b, off, none⟩) c [y0, y1, y2, y3]) (hT : ∀ y ∈ [y0, y1, y2, y3], Txs n y) :
    Calls Tryz.prog 28 #[.agg #[.int .i64 56, .string (bsA t), .int .i64 m, .int .i64 a, .slice (some ⟨b, off, none⟩) 4 c]] w fun e w' => e = .returned (.bool (plainF t m && (srcP n y0 && tgtP n y1 && itemsP n y2 && optP n (exprP n) y3))) ∧ Below w.heap.size w w' := by
  have HN : Hid (Nd w n 56 t m a [y0, y1, y2, y3] (some ⟨b, off, none⟩) c (w.alloc (Obj.cells #[Value.int IntKind.i64 56, Value.string (bsA t), Value.int IntKind.i64 m, Value.int IntKind.i64 a, Value.slice (some ⟨b, off, none⟩) 4 c] 24))) := Nd.new w n 56 t m a [y0, y1, y2, y3] (some ⟨b, off, none⟩) c hR hl
  obtain ⟨d0, d1, d2, d3, d4, -, -, -, -, -⟩ := HN.out.box
  obtain ⟨sy, ky, ⟨c0, c1, c2, c3, c4⟩, hgc⟩ := HN.out.kids.kid 0 y0 rfl
  simp only [Nat.reduceMul, Nat.add_zero, Nat.reduceAdd, Nat.add_assoc, Nat.zero_mul] at c0 c1 c2 c3 c4
  have HT : Hid (∀ y ∈ [y0, y1, y2, y3], Txs n y) := hT
  have HM0 : Hid True := trivial
  have HM1 : Hid True := trivial
  have HM2 : Hid True := trivial
  have HM3 : Hid True := trivial
  clear hl hR hT
  go_enter Tryz.func28, Tryz.ntmps28
  go_wp2_with (first | (go_at_call 70; refine (rplain_any n _ _ _ _ [y0, y1, y2, y3] _ _ _ HN.out.rdy HN.out.kids).mono ?_; rintro e w1 ⟨rfl, hb1⟩; clear c0 c1 c2 c3 c4 hgc; clear d0 d1 d2 d3 d4; replace HN : Hid _ := HN.out.step hb1; obtain ⟨d0, d1, d2, d3, d4, -, -, -, -, -⟩ := HN.out.box; obtain ⟨sy, ky, ⟨c0, c1, c2, c3, c4⟩, hgc⟩ := HN.out.kids.kid 0 y0 rfl; simp only [Nat.reduceMul, Nat.add_zero, Nat.reduceAdd, Nat.add_assoc, Nat.zero_mul] at c0 c1 c2 c3 c4) | (go_at_call 77; clear HM0; refine ((rsrc_rm n _ HN.out.rdy).run _ (Below.refl _ _) y0 sy ky hgc (HT.out y0 (by simp))).mono ?_; rintro e w1 ⟨rfl, hb1⟩; clear c0 c1 c2 c3 c4 hgc; clear d0 d1 d2 d3 d4; replace HN : Hid _ := HN.out.step hb1; obtain ⟨d0, d1, d2, d3, d4, -, -, -, -, -⟩ := HN.out.box; obtain ⟨sy, ky, ⟨c0, c1, c2, c3, c4⟩, hgc⟩ := HN.out.kids.kid 1 y1 rfl; simp only [Nat.reduceMul, Nat.add_zero, Nat.reduceAdd, Nat.add_assoc, Nat.zero_mul] at c0 c1 c2 c3 c4) | (go_at_call 78; clear HM1; refine ((rtgt_rm n _ HN.out.rdy).run _ (Below.refl _ _) y1 sy ky hgc (HT.out y1 (by simp))).mono ?_; rintro e w1 ⟨rfl, hb1⟩; clear c0 c1 c2 c3 c4 hgc; clear d0 d1 d2 d3 d4; replace HN : Hid _ := HN.out.step hb1; obtain ⟨d0, d1, d2, d3, d4, -, -, -, -, -⟩ := HN.out.box; obtain ⟨sy, ky, ⟨c0, c1, c2, c3, c4⟩, hgc⟩ := HN.out.kids.kid 2 y2 rfl; simp only [Nat.reduceMul, Nat.add_zero, Nat.reduceAdd, Nat.add_assoc, Nat.zero_mul] at c0 c1 c2 c3 c4) | (go_at_call 80; clear HM2; refine ((ritems_rm n _ HN.out.rdy).run _ (Below.refl _ _) y2 sy ky hgc (HT.out y2 (by simp))).mono ?_; rintro e w1 ⟨rfl, hb1⟩; clear c0 c1 c2 c3 c4 hgc; clear d0 d1 d2 d3 d4; replace HN : Hid _ := HN.out.step hb1; obtain ⟨d0, d1, d2, d3, d4, -, -, -, -, -⟩ := HN.out.box; obtain ⟨sy, ky, ⟨c0, c1, c2, c3, c4⟩, hgc⟩ := HN.out.kids.kid 3 y3 rfl; simp only [Nat.reduceMul, Nat.add_zero, Nat.reduceAdd, Nat.add_assoc, Nat.zero_mul] at c0 c1 c2 c3 c4) | (go_at_call 71; clear HM3; refine ((rexo_rm rId_said n _ HN.out.rdy).run _ (Below.refl _ _) y3 sy ky hgc (HT.out y3 (by simp))).mono ?_; rintro e w1 ⟨rfl, hb1⟩; clear c0 c1 c2 c3 c4 hgc; clear d0 d1 d2 d3 d4; replace HN : Hid _ := HN.out.step hb1; obtain ⟨d0, d1, d2, d3, d4, -, -, -, -, -⟩ := HN.out.box; obtain ⟨sy, ky, ⟨c0, c1, c2, c3, c4⟩, hgc⟩ := HN.out.kids.kid 3 y3 rfl; simp only [Nat.reduceMul, Nat.add_zero, Nat.reduceAdd, Nat.add_assoc, Nat.zero_mul] at c0 c1 c2 c3 c4))
  all_goals (go_ret; exact ⟨by simp_all [bsA_tl, beqI, beqL], HN.out.bel⟩)
theorem rstmt_56n (n : Nat) (t : List UInt8) (m a : Int) (l : List (Tr n)) (s : Option Addr) (c : Nat) (w : World) (hR : Rdy w) (hl : KsG w n s c l) (g1 : ((l.length : Int) == 4) = false) :
    Calls Tryz.prog 28 #[.agg #[.int .i64 56, .string (bsA t), .int .i64 m, .int .i64 a, .slice s l.length c]] w fun e w' => e = .returned (.bool (false)) ∧ Below w.heap.size w w' := by
  have HN : Hid (Nd w n 56 t m a l s c (w.alloc (Obj.cells #[Value.int IntKind.i64 56, Value.string (bsA t), Value.int IntKind.i64 m, Value.int IntKind.i64 a, Value.slice s l.length c] 24))) := Nd.new w n _ t _ a l s c hR hl
  obtain ⟨d0, d1, d2, d3, d4, -, -, -, -, -⟩ := HN.out.box
  clear hl hR
  go_enter Tryz.func28, Tryz.ntmps28
  go_wp2_with (first | (go_at_call 70; (refine (rplain_any n _ _ _ _ l _ _ _ HN.out.rdy HN.out.kids).mono ?_; rintro e w1 ⟨rfl, hb1⟩; clear d0 d1 d2 d3 d4; replace HN : Hid _ := HN.out.step hb1; obtain ⟨d0, d1, d2, d3, d4, -, -, -, -, -⟩ := HN.out.box)))
  all_goals (go_ret; exact ⟨rfl, HN.out.bel⟩)
theorem rstmt_57 (n : Nat) (t : List UInt8) (m : Int) (a : Int) (y0 y1 y2 y3 : Tr n) (b off c : Nat) (w : World) (hR : Rdy w) (hl : KsG w n (some ⟨b, off, none⟩) c [y0, y1, y2, y3]) (hT : ∀ y ∈ [y0, y1, y2, y3], Txs n y) :
    Calls Tryz.prog 28 #[.agg #[.int .i64 57, .string (bsA t), .int .i64 m, .int .i64 a, .slice (some ⟨b, off, none⟩) 4 c]] w fun e w' => e = .returned (.bool (decide (t = []) && bitF m && (srcP n y0 && tgtP n y1 && exprP n y2 && lstP n 1 32 (setP n.pred) y3))) ∧ Below w.heap.size w w' := by
  have HN : Hid (Nd w n 57 t m a [y0, y1, y2, y3] (some ⟨b, off, none⟩) c (w.alloc (Obj.cells #[Value.int IntKind.i64 57, Value.string (bsA t), Value.int IntKind.i64 m, Value.int IntKind.i64 a, Value.slice (some ⟨b, off, none⟩) 4 c] 24))) := Nd.new w n 57 t m a [y0, y1, y2, y3] (some ⟨b, off, none⟩) c hR hl
  obtain ⟨d0, d1, d2, d3, d4, -, -, -, -, -⟩ := HN.out.box
  obtain ⟨sy, ky, ⟨c0, c1, c2, c3, c4⟩, hgc⟩ := HN.out.kids.kid 0 y0 rfl
  simp only [Nat.reduceMul, Nat.add_zero, Nat.reduceAdd, Nat.add_assoc, Nat.zero_mul] at c0 c1 c2 c3 c4
  have HT : Hid (∀ y ∈ [y0, y1, y2, y3], Txs n y) := hT
  have HM0 : Hid True := trivial
  have HM1 : Hid True := trivial
  have HM2 : Hid True := trivial
  have HM3 : Hid True := trivial
  clear hl hR hT
  go_enter Tryz.func28, Tryz.ntmps28
  go_wp2_with (first | (go_at_call 69; refine (rbit_any n _ _ _ _ [y0, y1, y2, y3] _ _ _ HN.out.rdy HN.out.kids).mono ?_; rintro e w1 ⟨rfl, hb1⟩; clear c0 c1 c2 c3 c4 hgc; clear d0 d1 d2 d3 d4; replace HN : Hid _ := HN.out.step hb1; obtain ⟨d0, d1, d2, d3, d4, -, -, -, -, -⟩ := HN.out.box; obtain ⟨sy, ky, ⟨c0, c1, c2, c3, c4⟩, hgc⟩ := HN.out.kids.kid 0 y0 rfl; simp only [Nat.reduceMul, Nat.add_zero, Nat.reduceAdd, Nat.add_assoc, Nat.zero_mul] at c0 c1 c2 c3 c4) | (go_at_call 77; clear HM0; refine ((rsrc_rm n _ HN.out.rdy).run _ (Below.refl _ _) y0 sy ky hgc (HT.out y0 (by simp))).mono ?_; rintro e w1 ⟨rfl, hb1⟩; clear c0 c1 c2 c3 c4 hgc; clear d0 d1 d2 d3 d4; replace HN : Hid _ := HN.out.step hb1; obtain ⟨d0, d1, d2, d3, d4, -, -, -, -, -⟩ := HN.out.box; obtain ⟨sy, ky, ⟨c0, c1, c2, c3, c4⟩, hgc⟩ := HN.out.kids.kid 1 y1 rfl; simp only [Nat.reduceMul, Nat.add_zero, Nat.reduceAdd, Nat.add_assoc, Nat.zero_mul] at c0 c1 c2 c3 c4) | (go_at_call 78; clear HM1; refine ((rtgt_rm n _ HN.out.rdy).run _ (Below.refl _ _) y1 sy ky hgc (HT.out y1 (by simp))).mono ?_; rintro e w1 ⟨rfl, hb1⟩; clear c0 c1 c2 c3 c4 hgc; clear d0 d1 d2 d3 d4; replace HN : Hid _ := HN.out.step hb1; obtain ⟨d0, d1, d2, d3, d4, -, -, -, -, -⟩ := HN.out.box; obtain ⟨sy, ky, ⟨c0, c1, c2, c3, c4⟩, hgc⟩ := HN.out.kids.kid 2 y2 rfl; simp only [Nat.reduceMul, Nat.add_zero, Nat.reduceAdd, Nat.add_assoc, Nat.zero_mul] at c0 c1 c2 c3 c4) | (go_at_call 26; clear HM2; refine ((rexpr_rm rId_said n _ HN.out.rdy).run _ (Below.refl _ _) y2 sy ky hgc (HT.out y2 (by simp))).mono ?_; rintro e w1 ⟨rfl, hb1⟩; clear c0 c1 c2 c3 c4 hgc; clear d0 d1 d2 d3 d4; replace HN : Hid _ := HN.out.step hb1; obtain ⟨d0, d1, d2, d3, d4, -, -, -, -, -⟩ := HN.out.box; obtain ⟨sy, ky, ⟨c0, c1, c2, c3, c4⟩, hgc⟩ := HN.out.kids.kid 3 y3 rfl; simp only [Nat.reduceMul, Nat.add_zero, Nat.reduceAdd, Nat.add_assoc, Nat.zero_mul] at c0 c1 c2 c3 c4) | (go_at_call 79; clear HM3; refine (rlst_27 1 n y3 sy ky _ HN.out.rdy hgc (HT.out y3 (by simp))).mono ?_; rintro e w1 ⟨rfl, hb1⟩; clear c0 c1 c2 c3 c4 hgc; clear d0 d1 d2 d3 d4; replace HN : Hid _ := HN.out.step hb1; obtain ⟨d0, d1, d2, d3, d4, -, -, -, -, -⟩ := HN.out.box; obtain ⟨sy, ky, ⟨c0, c1, c2, c3, c4⟩, hgc⟩ := HN.out.kids.kid 3 y3 rfl; simp only [Nat.reduceMul, Nat.add_zero, Nat.reduceAdd, Nat.add_assoc, Nat.zero_mul] at c0 c1 c2 c3 c4))
  all_goals (go_ret; exact ⟨by simp_all [bsA_tl, beqI, beqL], HN.out.bel⟩)
theorem rstmt_57n (n : Nat) (t : List UInt8) (m a : Int) (l : List (Tr n)) (s : Option Addr) (c : Nat) (w : World) (hR : Rdy w) (hl : KsG w n s c l) (g1 : ((l.length : Int) == 4) = false) :
    Calls Tryz.prog 28 #[.agg #[.int .i64 57, .string (bsA t), .int .i64 m, .int .i64 a, .slice s l.length c]] w fun e w' => e = .returned (.bool (false)) ∧ Below w.heap.size w w' := by
  have HN : Hid (Nd w n 57 t m a l s c (w.alloc (Obj.cells #[Value.int IntKind.i64 57, Value.string (bsA t), Value.int IntKind.i64 m, Value.int IntKind.i64 a, Value.slice s l.length c] 24))) := Nd.new w n _ t _ a l s c hR hl
  obtain ⟨d0, d1, d2, d3, d4, -, -, -, -, -⟩ := HN.out.box
  clear hl hR
  go_enter Tryz.func28, Tryz.ntmps28
  go_wp2_with (first | (go_at_call 69; (refine (rbit_any n _ _ _ _ l _ _ _ HN.out.rdy HN.out.kids).mono ?_; rintro e w1 ⟨rfl, hb1⟩; clear d0 d1 d2 d3 d4; replace HN : Hid _ := HN.out.step hb1; obtain ⟨d0, d1, d2, d3, d4, -, -, -, -, -⟩ := HN.out.box)))
  all_goals (go_ret; exact ⟨rfl, HN.out.bel⟩)
theorem rstmt_52 (n : Nat) (t : List UInt8) (a : Int) (y0 : Tr n) (b off c : Nat) (w : World) (hR : Rdy w) (hl : KsG w n (some ⟨b, off, none⟩) c [y0]) (hT : ∀ y ∈ [y0], Txs n y) (C : Tr n → Bool) (hC : RM 75 n C w) :
    Calls Tryz.prog 28 #[.agg #[.int .i64 52, .string (bsA t), .int .i64 0, .int .i64 a, .slice (some ⟨b, off, none⟩) 1 c]] w fun e w' => e = .returned (.bool (idC t && C y0)) ∧ Below w.heap.size w w' := by
  have HN : Hid (Nd w n 52 t 0 a [y0] (some ⟨b, off, none⟩) c (w.alloc (Obj.cells #[Value.int IntKind.i64 52, Value.string (bsA t), Value.int IntKind.i64 0, Value.int IntKind.i64 a, Value.slice (some ⟨b, off, none⟩) 1 c] 24))) := Nd.new w n 52 t 0 a [y0] (some ⟨b, off, none⟩) c hR hl
  obtain ⟨d0, d1, d2, d3, d4, -, -, -, -, -⟩ := HN.out.box
  obtain ⟨sy, ky, ⟨c0, c1, c2, c3, c4⟩, hgc⟩ := HN.out.kids.kid 0 y0 rfl
  simp only [Nat.reduceMul, Nat.add_zero, Nat.reduceAdd, Nat.add_assoc, Nat.zero_mul] at c0 c1 c2 c3 c4
  have HT : Hid (∀ y ∈ [y0], Txs n y) := hT
  have HM0 : Hid True := trivial
  have HC : Hid (RM 75 n C w) := hC
  clear hC
  clear hl hR hT
  go_enter Tryz.func28, Tryz.ntmps28
  go_wp2_with (first | (go_at_call 65; refine (rId_said _ _ HN.out.rdy).mono ?_; rintro e w1 ⟨rfl, hb1⟩; clear c0 c1 c2 c3 c4 hgc; clear d0 d1 d2 d3 d4; replace HN : Hid _ := HN.out.step hb1; obtain ⟨d0, d1, d2, d3, d4, -, -, -, -, -⟩ := HN.out.box; obtain ⟨sy, ky, ⟨c0, c1, c2, c3, c4⟩, hgc⟩ := HN.out.kids.kid 0 y0 rfl; simp only [Nat.reduceMul, Nat.add_zero, Nat.reduceAdd, Nat.add_assoc, Nat.zero_mul] at c0 c1 c2 c3 c4) | (go_at_call 75; clear HM0; refine ((HC.out.below HN.out.bel).run _ (Below.refl _ _) y0 sy ky hgc (HT.out y0 (by simp))).mono ?_; rintro e w1 ⟨rfl, hb1⟩; clear c0 c1 c2 c3 c4 hgc; clear d0 d1 d2 d3 d4; replace HN : Hid _ := HN.out.step hb1; obtain ⟨d0, d1, d2, d3, d4, -, -, -, -, -⟩ := HN.out.box; obtain ⟨sy, ky, ⟨c0, c1, c2, c3, c4⟩, hgc⟩ := HN.out.kids.kid 0 y0 rfl; simp only [Nat.reduceMul, Nat.add_zero, Nat.reduceAdd, Nat.add_assoc, Nat.zero_mul] at c0 c1 c2 c3 c4))
  all_goals (go_ret; exact ⟨by simp_all [bsA_tl, beqI, beqL], HN.out.bel⟩)
theorem rstmt_52n (n : Nat) (t : List UInt8) (m a : Int) (l : List (Tr n)) (s : Option Addr) (c : Nat) (w : World) (hR : Rdy w) (hl : KsG w n s c l) (g1 : ((l.length : Int) == 1) = false) :
    Calls Tryz.prog 28 #[.agg #[.int .i64 52, .string (bsA t), .int .i64 m, .int .i64 a, .slice s l.length c]] w fun e w' => e = .returned (.bool (false)) ∧ Below w.heap.size w w' := by
  rcases Classical.em (m = 0) with rfl | h0
  · have HN : Hid (Nd w n 52 t 0 a l s c (w.alloc (Obj.cells #[Value.int IntKind.i64 52, Value.string (bsA t), Value.int IntKind.i64 0, Value.int IntKind.i64 a, Value.slice s l.length c] 24))) := Nd.new w n _ t _ a l s c hR hl
    obtain ⟨d0, d1, d2, d3, d4, -, -, -, -, -⟩ := HN.out.box
    clear hl hR
    go_enter Tryz.func28, Tryz.ntmps28
    go_wp2_with (first | (go_at_call 65; (refine (rId_said _ _ HN.out.rdy).mono ?_; rintro e w1 ⟨rfl, hb1⟩; clear d0 d1 d2 d3 d4; replace HN : Hid _ := HN.out.step hb1; obtain ⟨d0, d1, d2, d3, d4, -, -, -, -, -⟩ := HN.out.box)))
    all_goals (go_ret; exact ⟨rfl, HN.out.bel⟩)
  · have HN : Hid (Nd w n 52 t m a l s c (w.alloc (Obj.cells #[Value.int IntKind.i64 52, Value.string (bsA t), Value.int IntKind.i64 m, Value.int IntKind.i64 a, Value.slice s l.length c] 24))) := Nd.new w n _ t _ a l s c hR hl
    obtain ⟨d0, d1, d2, d3, d4, -, -, -, -, -⟩ := HN.out.box
    clear hl hR
    go_enter Tryz.func28, Tryz.ntmps28
    go_wp2_with (first | (go_at_call 65; (refine (rId_said _ _ HN.out.rdy).mono ?_; rintro e w1 ⟨rfl, hb1⟩; clear d0 d1 d2 d3 d4; replace HN : Hid _ := HN.out.step hb1; obtain ⟨d0, d1, d2, d3, d4, -, -, -, -, -⟩ := HN.out.box)))
    all_goals (go_ret; exact ⟨rfl, HN.out.bel⟩)
theorem rstmt_52m (n : Nat) (t : List UInt8) (m a : Int) (l : List (Tr n)) (s : Option Addr) (c : Nat) (w : World) (hR : Rdy w) (hl : KsG w n s c l) (hm : (m == 0) = false) :
    Calls Tryz.prog 28 #[.agg #[.int .i64 52, .string (bsA t), .int .i64 m, .int .i64 a, .slice s l.length c]] w fun e w' => e = .returned (.bool (false)) ∧ Below w.heap.size w w' := by
  have HN : Hid (Nd w n 52 t m a l s c (w.alloc (Obj.cells #[Value.int IntKind.i64 52, Value.string (bsA t), Value.int IntKind.i64 m, Value.int IntKind.i64 a, Value.slice s l.length c] 24))) := Nd.new w n _ t _ a l s c hR hl
  obtain ⟨d0, d1, d2, d3, d4, -, -, -, -, -⟩ := HN.out.box
  clear hl hR
  go_enter Tryz.func28, Tryz.ntmps28
  go_wp2_with (first | (go_at_call 65; (refine (rId_said _ _ HN.out.rdy).mono ?_; rintro e w1 ⟨rfl, hb1⟩; clear d0 d1 d2 d3 d4; replace HN : Hid _ := HN.out.step hb1; obtain ⟨d0, d1, d2, d3, d4, -, -, -, -, -⟩ := HN.out.box)))
  all_goals (go_ret; exact ⟨rfl, HN.out.bel⟩)
theorem rstmt_51m (n : Nat) (t : List UInt8) (m a : Int) (l : List (Tr n)) (s : Option Addr) (c : Nat) (w : World) (hR : Rdy w) (hl : KsG w n s c l) (hm : (m == 0) = false) :
    Calls Tryz.prog 28 #[.agg #[.int .i64 51, .string (bsA t), .int .i64 m, .int .i64 a, .slice s l.length c]] w fun e w' => e = .returned (.bool (false)) ∧ Below w.heap.size w w' := by
  have HN : Hid (Nd w n 51 t m a l s c (w.alloc (Obj.cells #[Value.int IntKind.i64 51, Value.string (bsA t), Value.int IntKind.i64 m, Value.int IntKind.i64 a, Value.slice s l.length c] 24))) := Nd.new w n _ t _ a l s c hR hl
  obtain ⟨d0, d1, d2, d3, d4, -, -, -, -, -⟩ := HN.out.box
  clear hl hR
  go_enter Tryz.func28, Tryz.ntmps28
  go_wp2_with (first | (go_at_call 65; (refine (rId_said _ _ HN.out.rdy).mono ?_; rintro e w1 ⟨rfl, hb1⟩; clear d0 d1 d2 d3 d4; replace HN : Hid _ := HN.out.step hb1; obtain ⟨d0, d1, d2, d3, d4, -, -, -, -, -⟩ := HN.out.box)))
  all_goals (go_ret; exact ⟨rfl, HN.out.bel⟩)
theorem rstmt_51n (n : Nat) (t : List UInt8) (m a : Int) (l : List (Tr n)) (s : Option Addr) (c : Nat) (w : World) (hR : Rdy w) (hl : KsG w n s c l) (e2 : (2 ≤ (l.length : Int)) = False) :
    Calls Tryz.prog 28 #[.agg #[.int .i64 51, .string (bsA t), .int .i64 m, .int .i64 a, .slice s l.length c]] w fun e w' => e = .returned (.bool (false)) ∧ Below w.heap.size w w' := by
  rcases Classical.em (m = 0) with rfl | h0
  · have HN : Hid (Nd w n 51 t 0 a l s c (w.alloc (Obj.cells #[Value.int IntKind.i64 51, Value.string (bsA t), Value.int IntKind.i64 0, Value.int IntKind.i64 a, Value.slice s l.length c] 24))) := Nd.new w n _ t _ a l s c hR hl
    obtain ⟨d0, d1, d2, d3, d4, -, -, -, -, -⟩ := HN.out.box
    clear hl hR
    go_enter Tryz.func28, Tryz.ntmps28
    go_wp2_with (first | (go_at_call 65; (refine (rId_said _ _ HN.out.rdy).mono ?_; rintro e w1 ⟨rfl, hb1⟩; clear d0 d1 d2 d3 d4; replace HN : Hid _ := HN.out.step hb1; obtain ⟨d0, d1, d2, d3, d4, -, -, -, -, -⟩ := HN.out.box)))
    all_goals (go_ret; exact ⟨rfl, HN.out.bel⟩)
  · have HN : Hid (Nd w n 51 t m a l s c (w.alloc (Obj.cells #[Value.int IntKind.i64 51, Value.string (bsA t), Value.int IntKind.i64 m, Value.int IntKind.i64 a, Value.slice s l.length c] 24))) := Nd.new w n _ t _ a l s c hR hl
    obtain ⟨d0, d1, d2, d3, d4, -, -, -, -, -⟩ := HN.out.box
    clear hl hR
    go_enter Tryz.func28, Tryz.ntmps28
    go_wp2_with (first | (go_at_call 65; (refine (rId_said _ _ HN.out.rdy).mono ?_; rintro e w1 ⟨rfl, hb1⟩; clear d0 d1 d2 d3 d4; replace HN : Hid _ := HN.out.step hb1; obtain ⟨d0, d1, d2, d3, d4, -, -, -, -, -⟩ := HN.out.box)))
    all_goals (go_ret; exact ⟨rfl, HN.out.bel⟩)
theorem rstmt_53 (n : Nat) (t : List UInt8) (m a : Int) (l : List (Tr n)) (s : Option Addr) (c : Nat) (w : World) (hR : Rdy w) (hl : KsG w n s c l) (hT : ∀ y ∈ l, Txs n y) :
    Calls Tryz.prog 28 #[.agg #[.int .i64 53, .string (bsA t), .int .i64 m, .int .i64 a, .slice s l.length c]] w fun e w' => e = .returned (.bool (selF n 53 t m l)) ∧ Below w.heap.size w w' := by
  have HN : Hid (Nd w n 53 t m a l s c (w.alloc (Obj.cells #[Value.int IntKind.i64 53, Value.string (bsA t), Value.int IntKind.i64 m, Value.int IntKind.i64 a, Value.slice s l.length c] 24))) := Nd.new w n _ t _ a l s c hR hl
  obtain ⟨d0, d1, d2, d3, d4, -, -, -, -, -⟩ := HN.out.box
  have HT : Hid (∀ y ∈ l, Txs n y) := hT
  clear hT
  clear hl hR
  go_enter Tryz.func28, Tryz.ntmps28
  go_wp2_with (first | (go_at_call 76; (refine (rsel_any n _ _ _ _ l _ _ _ HN.out.rdy HN.out.kids HT.out).mono ?_; rintro e w1 ⟨rfl, hb1⟩; clear d0 d1 d2 d3 d4; replace HN : Hid _ := HN.out.step hb1; obtain ⟨d0, d1, d2, d3, d4, -, -, -, -, -⟩ := HN.out.box)))
  all_goals (go_ret; exact ⟨rfl, HN.out.bel⟩)
theorem rstmt_x (n : Nat) (k : Int) (t : List UInt8) (m a : Int) (l : List (Tr n)) (s : Option Addr) (c : Nat) (w : World) (hR : Rdy w) (hl : KsG w n s c l) (h50 : (k == 50) = false) (h51 : (k == 51) = false) (h52 : (k == 52) = false) (h53 : (k == 53) = false) (h54 : (k == 54) = false) (h55 : (k == 55) = false) (h56 : (k == 56) = false) (h57 : (k == 57) = false) :
    Calls Tryz.prog 28 #[.agg #[.int .i64 k, .string (bsA t), .int .i64 m, .int .i64 a, .slice s l.length c]] w fun e w' => e = .returned (.bool (false)) ∧ Below w.heap.size w w' := by
  have HN : Hid (Nd w n k t m a l s c (w.alloc (Obj.cells #[Value.int IntKind.i64 k, Value.string (bsA t), Value.int IntKind.i64 m, Value.int IntKind.i64 a, Value.slice s l.length c] 24))) := Nd.new w n _ t _ a l s c hR hl
  obtain ⟨d0, d1, d2, d3, d4, -, -, -, -, -⟩ := HN.out.box
  clear hl hR
  go_enter Tryz.func28, Tryz.ntmps28
  go_wp2_with (first | fail)
  all_goals (go_ret; exact ⟨rfl, HN.out.bel⟩)
theorem rstmt_51 (n : Nat) (t : List UInt8) (a : Int) (y0 : Tr n) (r : List (Tr n)) (b off c rl : Nat) (hrl : (y0 :: r).length = rl + 1) (w : World) (hR : Rdy w) (hl : KsG w n (some ⟨b, off, none⟩) c (y0 :: r)) (hT : ∀ y ∈ y0 :: r, Txs n y) (hc : rl + 1 ≤ c) (e2 : (2 ≤ (rl : Int) + 1) = True) :
    Calls Tryz.prog 28 #[.agg #[.int .i64 51, .string (bsA t), .int .i64 0, .int .i64 a, .slice (some ⟨b, off, none⟩) (rl + 1 : Nat) c]] w fun e w' => e = .returned (.bool (idC t && nmeP n y0 && vwsF n r)) ∧ Below w.heap.size w w' := by
  have HN : Hid (Nd w n 51 t 0 a (y0 :: r) (some ⟨b, off, none⟩) c (w.alloc (Obj.cells #[Value.int IntKind.i64 51, Value.string (bsA t), Value.int IntKind.i64 0, Value.int IntKind.i64 a, Value.slice (some ⟨b, off, none⟩) (rl + 1) c] 24))) := by
    have h := Nd.new w n 51 t 0 a (y0 :: r) (some ⟨b, off, none⟩) c hR hl
    rw [hrl] at h
    exact h
  have HL : Hid ((y0 :: r).length = rl + 1) := hrl
  obtain ⟨d0, d1, d2, d3, d4, -, -, -, -, -⟩ := HN.out.box
  replace d4 := d4.trans (congrArg (fun x => some (Value.slice (some ⟨b, off, none⟩) x c)) HL.out)
  obtain ⟨sy, ky, ⟨c0, c1, c2, c3, c4⟩, hgc⟩ := HN.out.kids.kid 0 y0 rfl
  simp only [Nat.reduceMul, Nat.add_zero, Nat.reduceAdd, Nat.add_assoc, Nat.zero_mul] at c0 c1 c2 c3 c4
  have HT : Hid (∀ y ∈ y0 :: r, Txs n y) := hT
  have HV : Hid (∀ W, Nd w n 51 t 0 a (y0 :: r) (some ⟨b, off, none⟩) c W → ∀ s2 c2, (s2 = some ⟨b, off + 5, none⟩ ∨ rl = 0) → c2 = c - 1 → Calls Tryz.prog 74 #[.slice s2 rl c2] W fun e w' => e = .returned (.bool (vwsF n r)) ∧ Below W.heap.size W w') := fun W h s2 c2 h2 hc2 => by
    subst hc2
    have e : rl = r.length := by simpa using hrl.symm
    subst e
    refine rviews_q n r s2 (c - 1) W h.rdy ?_ (fun y hy => hT y (by simp [hy]))
    have hk := h.kids.drop 1
    rcases h2 with rfl | h0
    · exact hk
    · obtain rfl := List.length_eq_zero_iff.1 h0
      exact ⟨by simp, Or.inl rfl, by simp⟩
  clear hl hR hT hrl
  go_enter Tryz.func28, Tryz.ntmps28
  go_wp2_with (first | (go_at_call 65; refine (rId_said _ _ HN.out.rdy).mono ?_; rintro e w1 ⟨rfl, hb1⟩; clear c0 c1 c2 c3 c4 hgc; clear d0 d1 d2 d3 d4; replace HN : Hid _ := HN.out.step hb1; obtain ⟨d0, d1, d2, d3, d4, -, -, -, -, -⟩ := HN.out.box; replace d4 := d4.trans (congrArg (fun x => some (Value.slice (some ⟨b, off, none⟩) x c)) HL.out); obtain ⟨sy, ky, ⟨c0, c1, c2, c3, c4⟩, hgc⟩ := HN.out.kids.kid 0 y0 rfl; simp only [Nat.reduceMul, Nat.add_zero, Nat.reduceAdd, Nat.add_assoc, Nat.zero_mul] at c0 c1 c2 c3 c4) | (go_at_call 66; refine ((rnme_rm2 n _ HN.out.rdy).run _ (Below.refl _ _) y0 sy ky hgc (HT.out y0 (by simp))).mono ?_; rintro e w1 ⟨rfl, hb1⟩; clear c0 c1 c2 c3 c4 hgc; clear d0 d1 d2 d3 d4; replace HN : Hid _ := HN.out.step hb1; obtain ⟨d0, d1, d2, d3, d4, -, -, -, -, -⟩ := HN.out.box; replace d4 := d4.trans (congrArg (fun x => some (Value.slice (some ⟨b, off, none⟩) x c)) HL.out); obtain ⟨sy, ky, ⟨c0, c1, c2, c3, c4⟩, hgc⟩ := HN.out.kids.kid 0 y0 rfl; simp only [Nat.reduceMul, Nat.add_zero, Nat.reduceAdd, Nat.add_assoc, Nat.zero_mul] at c0 c1 c2 c3 c4) | (go_at_call 74; refine (HV.out _ HN.out _ _ (by first | exact Or.inl rfl | (right; omega)) (by omega)).mono ?_; rintro e w1 ⟨rfl, hb1⟩; clear c0 c1 c2 c3 c4 hgc; clear d0 d1 d2 d3 d4; replace HN : Hid _ := HN.out.step hb1; obtain ⟨d0, d1, d2, d3, d4, -, -, -, -, -⟩ := HN.out.box; replace d4 := d4.trans (congrArg (fun x => some (Value.slice (some ⟨b, off, none⟩) x c)) HL.out); obtain ⟨sy, ky, ⟨c0, c1, c2, c3, c4⟩, hgc⟩ := HN.out.kids.kid 0 y0 rfl; simp only [Nat.reduceMul, Nat.add_zero, Nat.reduceAdd, Nat.add_assoc, Nat.zero_mul] at c0 c1 c2 c3 c4))
  all_goals (go_ret; exact ⟨by simp_all [bsA_tl, beqI, beqL], HN.out.bel⟩)
theorem rstmt_50 (n : Nat) (t : List UInt8) (m a : Int) (l : List (Tr n)) (b off c : Nat) (w : World) (hR : Rdy w) (hl : KsG w n (some ⟨b, off, none⟩) c l) (hT : ∀ y ∈ l, Txs n y) (qm : Bool) (gm : (m == 0) = qm) :
    Calls Tryz.prog 28 #[.agg #[.int .i64 50, .string (bsA t), .int .i64 m, .int .i64 a, .slice (some ⟨b, off, none⟩) l.length c]] w fun e w' => e = .returned (.bool (allF n l (colP n) && (idC t && qm && decide (1 ≤ (l.length : Int)) && decide ((l.length : Int) ≤ 32)))) ∧ Below w.heap.size w w' := by
  have HN : Hid (Nd w n 50 t m a l (some ⟨b, off, none⟩) c (w.alloc (Obj.cells #[Value.int IntKind.i64 50, Value.string (bsA t), Value.int IntKind.i64 m, Value.int IntKind.i64 a, Value.slice (some ⟨b, off, none⟩) l.length c] 24))) := Nd.new w n 50 t m a l _ c hR hl
  obtain ⟨d0, d1, d2, d3, d4, -, -, -, -, -⟩ := HN.out.box
  have HT : Hid (∀ y ∈ l, Txs n y) := hT
  have hlen : l.length ≤ 9223372036854775807 := hl.1
  clear hl hR hT
  go_enter Tryz.func28, Tryz.ntmps28
  go_wp2
  clear d0 d1 d2 d3 d4
  go_loopw [4] (fun i wr => ∃ k : Nat, k ≤ l.length ∧ i = .int .i64 k ∧ (l.take k).all (colP n) = true ∧ Nd w n 50 t m a l (some ⟨b, off, none⟩) c wr) (fun i _ => l.length - (intOf i).toNat)
  case atStart => exact ⟨0, Nat.zero_le _, rfl, rfl, HN.out⟩
  case round =>
    obtain ⟨k, hk, rfl, hV, hN⟩ := hrel
    have HV : Hid ((l.take k).all (colP n) = true) := hV
    replace HN : Hid (Nd w n 50 t m a l (some ⟨b, off, none⟩) c wr) := hN
    obtain ⟨d0, d1, d2, d3, d4, -, -, -, -, -⟩ := HN.out.box
    clear hV hN
    rcases Nat.lt_or_ge k l.length with hlt | hge
    · obtain ⟨y, gy⟩ : ∃ y, l[k]? = some y := ⟨_, List.getElem?_eq_getElem hlt⟩
      have HGY : Hid _ := gy
      obtain ⟨sy, cy, ⟨c0, c1, c2, c3, c4⟩, hp⟩ := HN.out.kids.kid k y gy
      have hTy := HT.out y (List.mem_of_getElem? gy)
      have HF : Hid ((colP n) y = false → l.all (colP n) = false) := fun h => by
        rw [List.all_eq_false]
        exact ⟨y, List.mem_of_getElem? gy, by rw [h]; simp⟩
      have HG0 : Hid ((colP n) y = true → (l.take (k + 1)).all (colP n) = true) := fun h => by rw [all_snoc (colP n) gy, HV.out, h]; rfl
      clear HV gy
      cases hk1 : (kd n y != 39) with
      | true =>
        have HE : Hid (colP n y = false) := by
          show (decide (kd n y = 39) && idC (tx n y) && (decide (1 ≤ nu n y) && decide (nu n y ≤ 4)) && emp n.pred (ks n y)) = _
          rw [decide_eq_false (by simpa using hk1)]
          simp
        go_wp2
        go_ret
        exact ⟨ret_bool (by show false = (allF n l (colP n) && (idC t && qm && decide (1 ≤ (l.length : Int)) && decide ((l.length : Int) ≤ 32))); unfold allF; rw [HF.out HE.out, Bool.false_and]), HN.out.bel⟩
      | false =>
      have HK : Hid (decide (kd n y = 39) = true) := by show _ = _; simpa using hk1
      cases hi : idC (tx n y) with
      | false =>
        have HI : Hid _ := hi
        clear hi
        have HE : Hid (colP n y = false) := by
          show (decide (kd n y = 39) && idC (tx n y) && (decide (1 ≤ nu n y) && decide (nu n y ≤ 4)) && emp n.pred (ks n y)) = _
          rw [HI.out]
          simp
        go_wp2_with fail
        refine (rId_said _ _ HN.out.rdy).mono ?_
        rintro e w1 ⟨rfl, hb1⟩
        rw [HI.out]
        replace HN : Hid _ := HN.out.step hb1
        clear c0 c1 c2 c3 c4 d0 d1 d2 d3 d4 hp
        obtain ⟨d0, d1, d2, d3, d4, -, -, -, -, -⟩ := HN.out.box
        obtain ⟨sy, cy, ⟨c0, c1, c2, c3, c4⟩, hp⟩ := HN.out.kids.kid k y HGY.out
        go_wp2
        go_ret
        exact ⟨ret_bool (by show false = (allF n l (colP n) && (idC t && qm && decide (1 ≤ (l.length : Int)) && decide ((l.length : Int) ≤ 32))); unfold allF; rw [HF.out HE.out, Bool.false_and]), HN.out.bel⟩
      | true =>
      have HI : Hid _ := hi
      clear hi
      by_cases h1 : nu n y < 1
      · have e1 : (nu n y < 1) = True := eq_true h1
        have HE : Hid (colP n y = false) := by
          show (decide (kd n y = 39) && idC (tx n y) && (decide (1 ≤ nu n y) && decide (nu n y ≤ 4)) && emp n.pred (ks n y)) = _
          rw [decide_eq_false (by omega : ¬ 1 ≤ nu n y)]
          simp
        clear h1
        go_wp2_with fail
        refine (rId_said _ _ HN.out.rdy).mono ?_
        rintro e w1 ⟨rfl, hb1⟩
        rw [HI.out]
        replace HN : Hid _ := HN.out.step hb1
        clear c0 c1 c2 c3 c4 d0 d1 d2 d3 d4 hp
        obtain ⟨d0, d1, d2, d3, d4, -, -, -, -, -⟩ := HN.out.box
        obtain ⟨sy, cy, ⟨c0, c1, c2, c3, c4⟩, hp⟩ := HN.out.kids.kid k y HGY.out
        go_wp2
        go_ret
        exact ⟨ret_bool (by show false = (allF n l (colP n) && (idC t && qm && decide (1 ≤ (l.length : Int)) && decide ((l.length : Int) ≤ 32))); unfold allF; rw [HF.out HE.out, Bool.false_and]), HN.out.bel⟩
      have e1 : (nu n y < 1) = False := eq_false h1
      by_cases h4 : 4 < nu n y
      · have e2 : (4 < nu n y) = True := eq_true h4
        have HE : Hid (colP n y = false) := by
          show (decide (kd n y = 39) && idC (tx n y) && (decide (1 ≤ nu n y) && decide (nu n y ≤ 4)) && emp n.pred (ks n y)) = _
          rw [decide_eq_false (by omega : ¬ nu n y ≤ 4)]
          simp
        clear h1 h4
        go_wp2_with fail
        refine (rId_said _ _ HN.out.rdy).mono ?_
        rintro e w1 ⟨rfl, hb1⟩
        rw [HI.out]
        replace HN : Hid _ := HN.out.step hb1
        clear c0 c1 c2 c3 c4 d0 d1 d2 d3 d4 hp
        obtain ⟨d0, d1, d2, d3, d4, -, -, -, -, -⟩ := HN.out.box
        obtain ⟨sy, cy, ⟨c0, c1, c2, c3, c4⟩, hp⟩ := HN.out.kids.kid k y HGY.out
        go_wp2
        go_ret
        exact ⟨ret_bool (by show false = (allF n l (colP n) && (idC t && qm && decide (1 ≤ (l.length : Int)) && decide ((l.length : Int) ≤ 32))); unfold allF; rw [HF.out HE.out, Bool.false_and]), HN.out.bel⟩
      have e2 : (4 < nu n y) = False := eq_false h4
      cases hb : emp n.pred (ks n y) with
      | false =>
        have HBR : Hid _ := hb
        clear hb
        have HE : Hid (colP n y = false) := by
          show (decide (kd n y = 39) && idC (tx n y) && (decide (1 ≤ nu n y) && decide (nu n y ≤ 4)) && emp n.pred (ks n y)) = _
          rw [HBR.out]
          simp
        clear h1 h4
        go_wp2_with fail
        refine (rId_said _ _ HN.out.rdy).mono ?_
        rintro e w1 ⟨rfl, hb1⟩
        rw [HI.out]
        replace HN : Hid _ := HN.out.step hb1
        clear c0 c1 c2 c3 c4 d0 d1 d2 d3 d4 hp
        obtain ⟨d0, d1, d2, d3, d4, -, -, -, -, -⟩ := HN.out.box
        obtain ⟨sy, cy, ⟨c0, c1, c2, c3, c4⟩, hp⟩ := HN.out.kids.kid k y HGY.out
        go_wp2_with fail
        refine (rbare_any n.pred _ _ _ _ (ks n y) _ _ _ HN.out.rdy (ksG_of hp)).mono ?_
        rintro e w2 ⟨rfl, hb1⟩
        rw [HBR.out]
        replace HN : Hid _ := HN.out.step hb1
        clear c0 c1 c2 c3 c4 d0 d1 d2 d3 d4 hp
        obtain ⟨d0, d1, d2, d3, d4, -, -, -, -, -⟩ := HN.out.box
        obtain ⟨sy, cy, ⟨c0, c1, c2, c3, c4⟩, hp⟩ := HN.out.kids.kid k y HGY.out
        go_wp2
        go_ret
        exact ⟨ret_bool (by show false = (allF n l (colP n) && (idC t && qm && decide (1 ≤ (l.length : Int)) && decide ((l.length : Int) ≤ 32))); unfold allF; rw [HF.out HE.out, Bool.false_and]), HN.out.bel⟩
      | true =>
        have HBR : Hid _ := hb
        clear hb
        have HE : Hid (colP n y = true) := by
          show (decide (kd n y = 39) && idC (tx n y) && (decide (1 ≤ nu n y) && decide (nu n y ≤ 4)) && emp n.pred (ks n y)) = _
          rw [HBR.out, HI.out, HK.out, decide_eq_true (by omega : 1 ≤ nu n y), decide_eq_true (by omega : nu n y ≤ 4)]
          rfl
        clear h1 h4
        go_wp2_with fail
        refine (rId_said _ _ HN.out.rdy).mono ?_
        rintro e w1 ⟨rfl, hb1⟩
        rw [HI.out]
        replace HN : Hid _ := HN.out.step hb1
        clear c0 c1 c2 c3 c4 d0 d1 d2 d3 d4 hp
        obtain ⟨d0, d1, d2, d3, d4, -, -, -, -, -⟩ := HN.out.box
        obtain ⟨sy, cy, ⟨c0, c1, c2, c3, c4⟩, hp⟩ := HN.out.kids.kid k y HGY.out
        go_wp2_with fail
        refine (rbare_any n.pred _ _ _ _ (ks n y) _ _ _ HN.out.rdy (ksG_of hp)).mono ?_
        rintro e w2 ⟨rfl, hb1⟩
        rw [HBR.out]
        replace HN : Hid _ := HN.out.step hb1
        clear c0 c1 c2 c3 c4 d0 d1 d2 d3 d4 hp
        obtain ⟨d0, d1, d2, d3, d4, -, -, -, -, -⟩ := HN.out.box
        obtain ⟨sy, cy, ⟨c0, c1, c2, c3, c4⟩, hp⟩ := HN.out.kids.kid k y HGY.out
        have HG : Hid _ := HG0.out HE.out
        go_wp2
        go_roundw
        case rel => exact ⟨k + 1, by omega, by go_num, HG.out, HN.out⟩
        case measure => simp [intOf]; omega
    · have HX : Hid (l.all (colP n) = true) := by
        show _ = _
        rw [← HV.out, List.take_of_length_le hge]
      go_wp2_with (go_at_call 65; refine (rId_said _ _ HN.out.rdy).mono ?_; rintro e w1 ⟨rfl, hb1⟩; clear d0 d1 d2 d3 d4; replace HN : Hid _ := HN.out.step hb1; obtain ⟨d0, d1, d2, d3, d4, -, -, -, -, -⟩ := HN.out.box)
      all_goals (go_ret; refine ⟨?_, HN.out.bel⟩; unfold allF; rw [HX.out]; first | (simp_all; done) | (simp_all; intros; omega))
theorem rstmt_50e (n : Nat) (t : List UInt8) (m a : Int) (s : Option Addr) (c : Nat) (w : World) (hR : Rdy w) (hl : KsG w n s c []) :
    Calls Tryz.prog 28 #[.agg #[.int .i64 50, .string (bsA t), .int .i64 m, .int .i64 a, .slice s 0 c]] w fun e w' => e = .returned (.bool (false)) ∧ Below w.heap.size w w' := by
  have HN : Hid (Nd w n 50 t m a [] s c (w.alloc (Obj.cells #[Value.int IntKind.i64 50, Value.string (bsA t), Value.int IntKind.i64 m, Value.int IntKind.i64 a, Value.slice s 0 c] 24))) := Nd.new w n _ t _ a [] s c hR hl
  obtain ⟨d0, d1, d2, d3, d4, -, -, -, -, -⟩ := HN.out.box
  clear hl hR
  go_enter Tryz.func28, Tryz.ntmps28
  go_wp2
  refine wp_loop_rounds 1 ?_
  rw [rounds_succ]
  go_wp2_with (first | (go_at_call 65; (refine (rId_said _ _ HN.out.rdy).mono ?_; rintro e w1 ⟨rfl, hb1⟩; clear d0 d1 d2 d3 d4; replace HN : Hid _ := HN.out.step hb1; obtain ⟨d0, d1, d2, d3, d4, -, -, -, -, -⟩ := HN.out.box)))
  all_goals (go_ret; exact ⟨rfl, HN.out.bel⟩)
theorem rstmt_any (n : Nat) (k : Int) (t : List UInt8) (m a : Int) (l : List (Tr n)) (s : Option Addr) (c : Nat) (w : World) (hR : Rdy w) (hl : KsG w n s c l) (hT : ∀ y ∈ l, Txs n y) : Calls Tryz.prog 28 #[.agg #[.int .i64 k, .string (bsA t), .int .i64 m, .int .i64 a, .slice s l.length c]] w fun e w' => e = .returned (.bool (stmtF n k t m l)) ∧ Below w.heap.size w w' := by
  unfold stmtF
  rcases Classical.em (k = 50) with rfl | h50
  · rw [if_pos rfl]
    cases l with
    | nil =>
      have e : (hidF t m && manyP n [] 1 32 (colP n)) = false := by unfold manyP; simp
      rw [e]
      exact rstmt_50e n t m a s c w hR hl
    | cons y l =>
      obtain ⟨b, off, rfl⟩ := hl.addr
      have h := rstmt_50 n t m a (y :: l) b off c w hR hl hT _ rfl
      have e : (hidF t m && manyP n (y :: l) 1 32 (colP n)) = (allF n (y :: l) (colP n) && (idC t && (m == 0) && decide (1 ≤ ((y :: l).length : Int)) && decide (((y :: l).length : Int) ≤ 32))) := by
        unfold manyP allF hidF
        rw [beqI, Bool.and_comm ((y :: l).all _)]
        simp only [Bool.and_assoc]
      rw [e]
      exact h
  rw [if_neg h50]
  rcases Classical.em (k = 51) with rfl | h51
  · rw [if_pos rfl]
    rcases Classical.em (m = 0) with rfl | hm
    · by_cases h2 : l.length < 2
      · have e : (hidF t 0 && areQ n (l.take 1) [nmeP n] && manyP n (l.drop 1) 1 4 (viewP n)) = false := by
          have e1 : manyP n (l.drop 1) 1 4 (viewP n) = false := by
            unfold manyP
            rw [decide_eq_false (by rw [List.length_drop]; omega), Bool.false_and, Bool.false_and]
          rw [e1, Bool.and_false]
        rw [e]
        exact rstmt_51n n t 0 a l s c w hR hl (eq_false (by omega))
      · obtain ⟨y0, r, rfl⟩ : ∃ y0 r, l = y0 :: r := by
          match l, h2 with
          | [], h2 => simp at h2
          | y0 :: r, _ => exact ⟨y0, r, rfl⟩
        obtain ⟨b, off, rfl⟩ := hl.addr
        have hr : 2 ≤ r.length + 1 := by rw [List.length_cons] at h2; omega
        have h := rstmt_51 n t a y0 r b off c r.length rfl w hR hl hT hl.2.2 (eq_true (by omega))
        have e : (hidF t 0 && areQ n ((y0 :: r).take 1) [nmeP n] && manyP n ((y0 :: r).drop 1) 1 4 (viewP n)) = (idC t && nmeP n y0 && vwsF n r) := by
          have e1 : (y0 :: r).take 1 = [y0] := rfl
          have e2 : (y0 :: r).drop 1 = r := rfl
          have e3 : manyP n r 1 4 (viewP n) = vwsF n r := by
            unfold manyP vwsF allF
            rw [decide_eq_true (by omega : (1 : Int) ≤ (r.length : Int)), Bool.true_and, Bool.and_comm]
          rw [e1, e2, e3, areQ_cons, areQ_nil, Bool.and_true, hidF, decide_eq_true rfl, Bool.and_true]
        rw [e]
        exact h
    · rw [hidF, decide_eq_false hm, Bool.and_false, Bool.false_and, Bool.false_and]
      exact rstmt_51m n t m a l s c w hR hl (by simpa using hm)
  rw [if_neg h51]
  rcases Classical.em (k = 52) with rfl | h52
  · rw [if_pos rfl]
    rcases Classical.em (m = 0) with rfl | hm
    · by_cases h1 : l.length = 1
      · obtain ⟨y0, rfl⟩ := List.length_eq_one_iff.1 h1
        obtain ⟨b, off, rfl⟩ := hl.addr
        rw [areQ_cons, areQ_nil, Bool.and_true, hidF, decide_eq_true rfl, Bool.and_true]
        exact rstmt_52 n t a y0 b off c w hR hl hT (partP n) (rctx_rm n w hR)
      · rw [areQ_ne _ _ _ (by simpa using h1), Bool.and_false]
        exact rstmt_52n n t 0 a l s c w hR hl (len_ne h1)
    · rw [hidF, decide_eq_false hm, Bool.and_false, Bool.false_and]
      exact rstmt_52m n t m a l s c w hR hl (by simpa using hm)
  rw [if_neg h52]
  rcases Classical.em (k = 53) with rfl | h53
  · rw [if_pos rfl]
    exact rstmt_53 n t m a l s c w hR hl hT
  rw [if_neg h53]
  rcases Classical.em (k = 54) with rfl | h54
  · rw [if_pos rfl]
    by_cases hn : l.length = 3
    · obtain ⟨y0, y1, y2, rfl⟩ := len3 hn
      obtain ⟨b, off, rfl⟩ := hl.addr
      have h := rstmt_54 n t m a y0 y1 y2 b off c w hR hl hT
      rw [areQ_cons, areQ_cons, areQ_cons, areQ_nil, Bool.and_true]
      simp only [Bool.and_assoc] at h ⊢
      exact h
    · rw [areQ_ne _ _ _ (by simpa using hn), Bool.and_false]
      exact rstmt_54n n t m a l s c w hR hl (len_ne hn)
  rw [if_neg h54]
  rcases Classical.em (k = 55) with rfl | h55
  · rw [if_pos rfl]
    by_cases hn : l.length = 4
    · obtain ⟨y0, y1, y2, y3, rfl⟩ := len4 hn
      obtain ⟨b, off, rfl⟩ := hl.addr
      have h := rstmt_55 n t m a y0 y1 y2 y3 b off c w hR hl hT
      rw [areQ_cons, areQ_cons, areQ_cons, areQ_cons, areQ_nil, Bool.and_true]
      simp only [Bool.and_assoc] at h ⊢
      exact h
    · rw [areQ_ne _ _ _ (by simpa using hn), Bool.and_false]
      exact rstmt_55n n t m a l s c w hR hl (len_ne hn)
  rw [if_neg h55]
  rcases Classical.em (k = 56) with rfl | h56
  · rw [if_pos rfl]
    by_cases hn : l.length = 4
    · obtain ⟨y0, y1, y2, y3, rfl⟩ := len4 hn
      obtain ⟨b, off, rfl⟩ := hl.addr
      have h := rstmt_56 n t m a y0 y1 y2 y3 b off c w hR hl hT
      rw [areQ_cons, areQ_cons, areQ_cons, areQ_cons, areQ_nil, Bool.and_true]
      simp only [Bool.and_assoc] at h ⊢
      exact h
    · rw [areQ_ne _ _ _ (by simpa using hn), Bool.and_false]
      exact rstmt_56n n t m a l s c w hR hl (len_ne hn)
  rw [if_neg h56]
  rcases Classical.em (k = 57) with rfl | h57
  · rw [if_pos rfl]
    rw [← bit_flag]
    by_cases hn : l.length = 4
    · obtain ⟨y0, y1, y2, y3, rfl⟩ := len4 hn
      obtain ⟨b, off, rfl⟩ := hl.addr
      have h := rstmt_57 n t m a y0 y1 y2 y3 b off c w hR hl hT
      rw [areQ_cons, areQ_cons, areQ_cons, areQ_cons, areQ_nil, Bool.and_true]
      simp only [Bool.and_assoc] at h ⊢
      exact h
    · rw [areQ_ne _ _ _ (by simpa using hn), Bool.and_false]
      exact rstmt_57n n t m a l s c w hR hl (len_ne hn)
  rw [if_neg h57]
  exact rstmt_x n k t m a l s c w hR hl (by simpa using h50) (by simpa using h51) (by simpa using h52) (by simpa using h53) (by simpa using h54) (by simpa using h55) (by simpa using h56) (by simpa using h57)
theorem rstmt_rm (n : Nat) (w : World) (hR : Rdy w) : RM 28 n (stmtP n) w := ⟨fun W hW y s c hy ht => by
  cases n with
  | zero => exact Empty.elim y
  | succ n => exact rstmt_any n (kd (n + 1) y) (tx (n + 1) y) (nu (n + 1) y) (pl (n + 1) y) (ks (n + 1) y) s c W (hR.below hW) (NdG.kids hy) ht.2⟩
theorem RForm_any (n : Nat) (x : Tr n) (s : Option Addr) (c : Nat) (w : World) (hR : Rdy w) (hx : NdG w n x s c) (hT : Txs n x) :
    Calls Tryz.prog 9 #[ndV n x s c] w fun e w' => e = .returned (.int .i64 (formI (exprP n x) (patP n x) (stmtP n x))) ∧ Below w.heap.size w w' := by
  cases n with
  | zero => exact Empty.elim x
  | succ n =>
  have HN : Hid (Nd w n (kd (n + 1) x) (tx (n + 1) x) (nu (n + 1) x) (pl (n + 1) x) (ks (n + 1) x) s c (w.alloc (Obj.cells #[Value.int IntKind.i64 (kd (n + 1) x), Value.string (bsA (tx (n + 1) x)), Value.int IntKind.i64 (nu (n + 1) x), Value.int IntKind.i64 (pl (n + 1) x), Value.slice s (ks (n + 1) x).length c] 24))) := Nd.new w n _ _ _ _ _ s c hR (NdG.kids hx)
  obtain ⟨d0, d1, d2, d3, d4, -, -, -, -, -⟩ := HN.out.box
  unfold ndV
  clear hx hR
  go_enter Tryz.func9, Tryz.ntmps9
  go_wp2_with (first | (go_at_call 26; refine ((rexpr_rm rId_said (n + 1) _ HN.out.rdy).run _ (Below.refl _ _) x s c HN.out.kids hT).mono ?_; rintro e w1 ⟨rfl, hb1⟩; clear d0 d1 d2 d3 d4; replace HN : Hid _ := HN.out.step hb1; obtain ⟨d0, d1, d2, d3, d4, -, -, -, -, -⟩ := HN.out.box) | (go_at_call 27; refine ((rpat_rm (n + 1) _ HN.out.rdy).run _ (Below.refl _ _) x s c HN.out.kids hT).mono ?_; rintro e w1 ⟨rfl, hb1⟩; clear d0 d1 d2 d3 d4; replace HN : Hid _ := HN.out.step hb1; obtain ⟨d0, d1, d2, d3, d4, -, -, -, -, -⟩ := HN.out.box) | (go_at_call 28; refine ((rstmt_rm (n + 1) _ HN.out.rdy).run _ (Below.refl _ _) x s c HN.out.kids hT).mono ?_; rintro e w1 ⟨rfl, hb1⟩; clear d0 d1 d2 d3 d4; replace HN : Hid _ := HN.out.step hb1; obtain ⟨d0, d1, d2, d3, d4, -, -, -, -, -⟩ := HN.out.box))
  all_goals (go_ret; exact ⟨by simp_all [formI], HN.out.bel⟩)
end Go.Proofs.YtcemogaacicnfaaGreatDoor
