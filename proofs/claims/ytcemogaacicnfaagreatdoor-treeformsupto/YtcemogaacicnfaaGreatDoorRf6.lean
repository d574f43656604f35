/- Views, by the document. -/
import Derived.Test.YtcemogaacicnfaaGreatDoorRf5
namespace Go.Proofs.YtcemogaacicnfaaGreatDoor
set_option linter.unusedSimpArgs false
set_option maxRecDepth 20000
set_option maxHeartbeats 4000000
open Go.ChangeShapes Go.WideShapes Go.ChangeAt Go.RowKit

theorem rcount_any (n : Nat) (k : Int) (t : List UInt8) (m a : Int) (l : List (Tr n)) (s : Option Addr) (c : Nat) (w : World) (hR : Rdy w) (hl : KsG w n s c l) :
    Calls Tryz.prog 125 #[.agg #[.int .i64 k, .string (bsA t), .int .i64 m, .int .i64 a, .slice s l.length c]] w fun e w' => e = .returned (.bool (sizF n k t m l)) ∧ Below w.heap.size w w' := by
  rcases Classical.em (k = 3) with rfl | h0
  · have HN : Hid (Nd w n 3 t m a l s c (w.alloc (Obj.cells #[Value.int IntKind.i64 3, Value.string (bsA t), Value.int IntKind.i64 m, Value.int IntKind.i64 a, Value.slice s l.length c] 24))) := Nd.new w n _ t _ a l s c hR hl
    obtain ⟨d0, d1, d2, d3, d4, -, -, -, -, -⟩ := HN.out.box
    clear hl hR
    go_enter Tryz.func125, Tryz.ntmps125
    go_wp2_with (first | (go_at_call 73; (refine (rbare_any n _ _ _ _ l _ _ _ HN.out.rdy HN.out.kids).mono ?_; rintro e w1 ⟨rfl, hb1⟩; clear d0 d1 d2 d3 d4; replace HN : Hid _ := HN.out.step hb1; obtain ⟨d0, d1, d2, d3, d4, -, -, -, -, -⟩ := HN.out.box)))
    all_goals (go_ret; refine ⟨?_, HN.out.bel⟩; first | (simp_all [bsA_tl, beqI, beqL, sizF, witF]; done) | (simp_all [bsA_tl, beqI, beqL, sizF, witF]; omega))
  · have HN : Hid (Nd w n k t m a l s c (w.alloc (Obj.cells #[Value.int IntKind.i64 k, Value.string (bsA t), Value.int IntKind.i64 m, Value.int IntKind.i64 a, Value.slice s l.length c] 24))) := Nd.new w n _ t _ a l s c hR hl
    obtain ⟨d0, d1, d2, d3, d4, -, -, -, -, -⟩ := HN.out.box
    clear hl hR
    go_enter Tryz.func125, Tryz.ntmps125
    go_wp2_with (first | (go_at_call 73; (refine (rbare_any n _ _ _ _ l _ _ _ HN.out.rdy HN.out.kids).mono ?_; rintro e w1 ⟨rfl, hb1⟩; clear d0 d1 d2 d3 d4; replace HN : Hid _ := HN.out.step hb1; obtain ⟨d0, d1, d2, d3, d4, -, -, -, -, -⟩ := HN.out.box)))
    all_goals (go_ret; refine ⟨?_, HN.out.bel⟩; first | (simp_all [bsA_tl, beqI, beqL, sizF, witF]; done) | (simp_all [bsA_tl, beqI, beqL, sizF, witF]; omega))
theorem rperiod_any (n : Nat) (k : Int) (t : List UInt8) (m a : Int) (l : List (Tr n)) (s : Option Addr) (c : Nat) (w : World) (hR : Rdy w) (hl : KsG w n s c l) :
    Calls Tryz.prog 126 #[.agg #[.int .i64 k, .string (bsA t), .int .i64 m, .int .i64 a, .slice s l.length c]] w fun e w' => e = .returned (.bool (prdF n k t m l)) ∧ Below w.heap.size w w' := by
  rcases Classical.em (k = 3) with rfl | h0
  · have HN : Hid (Nd w n 3 t m a l s c (w.alloc (Obj.cells #[Value.int IntKind.i64 3, Value.string (bsA t), Value.int IntKind.i64 m, Value.int IntKind.i64 a, Value.slice s l.length c] 24))) := Nd.new w n _ t _ a l s c hR hl
    obtain ⟨d0, d1, d2, d3, d4, -, -, -, -, -⟩ := HN.out.box
    clear hl hR
    go_enter Tryz.func126, Tryz.ntmps126
    go_wp2_with (first | (go_at_call 73; (refine (rbare_any n _ _ _ _ l _ _ _ HN.out.rdy HN.out.kids).mono ?_; rintro e w1 ⟨rfl, hb1⟩; clear d0 d1 d2 d3 d4; replace HN : Hid _ := HN.out.step hb1; obtain ⟨d0, d1, d2, d3, d4, -, -, -, -, -⟩ := HN.out.box)))
    all_goals (go_ret; refine ⟨?_, HN.out.bel⟩; first | (simp_all [bsA_tl, beqI, beqL, prdF, witF]; done) | (simp_all [bsA_tl, beqI, beqL, prdF, witF]; omega))
  · have HN : Hid (Nd w n k t m a l s c (w.alloc (Obj.cells #[Value.int IntKind.i64 k, Value.string (bsA t), Value.int IntKind.i64 m, Value.int IntKind.i64 a, Value.slice s l.length c] 24))) := Nd.new w n _ t _ a l s c hR hl
    obtain ⟨d0, d1, d2, d3, d4, -, -, -, -, -⟩ := HN.out.box
    clear hl hR
    go_enter Tryz.func126, Tryz.ntmps126
    go_wp2_with (first | (go_at_call 73; (refine (rbare_any n _ _ _ _ l _ _ _ HN.out.rdy HN.out.kids).mono ?_; rintro e w1 ⟨rfl, hb1⟩; clear d0 d1 d2 d3 d4; replace HN : Hid _ := HN.out.step hb1; obtain ⟨d0, d1, d2, d3, d4, -, -, -, -, -⟩ := HN.out.box)))
    all_goals (go_ret; refine ⟨?_, HN.out.bel⟩; first | (simp_all [bsA_tl, beqI, beqL, prdF, witF]; done) | (simp_all [bsA_tl, beqI, beqL, prdF, witF]; omega))
theorem rcolumn_any (n : Nat) (k : Int) (t : List UInt8) (m a : Int) (l : List (Tr n)) (s : Option Addr) (c : Nat) (w : World) (hR : Rdy w) (hl : KsG w n s c l) (hI : RIdSaid) :
    Calls Tryz.prog 127 #[.agg #[.int .i64 k, .string (bsA t), .int .i64 m, .int .i64 a, .slice s l.length c]] w fun e w' => e = .returned (.bool (ownF n k t m l)) ∧ Below w.heap.size w w' := by
  rcases Classical.em (k = 6) with rfl | h0
  all_goals rcases Classical.em (m = 0) with rfl | h1
  · have HN : Hid (Nd w n 6 t 0 a l s c (w.alloc (Obj.cells #[Value.int IntKind.i64 6, Value.string (bsA t), Value.int IntKind.i64 0, Value.int IntKind.i64 a, Value.slice s l.length c] 24))) := Nd.new w n _ t _ a l s c hR hl
    obtain ⟨d0, d1, d2, d3, d4, -, -, -, -, -⟩ := HN.out.box
    have HID : Hid RIdSaid := hI
    clear hI
    clear hl hR
    go_enter Tryz.func127, Tryz.ntmps127
    go_wp2_with (first | (go_at_call 65; (refine (HID.out _ _ HN.out.rdy).mono ?_; rintro e w1 ⟨rfl, hb1⟩; clear d0 d1 d2 d3 d4; replace HN : Hid _ := HN.out.step hb1; obtain ⟨d0, d1, d2, d3, d4, -, -, -, -, -⟩ := HN.out.box)) | (go_at_call 73; (refine (rbare_any n _ _ _ _ l _ _ _ HN.out.rdy HN.out.kids).mono ?_; rintro e w1 ⟨rfl, hb1⟩; clear d0 d1 d2 d3 d4; replace HN : Hid _ := HN.out.step hb1; obtain ⟨d0, d1, d2, d3, d4, -, -, -, -, -⟩ := HN.out.box)))
    all_goals (go_ret; exact ⟨by simp_all [bsA_tl, beqI, beqL, ownF, hidF], HN.out.bel⟩)
  · have HN : Hid (Nd w n 6 t m a l s c (w.alloc (Obj.cells #[Value.int IntKind.i64 6, Value.string (bsA t), Value.int IntKind.i64 m, Value.int IntKind.i64 a, Value.slice s l.length c] 24))) := Nd.new w n _ t _ a l s c hR hl
    obtain ⟨d0, d1, d2, d3, d4, -, -, -, -, -⟩ := HN.out.box
    have HID : Hid RIdSaid := hI
    clear hI
    clear hl hR
    go_enter Tryz.func127, Tryz.ntmps127
    go_wp2_with (first | (go_at_call 65; (refine (HID.out _ _ HN.out.rdy).mono ?_; rintro e w1 ⟨rfl, hb1⟩; clear d0 d1 d2 d3 d4; replace HN : Hid _ := HN.out.step hb1; obtain ⟨d0, d1, d2, d3, d4, -, -, -, -, -⟩ := HN.out.box)) | (go_at_call 73; (refine (rbare_any n _ _ _ _ l _ _ _ HN.out.rdy HN.out.kids).mono ?_; rintro e w1 ⟨rfl, hb1⟩; clear d0 d1 d2 d3 d4; replace HN : Hid _ := HN.out.step hb1; obtain ⟨d0, d1, d2, d3, d4, -, -, -, -, -⟩ := HN.out.box)))
    all_goals (go_ret; exact ⟨by simp_all [bsA_tl, beqI, beqL, ownF, hidF], HN.out.bel⟩)
  · have HN : Hid (Nd w n k t 0 a l s c (w.alloc (Obj.cells #[Value.int IntKind.i64 k, Value.string (bsA t), Value.int IntKind.i64 0, Value.int IntKind.i64 a, Value.slice s l.length c] 24))) := Nd.new w n _ t _ a l s c hR hl
    obtain ⟨d0, d1, d2, d3, d4, -, -, -, -, -⟩ := HN.out.box
    have HID : Hid RIdSaid := hI
    clear hI
    clear hl hR
    go_enter Tryz.func127, Tryz.ntmps127
    go_wp2_with (first | (go_at_call 65; (refine (HID.out _ _ HN.out.rdy).mono ?_; rintro e w1 ⟨rfl, hb1⟩; clear d0 d1 d2 d3 d4; replace HN : Hid _ := HN.out.step hb1; obtain ⟨d0, d1, d2, d3, d4, -, -, -, -, -⟩ := HN.out.box)) | (go_at_call 73; (refine (rbare_any n _ _ _ _ l _ _ _ HN.out.rdy HN.out.kids).mono ?_; rintro e w1 ⟨rfl, hb1⟩; clear d0 d1 d2 d3 d4; replace HN : Hid _ := HN.out.step hb1; obtain ⟨d0, d1, d2, d3, d4, -, -, -, -, -⟩ := HN.out.box)))
    all_goals (go_ret; exact ⟨by simp_all [bsA_tl, beqI, beqL, ownF, hidF], HN.out.bel⟩)
  · have HN : Hid (Nd w n k t m a l s c (w.alloc (Obj.cells #[Value.int IntKind.i64 k, Value.string (bsA t), Value.int IntKind.i64 m, Value.int IntKind.i64 a, Value.slice s l.length c] 24))) := Nd.new w n _ t _ a l s c hR hl
    obtain ⟨d0, d1, d2, d3, d4, -, -, -, -, -⟩ := HN.out.box
    have HID : Hid RIdSaid := hI
    clear hI
    clear hl hR
    go_enter Tryz.func127, Tryz.ntmps127
    go_wp2_with (first | (go_at_call 65; (refine (HID.out _ _ HN.out.rdy).mono ?_; rintro e w1 ⟨rfl, hb1⟩; clear d0 d1 d2 d3 d4; replace HN : Hid _ := HN.out.step hb1; obtain ⟨d0, d1, d2, d3, d4, -, -, -, -, -⟩ := HN.out.box)) | (go_at_call 73; (refine (rbare_any n _ _ _ _ l _ _ _ HN.out.rdy HN.out.kids).mono ?_; rintro e w1 ⟨rfl, hb1⟩; clear d0 d1 d2 d3 d4; replace HN : Hid _ := HN.out.step hb1; obtain ⟨d0, d1, d2, d3, d4, -, -, -, -, -⟩ := HN.out.box)))
    all_goals (go_ret; exact ⟨by simp_all [bsA_tl, beqI, beqL, ownF, hidF], HN.out.bel⟩)
theorem rcount_rm (n : Nat) (w : World) (hR : Rdy w) : RM 125 n (sizP n) w := ⟨fun W hW y s c hy ht => by
  cases n with
  | zero => exact Empty.elim y
  | succ n => exact rcount_any n (kd (n + 1) y) (tx (n + 1) y) (nu (n + 1) y) (pl (n + 1) y) (ks (n + 1) y) s c W (hR.below hW) (NdG.kids hy)⟩
theorem rperiod_rm (n : Nat) (w : World) (hR : Rdy w) : RM 126 n (prdP n) w := ⟨fun W hW y s c hy ht => by
  cases n with
  | zero => exact Empty.elim y
  | succ n => exact rperiod_any n (kd (n + 1) y) (tx (n + 1) y) (nu (n + 1) y) (pl (n + 1) y) (ks (n + 1) y) s c W (hR.below hW) (NdG.kids hy)⟩
theorem rcolumn_rm (n : Nat) (w : World) (hR : Rdy w) : RM 127 n (ownP n) w := ⟨fun W hW y s c hy ht => by
  cases n with
  | zero => exact Empty.elim y
  | succ n => exact rcolumn_any n (kd (n + 1) y) (tx (n + 1) y) (nu (n + 1) y) (pl (n + 1) y) (ks (n + 1) y) s c W (hR.below hW) (NdG.kids hy) rId_said⟩
theorem rview_00 (n : Nat) (t : List UInt8) (a : Int) (l : List (Tr n)) (s : Option Addr) (c : Nat) (w : World) (hR : Rdy w) (hl : KsG w n s c l) (q0 : Bool) (g0 : ((l.length : Int) == 0) = q0) (ht : (bsA t).toList = [107, 101, 101, 112, 97, 108, 108]) :
    Calls Tryz.prog 113 #[.agg #[.int .i64 23, .string (bsA t), .int .i64 0, .int .i64 a, .slice s l.length c]] w fun e w' => e = .returned (.bool (q0)) ∧ Below w.heap.size w w' := by
  have HN : Hid (Nd w n 23 t 0 a l s c (w.alloc (Obj.cells #[Value.int IntKind.i64 23, Value.string (bsA t), Value.int IntKind.i64 0, Value.int IntKind.i64 a, Value.slice s l.length c] 24))) := Nd.new w n _ t _ a l s c hR hl
  obtain ⟨d0, d1, d2, d3, d4, -, -, -, -, -⟩ := HN.out.box
  clear hl hR
  go_enter Tryz.func113, Tryz.ntmps113
  go_wp2_with (first | fail)
  all_goals (go_ret; exact ⟨rfl, HN.out.bel⟩)
theorem rview_01 (n : Nat) (t : List UInt8) (a : Int) (l : List (Tr n)) (s : Option Addr) (c : Nat) (w : World) (hR : Rdy w) (hl : KsG w n s c l) (q0 : Bool) (g0 : ((l.length : Int) == 0) = q0) (ht : (bsA t).toList = [108, 97, 115, 116, 101, 118, 101, 110, 116]) :
    Calls Tryz.prog 113 #[.agg #[.int .i64 23, .string (bsA t), .int .i64 0, .int .i64 a, .slice s l.length c]] w fun e w' => e = .returned (.bool (q0)) ∧ Below w.heap.size w w' := by
  have HN : Hid (Nd w n 23 t 0 a l s c (w.alloc (Obj.cells #[Value.int IntKind.i64 23, Value.string (bsA t), Value.int IntKind.i64 0, Value.int IntKind.i64 a, Value.slice s l.length c] 24))) := Nd.new w n _ t _ a l s c hR hl
  obtain ⟨d0, d1, d2, d3, d4, -, -, -, -, -⟩ := HN.out.box
  clear hl hR
  go_enter Tryz.func113, Tryz.ntmps113
  go_wp2_with (first | fail)
  all_goals (go_ret; exact ⟨rfl, HN.out.bel⟩)
theorem rview_02 (n : Nat) (t : List UInt8) (a : Int) (l : List (Tr n)) (s : Option Addr) (c : Nat) (w : World) (hR : Rdy w) (hl : KsG w n s c l) (q0 : Bool) (g0 : ((l.length : Int) == 0) = q0) (ht : (bsA t).toList = [102, 105, 114, 115, 116, 101, 118, 101, 110, 116]) :
    Calls Tryz.prog 113 #[.agg #[.int .i64 23, .string (bsA t), .int .i64 0, .int .i64 a, .slice s l.length c]] w fun e w' => e = .returned (.bool (q0)) ∧ Below w.heap.size w w' := by
  have HN : Hid (Nd w n 23 t 0 a l s c (w.alloc (Obj.cells #[Value.int IntKind.i64 23, Value.string (bsA t), Value.int IntKind.i64 0, Value.int IntKind.i64 a, Value.slice s l.length c] 24))) := Nd.new w n _ t _ a l s c hR hl
  obtain ⟨d0, d1, d2, d3, d4, -, -, -, -, -⟩ := HN.out.box
  clear hl hR
  go_enter Tryz.func113, Tryz.ntmps113
  go_wp2_with (first | fail)
  all_goals (go_ret; exact ⟨rfl, HN.out.bel⟩)
theorem rview_10 (n : Nat) (t : List UInt8) (a : Int) (y0 : Tr n) (b off c : Nat) (w : World) (hR : Rdy w) (hl : KsG w n (some ⟨b, off, none⟩) c [y0]) (ht : (bsA t).toList = [108, 101, 110, 103, 116, 104]) (hF : RM 125 n (sizP n) w) (hT : ∀ y ∈ [y0], Txs n y) :
    Calls Tryz.prog 113 #[.agg #[.int .i64 23, .string (bsA t), .int .i64 0, .int .i64 a, .slice (some ⟨b, off, none⟩) 1 c]] w fun e w' => e = .returned (.bool (sizP n y0)) ∧ Below w.heap.size w w' := by
  have HN : Hid (Nd w n 23 t 0 a [y0] (some ⟨b, off, none⟩) c (w.alloc (Obj.cells #[Value.int IntKind.i64 23, Value.string (bsA t), Value.int IntKind.i64 0, Value.int IntKind.i64 a, Value.slice (some ⟨b, off, none⟩) 1 c] 24))) := Nd.new w n 23 t 0 a [y0] (some ⟨b, off, none⟩) c hR hl
  obtain ⟨d0, d1, d2, d3, d4, -, -, -, -, -⟩ := HN.out.box
  obtain ⟨s0, k0, ⟨c0, c1, c2, c3, c4⟩, hg0⟩ := HN.out.kids.kid 0 y0 rfl
  simp only [Nat.reduceMul, Nat.add_zero, Nat.reduceAdd, Nat.add_assoc, Nat.zero_mul] at c0 c1 c2 c3 c4
  have HF : Hid (RM 125 n (sizP n) w) := hF
  have HT : Hid (∀ y ∈ [y0], Txs n y) := hT
  clear hF hT
  clear hl hR
  go_enter Tryz.func113, Tryz.ntmps113
  go_wp2_with (first | (go_at_call 125; refine (HF.out.run _ HN.out.bel y0 s0 k0 hg0 (HT.out y0 (by simp))).mono ?_; rintro e w1 ⟨rfl, hb1⟩; clear c0 c1 c2 c3 c4 hg0; clear d0 d1 d2 d3 d4; replace HN : Hid _ := HN.out.step hb1; obtain ⟨d0, d1, d2, d3, d4, -, -, -, -, -⟩ := HN.out.box; obtain ⟨s0, k0, ⟨c0, c1, c2, c3, c4⟩, hg0⟩ := HN.out.kids.kid 0 y0 rfl; simp only [Nat.reduceMul, Nat.add_zero, Nat.reduceAdd, Nat.add_assoc, Nat.zero_mul] at c0 c1 c2 c3 c4))
  all_goals (go_ret; exact ⟨by simp_all [bsA_tl, beqI, beqL], HN.out.bel⟩)
theorem rview_10n (n : Nat) (t : List UInt8) (a : Int) (l : List (Tr n)) (s : Option Addr) (c : Nat) (w : World) (hR : Rdy w) (hl : KsG w n s c l) (g1 : ((l.length : Int) == 1) = false) (ht : (bsA t).toList = [108, 101, 110, 103, 116, 104]) :
    Calls Tryz.prog 113 #[.agg #[.int .i64 23, .string (bsA t), .int .i64 0, .int .i64 a, .slice s l.length c]] w fun e w' => e = .returned (.bool (false)) ∧ Below w.heap.size w w' := by
  have HN : Hid (Nd w n 23 t 0 a l s c (w.alloc (Obj.cells #[Value.int IntKind.i64 23, Value.string (bsA t), Value.int IntKind.i64 0, Value.int IntKind.i64 a, Value.slice s l.length c] 24))) := Nd.new w n _ t _ a l s c hR hl
  obtain ⟨d0, d1, d2, d3, d4, -, -, -, -, -⟩ := HN.out.box
  clear hl hR
  go_enter Tryz.func113, Tryz.ntmps113
  go_wp2_with (first | fail)
  all_goals (go_ret; exact ⟨rfl, HN.out.bel⟩)
theorem rview_11 (n : Nat) (t : List UInt8) (a : Int) (y0 : Tr n) (b off c : Nat) (w : World) (hR : Rdy w) (hl : KsG w n (some ⟨b, off, none⟩) c [y0]) (ht : (bsA t).toList = [108, 101, 110, 103, 116, 104, 95, 98, 97, 116, 99, 104]) (hF : RM 125 n (sizP n) w) (hT : ∀ y ∈ [y0], Txs n y) :
    Calls Tryz.prog 113 #[.agg #[.int .i64 23, .string (bsA t), .int .i64 0, .int .i64 a, .slice (some ⟨b, off, none⟩) 1 c]] w fun e w' => e = .returned (.bool (sizP n y0)) ∧ Below w.heap.size w w' := by
  have HN : Hid (Nd w n 23 t 0 a [y0] (some ⟨b, off, none⟩) c (w.alloc (Obj.cells #[Value.int IntKind.i64 23, Value.string (bsA t), Value.int IntKind.i64 0, Value.int IntKind.i64 a, Value.slice (some ⟨b, off, none⟩) 1 c] 24))) := Nd.new w n 23 t 0 a [y0] (some ⟨b, off, none⟩) c hR hl
  obtain ⟨d0, d1, d2, d3, d4, -, -, -, -, -⟩ := HN.out.box
  obtain ⟨s0, k0, ⟨c0, c1, c2, c3, c4⟩, hg0⟩ := HN.out.kids.kid 0 y0 rfl
  simp only [Nat.reduceMul, Nat.add_zero, Nat.reduceAdd, Nat.add_assoc, Nat.zero_mul] at c0 c1 c2 c3 c4
  have HF : Hid (RM 125 n (sizP n) w) := hF
  have HT : Hid (∀ y ∈ [y0], Txs n y) := hT
  clear hF hT
  clear hl hR
  go_enter Tryz.func113, Tryz.ntmps113
  go_wp2_with (first | (go_at_call 125; refine (HF.out.run _ HN.out.bel y0 s0 k0 hg0 (HT.out y0 (by simp))).mono ?_; rintro e w1 ⟨rfl, hb1⟩; clear c0 c1 c2 c3 c4 hg0; clear d0 d1 d2 d3 d4; replace HN : Hid _ := HN.out.step hb1; obtain ⟨d0, d1, d2, d3, d4, -, -, -, -, -⟩ := HN.out.box; obtain ⟨s0, k0, ⟨c0, c1, c2, c3, c4⟩, hg0⟩ := HN.out.kids.kid 0 y0 rfl; simp only [Nat.reduceMul, Nat.add_zero, Nat.reduceAdd, Nat.add_assoc, Nat.zero_mul] at c0 c1 c2 c3 c4))
  all_goals (go_ret; exact ⟨by simp_all [bsA_tl, beqI, beqL], HN.out.bel⟩)
theorem rview_11n (n : Nat) (t : List UInt8) (a : Int) (l : List (Tr n)) (s : Option Addr) (c : Nat) (w : World) (hR : Rdy w) (hl : KsG w n s c l) (g1 : ((l.length : Int) == 1) = false) (ht : (bsA t).toList = [108, 101, 110, 103, 116, 104, 95, 98, 97, 116, 99, 104]) :
    Calls Tryz.prog 113 #[.agg #[.int .i64 23, .string (bsA t), .int .i64 0, .int .i64 a, .slice s l.length c]] w fun e w' => e = .returned (.bool (false)) ∧ Below w.heap.size w w' := by
  have HN : Hid (Nd w n 23 t 0 a l s c (w.alloc (Obj.cells #[Value.int IntKind.i64 23, Value.string (bsA t), Value.int IntKind.i64 0, Value.int IntKind.i64 a, Value.slice s l.length c] 24))) := Nd.new w n _ t _ a l s c hR hl
  obtain ⟨d0, d1, d2, d3, d4, -, -, -, -, -⟩ := HN.out.box
  clear hl hR
  go_enter Tryz.func113, Tryz.ntmps113
  go_wp2_with (first | fail)
  all_goals (go_ret; exact ⟨rfl, HN.out.bel⟩)
theorem rview_20 (n : Nat) (t : List UInt8) (a : Int) (y0 : Tr n) (b off c : Nat) (w : World) (hR : Rdy w) (hl : KsG w n (some ⟨b, off, none⟩) c [y0]) (ht : (bsA t).toList = [116, 105, 109, 101]) (hF : RM 126 n (prdP n) w) (hT : ∀ y ∈ [y0], Txs n y) :
    Calls Tryz.prog 113 #[.agg #[.int .i64 23, .string (bsA t), .int .i64 0, .int .i64 a, .slice (some ⟨b, off, none⟩) 1 c]] w fun e w' => e = .returned (.bool (prdP n y0)) ∧ Below w.heap.size w w' := by
  have HN : Hid (Nd w n 23 t 0 a [y0] (some ⟨b, off, none⟩) c (w.alloc (Obj.cells #[Value.int IntKind.i64 23, Value.string (bsA t), Value.int IntKind.i64 0, Value.int IntKind.i64 a, Value.slice (some ⟨b, off, none⟩) 1 c] 24))) := Nd.new w n 23 t 0 a [y0] (some ⟨b, off, none⟩) c hR hl
  obtain ⟨d0, d1, d2, d3, d4, -, -, -, -, -⟩ := HN.out.box
  obtain ⟨s0, k0, ⟨c0, c1, c2, c3, c4⟩, hg0⟩ := HN.out.kids.kid 0 y0 rfl
  simp only [Nat.reduceMul, Nat.add_zero, Nat.reduceAdd, Nat.add_assoc, Nat.zero_mul] at c0 c1 c2 c3 c4
  have HF : Hid (RM 126 n (prdP n) w) := hF
  have HT : Hid (∀ y ∈ [y0], Txs n y) := hT
  clear hF hT
  clear hl hR
  go_enter Tryz.func113, Tryz.ntmps113
  go_wp2_with (first | (go_at_call 126; refine (HF.out.run _ HN.out.bel y0 s0 k0 hg0 (HT.out y0 (by simp))).mono ?_; rintro e w1 ⟨rfl, hb1⟩; clear c0 c1 c2 c3 c4 hg0; clear d0 d1 d2 d3 d4; replace HN : Hid _ := HN.out.step hb1; obtain ⟨d0, d1, d2, d3, d4, -, -, -, -, -⟩ := HN.out.box; obtain ⟨s0, k0, ⟨c0, c1, c2, c3, c4⟩, hg0⟩ := HN.out.kids.kid 0 y0 rfl; simp only [Nat.reduceMul, Nat.add_zero, Nat.reduceAdd, Nat.add_assoc, Nat.zero_mul] at c0 c1 c2 c3 c4))
  all_goals (go_ret; exact ⟨by simp_all [bsA_tl, beqI, beqL], HN.out.bel⟩)
theorem rview_20n (n : Nat) (t : List UInt8) (a : Int) (l : List (Tr n)) (s : Option Addr) (c : Nat) (w : World) (hR : Rdy w) (hl : KsG w n s c l) (g1 : ((l.length : Int) == 1) = false) (ht : (bsA t).toList = [116, 105, 109, 101]) :
    Calls Tryz.prog 113 #[.agg #[.int .i64 23, .string (bsA t), .int .i64 0, .int .i64 a, .slice s l.length c]] w fun e w' => e = .returned (.bool (false)) ∧ Below w.heap.size w w' := by
  have HN : Hid (Nd w n 23 t 0 a l s c (w.alloc (Obj.cells #[Value.int IntKind.i64 23, Value.string (bsA t), Value.int IntKind.i64 0, Value.int IntKind.i64 a, Value.slice s l.length c] 24))) := Nd.new w n _ t _ a l s c hR hl
  obtain ⟨d0, d1, d2, d3, d4, -, -, -, -, -⟩ := HN.out.box
  clear hl hR
  go_enter Tryz.func113, Tryz.ntmps113
  go_wp2_with (first | fail)
  all_goals (go_ret; exact ⟨rfl, HN.out.bel⟩)
theorem rview_21 (n : Nat) (t : List UInt8) (a : Int) (y0 : Tr n) (b off c : Nat) (w : World) (hR : Rdy w) (hl : KsG w n (some ⟨b, off, none⟩) c [y0]) (ht : (bsA t).toList = [116, 105, 109, 101, 95, 98, 97, 116, 99, 104]) (hF : RM 126 n (prdP n) w) (hT : ∀ y ∈ [y0], Txs n y) :
    Calls Tryz.prog 113 #[.agg #[.int .i64 23, .string (bsA t), .int .i64 0, .int .i64 a, .slice (some ⟨b, off, none⟩) 1 c]] w fun e w' => e = .returned (.bool (prdP n y0)) ∧ Below w.heap.size w w' := by
  have HN : Hid (Nd w n 23 t 0 a [y0] (some ⟨b, off, none⟩) c (w.alloc (Obj.cells #[Value.int IntKind.i64 23, Value.string (bsA t), Value.int IntKind.i64 0, Value.int IntKind.i64 a, Value.slice (some ⟨b, off, none⟩) 1 c] 24))) := Nd.new w n 23 t 0 a [y0] (some ⟨b, off, none⟩) c hR hl
  obtain ⟨d0, d1, d2, d3, d4, -, -, -, -, -⟩ := HN.out.box
  obtain ⟨s0, k0, ⟨c0, c1, c2, c3, c4⟩, hg0⟩ := HN.out.kids.kid 0 y0 rfl
  simp only [Nat.reduceMul, Nat.add_zero, Nat.reduceAdd, Nat.add_assoc, Nat.zero_mul] at c0 c1 c2 c3 c4
  have HF : Hid (RM 126 n (prdP n) w) := hF
  have HT : Hid (∀ y ∈ [y0], Txs n y) := hT
  clear hF hT
  clear hl hR
  go_enter Tryz.func113, Tryz.ntmps113
  go_wp2_with (first | (go_at_call 126; refine (HF.out.run _ HN.out.bel y0 s0 k0 hg0 (HT.out y0 (by simp))).mono ?_; rintro e w1 ⟨rfl, hb1⟩; clear c0 c1 c2 c3 c4 hg0; clear d0 d1 d2 d3 d4; replace HN : Hid _ := HN.out.step hb1; obtain ⟨d0, d1, d2, d3, d4, -, -, -, -, -⟩ := HN.out.box; obtain ⟨s0, k0, ⟨c0, c1, c2, c3, c4⟩, hg0⟩ := HN.out.kids.kid 0 y0 rfl; simp only [Nat.reduceMul, Nat.add_zero, Nat.reduceAdd, Nat.add_assoc, Nat.zero_mul] at c0 c1 c2 c3 c4))
  all_goals (go_ret; exact ⟨by simp_all [bsA_tl, beqI, beqL], HN.out.bel⟩)
theorem rview_21n (n : Nat) (t : List UInt8) (a : Int) (l : List (Tr n)) (s : Option Addr) (c : Nat) (w : World) (hR : Rdy w) (hl : KsG w n s c l) (g1 : ((l.length : Int) == 1) = false) (ht : (bsA t).toList = [116, 105, 109, 101, 95, 98, 97, 116, 99, 104]) :
    Calls Tryz.prog 113 #[.agg #[.int .i64 23, .string (bsA t), .int .i64 0, .int .i64 a, .slice s l.length c]] w fun e w' => e = .returned (.bool (false)) ∧ Below w.heap.size w w' := by
  have HN : Hid (Nd w n 23 t 0 a l s c (w.alloc (Obj.cells #[Value.int IntKind.i64 23, Value.string (bsA t), Value.int IntKind.i64 0, Value.int IntKind.i64 a, Value.slice s l.length c] 24))) := Nd.new w n _ t _ a l s c hR hl
  obtain ⟨d0, d1, d2, d3, d4, -, -, -, -, -⟩ := HN.out.box
  clear hl hR
  go_enter Tryz.func113, Tryz.ntmps113
  go_wp2_with (first | fail)
  all_goals (go_ret; exact ⟨rfl, HN.out.bel⟩)
theorem rview_4n (n : Nat) (t : List UInt8) (a : Int) (l : List (Tr n)) (s : Option Addr) (c : Nat) (w : World) (hR : Rdy w) (hl : KsG w n s c l) (g1 : ((l.length : Int) == 2) = false) (ht : (bsA t).toList = [115, 111, 114, 116, 101, 100]) :
    Calls Tryz.prog 113 #[.agg #[.int .i64 23, .string (bsA t), .int .i64 0, .int .i64 a, .slice s l.length c]] w fun e w' => e = .returned (.bool (false)) ∧ Below w.heap.size w w' := by
  have HN : Hid (Nd w n 23 t 0 a l s c (w.alloc (Obj.cells #[Value.int IntKind.i64 23, Value.string (bsA t), Value.int IntKind.i64 0, Value.int IntKind.i64 a, Value.slice s l.length c] 24))) := Nd.new w n _ t _ a l s c hR hl
  obtain ⟨d0, d1, d2, d3, d4, -, -, -, -, -⟩ := HN.out.box
  clear hl hR
  go_enter Tryz.func113, Tryz.ntmps113
  go_wp2_with (first | fail)
  all_goals (go_ret; exact ⟨rfl, HN.out.bel⟩)
theorem rview_x (n : Nat) (t : List UInt8) (a : Int) (l : List (Tr n)) (s : Option Addr) (c : Nat) (w : World) (hR : Rdy w) (hl : KsG w n s c l) (ht0 : ((bsA t).toList == [107, 101, 101, 112, 97, 108, 108]) = false) (ht1 : ((bsA t).toList == [108, 97, 115, 116, 101, 118, 101, 110, 116]) = false) (ht2 : ((bsA t).toList == [102, 105, 114, 115, 116, 101, 118, 101, 110, 116]) = false) (ht3 : ((bsA t).toList == [108, 101, 110, 103, 116, 104]) = false) (ht4 : ((bsA t).toList == [108, 101, 110, 103, 116, 104, 95, 98, 97, 116, 99, 104]) = false) (ht5 : ((bsA t).toList == [116, 105, 109, 101]) = false) (ht6 : ((bsA t).toList == [116, 105, 109, 101, 95, 98, 97, 116, 99, 104]) = false) (ht7 : ((bsA t).toList == [117, 110, 105, 113, 117, 101]) = false) (ht8 : ((bsA t).toList == [115, 111, 114, 116, 101, 100]) = false) :
    Calls Tryz.prog 113 #[.agg #[.int .i64 23, .string (bsA t), .int .i64 0, .int .i64 a, .slice s l.length c]] w fun e w' => e = .returned (.bool (false)) ∧ Below w.heap.size w w' := by
  have HN : Hid (Nd w n 23 t 0 a l s c (w.alloc (Obj.cells #[Value.int IntKind.i64 23, Value.string (bsA t), Value.int IntKind.i64 0, Value.int IntKind.i64 a, Value.slice s l.length c] 24))) := Nd.new w n _ t _ a l s c hR hl
  obtain ⟨d0, d1, d2, d3, d4, -, -, -, -, -⟩ := HN.out.box
  clear hl hR
  go_enter Tryz.func113, Tryz.ntmps113
  go_wp2_with (first | fail)
  all_goals (go_ret; exact ⟨rfl, HN.out.bel⟩)
theorem rview_m (n : Nat) (t : List UInt8) (m a : Int) (l : List (Tr n)) (s : Option Addr) (c : Nat) (w : World) (hR : Rdy w) (hl : KsG w n s c l) (hm : (m != 0) = true) :
    Calls Tryz.prog 113 #[.agg #[.int .i64 23, .string (bsA t), .int .i64 m, .int .i64 a, .slice s l.length c]] w fun e w' => e = .returned (.bool (false)) ∧ Below w.heap.size w w' := by
  have HN : Hid (Nd w n 23 t m a l s c (w.alloc (Obj.cells #[Value.int IntKind.i64 23, Value.string (bsA t), Value.int IntKind.i64 m, Value.int IntKind.i64 a, Value.slice s l.length c] 24))) := Nd.new w n _ t _ a l s c hR hl
  obtain ⟨d0, d1, d2, d3, d4, -, -, -, -, -⟩ := HN.out.box
  clear hl hR
  go_enter Tryz.func113, Tryz.ntmps113
  go_wp2_with (first | fail)
  all_goals (go_ret; exact ⟨rfl, HN.out.bel⟩)
theorem rview_k (n : Nat) (k : Int) (t : List UInt8) (m a : Int) (l : List (Tr n)) (s : Option Addr) (c : Nat) (w : World) (hR : Rdy w) (hl : KsG w n s c l) (hk : (k != 23) = true) :
    Calls Tryz.prog 113 #[.agg #[.int .i64 k, .string (bsA t), .int .i64 m, .int .i64 a, .slice s l.length c]] w fun e w' => e = .returned (.bool (false)) ∧ Below w.heap.size w w' := by
  have HN : Hid (Nd w n k t m a l s c (w.alloc (Obj.cells #[Value.int IntKind.i64 k, Value.string (bsA t), Value.int IntKind.i64 m, Value.int IntKind.i64 a, Value.slice s l.length c] 24))) := Nd.new w n _ t _ a l s c hR hl
  obtain ⟨d0, d1, d2, d3, d4, -, -, -, -, -⟩ := HN.out.box
  clear hl hR
  go_enter Tryz.func113, Tryz.ntmps113
  go_wp2_with (first | fail)
  all_goals (go_ret; exact ⟨rfl, HN.out.bel⟩)
theorem rview_4x (n : Nat) (t : List UInt8) (a : Int) (y0 y1 : Tr n) (b off c : Nat) (w : World) (hR : Rdy w) (hl : KsG w n (some ⟨b, off, none⟩) c [y0, y1]) (ht : (bsA t).toList = [115, 111, 114, 116, 101, 100]) (hF : RM 125 n (sizP n) w) (hT : ∀ y ∈ [y0, y1], Txs n y) (qk : Bool) (gk : (kd n y1 == 25) = qk) (qt : Bool) (gt : ((bsA (tx n y1)).toList == []) = qt) (gl : (((ks n y1).length : Int) == 1) = false) :
    Calls Tryz.prog 113 #[.agg #[.int .i64 23, .string (bsA t), .int .i64 0, .int .i64 a, .slice (some ⟨b, off, none⟩) 2 c]] w fun e w' => e = .returned (.bool (false)) ∧ Below w.heap.size w w' := by
  have HN : Hid (Nd w n 23 t 0 a [y0, y1] (some ⟨b, off, none⟩) c (w.alloc (Obj.cells #[Value.int IntKind.i64 23, Value.string (bsA t), Value.int IntKind.i64 0, Value.int IntKind.i64 a, Value.slice (some ⟨b, off, none⟩) 2 c] 24))) := Nd.new w n 23 t 0 a [y0, y1] (some ⟨b, off, none⟩) c hR hl
  obtain ⟨d0, d1, d2, d3, d4, -, -, -, -, -⟩ := HN.out.box
  obtain ⟨s0, k0, ⟨c0, c1, c2, c3, c4⟩, hg0⟩ := HN.out.kids.kid 0 y0 rfl
  simp only [Nat.reduceMul, Nat.add_zero, Nat.reduceAdd, Nat.add_assoc, Nat.zero_mul] at c0 c1 c2 c3 c4
  obtain ⟨s1, k1, ⟨e0, e1, e2, e3, e4⟩, hg1⟩ := HN.out.kids.kid 1 y1 rfl
  simp only [Nat.reduceMul, Nat.add_zero, Nat.reduceAdd, Nat.add_assoc, Nat.zero_mul] at e0 e1 e2 e3 e4
  have HF : Hid (RM 125 n (sizP n) w) := hF
  have HT : Hid (∀ y ∈ [y0, y1], Txs n y) := hT
  clear hF hT
  clear hl hR
  go_enter Tryz.func113, Tryz.ntmps113
  go_wp2_with (first | (go_at_call 125; refine (HF.out.run _ HN.out.bel y0 s0 k0 hg0 (HT.out y0 (by simp))).mono ?_; rintro e w1 ⟨rfl, hb1⟩; clear c0 c1 c2 c3 c4 hg0; clear e0 e1 e2 e3 e4 hg1; clear d0 d1 d2 d3 d4; replace HN : Hid _ := HN.out.step hb1; obtain ⟨d0, d1, d2, d3, d4, -, -, -, -, -⟩ := HN.out.box; obtain ⟨s0, k0, ⟨c0, c1, c2, c3, c4⟩, hg0⟩ := HN.out.kids.kid 0 y0 rfl; simp only [Nat.reduceMul, Nat.add_zero, Nat.reduceAdd, Nat.add_assoc, Nat.zero_mul] at c0 c1 c2 c3 c4; obtain ⟨s1, k1, ⟨e0, e1, e2, e3, e4⟩, hg1⟩ := HN.out.kids.kid 1 y1 rfl; simp only [Nat.reduceMul, Nat.add_zero, Nat.reduceAdd, Nat.add_assoc, Nat.zero_mul] at e0 e1 e2 e3 e4) | (go_at_call 69; refine (rbit_any n.pred _ _ _ _ (ks n y1) _ _ _ HN.out.rdy (ksG_of hg1)).mono ?_; rintro e w1 ⟨rfl, hb1⟩; clear c0 c1 c2 c3 c4 hg0; clear e0 e1 e2 e3 e4 hg1; clear d0 d1 d2 d3 d4; replace HN : Hid _ := HN.out.step hb1; obtain ⟨d0, d1, d2, d3, d4, -, -, -, -, -⟩ := HN.out.box; obtain ⟨s0, k0, ⟨c0, c1, c2, c3, c4⟩, hg0⟩ := HN.out.kids.kid 0 y0 rfl; simp only [Nat.reduceMul, Nat.add_zero, Nat.reduceAdd, Nat.add_assoc, Nat.zero_mul] at c0 c1 c2 c3 c4; obtain ⟨s1, k1, ⟨e0, e1, e2, e3, e4⟩, hg1⟩ := HN.out.kids.kid 1 y1 rfl; simp only [Nat.reduceMul, Nat.add_zero, Nat.reduceAdd, Nat.add_assoc, Nat.zero_mul] at e0 e1 e2 e3 e4))
  all_goals (go_ret; exact ⟨rfl, HN.out.bel⟩)
theorem rview_4y (n : Nat) (t : List UInt8) (a : Int) (y0 y1 : Tr (n + 1)) (b off c : Nat) (w : World) (hR : Rdy w) (hl : KsG w (n + 1) (some ⟨b, off, none⟩) c [y0, y1]) (ht : (bsA t).toList = [115, 111, 114, 116, 101, 100]) (hF : RM 125 (n + 1) (sizP (n + 1)) w) (hT : ∀ y ∈ [y0, y1], Txs (n + 1) y) (qk : Bool) (gk : (kd (n + 1) y1 == 25) = qk) (qt : Bool) (gt : ((bsA (tx (n + 1) y1)).toList == []) = qt) (z : Tr n) (hz : ks (n + 1) y1 = [z]) (hC : RM 127 n (ownP n) w) (hTz : Txs n z) :
    Calls Tryz.prog 113 #[.agg #[.int .i64 23, .string (bsA t), .int .i64 0, .int .i64 a, .slice (some ⟨b, off, none⟩) 2 c]] w fun e w' => e = .returned (.bool (sizP (n + 1) y0 && qk && qt && bitF (nu (n + 1) y1) && ownP n z)) ∧ Below w.heap.size w w' := by
  have HN : Hid (Nd w (n + 1) 23 t 0 a [y0, y1] (some ⟨b, off, none⟩) c (w.alloc (Obj.cells #[Value.int IntKind.i64 23, Value.string (bsA t), Value.int IntKind.i64 0, Value.int IntKind.i64 a, Value.slice (some ⟨b, off, none⟩) 2 c] 24))) := Nd.new w (n + 1) 23 t 0 a [y0, y1] (some ⟨b, off, none⟩) c hR hl
  obtain ⟨d0, d1, d2, d3, d4, -, -, -, -, -⟩ := HN.out.box
  have HZ : Hid (ks (n + 1) y1 = [z]) := hz
  obtain ⟨s0, k0, ⟨c0, c1, c2, c3, c4⟩, hg0⟩ := HN.out.kids.kid 0 y0 rfl
  simp only [Nat.reduceMul, Nat.add_zero, Nat.reduceAdd, Nat.add_assoc, Nat.zero_mul] at c0 c1 c2 c3 c4
  obtain ⟨s1, k1, ⟨e0, e1, e2, e3, e4⟩, hg1⟩ := HN.out.kids.kid 1 y1 rfl
  simp only [Nat.reduceMul, Nat.add_zero, Nat.reduceAdd, Nat.add_assoc, Nat.zero_mul] at e0 e1 e2 e3 e4
  rw [HZ.out, List.length_singleton] at e4
  obtain ⟨bz, oz, sz, kz, rfl, ⟨z0, z1, z2, z3, z4⟩, hgz⟩ := kid_one hg1 HZ.out
  have HC : Hid (RM 127 n (ownP n) w) := hC
  have HF : Hid (RM 125 (n + 1) (sizP (n + 1)) w) := hF
  have HT : Hid (∀ y ∈ [y0, y1], Txs (n + 1) y) := hT
  clear hz hC hF hT
  clear hl hR
  go_enter Tryz.func113, Tryz.ntmps113
  go_wp2_with (first | (go_at_call 125; refine (HF.out.run _ HN.out.bel y0 s0 k0 hg0 (HT.out y0 (by simp))).mono ?_; rintro e w1 ⟨rfl, hb1⟩; clear c0 c1 c2 c3 c4 hg0; clear e0 e1 e2 e3 e4 hg1 z0 z1 z2 z3 z4 hgz; clear d0 d1 d2 d3 d4; replace HN : Hid _ := HN.out.step hb1; obtain ⟨d0, d1, d2, d3, d4, -, -, -, -, -⟩ := HN.out.box; obtain ⟨s0, k0, ⟨c0, c1, c2, c3, c4⟩, hg0⟩ := HN.out.kids.kid 0 y0 rfl; simp only [Nat.reduceMul, Nat.add_zero, Nat.reduceAdd, Nat.add_assoc, Nat.zero_mul] at c0 c1 c2 c3 c4; obtain ⟨s1, k1, ⟨e0, e1, e2, e3, e4⟩, hg1⟩ := HN.out.kids.kid 1 y1 rfl; simp only [Nat.reduceMul, Nat.add_zero, Nat.reduceAdd, Nat.add_assoc, Nat.zero_mul] at e0 e1 e2 e3 e4; rw [HZ.out, List.length_singleton] at e4; obtain ⟨bz, oz, sz, kz, rfl, ⟨z0, z1, z2, z3, z4⟩, hgz⟩ := kid_one hg1 HZ.out) | (go_at_call 69; refine (rbit_any n _ _ _ _ [z] _ _ _ HN.out.rdy (by have h := NdG.kids hg1; rw [HZ.out] at h; exact h)).mono ?_; rintro e w1 ⟨rfl, hb1⟩; clear c0 c1 c2 c3 c4 hg0; clear e0 e1 e2 e3 e4 hg1 z0 z1 z2 z3 z4 hgz; clear d0 d1 d2 d3 d4; replace HN : Hid _ := HN.out.step hb1; obtain ⟨d0, d1, d2, d3, d4, -, -, -, -, -⟩ := HN.out.box; obtain ⟨s0, k0, ⟨c0, c1, c2, c3, c4⟩, hg0⟩ := HN.out.kids.kid 0 y0 rfl; simp only [Nat.reduceMul, Nat.add_zero, Nat.reduceAdd, Nat.add_assoc, Nat.zero_mul] at c0 c1 c2 c3 c4; obtain ⟨s1, k1, ⟨e0, e1, e2, e3, e4⟩, hg1⟩ := HN.out.kids.kid 1 y1 rfl; simp only [Nat.reduceMul, Nat.add_zero, Nat.reduceAdd, Nat.add_assoc, Nat.zero_mul] at e0 e1 e2 e3 e4; rw [HZ.out, List.length_singleton] at e4; obtain ⟨bz, oz, sz, kz, rfl, ⟨z0, z1, z2, z3, z4⟩, hgz⟩ := kid_one hg1 HZ.out) | (go_at_call 127; refine (HC.out.run _ HN.out.bel z sz kz hgz hTz).mono ?_; rintro e w1 ⟨rfl, hb1⟩; clear c0 c1 c2 c3 c4 hg0; clear e0 e1 e2 e3 e4 hg1 z0 z1 z2 z3 z4 hgz; clear d0 d1 d2 d3 d4; replace HN : Hid _ := HN.out.step hb1; obtain ⟨d0, d1, d2, d3, d4, -, -, -, -, -⟩ := HN.out.box; obtain ⟨s0, k0, ⟨c0, c1, c2, c3, c4⟩, hg0⟩ := HN.out.kids.kid 0 y0 rfl; simp only [Nat.reduceMul, Nat.add_zero, Nat.reduceAdd, Nat.add_assoc, Nat.zero_mul] at c0 c1 c2 c3 c4; obtain ⟨s1, k1, ⟨e0, e1, e2, e3, e4⟩, hg1⟩ := HN.out.kids.kid 1 y1 rfl; simp only [Nat.reduceMul, Nat.add_zero, Nat.reduceAdd, Nat.add_assoc, Nat.zero_mul] at e0 e1 e2 e3 e4; rw [HZ.out, List.length_singleton] at e4; obtain ⟨bz, oz, sz, kz, rfl, ⟨z0, z1, z2, z3, z4⟩, hgz⟩ := kid_one hg1 HZ.out))
  all_goals (go_ret; exact ⟨by simp_all [bsA_tl, beqI, beqL], HN.out.bel⟩)
theorem rview_3 (n : Nat) (t : List UInt8) (a : Int) (l : List (Tr n)) (b off c : Nat) (w : World) (hR : Rdy w) (hl : KsG w n (some ⟨b, off, none⟩) c l) (hF : RM 127 n (ownP n) w) (hT : ∀ y ∈ l, Txs n y) (ht : (bsA t).toList = [117, 110, 105, 113, 117, 101]) :
    Calls Tryz.prog 113 #[.agg #[.int .i64 23, .string (bsA t), .int .i64 0, .int .i64 a, .slice (some ⟨b, off, none⟩) l.length c]] w fun e w' => e = .returned (.bool (allF n l (ownP n) && (decide (1 ≤ (l.length : Int)) && decide ((l.length : Int) ≤ 32)))) ∧ Below w.heap.size w w' := by
  have HN : Hid (Nd w n 23 t 0 a l (some ⟨b, off, none⟩) c (w.alloc (Obj.cells #[Value.int IntKind.i64 23, Value.string (bsA t), Value.int IntKind.i64 0, Value.int IntKind.i64 a, Value.slice (some ⟨b, off, none⟩) l.length c] 24))) := Nd.new w n _ t _ a l _ c hR hl
  obtain ⟨d0, d1, d2, d3, d4, -, -, -, -, -⟩ := HN.out.box
  have HF : Hid (RM 127 n (ownP n) w) := hF
  have HT : Hid (∀ y ∈ l, Txs n y) := hT
  have hlen : l.length ≤ 9223372036854775807 := hl.1
  clear hl hR hF hT
  go_enter Tryz.func113, Tryz.ntmps113
  go_wp2
  clear d0 d1 d2 d3 d4
  go_loopw [4] (fun i wr => ∃ k : Nat, k ≤ l.length ∧ i = .int .i64 k ∧ (l.take k).all (ownP n) = true ∧ Nd w n 23 t 0 a l (some ⟨b, off, none⟩) c wr) (fun i _ => l.length - (intOf i).toNat)
  case atStart => exact ⟨0, Nat.zero_le _, rfl, rfl, HN.out⟩
  case round =>
    obtain ⟨k, hk, rfl, hV, hN⟩ := hrel
    have HV : Hid ((l.take k).all (ownP n) = true) := hV
    replace HN : Hid (Nd w n 23 t 0 a l (some ⟨b, off, none⟩) c wr) := hN
    obtain ⟨d0, d1, d2, d3, d4, -, -, -, -, -⟩ := HN.out.box
    clear hV hN
    rcases Nat.lt_or_ge k l.length with hlt | hge
    · obtain ⟨y, gy⟩ : ∃ y, l[k]? = some y := ⟨_, List.getElem?_eq_getElem hlt⟩
      obtain ⟨s, cs, ⟨c0, c1, c2, c3, c4⟩, hp⟩ := HN.out.kids.kid k y gy
      have h1 := HF.out.run wr HN.out.bel y s cs hp (HT.out y (List.mem_of_getElem? gy))
      unfold ndV at h1
      have HZ : Hid _ := all_snoc (ownP n) gy
      cases hy : (ownP n) y with
      | false =>
        have HX : Hid (l.all (ownP n) = false) := by
          show _ = _
          rw [List.all_eq_false]
          exact ⟨y, List.mem_of_getElem? gy, by rw [hy]; simp⟩
        rw [hy] at h1
        clear gy hp HZ HV hy
        go_wp2_with fail
        refine h1.mono ?_
        rintro e w1 ⟨rfl, hb1⟩
        have HN1 : Hid _ := HN.out.step hb1
        clear h1 c0 c1 c2 c3 c4 d0 d1 d2 d3 d4
        go_wp2
        go_ret
        exact ⟨ret_bool (by show false = (allF n l (ownP n) && (decide (1 ≤ (l.length : Int)) && decide ((l.length : Int) ≤ 32))); unfold allF; rw [HX.out]; rfl), HN1.out.bel⟩
      | true =>
        have HX : Hid ((l.take (k + 1)).all (ownP n) = true) := by show _ = _; rw [HZ.out, HV.out, hy]; rfl
        rw [hy] at h1
        clear gy hp HZ HV hy
        go_wp2_with fail
        refine h1.mono ?_
        rintro e w1 ⟨rfl, hb1⟩
        have HN1 : Hid _ := HN.out.step hb1
        clear h1 c0 c1 c2 c3 c4 d0 d1 d2 d3 d4
        go_wp2
        go_roundw
        case rel => exact ⟨k + 1, by omega, by go_num, HX.out, HN1.out⟩
        case measure => simp [intOf]; omega
    · have HX : Hid (l.all (ownP n) = true) := by
        show _ = _
        rw [← HV.out, List.take_of_length_le hge]
      go_wp2
      all_goals (go_ret; refine ⟨?_, HN.out.bel⟩; unfold allF; rw [HX.out]; first | (simp_all; done) | (simp_all; intros; omega))
theorem rview_30 (n : Nat) (t : List UInt8) (a : Int) (s : Option Addr) (c : Nat) (w : World) (hR : Rdy w) (hl : KsG w n s c []) (ht : (bsA t).toList = [117, 110, 105, 113, 117, 101]) :
    Calls Tryz.prog 113 #[.agg #[.int .i64 23, .string (bsA t), .int .i64 0, .int .i64 a, .slice s 0 c]] w fun e w' => e = .returned (.bool (false)) ∧ Below w.heap.size w w' := by
  have HN : Hid (Nd w n 23 t 0 a [] s c (w.alloc (Obj.cells #[Value.int IntKind.i64 23, Value.string (bsA t), Value.int IntKind.i64 0, Value.int IntKind.i64 a, Value.slice s 0 c] 24))) := Nd.new w n 23 t 0 a [] s c hR hl
  obtain ⟨d0, d1, d2, d3, d4, -, -, -, -, -⟩ := HN.out.box
  clear hl hR
  go_enter Tryz.func113, Tryz.ntmps113
  go_wp2
  refine wp_loop_rounds 1 ?_
  rw [rounds_succ]
  go_wp2
  go_ret
  exact ⟨rfl, HN.out.bel⟩
theorem rview_4 (n : Nat) (t : List UInt8) (a : Int) (y0 y1 : Tr n) (b off c : Nat) (w : World) (hR : Rdy w) (hl : KsG w n (some ⟨b, off, none⟩) c [y0, y1]) (ht : (bsA t).toList = [115, 111, 114, 116, 101, 100]) (hT : ∀ y ∈ [y0, y1], Txs n y) :
    Calls Tryz.prog 113 #[.agg #[.int .i64 23, .string (bsA t), .int .i64 0, .int .i64 a, .slice (some ⟨b, off, none⟩) 2 c]] w fun e w' => e = .returned (.bool (sizP n y0 && oownP n y1)) ∧ Below w.heap.size w w' := by
  cases n with
  | zero => exact Empty.elim y0
  | succ n =>
    have en : oownP (n + 1) y1 = (decide (kd (n + 1) y1 = 25) && decide (tx (n + 1) y1 = []) && flagF (nu (n + 1) y1) && areQ n (ks (n + 1) y1) [ownP n]) := rfl
    rw [en]
    by_cases h1 : (ks (n + 1) y1).length = 1
    · obtain ⟨z, hz⟩ := List.length_eq_one_iff.1 h1
      have h := rview_4y n t a y0 y1 b off c w hR hl ht (rcount_rm (n + 1) w hR) hT _ rfl _ rfl z hz (rcolumn_rm n w hR) ((hT y1 (by simp)).2 z (by rw [hz]; simp))
      rw [hz, areQ_cons, areQ_nil, Bool.and_true, ← bit_flag, ← beqI, ← beqL]
      rw [bsA_tl] at h
      simp only [Bool.and_assoc] at h ⊢
      exact h
    · have h := rview_4x (n + 1) t a y0 y1 b off c w hR hl ht (rcount_rm (n + 1) w hR) hT _ rfl _ rfl (len_ne h1)
      rw [areQ_ne _ _ _ (by simpa using h1), Bool.and_false, Bool.and_false]
      exact h
theorem rview_0 (n : Nat) (t : List UInt8) (a : Int) (l : List (Tr n)) (s : Option Addr) (c : Nat) (w : World) (hR : Rdy w) (hl : KsG w n s c l) (hT : ∀ y ∈ l, Txs n y) : Calls Tryz.prog 113 #[.agg #[.int .i64 23, .string (bsA t), .int .i64 0, .int .i64 a, .slice s l.length c]] w fun e w' => e = .returned (.bool (vwF n t l)) ∧ Below w.heap.size w w' := by
  rcases Classical.em (t = [107, 101, 101, 112, 97, 108, 108]) with rfl | h00
  · have h := rview_00 n _ a l s c w hR hl _ rfl (bsA_tl _)
    rw [len0] at h
    exact h
  rcases Classical.em (t = [108, 97, 115, 116, 101, 118, 101, 110, 116]) with rfl | h01
  · have h := rview_01 n _ a l s c w hR hl _ rfl (bsA_tl _)
    rw [len0] at h
    exact h
  rcases Classical.em (t = [102, 105, 114, 115, 116, 101, 118, 101, 110, 116]) with rfl | h02
  · have h := rview_02 n _ a l s c w hR hl _ rfl (bsA_tl _)
    rw [len0] at h
    exact h
  rcases Classical.em (t = [108, 101, 110, 103, 116, 104]) with rfl | h10
  · by_cases h1 : l.length = 1
    · obtain ⟨y0, rfl⟩ := List.length_eq_one_iff.1 h1
      obtain ⟨b, off, rfl⟩ := hl.addr
      have h := rview_10 n _ a y0 b off c w hR hl (bsA_tl _) (rcount_rm n w hR) hT
      have e : vwF n [108, 101, 110, 103, 116, 104] [y0] = sizP n y0 := by
        have e1 : vwF n [108, 101, 110, 103, 116, 104] [y0] = areQ n [y0] [sizP n] := rfl
        rw [e1, areQ_cons, areQ_nil, Bool.and_true]
      rw [e]
      exact h
    · have e : vwF n [108, 101, 110, 103, 116, 104] l = false := by
        have e1 : vwF n [108, 101, 110, 103, 116, 104] l = areQ n l [sizP n] := rfl
        rw [e1, areQ_ne _ _ _ (by simpa using h1)]
      rw [e]
      exact rview_10n n _ a l s c w hR hl (len_ne h1) (bsA_tl _)
  rcases Classical.em (t = [108, 101, 110, 103, 116, 104, 95, 98, 97, 116, 99, 104]) with rfl | h11
  · by_cases h1 : l.length = 1
    · obtain ⟨y0, rfl⟩ := List.length_eq_one_iff.1 h1
      obtain ⟨b, off, rfl⟩ := hl.addr
      have h := rview_11 n _ a y0 b off c w hR hl (bsA_tl _) (rcount_rm n w hR) hT
      have e : vwF n [108, 101, 110, 103, 116, 104, 95, 98, 97, 116, 99, 104] [y0] = sizP n y0 := by
        have e1 : vwF n [108, 101, 110, 103, 116, 104, 95, 98, 97, 116, 99, 104] [y0] = areQ n [y0] [sizP n] := rfl
        rw [e1, areQ_cons, areQ_nil, Bool.and_true]
      rw [e]
      exact h
    · have e : vwF n [108, 101, 110, 103, 116, 104, 95, 98, 97, 116, 99, 104] l = false := by
        have e1 : vwF n [108, 101, 110, 103, 116, 104, 95, 98, 97, 116, 99, 104] l = areQ n l [sizP n] := rfl
        rw [e1, areQ_ne _ _ _ (by simpa using h1)]
      rw [e]
      exact rview_11n n _ a l s c w hR hl (len_ne h1) (bsA_tl _)
  rcases Classical.em (t = [116, 105, 109, 101]) with rfl | h20
  · by_cases h1 : l.length = 1
    · obtain ⟨y0, rfl⟩ := List.length_eq_one_iff.1 h1
      obtain ⟨b, off, rfl⟩ := hl.addr
      have h := rview_20 n _ a y0 b off c w hR hl (bsA_tl _) (rperiod_rm n w hR) hT
      have e : vwF n [116, 105, 109, 101] [y0] = prdP n y0 := by
        have e1 : vwF n [116, 105, 109, 101] [y0] = areQ n [y0] [prdP n] := rfl
        rw [e1, areQ_cons, areQ_nil, Bool.and_true]
      rw [e]
      exact h
    · have e : vwF n [116, 105, 109, 101] l = false := by
        have e1 : vwF n [116, 105, 109, 101] l = areQ n l [prdP n] := rfl
        rw [e1, areQ_ne _ _ _ (by simpa using h1)]
      rw [e]
      exact rview_20n n _ a l s c w hR hl (len_ne h1) (bsA_tl _)
  rcases Classical.em (t = [116, 105, 109, 101, 95, 98, 97, 116, 99, 104]) with rfl | h21
  · by_cases h1 : l.length = 1
    · obtain ⟨y0, rfl⟩ := List.length_eq_one_iff.1 h1
      obtain ⟨b, off, rfl⟩ := hl.addr
      have h := rview_21 n _ a y0 b off c w hR hl (bsA_tl _) (rperiod_rm n w hR) hT
      have e : vwF n [116, 105, 109, 101, 95, 98, 97, 116, 99, 104] [y0] = prdP n y0 := by
        have e1 : vwF n [116, 105, 109, 101, 95, 98, 97, 116, 99, 104] [y0] = areQ n [y0] [prdP n] := rfl
        rw [e1, areQ_cons, areQ_nil, Bool.and_true]
      rw [e]
      exact h
    · have e : vwF n [116, 105, 109, 101, 95, 98, 97, 116, 99, 104] l = false := by
        have e1 : vwF n [116, 105, 109, 101, 95, 98, 97, 116, 99, 104] l = areQ n l [prdP n] := rfl
        rw [e1, areQ_ne _ _ _ (by simpa using h1)]
      rw [e]
      exact rview_21n n _ a l s c w hR hl (len_ne h1) (bsA_tl _)
  rcases Classical.em (t = [117, 110, 105, 113, 117, 101]) with rfl | h30
  · have e : vwF n [117, 110, 105, 113, 117, 101] l = (decide (1 ≤ (l.length : Int)) && decide ((l.length : Int) ≤ 32) && l.all (ownP n)) := rfl
    rw [e, Bool.and_comm]
    cases l with
    | nil =>
      have h := rview_30 n _ a s c w hR hl (bsA_tl _)
      exact h
    | cons y l =>
      obtain ⟨b, off, rfl⟩ := hl.addr
      exact rview_3 n _ a (y :: l) b off c w hR hl (rcolumn_rm n w hR) hT (bsA_tl _)
  rcases Classical.em (t = [115, 111, 114, 116, 101, 100]) with rfl | h40
  · have e : vwF n [115, 111, 114, 116, 101, 100] l = areQ n l [sizP n, oownP n] := rfl
    rw [e]
    by_cases h2 : l.length = 2
    · obtain ⟨y0, y1, rfl⟩ := len2 h2
      obtain ⟨b, off, rfl⟩ := hl.addr
      rw [areQ_cons, areQ_cons, areQ_nil, Bool.and_true]
      exact rview_4 n _ a y0 y1 b off c w hR hl (bsA_tl _) hT
    · rw [areQ_ne _ _ _ (by simpa using h2)]
      exact rview_4n n _ a l s c w hR hl (len_ne h2) (bsA_tl _)
  have e : vwF n t l = false := by
    unfold vwF vw0 vw1 vw2
    simp [*]
  rw [e]
  exact rview_x n t a l s c w hR hl (by rw [bsA_tl, beqL]; exact decide_eq_false h00) (by rw [bsA_tl, beqL]; exact decide_eq_false h01) (by rw [bsA_tl, beqL]; exact decide_eq_false h02) (by rw [bsA_tl, beqL]; exact decide_eq_false h10) (by rw [bsA_tl, beqL]; exact decide_eq_false h11) (by rw [bsA_tl, beqL]; exact decide_eq_false h20) (by rw [bsA_tl, beqL]; exact decide_eq_false h21) (by rw [bsA_tl, beqL]; exact decide_eq_false h30) (by rw [bsA_tl, beqL]; exact decide_eq_false h40)
theorem rview_any (n : Nat) (k : Int) (t : List UInt8) (m a : Int) (l : List (Tr n)) (s : Option Addr) (c : Nat) (w : World) (hR : Rdy w) (hl : KsG w n s c l) (hT : ∀ y ∈ l, Txs n y) : Calls Tryz.prog 113 #[.agg #[.int .i64 k, .string (bsA t), .int .i64 m, .int .i64 a, .slice s l.length c]] w fun e w' => e = .returned (.bool (viewF n k t m l)) ∧ Below w.heap.size w w' := by
  unfold viewF
  rcases Classical.em (k = 23) with rfl | hk
  · rcases Classical.em (m = 0) with rfl | hm
    · exact rview_0 n t a l s c w hR hl hT
    · rw [decide_eq_false hm]
      exact rview_m n t m a l s c w hR hl (by simpa using hm)
  · rw [decide_eq_false hk]
    exact rview_k n k t m a l s c w hR hl (by simpa using hk)
theorem rview_rm (n : Nat) (w : World) (hR : Rdy w) : RM 113 n (viewP n) w := ⟨fun W hW y s c hy ht => by
  cases n with
  | zero => exact Empty.elim y
  | succ n => exact rview_any n (kd (n + 1) y) (tx (n + 1) y) (nu (n + 1) y) (pl (n + 1) y) (ks (n + 1) y) s c W (hR.below hW) (NdG.kids hy) ht.2⟩
theorem rviews_go (n : Nat) (l : List (Tr n)) (b off c : Nat) (E : Tr n → Bool) (w : World) (hlen : l.length ≤ 9223372036854775807) (hc : ∀ i y, l[i]? = some y → ∃ s c, (w.cell? ⟨b, off + i * 5, none⟩ = some (.int .i64 (kd n y)) ∧ w.cell? ⟨b, off + i * 5 + 1, none⟩ = some (.string (bsA (tx n y))) ∧ w.cell? ⟨b, off + i * 5 + 2, none⟩ = some (.int .i64 (nu n y)) ∧ w.cell? ⟨b, off + i * 5 + 3, none⟩ = some (.int .i64 (pl n y)) ∧ w.cell? ⟨b, off + i * 5 + 4, none⟩ = some (.slice s (ks n y).length c)) ∧ NdG w n y s c) (hE : RM 113 n E w) (ht : ∀ y ∈ l, Txs n y) :
    Calls Tryz.prog 74 #[.slice (some ⟨b, off, none⟩) l.length c] w fun e w' => e = .returned (.bool (l.all E && decide ((l.length : Int) ≤ 4))) ∧ Below w.heap.size w w' := by
  have HC : Hid _ := hc
  have HE : Hid _ := hE
  have HT : Hid _ := ht
  clear hc hE ht
  go_enter Tryz.func74, Tryz.ntmps74
  go_wp2
  go_loopw [3] (fun i wr => ∃ k : Nat, k ≤ l.length ∧ i = .int .i64 k ∧ (l.take k).all E = true ∧ Bel w.heap.size w wr) (fun i _ => l.length - (intOf i).toNat)
  case atStart => exact ⟨0, Nat.zero_le _, rfl, rfl, Bel.refl _⟩
  case round =>
    obtain ⟨k, hk, rfl, hV, HB⟩ := hrel
    have HV : Hid ((l.take k).all E = true) := hV
    clear hV
    have hW := HB.out
    rcases Nat.lt_or_ge k l.length with hlt | hge
    · obtain ⟨y, gy⟩ : ∃ y, l[k]? = some y := ⟨_, List.getElem?_eq_getElem hlt⟩
      obtain ⟨s, cs, ⟨c0, c1, c2, c3, c4⟩, hp⟩ := HC.out k _ gy
      have c0 := cell_below hW c0
      have c1 := cell_below hW c1
      have c2 := cell_below hW c2
      have c3 := cell_below hW c3
      have c4 := cell_below hW c4
      have h1 := (HE.out.below hW).run wr (Below.refl _ _) y s cs (NdG.below hW hp) (HT.out y (List.mem_of_getElem? gy))
      unfold ndV at h1
      have HZ : Hid _ := all_snoc E gy
      cases hy : E y with
      | false =>
        have HN : Hid (l.all E = false) := by
          show _ = _
          rw [List.all_eq_false]
          exact ⟨y, List.mem_of_getElem? gy, by rw [hy]; simp⟩
        rw [hy] at h1
        clear gy hp HZ HV hy
        go_wp2_with fail
        refine h1.mono ?_
        rintro e w1 ⟨rfl, hb1⟩
        have hB1 := hW.trans (hb1.mono hW.size)
        clear h1
        go_wp2
        go_ret
        exact ⟨ret_bool (by rw [HN.out]; rfl), hB1⟩
      | true =>
        have HN : Hid ((l.take (k + 1)).all E = true) := by show _ = _; rw [HZ.out, HV.out, hy]; rfl
        rw [hy] at h1
        clear gy hp HZ HV hy
        go_wp2_with fail
        refine h1.mono ?_
        rintro e w1 ⟨rfl, hb1⟩
        have hB1 := hW.trans (hb1.mono hW.size)
        clear h1
        go_wp2
        go_roundw
        case rel => exact ⟨k + 1, by omega, by go_num, HN.out, ⟨hB1, hB1.size⟩⟩
        case measure => simp [intOf]; omega
    · have HN : Hid (l.all E = true) := by
        show _ = _
        rw [← HV.out, List.take_of_length_le hge]
      go_wp2
      go_ret
      exact ⟨by rw [HN.out, Bool.true_and]; rfl, hW⟩
theorem rviews_0 (s : Option Addr) (c : Nat) (w : World) : Calls Tryz.prog 74 #[.slice s 0 c] w fun e w' => e = .returned (.bool true) ∧ Below w.heap.size w w' := by
  go_enter Tryz.func74, Tryz.ntmps74
  go_wp2
  refine wp_loop_rounds 1 ?_
  rw [rounds_succ]
  go_wp2
  go_ret
  exact ⟨rfl, Below.refl _ _⟩
theorem rviews_any (n : Nat) (l : List (Tr n)) (s : Option Addr) (c : Nat) (w : World) (hR : Rdy w) (hl : KsG w n s c l) (hT : ∀ y ∈ l, Txs n y) :
    Calls Tryz.prog 74 #[.slice s l.length c] w fun e w' => e = .returned (.bool (allF n l (viewP n) && decide ((l.length : Int) ≤ 4))) ∧ Below w.heap.size w w' := by
  have hE := rview_rm n w hR
  obtain ⟨hlen, hl, _⟩ := hl
  rcases hl with rfl | ⟨b, off, rfl, hc⟩
  · exact rviews_0 s c w
  · exact rviews_go n l b off c (viewP n) w hlen hc hE hT
end Go.Proofs.YtcemogaacicnfaaGreatDoor
