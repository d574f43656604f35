/- Streams, lists, items, sources, rates: by the document. -/
import Derived.Test.YtcemogaacicnfaaGreatDoorRf6
import Derived.Test.YtcemogaacicnfaaGreatDoorSt5
namespace Go.Proofs.YtcemogaacicnfaaGreatDoor
set_option linter.unusedSimpArgs false
set_option maxRecDepth 20000
set_option maxHeartbeats 4000000
open Go.ChangeShapes Go.WideShapes Go.ChangeAt Go.RowKit

def vwsF (n : Nat) (l : List (Tr n)) : Bool := allF n l (viewP n) && decide ((l.length : Int) ≤ 4)
theorem rviews_q (n : Nat) (l : List (Tr n)) (s : Option Addr) (c : Nat) (w : World) (hR : Rdy w) (hl : KsG w n s c l) (hT : ∀ y ∈ l, Txs n y) :
    Calls Tryz.prog 74 #[.slice s l.length c] w fun e w' => e = .returned (.bool (vwsF n l)) ∧ Below w.heap.size w w' := rviews_any n l s c w hR hl hT
theorem rstrm_a (n : Nat) (t : List UInt8) (a : Int) (y0 y1 : Tr n) (r : List (Tr n)) (b off c rl : Nat) (hrl : (y0 :: y1 :: r).length = rl + 2) (w : World) (hR : Rdy w) (hl : KsG w n (some ⟨b, off, none⟩) c (y0 :: y1 :: r)) (hT : ∀ y ∈ y0 :: y1 :: r, Txs n y) (hc : rl + 2 ≤ c) :
    Calls Tryz.prog 117 #[.agg #[.int .i64 24, .string (bsA t), .int .i64 0, .int .i64 a, .slice (some ⟨b, off, none⟩) (rl + 2 : Nat) c]] w fun e w' => e = .returned (.bool (idC t && optP n (exprP n) y0 && optP n (nmeP n) y1 && vwsF n r)) ∧ Below w.heap.size w w' := by
  have HN : Hid (Nd w n 24 t 0 a (y0 :: y1 :: r) (some ⟨b, off, none⟩) c (w.alloc (Obj.cells #[Value.int IntKind.i64 24, Value.string (bsA t), Value.int IntKind.i64 0, Value.int IntKind.i64 a, Value.slice (some ⟨b, off, none⟩) (rl + 2) c] 24))) := by
    have h := Nd.new w n 24 t 0 a (y0 :: y1 :: r) (some ⟨b, off, none⟩) c hR hl
    rw [hrl] at h
    exact h
  have HL : Hid ((y0 :: y1 :: r).length = rl + 2) := hrl
  obtain ⟨d0, d1, d2, d3, d4, -, -, -, -, -⟩ := HN.out.box
  replace d4 := d4.trans (congrArg (fun x => some (Value.slice (some ⟨b, off, none⟩) x c)) HL.out)
  obtain ⟨s0, k0, ⟨c0, c1, c2, c3, c4⟩, hg0⟩ := HN.out.kids.kid 0 y0 rfl
  simp only [Nat.reduceMul, Nat.add_zero, Nat.reduceAdd, Nat.add_assoc, Nat.zero_mul] at c0 c1 c2 c3 c4
  obtain ⟨s1, k1, ⟨e0, e1, e2, e3, e4⟩, hg1⟩ := HN.out.kids.kid 1 y1 rfl
  simp only [Nat.reduceMul, Nat.add_zero, Nat.reduceAdd, Nat.add_assoc, Nat.zero_mul] at e0 e1 e2 e3 e4
  have HT : Hid (∀ y ∈ y0 :: y1 :: r, Txs n y) := hT
  have HV : Hid (∀ W, Nd w n 24 t 0 a (y0 :: y1 :: r) (some ⟨b, off, none⟩) c W → ∀ s2 c2, (s2 = some ⟨b, off + 10, none⟩ ∨ rl = 0) → c2 = c - 2 → Calls Tryz.prog 74 #[.slice s2 rl c2] W fun e w' => e = .returned (.bool (vwsF n r)) ∧ Below W.heap.size W w') := fun W h s2 c2 h2 hc2 => by
    subst hc2
    have e : rl = r.length := by simpa using hrl.symm
    subst e
    refine rviews_q n r s2 (c - 2) W h.rdy ?_ (fun y hy => hT y (by simp [hy]))
    have hk := h.kids.drop 2
    rcases h2 with rfl | h0
    · exact hk
    · obtain rfl := List.length_eq_zero_iff.1 h0
      exact ⟨by simp, Or.inl rfl, by simp⟩
  clear hl hR hT hrl
  go_enter Tryz.func117, Tryz.ntmps117
  go_wp2_with (first | (go_at_call 65; refine (rId_said _ _ HN.out.rdy).mono ?_; rintro e w1 ⟨rfl, hb1⟩; clear c0 c1 c2 c3 c4 hg0; clear e0 e1 e2 e3 e4 hg1; clear d0 d1 d2 d3 d4; replace HN : Hid _ := HN.out.step hb1; obtain ⟨d0, d1, d2, d3, d4, -, -, -, -, -⟩ := HN.out.box; replace d4 := d4.trans (congrArg (fun x => some (Value.slice (some ⟨b, off, none⟩) x c)) HL.out); obtain ⟨s0, k0, ⟨c0, c1, c2, c3, c4⟩, hg0⟩ := HN.out.kids.kid 0 y0 rfl; simp only [Nat.reduceMul, Nat.add_zero, Nat.reduceAdd, Nat.add_assoc, Nat.zero_mul] at c0 c1 c2 c3 c4; obtain ⟨s1, k1, ⟨e0, e1, e2, e3, e4⟩, hg1⟩ := HN.out.kids.kid 1 y1 rfl; simp only [Nat.reduceMul, Nat.add_zero, Nat.reduceAdd, Nat.add_assoc, Nat.zero_mul] at e0 e1 e2 e3 e4) | (go_at_call 71; refine ((rexo_rm rId_said n _ HN.out.rdy).run _ (Below.refl _ _) y0 s0 k0 hg0 (HT.out y0 (by simp))).mono ?_; rintro e w1 ⟨rfl, hb1⟩; clear c0 c1 c2 c3 c4 hg0; clear e0 e1 e2 e3 e4 hg1; clear d0 d1 d2 d3 d4; replace HN : Hid _ := HN.out.step hb1; obtain ⟨d0, d1, d2, d3, d4, -, -, -, -, -⟩ := HN.out.box; replace d4 := d4.trans (congrArg (fun x => some (Value.slice (some ⟨b, off, none⟩) x c)) HL.out); obtain ⟨s0, k0, ⟨c0, c1, c2, c3, c4⟩, hg0⟩ := HN.out.kids.kid 0 y0 rfl; simp only [Nat.reduceMul, Nat.add_zero, Nat.reduceAdd, Nat.add_assoc, Nat.zero_mul] at c0 c1 c2 c3 c4; obtain ⟨s1, k1, ⟨e0, e1, e2, e3, e4⟩, hg1⟩ := HN.out.kids.kid 1 y1 rfl; simp only [Nat.reduceMul, Nat.add_zero, Nat.reduceAdd, Nat.add_assoc, Nat.zero_mul] at e0 e1 e2 e3 e4) | (go_at_call 72; refine ((rnmo_rm rId_said n _ HN.out.rdy).run _ (Below.refl _ _) y1 s1 k1 hg1 (HT.out y1 (by simp))).mono ?_; rintro e w1 ⟨rfl, hb1⟩; clear c0 c1 c2 c3 c4 hg0; clear e0 e1 e2 e3 e4 hg1; clear d0 d1 d2 d3 d4; replace HN : Hid _ := HN.out.step hb1; obtain ⟨d0, d1, d2, d3, d4, -, -, -, -, -⟩ := HN.out.box; replace d4 := d4.trans (congrArg (fun x => some (Value.slice (some ⟨b, off, none⟩) x c)) HL.out); obtain ⟨s0, k0, ⟨c0, c1, c2, c3, c4⟩, hg0⟩ := HN.out.kids.kid 0 y0 rfl; simp only [Nat.reduceMul, Nat.add_zero, Nat.reduceAdd, Nat.add_assoc, Nat.zero_mul] at c0 c1 c2 c3 c4; obtain ⟨s1, k1, ⟨e0, e1, e2, e3, e4⟩, hg1⟩ := HN.out.kids.kid 1 y1 rfl; simp only [Nat.reduceMul, Nat.add_zero, Nat.reduceAdd, Nat.add_assoc, Nat.zero_mul] at e0 e1 e2 e3 e4) | (go_at_call 74; refine (HV.out _ HN.out _ _ (by first | exact Or.inl rfl | (right; omega)) (by omega)).mono ?_; rintro e w1 ⟨rfl, hb1⟩; clear c0 c1 c2 c3 c4 hg0; clear e0 e1 e2 e3 e4 hg1; clear d0 d1 d2 d3 d4; replace HN : Hid _ := HN.out.step hb1; obtain ⟨d0, d1, d2, d3, d4, -, -, -, -, -⟩ := HN.out.box; replace d4 := d4.trans (congrArg (fun x => some (Value.slice (some ⟨b, off, none⟩) x c)) HL.out); obtain ⟨s0, k0, ⟨c0, c1, c2, c3, c4⟩, hg0⟩ := HN.out.kids.kid 0 y0 rfl; simp only [Nat.reduceMul, Nat.add_zero, Nat.reduceAdd, Nat.add_assoc, Nat.zero_mul] at c0 c1 c2 c3 c4; obtain ⟨s1, k1, ⟨e0, e1, e2, e3, e4⟩, hg1⟩ := HN.out.kids.kid 1 y1 rfl; simp only [Nat.reduceMul, Nat.add_zero, Nat.reduceAdd, Nat.add_assoc, Nat.zero_mul] at e0 e1 e2 e3 e4))
  all_goals (go_ret; exact ⟨by simp_all [bsA_tl, beqI, beqL], HN.out.bel⟩)
theorem rnone_rm (n : Nat) (w : World) (hR : Rdy w) : RM 112 n (noneP n) w := ⟨fun W hW y s c hy ht => by
  cases n with
  | zero => exact Empty.elim y
  | succ n => exact rnone_any n (kd (n + 1) y) (tx (n + 1) y) (nu (n + 1) y) (pl (n + 1) y) (ks (n + 1) y) s c W (hR.below hW) (NdG.kids hy)⟩
theorem rstrm_k (n : Nat) (k : Int) (t : List UInt8) (m a : Int) (l : List (Tr n)) (s : Option Addr) (c : Nat) (w : World) (hR : Rdy w) (hl : KsG w n s c l) (hk : (k == 24) = false) :
    Calls Tryz.prog 117 #[.agg #[.int .i64 k, .string (bsA t), .int .i64 m, .int .i64 a, .slice s l.length c]] w fun e w' => e = .returned (.bool (false)) ∧ Below w.heap.size w w' := by
  have HN : Hid (Nd w n k t m a l s c (w.alloc (Obj.cells #[Value.int IntKind.i64 k, Value.string (bsA t), Value.int IntKind.i64 m, Value.int IntKind.i64 a, Value.slice s l.length c] 24))) := Nd.new w n _ t _ a l s c hR hl
  obtain ⟨d0, d1, d2, d3, d4, -, -, -, -, -⟩ := HN.out.box
  clear hl hR
  go_enter Tryz.func117, Tryz.ntmps117
  go_wp2_with (first | fail)
  all_goals (go_ret; exact ⟨rfl, HN.out.bel⟩)
theorem rstrm_m (n : Nat) (t : List UInt8) (m a : Int) (l : List (Tr n)) (s : Option Addr) (c : Nat) (w : World) (hR : Rdy w) (hl : KsG w n s c l) (hm : (m == 0) = false) :
    Calls Tryz.prog 117 #[.agg #[.int .i64 24, .string (bsA t), .int .i64 m, .int .i64 a, .slice s l.length c]] w fun e w' => e = .returned (.bool (false)) ∧ Below w.heap.size w w' := by
  have HN : Hid (Nd w n 24 t m a l s c (w.alloc (Obj.cells #[Value.int IntKind.i64 24, Value.string (bsA t), Value.int IntKind.i64 m, Value.int IntKind.i64 a, Value.slice s l.length c] 24))) := Nd.new w n _ t _ a l s c hR hl
  obtain ⟨d0, d1, d2, d3, d4, -, -, -, -, -⟩ := HN.out.box
  clear hl hR
  go_enter Tryz.func117, Tryz.ntmps117
  go_wp2_with (first | (go_at_call 65; (refine (rId_said _ _ HN.out.rdy).mono ?_; rintro e w1 ⟨rfl, hb1⟩; clear d0 d1 d2 d3 d4; replace HN : Hid _ := HN.out.step hb1; obtain ⟨d0, d1, d2, d3, d4, -, -, -, -, -⟩ := HN.out.box)))
  all_goals (go_ret; exact ⟨rfl, HN.out.bel⟩)
theorem rstrm_n (n : Nat) (t : List UInt8) (m a : Int) (l : List (Tr n)) (s : Option Addr) (c : Nat) (w : World) (hR : Rdy w) (hl : KsG w n s c l) (e2 : (2 ≤ (l.length : Int)) = False) :
    Calls Tryz.prog 117 #[.agg #[.int .i64 24, .string (bsA t), .int .i64 m, .int .i64 a, .slice s l.length c]] w fun e w' => e = .returned (.bool (false)) ∧ Below w.heap.size w w' := by
  rcases Classical.em (m = 0) with rfl | h0
  · have HN : Hid (Nd w n 24 t 0 a l s c (w.alloc (Obj.cells #[Value.int IntKind.i64 24, Value.string (bsA t), Value.int IntKind.i64 0, Value.int IntKind.i64 a, Value.slice s l.length c] 24))) := Nd.new w n _ t _ a l s c hR hl
    obtain ⟨d0, d1, d2, d3, d4, -, -, -, -, -⟩ := HN.out.box
    clear hl hR
    go_enter Tryz.func117, Tryz.ntmps117
    go_wp2_with (first | (go_at_call 65; (refine (rId_said _ _ HN.out.rdy).mono ?_; rintro e w1 ⟨rfl, hb1⟩; clear d0 d1 d2 d3 d4; replace HN : Hid _ := HN.out.step hb1; obtain ⟨d0, d1, d2, d3, d4, -, -, -, -, -⟩ := HN.out.box)))
    all_goals (go_ret; exact ⟨rfl, HN.out.bel⟩)
  · have HN : Hid (Nd w n 24 t m a l s c (w.alloc (Obj.cells #[Value.int IntKind.i64 24, Value.string (bsA t), Value.int IntKind.i64 m, Value.int IntKind.i64 a, Value.slice s l.length c] 24))) := Nd.new w n _ t _ a l s c hR hl
    obtain ⟨d0, d1, d2, d3, d4, -, -, -, -, -⟩ := HN.out.box
    clear hl hR
    go_enter Tryz.func117, Tryz.ntmps117
    go_wp2_with (first | (go_at_call 65; (refine (rId_said _ _ HN.out.rdy).mono ?_; rintro e w1 ⟨rfl, hb1⟩; clear d0 d1 d2 d3 d4; replace HN : Hid _ := HN.out.step hb1; obtain ⟨d0, d1, d2, d3, d4, -, -, -, -, -⟩ := HN.out.box)))
    all_goals (go_ret; exact ⟨rfl, HN.out.bel⟩)
theorem rstrm_any (n : Nat) (k : Int) (t : List UInt8) (m a : Int) (l : List (Tr n)) (s : Option Addr) (c : Nat) (w : World) (hR : Rdy w) (hl : KsG w n s c l) (hT : ∀ y ∈ l, Txs n y) :
    Calls Tryz.prog 117 #[.agg #[.int .i64 k, .string (bsA t), .int .i64 m, .int .i64 a, .slice s l.length c]] w fun e w' => e = .returned (.bool (strmF n k t m l)) ∧ Below w.heap.size w w' := by
  unfold strmF
  rcases Classical.em (k = 24) with rfl | hk
  · rcases Classical.em (m = 0) with rfl | hm
    · by_cases h2 : l.length < 2
      · rw [areQ_ne n (l.take 2) _ (by simp; omega), Bool.and_false, Bool.false_and]
        exact rstrm_n n t 0 a l s c w hR hl (eq_false (by omega))
      · obtain ⟨y0, y1, r, rfl⟩ : ∃ y0 y1 r, l = y0 :: y1 :: r := by
          match l, h2 with
          | [], h2 => simp at h2
          | [_], h2 => simp at h2
          | y0 :: y1 :: r, _ => exact ⟨y0, y1, r, rfl⟩
        obtain ⟨b, off, rfl⟩ := hl.addr
        have h := rstrm_a n t a y0 y1 r b off c r.length rfl w hR hl hT hl.2.2
        have e : (decide ((24 : Int) = 24) && hidF t 0 && areQ n ((y0 :: y1 :: r).take 2) [optP n (exprP n), optP n (nmeP n)] && manyP n ((y0 :: y1 :: r).drop 2) 0 4 (viewP n)) = (idC t && optP n (exprP n) y0 && optP n (nmeP n) y1 && vwsF n r) := by
          have e1 : (y0 :: y1 :: r).take 2 = [y0, y1] := rfl
          have e2 : (y0 :: y1 :: r).drop 2 = r := rfl
          have e3 : manyP n r 0 4 (viewP n) = vwsF n r := by
            unfold manyP vwsF allF
            rw [decide_eq_true (by omega : (0 : Int) ≤ (r.length : Int)), Bool.true_and, Bool.and_comm]
          rw [e1, e2, e3, areQ_cons, areQ_cons, areQ_nil, Bool.and_true, hidF, decide_eq_true rfl, decide_eq_true rfl, Bool.and_true, Bool.true_and, Bool.and_assoc, Bool.and_assoc]
          simp only [Bool.and_assoc]
        rw [e]
        exact h
    · rw [hidF, decide_eq_false hm, Bool.and_false, Bool.and_false, Bool.false_and, Bool.false_and]
      exact rstrm_m n t m a l s c w hR hl (by simpa using hm)
  · rw [decide_eq_false hk, Bool.false_and, Bool.false_and, Bool.false_and]
    exact rstrm_k n k t m a l s c w hR hl (by simpa using hk)
theorem rsrc_q (n : Nat) (k : Int) (t : List UInt8) (m a : Int) (l : List (Tr n)) (s : Option Addr) (c : Nat) (w : World) (hR : Rdy w) (hl : KsG w n s c l) (q2 : Bool) (g2 : ((l.length : Int) == 2) = q2) (hT : ∀ y ∈ l, Txs n y) :
    Calls Tryz.prog 77 #[.agg #[.int .i64 k, .string (bsA t), .int .i64 m, .int .i64 a, .slice s l.length c]] w fun e w' => e = .returned (.bool (strmF n k t m l && q2)) ∧ Below w.heap.size w w' := by
  have HN : Hid (Nd w n k t m a l s c (w.alloc (Obj.cells #[Value.int IntKind.i64 k, Value.string (bsA t), Value.int IntKind.i64 m, Value.int IntKind.i64 a, Value.slice s l.length c] 24))) := Nd.new w n _ t _ a l s c hR hl
  obtain ⟨d0, d1, d2, d3, d4, -, -, -, -, -⟩ := HN.out.box
  have HT : Hid (∀ y ∈ l, Txs n y) := hT
  clear hT
  clear hl hR
  go_enter Tryz.func77, Tryz.ntmps77
  go_wp2_with (first | (go_at_call 117; (refine (rstrm_any n _ _ _ _ l _ _ _ HN.out.rdy HN.out.kids HT.out).mono ?_; rintro e w1 ⟨rfl, hb1⟩; clear d0 d1 d2 d3 d4; replace HN : Hid _ := HN.out.step hb1; obtain ⟨d0, d1, d2, d3, d4, -, -, -, -, -⟩ := HN.out.box)))
  all_goals (go_ret; exact ⟨by simp_all [bsA_tl, beqI, beqL], HN.out.bel⟩)
theorem rsrc_any (n : Nat) (k : Int) (t : List UInt8) (m a : Int) (l : List (Tr n)) (s : Option Addr) (c : Nat) (w : World) (hR : Rdy w) (hl : KsG w n s c l) (hT : ∀ y ∈ l, Txs n y) :
    Calls Tryz.prog 77 #[.agg #[.int .i64 k, .string (bsA t), .int .i64 m, .int .i64 a, .slice s l.length c]] w fun e w' => e = .returned (.bool (srcF n k t m l)) ∧ Below w.heap.size w w' := by
  have h := rsrc_q n k t m a l s c w hR hl _ rfl hT
  rw [beqI] at h
  exact h
theorem rtgt_a (n : Nat) (k : Int) (t : List UInt8) (m : Int) (a : Int) (y0 y1 : Tr n) (b off c : Nat) (w : World) (hR : Rdy w) (hl : KsG w n (some ⟨b, off, none⟩) c [y0, y1]) (hT : ∀ y ∈ [y0, y1], Txs n y) :
    Calls Tryz.prog 78 #[.agg #[.int .i64 k, .string (bsA t), .int .i64 m, .int .i64 a, .slice (some ⟨b, off, none⟩) 2 c]] w fun e w' => e = .returned (.bool (srcF n k t m [y0, y1] && noneP n y0)) ∧ Below w.heap.size w w' := by
  have HN : Hid (Nd w n k t m a [y0, y1] (some ⟨b, off, none⟩) c (w.alloc (Obj.cells #[Value.int IntKind.i64 k, Value.string (bsA t), Value.int IntKind.i64 m, Value.int IntKind.i64 a, Value.slice (some ⟨b, off, none⟩) 2 c] 24))) := Nd.new w n k t m a [y0, y1] (some ⟨b, off, none⟩) c hR hl
  obtain ⟨d0, d1, d2, d3, d4, -, -, -, -, -⟩ := HN.out.box
  obtain ⟨s0, k0, ⟨c0, c1, c2, c3, c4⟩, hg0⟩ := HN.out.kids.kid 0 y0 rfl
  simp only [Nat.reduceMul, Nat.add_zero, Nat.reduceAdd, Nat.add_assoc, Nat.zero_mul] at c0 c1 c2 c3 c4
  obtain ⟨s1, k1, ⟨e0, e1, e2, e3, e4⟩, hg1⟩ := HN.out.kids.kid 1 y1 rfl
  simp only [Nat.reduceMul, Nat.add_zero, Nat.reduceAdd, Nat.add_assoc, Nat.zero_mul] at e0 e1 e2 e3 e4
  have HT : Hid (∀ y ∈ [y0, y1], Txs n y) := hT
  clear hT
  clear hl hR
  go_enter Tryz.func78, Tryz.ntmps78
  go_wp2_with (first | (go_at_call 77; refine (rsrc_any n _ _ _ _ [y0, y1] _ _ _ HN.out.rdy HN.out.kids HT.out).mono ?_; rintro e w1 ⟨rfl, hb1⟩; clear c0 c1 c2 c3 c4 hg0; clear e0 e1 e2 e3 e4 hg1; clear d0 d1 d2 d3 d4; replace HN : Hid _ := HN.out.step hb1; obtain ⟨d0, d1, d2, d3, d4, -, -, -, -, -⟩ := HN.out.box; obtain ⟨s0, k0, ⟨c0, c1, c2, c3, c4⟩, hg0⟩ := HN.out.kids.kid 0 y0 rfl; simp only [Nat.reduceMul, Nat.add_zero, Nat.reduceAdd, Nat.add_assoc, Nat.zero_mul] at c0 c1 c2 c3 c4; obtain ⟨s1, k1, ⟨e0, e1, e2, e3, e4⟩, hg1⟩ := HN.out.kids.kid 1 y1 rfl; simp only [Nat.reduceMul, Nat.add_zero, Nat.reduceAdd, Nat.add_assoc, Nat.zero_mul] at e0 e1 e2 e3 e4) | (go_at_call 112; refine ((rnone_rm n _ HN.out.rdy).run _ (Below.refl _ _) y0 s0 k0 hg0 (HT.out y0 (by simp))).mono ?_; rintro e w1 ⟨rfl, hb1⟩; clear c0 c1 c2 c3 c4 hg0; clear e0 e1 e2 e3 e4 hg1; clear d0 d1 d2 d3 d4; replace HN : Hid _ := HN.out.step hb1; obtain ⟨d0, d1, d2, d3, d4, -, -, -, -, -⟩ := HN.out.box; obtain ⟨s0, k0, ⟨c0, c1, c2, c3, c4⟩, hg0⟩ := HN.out.kids.kid 0 y0 rfl; simp only [Nat.reduceMul, Nat.add_zero, Nat.reduceAdd, Nat.add_assoc, Nat.zero_mul] at c0 c1 c2 c3 c4; obtain ⟨s1, k1, ⟨e0, e1, e2, e3, e4⟩, hg1⟩ := HN.out.kids.kid 1 y1 rfl; simp only [Nat.reduceMul, Nat.add_zero, Nat.reduceAdd, Nat.add_assoc, Nat.zero_mul] at e0 e1 e2 e3 e4))
  all_goals (go_ret; exact ⟨by simp_all [bsA_tl, beqI, beqL], HN.out.bel⟩)
theorem rtgt_n (n : Nat) (k : Int) (t : List UInt8) (m a : Int) (l : List (Tr n)) (s : Option Addr) (c : Nat) (w : World) (hR : Rdy w) (hl : KsG w n s c l) (hT : ∀ y ∈ l, Txs n y) (hs : srcF n k t m l = false) :
    Calls Tryz.prog 78 #[.agg #[.int .i64 k, .string (bsA t), .int .i64 m, .int .i64 a, .slice s l.length c]] w fun e w' => e = .returned (.bool (false)) ∧ Below w.heap.size w w' := by
  have HN : Hid (Nd w n k t m a l s c (w.alloc (Obj.cells #[Value.int IntKind.i64 k, Value.string (bsA t), Value.int IntKind.i64 m, Value.int IntKind.i64 a, Value.slice s l.length c] 24))) := Nd.new w n _ t _ a l s c hR hl
  obtain ⟨d0, d1, d2, d3, d4, -, -, -, -, -⟩ := HN.out.box
  have HT : Hid (∀ y ∈ l, Txs n y) := hT
  clear hT
  have HS : Hid _ := hs
  clear hs
  clear hl hR
  go_enter Tryz.func78, Tryz.ntmps78
  go_wp2_with (first | (go_at_call 77; refine (rsrc_any n _ _ _ _ l _ _ _ HN.out.rdy HN.out.kids HT.out).mono ?_; rintro e w1 ⟨rfl, hb1⟩; rw [HS.out]; clear d0 d1 d2 d3 d4; replace HN : Hid _ := HN.out.step hb1; obtain ⟨d0, d1, d2, d3, d4, -, -, -, -, -⟩ := HN.out.box))
  all_goals (go_ret; exact ⟨rfl, HN.out.bel⟩)
theorem rtgt_any (n : Nat) (k : Int) (t : List UInt8) (m a : Int) (l : List (Tr n)) (s : Option Addr) (c : Nat) (w : World) (hR : Rdy w) (hl : KsG w n s c l) (hT : ∀ y ∈ l, Txs n y) :
    Calls Tryz.prog 78 #[.agg #[.int .i64 k, .string (bsA t), .int .i64 m, .int .i64 a, .slice s l.length c]] w fun e w' => e = .returned (.bool (tgtF n k t m l)) ∧ Below w.heap.size w w' := by
  unfold tgtF
  cases hs : srcF n k t m l with
  | false => exact rtgt_n n k t m a l s c w hR hl hT hs
  | true =>
    have h2 : l.length = 2 := by
      unfold srcF at hs
      rw [Bool.and_eq_true, decide_eq_true_eq] at hs
      omega
    obtain ⟨y0, y1, rfl⟩ := len2 h2
    obtain ⟨b, off, rfl⟩ := hl.addr
    have h := rtgt_a n k t m a y0 y1 b off c w hR hl hT
    rw [hs] at h
    exact h
theorem rnls_a (n : Nat) (k : Int) (t : List UInt8) (m : Int) (a : Int) (y0 y1 : Tr n) (b off c : Nat) (w : World) (hR : Rdy w) (hl : KsG w n (some ⟨b, off, none⟩) c [y0, y1]) (hT : ∀ y ∈ [y0, y1], Txs n y) :
    Calls Tryz.prog 114 #[.agg #[.int .i64 k, .string (bsA t), .int .i64 m, .int .i64 a, .slice (some ⟨b, off, none⟩) 2 c]] w fun e w' => e = .returned (.bool (srcF n k t m [y0, y1] && noneP n y1)) ∧ Below w.heap.size w w' := by
  have HN : Hid (Nd w n k t m a [y0, y1] (some ⟨b, off, none⟩) c (w.alloc (Obj.cells #[Value.int IntKind.i64 k, Value.string (bsA t), Value.int IntKind.i64 m, Value.int IntKind.i64 a, Value.slice (some ⟨b, off, none⟩) 2 c] 24))) := Nd.new w n k t m a [y0, y1] (some ⟨b, off, none⟩) c hR hl
  obtain ⟨d0, d1, d2, d3, d4, -, -, -, -, -⟩ := HN.out.box
  obtain ⟨s0, k0, ⟨c0, c1, c2, c3, c4⟩, hg0⟩ := HN.out.kids.kid 0 y0 rfl
  simp only [Nat.reduceMul, Nat.add_zero, Nat.reduceAdd, Nat.add_assoc, Nat.zero_mul] at c0 c1 c2 c3 c4
  obtain ⟨s1, k1, ⟨e0, e1, e2, e3, e4⟩, hg1⟩ := HN.out.kids.kid 1 y1 rfl
  simp only [Nat.reduceMul, Nat.add_zero, Nat.reduceAdd, Nat.add_assoc, Nat.zero_mul] at e0 e1 e2 e3 e4
  have HT : Hid (∀ y ∈ [y0, y1], Txs n y) := hT
  clear hT
  clear hl hR
  go_enter Tryz.func114, Tryz.ntmps114
  go_wp2_with (first | (go_at_call 77; refine (rsrc_any n _ _ _ _ [y0, y1] _ _ _ HN.out.rdy HN.out.kids HT.out).mono ?_; rintro e w1 ⟨rfl, hb1⟩; clear c0 c1 c2 c3 c4 hg0; clear e0 e1 e2 e3 e4 hg1; clear d0 d1 d2 d3 d4; replace HN : Hid _ := HN.out.step hb1; obtain ⟨d0, d1, d2, d3, d4, -, -, -, -, -⟩ := HN.out.box; obtain ⟨s0, k0, ⟨c0, c1, c2, c3, c4⟩, hg0⟩ := HN.out.kids.kid 0 y0 rfl; simp only [Nat.reduceMul, Nat.add_zero, Nat.reduceAdd, Nat.add_assoc, Nat.zero_mul] at c0 c1 c2 c3 c4; obtain ⟨s1, k1, ⟨e0, e1, e2, e3, e4⟩, hg1⟩ := HN.out.kids.kid 1 y1 rfl; simp only [Nat.reduceMul, Nat.add_zero, Nat.reduceAdd, Nat.add_assoc, Nat.zero_mul] at e0 e1 e2 e3 e4) | (go_at_call 112; refine ((rnone_rm n _ HN.out.rdy).run _ (Below.refl _ _) y1 s1 k1 hg1 (HT.out y1 (by simp))).mono ?_; rintro e w1 ⟨rfl, hb1⟩; clear c0 c1 c2 c3 c4 hg0; clear e0 e1 e2 e3 e4 hg1; clear d0 d1 d2 d3 d4; replace HN : Hid _ := HN.out.step hb1; obtain ⟨d0, d1, d2, d3, d4, -, -, -, -, -⟩ := HN.out.box; obtain ⟨s0, k0, ⟨c0, c1, c2, c3, c4⟩, hg0⟩ := HN.out.kids.kid 0 y0 rfl; simp only [Nat.reduceMul, Nat.add_zero, Nat.reduceAdd, Nat.add_assoc, Nat.zero_mul] at c0 c1 c2 c3 c4; obtain ⟨s1, k1, ⟨e0, e1, e2, e3, e4⟩, hg1⟩ := HN.out.kids.kid 1 y1 rfl; simp only [Nat.reduceMul, Nat.add_zero, Nat.reduceAdd, Nat.add_assoc, Nat.zero_mul] at e0 e1 e2 e3 e4))
  all_goals (go_ret; exact ⟨by simp_all [bsA_tl, beqI, beqL], HN.out.bel⟩)
theorem rnls_n (n : Nat) (k : Int) (t : List UInt8) (m a : Int) (l : List (Tr n)) (s : Option Addr) (c : Nat) (w : World) (hR : Rdy w) (hl : KsG w n s c l) (hT : ∀ y ∈ l, Txs n y) (hs : srcF n k t m l = false) :
    Calls Tryz.prog 114 #[.agg #[.int .i64 k, .string (bsA t), .int .i64 m, .int .i64 a, .slice s l.length c]] w fun e w' => e = .returned (.bool (false)) ∧ Below w.heap.size w w' := by
  have HN : Hid (Nd w n k t m a l s c (w.alloc (Obj.cells #[Value.int IntKind.i64 k, Value.string (bsA t), Value.int IntKind.i64 m, Value.int IntKind.i64 a, Value.slice s l.length c] 24))) := Nd.new w n _ t _ a l s c hR hl
  obtain ⟨d0, d1, d2, d3, d4, -, -, -, -, -⟩ := HN.out.box
  have HT : Hid (∀ y ∈ l, Txs n y) := hT
  clear hT
  have HS : Hid _ := hs
  clear hs
  clear hl hR
  go_enter Tryz.func114, Tryz.ntmps114
  go_wp2_with (first | (go_at_call 77; refine (rsrc_any n _ _ _ _ l _ _ _ HN.out.rdy HN.out.kids HT.out).mono ?_; rintro e w1 ⟨rfl, hb1⟩; rw [HS.out]; clear d0 d1 d2 d3 d4; replace HN : Hid _ := HN.out.step hb1; obtain ⟨d0, d1, d2, d3, d4, -, -, -, -, -⟩ := HN.out.box))
  all_goals (go_ret; exact ⟨rfl, HN.out.bel⟩)
theorem rnls_any (n : Nat) (k : Int) (t : List UInt8) (m a : Int) (l : List (Tr n)) (s : Option Addr) (c : Nat) (w : World) (hR : Rdy w) (hl : KsG w n s c l) (hT : ∀ y ∈ l, Txs n y) :
    Calls Tryz.prog 114 #[.agg #[.int .i64 k, .string (bsA t), .int .i64 m, .int .i64 a, .slice s l.length c]] w fun e w' => e = .returned (.bool (nlsF n k t m l)) ∧ Below w.heap.size w w' := by
  unfold nlsF
  cases hs : srcF n k t m l with
  | false => exact rnls_n n k t m a l s c w hR hl hT hs
  | true =>
    have h2 : l.length = 2 := by
      unfold srcF at hs
      rw [Bool.and_eq_true, decide_eq_true_eq] at hs
      omega
    obtain ⟨y0, y1, rfl⟩ := len2 h2
    obtain ⟨b, off, rfl⟩ := hl.addr
    have h := rnls_a n k t m a y0 y1 b off c w hR hl hT
    rw [hs] at h
    exact h
theorem rlist_k (kk lo : Int) (n : Nat) (k : Int) (t : List UInt8) (m a : Int) (l : List (Tr n)) (s : Option Addr) (c : Nat) (w : World) (hR : Rdy w) (hl : KsG w n s c l) (hk : (k != 28) = true) :
    Calls Tryz.prog 79 #[.agg #[.int .i64 k, .string (bsA t), .int .i64 m, .int .i64 a, .slice s l.length c], .int .i64 kk, .int .i64 lo] w fun e w' => e = .returned (.bool (false)) ∧ Below w.heap.size w w' := by
  have HN : Hid (Nd w n k t m a l s c (w.alloc (Obj.cells #[Value.int IntKind.i64 k, Value.string (bsA t), Value.int IntKind.i64 m, Value.int IntKind.i64 a, Value.slice s l.length c] 24))) := Nd.new w n _ t _ a l s c hR hl
  obtain ⟨d0, d1, d2, d3, d4, -, -, -, -, -⟩ := HN.out.box
  clear hl hR
  go_enter Tryz.func79, Tryz.ntmps79
  go_wp2_with (first | fail)
  all_goals (go_ret; exact ⟨rfl, HN.out.bel⟩)
theorem rlist_p (kk lo : Int) (n : Nat) (t : List UInt8) (m a : Int) (l : List (Tr n)) (s : Option Addr) (c : Nat) (w : World) (hR : Rdy w) (hl : KsG w n s c l) (hb : plainF t m = false) :
    Calls Tryz.prog 79 #[.agg #[.int .i64 28, .string (bsA t), .int .i64 m, .int .i64 a, .slice s l.length c], .int .i64 kk, .int .i64 lo] w fun e w' => e = .returned (.bool (false)) ∧ Below w.heap.size w w' := by
  have HN : Hid (Nd w n 28 t m a l s c (w.alloc (Obj.cells #[Value.int IntKind.i64 28, Value.string (bsA t), Value.int IntKind.i64 m, Value.int IntKind.i64 a, Value.slice s l.length c] 24))) := Nd.new w n _ t _ a l s c hR hl
  obtain ⟨d0, d1, d2, d3, d4, -, -, -, -, -⟩ := HN.out.box
  have HB : Hid _ := hb
  clear hb
  clear hl hR
  go_enter Tryz.func79, Tryz.ntmps79
  go_wp2_with (first | (go_at_call 70; refine (rplain_any n _ _ _ _ l _ _ _ HN.out.rdy HN.out.kids).mono ?_; rintro e w1 ⟨rfl, hb1⟩; rw [HB.out]; clear d0 d1 d2 d3 d4; replace HN : Hid _ := HN.out.step hb1; obtain ⟨d0, d1, d2, d3, d4, -, -, -, -, -⟩ := HN.out.box))
  all_goals (go_ret; exact ⟨rfl, HN.out.bel⟩)
theorem rlist_l (kk lo : Int) (n : Nat) (t : List UInt8) (m a : Int) (l : List (Tr n)) (s : Option Addr) (c : Nat) (w : World) (hR : Rdy w) (hl : KsG w n s c l) (hb : plainF t m = true) (e1 : ((l.length : Int) < lo) = True) :
    Calls Tryz.prog 79 #[.agg #[.int .i64 28, .string (bsA t), .int .i64 m, .int .i64 a, .slice s l.length c], .int .i64 kk, .int .i64 lo] w fun e w' => e = .returned (.bool (false)) ∧ Below w.heap.size w w' := by
  have HN : Hid (Nd w n 28 t m a l s c (w.alloc (Obj.cells #[Value.int IntKind.i64 28, Value.string (bsA t), Value.int IntKind.i64 m, Value.int IntKind.i64 a, Value.slice s l.length c] 24))) := Nd.new w n _ t _ a l s c hR hl
  obtain ⟨d0, d1, d2, d3, d4, -, -, -, -, -⟩ := HN.out.box
  have HB : Hid _ := hb
  clear hb
  clear hl hR
  go_enter Tryz.func79, Tryz.ntmps79
  go_wp2_with (first | (go_at_call 70; refine (rplain_any n _ _ _ _ l _ _ _ HN.out.rdy HN.out.kids).mono ?_; rintro e w1 ⟨rfl, hb1⟩; rw [HB.out]; clear d0 d1 d2 d3 d4; replace HN : Hid _ := HN.out.step hb1; obtain ⟨d0, d1, d2, d3, d4, -, -, -, -, -⟩ := HN.out.box))
  all_goals (go_ret; exact ⟨rfl, HN.out.bel⟩)
theorem rlist_h (kk lo : Int) (n : Nat) (t : List UInt8) (m a : Int) (l : List (Tr n)) (s : Option Addr) (c : Nat) (w : World) (hR : Rdy w) (hl : KsG w n s c l) (hb : plainF t m = true) (e1 : ((l.length : Int) < lo) = False) (e2 : (32 < (l.length : Int)) = True) :
    Calls Tryz.prog 79 #[.agg #[.int .i64 28, .string (bsA t), .int .i64 m, .int .i64 a, .slice s l.length c], .int .i64 kk, .int .i64 lo] w fun e w' => e = .returned (.bool (false)) ∧ Below w.heap.size w w' := by
  have HN : Hid (Nd w n 28 t m a l s c (w.alloc (Obj.cells #[Value.int IntKind.i64 28, Value.string (bsA t), Value.int IntKind.i64 m, Value.int IntKind.i64 a, Value.slice s l.length c] 24))) := Nd.new w n _ t _ a l s c hR hl
  obtain ⟨d0, d1, d2, d3, d4, -, -, -, -, -⟩ := HN.out.box
  have HB : Hid _ := hb
  clear hb
  clear hl hR
  go_enter Tryz.func79, Tryz.ntmps79
  go_wp2_with (first | (go_at_call 70; refine (rplain_any n _ _ _ _ l _ _ _ HN.out.rdy HN.out.kids).mono ?_; rintro e w1 ⟨rfl, hb1⟩; rw [HB.out]; clear d0 d1 d2 d3 d4; replace HN : Hid _ := HN.out.step hb1; obtain ⟨d0, d1, d2, d3, d4, -, -, -, -, -⟩ := HN.out.box))
  all_goals (go_ret; exact ⟨rfl, HN.out.bel⟩)
theorem rlist_e (kk lo : Int) (n : Nat) (t : List UInt8) (m a : Int) (s : Option Addr) (c : Nat) (w : World) (hR : Rdy w) (hl : KsG w n s c []) (hb : plainF t m = true) (e1 : ((0 : Int) < lo) = False) :
    Calls Tryz.prog 79 #[.agg #[.int .i64 28, .string (bsA t), .int .i64 m, .int .i64 a, .slice s 0 c], .int .i64 kk, .int .i64 lo] w fun e w' => e = .returned (.bool (true)) ∧ Below w.heap.size w w' := by
  have HN : Hid (Nd w n 28 t m a [] s c (w.alloc (Obj.cells #[Value.int IntKind.i64 28, Value.string (bsA t), Value.int IntKind.i64 m, Value.int IntKind.i64 a, Value.slice s 0 c] 24))) := Nd.new w n _ t _ a [] s c hR hl
  obtain ⟨d0, d1, d2, d3, d4, -, -, -, -, -⟩ := HN.out.box
  have HB : Hid _ := hb
  clear hb
  clear hl hR
  go_enter Tryz.func79, Tryz.ntmps79
  go_wp2_with (first | (go_at_call 70; refine (rplain_any n _ _ _ _ [] _ _ _ HN.out.rdy HN.out.kids).mono ?_; rintro e w1 ⟨rfl, hb1⟩; rw [HB.out]; clear d0 d1 d2 d3 d4; replace HN : Hid _ := HN.out.step hb1; obtain ⟨d0, d1, d2, d3, d4, -, -, -, -, -⟩ := HN.out.box))
  refine wp_loop_rounds 1 ?_
  rw [rounds_succ]
  go_wp2
  go_ret
  exact ⟨rfl, HN.out.bel⟩
theorem rlist_0 (lo : Int) (n : Nat) (t : List UInt8) (m a : Int) (l : List (Tr n)) (b off c : Nat) (w : World) (hR : Rdy w) (hl : KsG w n (some ⟨b, off, none⟩) c l) (hT : ∀ y ∈ l, Txs n y) (hb : plainF t m = true) (e1 : ((l.length : Int) < lo) = False) (e2 : (32 < (l.length : Int)) = False) :
    Calls Tryz.prog 79 #[.agg #[.int .i64 28, .string (bsA t), .int .i64 m, .int .i64 a, .slice (some ⟨b, off, none⟩) l.length c], .int .i64 0, .int .i64 lo] w fun e w' => e = .returned (.bool (allF n l (exprP n))) ∧ Below w.heap.size w w' := by
  have HN : Hid (Nd w n 28 t m a l (some ⟨b, off, none⟩) c (w.alloc (Obj.cells #[Value.int IntKind.i64 28, Value.string (bsA t), Value.int IntKind.i64 m, Value.int IntKind.i64 a, Value.slice (some ⟨b, off, none⟩) l.length c] 24))) := Nd.new w n 28 t m a l _ c hR hl
  obtain ⟨d0, d1, d2, d3, d4, -, -, -, -, -⟩ := HN.out.box
  have HT : Hid (∀ y ∈ l, Txs n y) := hT
  have HB : Hid _ := hb
  have hlen : l.length ≤ 9223372036854775807 := hl.1
  clear hl hR hT hb
  go_enter Tryz.func79, Tryz.ntmps79
  go_wp2_with (go_at_call 70; refine (rplain_any n _ _ _ _ l _ _ _ HN.out.rdy HN.out.kids).mono ?_; rintro e w1 ⟨rfl, hb1⟩; rw [HB.out]; clear d0 d1 d2 d3 d4; replace HN : Hid _ := HN.out.step hb1; obtain ⟨d0, d1, d2, d3, d4, -, -, -, -, -⟩ := HN.out.box)
  clear d0 d1 d2 d3 d4 e1
  go_loopw [7] (fun i wr => ∃ k : Nat, k ≤ l.length ∧ i = .int .i64 k ∧ (l.take k).all (exprP n) = true ∧ Nd w n 28 t m a l (some ⟨b, off, none⟩) c wr) (fun i _ => l.length - (intOf i).toNat)
  case atStart => exact ⟨0, Nat.zero_le _, rfl, rfl, HN.out⟩
  case round =>
    obtain ⟨k, hk, rfl, hV, hN⟩ := hrel
    have HV : Hid ((l.take k).all (exprP n) = true) := hV
    replace HN : Hid (Nd w n 28 t m a l (some ⟨b, off, none⟩) c wr) := hN
    obtain ⟨d0, d1, d2, d3, d4, -, -, -, -, -⟩ := HN.out.box
    clear hV hN
    rcases Nat.lt_or_ge k l.length with hlt | hge
    · obtain ⟨y, gy⟩ : ∃ y, l[k]? = some y := ⟨_, List.getElem?_eq_getElem hlt⟩
      obtain ⟨sy, cy, ⟨c0, c1, c2, c3, c4⟩, hp⟩ := HN.out.kids.kid k y gy
      have hTy := HT.out y (List.mem_of_getElem? gy)
      have HF : Hid ((exprP n) y = false → l.all (exprP n) = false) := fun h => by
        rw [List.all_eq_false]
        exact ⟨y, List.mem_of_getElem? gy, by rw [h]; simp⟩
      have HG0 : Hid ((exprP n) y = true → (l.take (k + 1)).all (exprP n) = true) := fun h => by rw [all_snoc (exprP n) gy, HV.out, h]; rfl
      clear HV gy
      have HX : Hid (Nx w n 28 t m a l (some ⟨b, off, none⟩) c wr.heap.size y sy cy (wr.alloc (Obj.cells #[Value.int IntKind.i64 (kd n y), Value.string (bsA (tx n y)), Value.int IntKind.i64 (nu n y), Value.int IntKind.i64 (pl n y), Value.slice sy (ks n y).length cy] 24))) := Nx.new HN.out hp
      obtain ⟨x0, x1, x2, x3, x4, -, -, -, -, -⟩ := HX.out.box
      have h1 := (rexpr_rm rId_said n _ HX.out.nd.rdy).run _ (Below.refl _ _) y sy cy HX.out.kid hTy
      unfold ndV at h1
      clear hp hTy
      cases hy : exprP n y with
      | false =>
        have HG : Hid _ := HF.out hy
        rw [hy] at h1
        clear hy
        go_wp2_with fail
        refine h1.mono ?_
        rintro e w1 ⟨rfl, hb1⟩
        have HX1 : Hid _ := HX.out.step hb1
        clear c0 c1 c2 c3 c4 d0 d1 d2 d3 d4 x0 x1 x2 x3 x4
        clear h1
        go_wp2
        go_ret
        exact ⟨ret_bool (by unfold allF; exact HG.out.symm), HX1.out.nd.bel⟩
      | true =>
        have HG : Hid _ := HG0.out hy
        rw [hy] at h1
        clear hy
        go_wp2_with fail
        refine h1.mono ?_
        rintro e w1 ⟨rfl, hb1⟩
        have HX1 : Hid _ := HX.out.step hb1
        clear c0 c1 c2 c3 c4 d0 d1 d2 d3 d4 x0 x1 x2 x3 x4
        clear h1
        go_wp2
        go_roundw
        case rel => exact ⟨k + 1, by omega, by go_num, HG.out, HX1.out.nd⟩
        case measure => simp [intOf]; omega
    · have HX : Hid (l.all (exprP n) = true) := by
        show _ = _
        rw [← HV.out, List.take_of_length_le hge]
      go_wp2
      go_ret
      exact ⟨ret_bool (by unfold allF; exact HX.out.symm), HN.out.bel⟩
theorem rlist_21 (lo : Int) (n : Nat) (t : List UInt8) (m a : Int) (l : List (Tr (n + 1))) (b off c : Nat) (w : World) (hR : Rdy w) (hl : KsG w (n + 1) (some ⟨b, off, none⟩) c l) (hT : ∀ y ∈ l, Txs (n + 1) y) (hb : plainF t m = true) (e1 : ((l.length : Int) < lo) = False) (e2 : (32 < (l.length : Int)) = False) :
    Calls Tryz.prog 79 #[.agg #[.int .i64 28, .string (bsA t), .int .i64 m, .int .i64 a, .slice (some ⟨b, off, none⟩) l.length c], .int .i64 21, .int .i64 lo] w fun e w' => e = .returned (.bool (allF (n + 1) l (itmP (n + 1)))) ∧ Below w.heap.size w w' := by
  have HN : Hid (Nd w (n + 1) 28 t m a l (some ⟨b, off, none⟩) c (w.alloc (Obj.cells #[Value.int IntKind.i64 28, Value.string (bsA t), Value.int IntKind.i64 m, Value.int IntKind.i64 a, Value.slice (some ⟨b, off, none⟩) l.length c] 24))) := Nd.new w (n + 1) 28 t m a l _ c hR hl
  obtain ⟨d0, d1, d2, d3, d4, -, -, -, -, -⟩ := HN.out.box
  have HT : Hid (∀ y ∈ l, Txs (n + 1) y) := hT
  have HB : Hid _ := hb
  have hlen : l.length ≤ 9223372036854775807 := hl.1
  clear hl hR hT hb
  go_enter Tryz.func79, Tryz.ntmps79
  go_wp2_with (go_at_call 70; refine (rplain_any (n + 1) _ _ _ _ l _ _ _ HN.out.rdy HN.out.kids).mono ?_; rintro e w1 ⟨rfl, hb1⟩; rw [HB.out]; clear d0 d1 d2 d3 d4; replace HN : Hid _ := HN.out.step hb1; obtain ⟨d0, d1, d2, d3, d4, -, -, -, -, -⟩ := HN.out.box)
  clear d0 d1 d2 d3 d4 e1
  go_loopw [7] (fun i wr => ∃ k : Nat, k ≤ l.length ∧ i = .int .i64 k ∧ (l.take k).all (itmP (n + 1)) = true ∧ Nd w (n + 1) 28 t m a l (some ⟨b, off, none⟩) c wr) (fun i _ => l.length - (intOf i).toNat)
  case atStart => exact ⟨0, Nat.zero_le _, rfl, rfl, HN.out⟩
  case round =>
    obtain ⟨k, hk, rfl, hV, hN⟩ := hrel
    have HV : Hid ((l.take k).all (itmP (n + 1)) = true) := hV
    replace HN : Hid (Nd w (n + 1) 28 t m a l (some ⟨b, off, none⟩) c wr) := hN
    obtain ⟨d0, d1, d2, d3, d4, -, -, -, -, -⟩ := HN.out.box
    clear hV hN
    rcases Nat.lt_or_ge k l.length with hlt | hge
    · obtain ⟨y, gy⟩ : ∃ y, l[k]? = some y := ⟨_, List.getElem?_eq_getElem hlt⟩
      obtain ⟨sy, cy, ⟨c0, c1, c2, c3, c4⟩, hp⟩ := HN.out.kids.kid k y gy
      have hTy := HT.out y (List.mem_of_getElem? gy)
      have HF : Hid ((itmP (n + 1)) y = false → l.all (itmP (n + 1)) = false) := fun h => by
        rw [List.all_eq_false]
        exact ⟨y, List.mem_of_getElem? gy, by rw [h]; simp⟩
      have HG0 : Hid ((itmP (n + 1)) y = true → (l.take (k + 1)).all (itmP (n + 1)) = true) := fun h => by rw [all_snoc (itmP (n + 1)) gy, HV.out, h]; rfl
      clear HV gy
      cases hk1 : (kd (n + 1) y != 21) with
      | true =>
        have HE : Hid (itmP (n + 1) y = false) := by
          show (decide (kd (n + 1) y = 21) && idEF (tx (n + 1) y) && decide (nu (n + 1) y = 0) && areQ n (ks (n + 1) y) [exprP n]) = _
          rw [decide_eq_false (by simpa using hk1)]
          simp
        have HX : Hid (Nx w (n + 1) 28 t m a l (some ⟨b, off, none⟩) c wr.heap.size y sy cy (wr.alloc (Obj.cells #[Value.int IntKind.i64 (kd (n + 1) y), Value.string (bsA (tx (n + 1) y)), Value.int IntKind.i64 (nu (n + 1) y), Value.int IntKind.i64 (pl (n + 1) y), Value.slice sy (ks (n + 1) y).length cy] 24))) := Nx.new HN.out hp
        obtain ⟨x0, x1, x2, x3, x4, -, -, -, -, -⟩ := HX.out.box
        clear hp hTy
        go_wp2
        go_ret
        exact ⟨ret_bool (by unfold allF; exact (HF.out HE.out).symm), HX.out.nd.bel⟩
      | false =>
      have ek : decide (kd (n + 1) y = 21) = true := by simpa using hk1
      by_cases h1 : (ks (n + 1) y).length = 1
      · obtain ⟨z, hz⟩ := List.length_eq_one_iff.1 h1
        have HEV : Hid (itmP (n + 1) y = (decide (kd (n + 1) y = 21) && idEF (tx (n + 1) y) && decide (nu (n + 1) y = 0) && exprP n z)) := by
          show (decide (kd (n + 1) y = 21) && idEF (tx (n + 1) y) && decide (nu (n + 1) y = 0) && areQ n (ks (n + 1) y) [exprP n]) = _
          rw [hz, areQ_cons, areQ_nil, Bool.and_true]
        obtain ⟨bz, oz, sz, kz, rfl, ⟨z0, z1, z2, z3, z4⟩, hgz⟩ := kid_one hp hz
        rw [hz, List.length_singleton] at c4
        have hTz : Txs n z := hTy.2 z (by rw [hz]; simp)
        have HX : Hid (Nx w (n + 1) 28 t m a l (some ⟨b, off, none⟩) c wr.heap.size y (some ⟨bz, oz, none⟩) cy (wr.alloc (Obj.cells #[Value.int IntKind.i64 (kd (n + 1) y), Value.string (bsA (tx (n + 1) y)), Value.int IntKind.i64 (nu (n + 1) y), Value.int IntKind.i64 (pl (n + 1) y), Value.slice (some ⟨bz, oz, none⟩) 1 cy] 24))) := by
          have h := Nx.new HN.out hp
          rw [hz, List.length_singleton] at h
          exact h
        obtain ⟨x0, x1, x2, x3, x4, -, -, -, -, -⟩ := HX.out.box
        rw [hz, List.length_singleton] at x4
        clear z0 z1 z2 z3 z4 hgz
        obtain ⟨bz, oz, sz, kz, ez, ⟨z0, z1, z2, z3, z4⟩, hgz⟩ := kid_one HX.out.kid hz
        cases ez
        have h26 := (rexpr_rm rId_said n _ HX.out.nd.rdy).run _ (Below.refl _ _) z sz kz hgz hTz
        unfold ndV at h26
        have HK : Hid _ := ek
        clear hp hTy hz h1 hgz hTz ek
        cases hy : exprP n z with
        | false =>
          have HE : Hid (itmP (n + 1) y = false) := by
            show _ = _
            rw [HEV.out, hy]
            simp
          rw [hy] at h26
          clear hy
          go_wp2_with fail
          refine h26.mono ?_
          rintro e w1 ⟨rfl, hb1⟩
          replace HX : Hid _ := HX.out.step hb1
          clear c0 c1 c2 c3 c4 d0 d1 d2 d3 d4 x0 x1 x2 x3 x4 z0 z1 z2 z3 z4
          clear h26
          obtain ⟨x0, x1, x2, x3, x4, -, -, -, -, -⟩ := HX.out.box
          go_wp2
          go_ret
          exact ⟨ret_bool (by unfold allF; exact (HF.out HE.out).symm), HX.out.nd.bel⟩
        | true =>
          rw [hy] at h26
          have HY : Hid _ := hy
          clear hy
          by_cases h0 : nu (n + 1) y = 0
          · have gn : (nu (n + 1) y == 0) = true := by simpa using h0
            by_cases h3 : tx (n + 1) y = []
            · have gt : ((bsA (tx (n + 1) y)).toList == []) = true := by rw [bsA_tl, h3]; rfl
              have HT0 : Hid _ := h3
              have HN0 : Hid _ := h0
              clear h3 h0
              have HE : Hid (itmP (n + 1) y = true) := by
                show _ = _
                rw [HEV.out, HY.out, HK.out]
                rw [HT0.out, HN0.out]
                rfl
              clear HEV HY HK
              go_wp2_with fail
              refine h26.mono ?_
              rintro e w1 ⟨rfl, hb1⟩
              replace HX : Hid _ := HX.out.step hb1
              clear c0 c1 c2 c3 c4 d0 d1 d2 d3 d4 x0 x1 x2 x3 x4 z0 z1 z2 z3 z4
              clear h26
              obtain ⟨x0, x1, x2, x3, x4, -, -, -, -, -⟩ := HX.out.box
              have HG : Hid _ := HG0.out HE.out
              go_wp2
              go_roundw
              case rel => exact ⟨k + 1, by omega, by go_num, HG.out, HX.out.nd⟩
              case measure => simp [intOf]; omega
            · have gt : ((bsA (tx (n + 1) y)).toList == []) = false := by rw [bsA_tl, beqL]; exact decide_eq_false h3
              have HT0 : Hid _ := h3
              have HN0 : Hid _ := h0
              clear h3 h0
              cases hi : idC (tx (n + 1) y) with
              | true =>
                have HI : Hid _ := hi
                clear hi
                have HE : Hid (itmP (n + 1) y = true) := by
                  show _ = _
                  rw [HEV.out, HY.out, HK.out]
                  unfold idEF
                  rw [HN0.out, HI.out]
                  simp
                clear HEV HY HK
                go_wp2_with fail
                refine h26.mono ?_
                rintro e w1 ⟨rfl, hb1⟩
                replace HX : Hid _ := HX.out.step hb1
                clear c0 c1 c2 c3 c4 d0 d1 d2 d3 d4 x0 x1 x2 x3 x4 z0 z1 z2 z3 z4
                clear h26
                obtain ⟨x0, x1, x2, x3, x4, -, -, -, -, -⟩ := HX.out.box
                go_wp2_with fail
                refine (rId_said _ _ HX.out.nd.rdy).mono ?_
                rintro e w2 ⟨rfl, hb2⟩
                rw [HI.out]
                replace HX : Hid _ := HX.out.step hb2
                clear x0 x1 x2 x3 x4
                obtain ⟨x0, x1, x2, x3, x4, -, -, -, -, -⟩ := HX.out.box
                have HG : Hid _ := HG0.out HE.out
                go_wp2
                go_roundw
                case rel => exact ⟨k + 1, by omega, by go_num, HG.out, HX.out.nd⟩
                case measure => simp [intOf]; omega
              | false =>
                have HI : Hid _ := hi
                clear hi
                have HE : Hid (itmP (n + 1) y = false) := by
                  show _ = _
                  rw [HEV.out, HY.out, HK.out]
                  unfold idEF
                  rw [HI.out, decide_eq_false HT0.out]
                  simp
                clear HEV HY HK
                go_wp2_with fail
                refine h26.mono ?_
                rintro e w1 ⟨rfl, hb1⟩
                replace HX : Hid _ := HX.out.step hb1
                clear c0 c1 c2 c3 c4 d0 d1 d2 d3 d4 x0 x1 x2 x3 x4 z0 z1 z2 z3 z4
                clear h26
                obtain ⟨x0, x1, x2, x3, x4, -, -, -, -, -⟩ := HX.out.box
                go_wp2_with fail
                refine (rId_said _ _ HX.out.nd.rdy).mono ?_
                rintro e w2 ⟨rfl, hb2⟩
                rw [HI.out]
                replace HX : Hid _ := HX.out.step hb2
                clear x0 x1 x2 x3 x4
                obtain ⟨x0, x1, x2, x3, x4, -, -, -, -, -⟩ := HX.out.box
                go_wp2
                go_ret
                exact ⟨ret_bool (by unfold allF; exact (HF.out HE.out).symm), HX.out.nd.bel⟩
          · have gn : (nu (n + 1) y == 0) = false := by simpa using h0
            have HN0 : Hid _ := h0
            clear h0
            have HE : Hid (itmP (n + 1) y = false) := by
              show _ = _
              rw [HEV.out, HY.out, HK.out]
              rw [decide_eq_false HN0.out]
              simp
            clear HEV HY HK
            go_wp2_with fail
            refine h26.mono ?_
            rintro e w1 ⟨rfl, hb1⟩
            replace HX : Hid _ := HX.out.step hb1
            clear c0 c1 c2 c3 c4 d0 d1 d2 d3 d4 x0 x1 x2 x3 x4 z0 z1 z2 z3 z4
            clear h26
            obtain ⟨x0, x1, x2, x3, x4, -, -, -, -, -⟩ := HX.out.box
            go_wp2
            go_ret
            exact ⟨ret_bool (by unfold allF; exact (HF.out HE.out).symm), HX.out.nd.bel⟩
      · have HE : Hid (itmP (n + 1) y = false) := by
          show (decide (kd (n + 1) y = 21) && idEF (tx (n + 1) y) && decide (nu (n + 1) y = 0) && areQ n (ks (n + 1) y) [exprP n]) = _
          rw [areQ_ne _ _ _ (by simpa using h1)]
          simp
        have hl1 : (((ks (n + 1) y).length : Int) != 1) = true := len_nb h1
        have HX : Hid (Nx w (n + 1) 28 t m a l (some ⟨b, off, none⟩) c wr.heap.size y sy cy (wr.alloc (Obj.cells #[Value.int IntKind.i64 (kd (n + 1) y), Value.string (bsA (tx (n + 1) y)), Value.int IntKind.i64 (nu (n + 1) y), Value.int IntKind.i64 (pl (n + 1) y), Value.slice sy (ks (n + 1) y).length cy] 24))) := Nx.new HN.out hp
        obtain ⟨x0, x1, x2, x3, x4, -, -, -, -, -⟩ := HX.out.box
        clear hp hTy h1 ek
        go_wp2
        go_ret
        exact ⟨ret_bool (by unfold allF; exact (HF.out HE.out).symm), HX.out.nd.bel⟩
    · have HX : Hid (l.all (itmP (n + 1)) = true) := by
        show _ = _
        rw [← HV.out, List.take_of_length_le hge]
      go_wp2
      go_ret
      exact ⟨ret_bool (by unfold allF; exact HX.out.symm), HN.out.bel⟩
theorem rlist_27 (lo : Int) (n : Nat) (t : List UInt8) (m a : Int) (l : List (Tr (n + 1))) (b off c : Nat) (w : World) (hR : Rdy w) (hl : KsG w (n + 1) (some ⟨b, off, none⟩) c l) (hT : ∀ y ∈ l, Txs (n + 1) y) (hb : plainF t m = true) (e1 : ((l.length : Int) < lo) = False) (e2 : (32 < (l.length : Int)) = False) :
    Calls Tryz.prog 79 #[.agg #[.int .i64 28, .string (bsA t), .int .i64 m, .int .i64 a, .slice (some ⟨b, off, none⟩) l.length c], .int .i64 27, .int .i64 lo] w fun e w' => e = .returned (.bool (allF (n + 1) l (setP (n + 1)))) ∧ Below w.heap.size w w' := by
  have HN : Hid (Nd w (n + 1) 28 t m a l (some ⟨b, off, none⟩) c (w.alloc (Obj.cells #[Value.int IntKind.i64 28, Value.string (bsA t), Value.int IntKind.i64 m, Value.int IntKind.i64 a, Value.slice (some ⟨b, off, none⟩) l.length c] 24))) := Nd.new w (n + 1) 28 t m a l _ c hR hl
  obtain ⟨d0, d1, d2, d3, d4, -, -, -, -, -⟩ := HN.out.box
  have HT : Hid (∀ y ∈ l, Txs (n + 1) y) := hT
  have HB : Hid _ := hb
  have hlen : l.length ≤ 9223372036854775807 := hl.1
  clear hl hR hT hb
  go_enter Tryz.func79, Tryz.ntmps79
  go_wp2_with (go_at_call 70; refine (rplain_any (n + 1) _ _ _ _ l _ _ _ HN.out.rdy HN.out.kids).mono ?_; rintro e w1 ⟨rfl, hb1⟩; rw [HB.out]; clear d0 d1 d2 d3 d4; replace HN : Hid _ := HN.out.step hb1; obtain ⟨d0, d1, d2, d3, d4, -, -, -, -, -⟩ := HN.out.box)
  clear d0 d1 d2 d3 d4 e1
  go_loopw [7] (fun i wr => ∃ k : Nat, k ≤ l.length ∧ i = .int .i64 k ∧ (l.take k).all (setP (n + 1)) = true ∧ Nd w (n + 1) 28 t m a l (some ⟨b, off, none⟩) c wr) (fun i _ => l.length - (intOf i).toNat)
  case atStart => exact ⟨0, Nat.zero_le _, rfl, rfl, HN.out⟩
  case round =>
    obtain ⟨k, hk, rfl, hV, hN⟩ := hrel
    have HV : Hid ((l.take k).all (setP (n + 1)) = true) := hV
    replace HN : Hid (Nd w (n + 1) 28 t m a l (some ⟨b, off, none⟩) c wr) := hN
    obtain ⟨d0, d1, d2, d3, d4, -, -, -, -, -⟩ := HN.out.box
    clear hV hN
    rcases Nat.lt_or_ge k l.length with hlt | hge
    · obtain ⟨y, gy⟩ : ∃ y, l[k]? = some y := ⟨_, List.getElem?_eq_getElem hlt⟩
      obtain ⟨sy, cy, ⟨c0, c1, c2, c3, c4⟩, hp⟩ := HN.out.kids.kid k y gy
      have hTy := HT.out y (List.mem_of_getElem? gy)
      have HF : Hid ((setP (n + 1)) y = false → l.all (setP (n + 1)) = false) := fun h => by
        rw [List.all_eq_false]
        exact ⟨y, List.mem_of_getElem? gy, by rw [h]; simp⟩
      have HG0 : Hid ((setP (n + 1)) y = true → (l.take (k + 1)).all (setP (n + 1)) = true) := fun h => by rw [all_snoc (setP (n + 1)) gy, HV.out, h]; rfl
      clear HV gy
      cases hk1 : (kd (n + 1) y != 27) with
      | true =>
        have HE : Hid (setP (n + 1) y = false) := by
          show (decide (kd (n + 1) y = 27) && hidF (tx (n + 1) y) (nu (n + 1) y) && areQ n (ks (n + 1) y) [exprP n]) = _
          rw [decide_eq_false (by simpa using hk1)]
          simp
        have HX : Hid (Nx w (n + 1) 28 t m a l (some ⟨b, off, none⟩) c wr.heap.size y sy cy (wr.alloc (Obj.cells #[Value.int IntKind.i64 (kd (n + 1) y), Value.string (bsA (tx (n + 1) y)), Value.int IntKind.i64 (nu (n + 1) y), Value.int IntKind.i64 (pl (n + 1) y), Value.slice sy (ks (n + 1) y).length cy] 24))) := Nx.new HN.out hp
        obtain ⟨x0, x1, x2, x3, x4, -, -, -, -, -⟩ := HX.out.box
        clear hp hTy
        go_wp2
        go_ret
        exact ⟨ret_bool (by unfold allF; exact (HF.out HE.out).symm), HX.out.nd.bel⟩
      | false =>
      have ek : decide (kd (n + 1) y = 27) = true := by simpa using hk1
      by_cases h1 : (ks (n + 1) y).length = 1
      · obtain ⟨z, hz⟩ := List.length_eq_one_iff.1 h1
        have HEV : Hid (setP (n + 1) y = (decide (kd (n + 1) y = 27) && hidF (tx (n + 1) y) (nu (n + 1) y) && exprP n z)) := by
          show (decide (kd (n + 1) y = 27) && hidF (tx (n + 1) y) (nu (n + 1) y) && areQ n (ks (n + 1) y) [exprP n]) = _
          rw [hz, areQ_cons, areQ_nil, Bool.and_true]
        obtain ⟨bz, oz, sz, kz, rfl, ⟨z0, z1, z2, z3, z4⟩, hgz⟩ := kid_one hp hz
        rw [hz, List.length_singleton] at c4
        have hTz : Txs n z := hTy.2 z (by rw [hz]; simp)
        have HX : Hid (Nx w (n + 1) 28 t m a l (some ⟨b, off, none⟩) c wr.heap.size y (some ⟨bz, oz, none⟩) cy (wr.alloc (Obj.cells #[Value.int IntKind.i64 (kd (n + 1) y), Value.string (bsA (tx (n + 1) y)), Value.int IntKind.i64 (nu (n + 1) y), Value.int IntKind.i64 (pl (n + 1) y), Value.slice (some ⟨bz, oz, none⟩) 1 cy] 24))) := by
          have h := Nx.new HN.out hp
          rw [hz, List.length_singleton] at h
          exact h
        obtain ⟨x0, x1, x2, x3, x4, -, -, -, -, -⟩ := HX.out.box
        rw [hz, List.length_singleton] at x4
        clear z0 z1 z2 z3 z4 hgz
        obtain ⟨bz, oz, sz, kz, ez, ⟨z0, z1, z2, z3, z4⟩, hgz⟩ := kid_one HX.out.kid hz
        cases ez
        have h26 := (rexpr_rm rId_said n _ HX.out.nd.rdy).run _ (Below.refl _ _) z sz kz hgz hTz
        unfold ndV at h26
        have HK : Hid _ := ek
        clear hp hTy hz h1 hgz hTz ek
        cases hy : exprP n z with
        | false =>
          have HE : Hid (setP (n + 1) y = false) := by
            show _ = _
            rw [HEV.out, hy]
            simp
          rw [hy] at h26
          clear hy
          go_wp2_with fail
          refine h26.mono ?_
          rintro e w1 ⟨rfl, hb1⟩
          replace HX : Hid _ := HX.out.step hb1
          clear c0 c1 c2 c3 c4 d0 d1 d2 d3 d4 x0 x1 x2 x3 x4 z0 z1 z2 z3 z4
          clear h26
          obtain ⟨x0, x1, x2, x3, x4, -, -, -, -, -⟩ := HX.out.box
          go_wp2
          go_ret
          exact ⟨ret_bool (by unfold allF; exact (HF.out HE.out).symm), HX.out.nd.bel⟩
        | true =>
          rw [hy] at h26
          have HY : Hid _ := hy
          clear hy
          by_cases h0 : nu (n + 1) y = 0
          · have gn : (nu (n + 1) y == 0) = true := by simpa using h0
            have HN0 : Hid _ := h0
            clear h0
            cases hi : idC (tx (n + 1) y) with
            | true =>
              have HI : Hid _ := hi
              clear hi
              have HE : Hid (setP (n + 1) y = true) := by
                show _ = _
                rw [HEV.out, HY.out, HK.out]
                unfold hidF
                rw [HN0.out, HI.out]
                rfl
              clear HEV HY HK
              go_wp2_with fail
              refine h26.mono ?_
              rintro e w1 ⟨rfl, hb1⟩
              replace HX : Hid _ := HX.out.step hb1
              clear c0 c1 c2 c3 c4 d0 d1 d2 d3 d4 x0 x1 x2 x3 x4 z0 z1 z2 z3 z4
              clear h26
              obtain ⟨x0, x1, x2, x3, x4, -, -, -, -, -⟩ := HX.out.box
              go_wp2_with fail
              refine (rId_said _ _ HX.out.nd.rdy).mono ?_
              rintro e w2 ⟨rfl, hb2⟩
              rw [HI.out]
              replace HX : Hid _ := HX.out.step hb2
              clear x0 x1 x2 x3 x4
              obtain ⟨x0, x1, x2, x3, x4, -, -, -, -, -⟩ := HX.out.box
              have HG : Hid _ := HG0.out HE.out
              go_wp2
              go_roundw
              case rel => exact ⟨k + 1, by omega, by go_num, HG.out, HX.out.nd⟩
              case measure => simp [intOf]; omega
            | false =>
              have HI : Hid _ := hi
              clear hi
              have HE : Hid (setP (n + 1) y = false) := by
                show _ = _
                rw [HEV.out, HY.out, HK.out]
                unfold hidF
                rw [HI.out]
                simp
              clear HEV HY HK
              go_wp2_with fail
              refine h26.mono ?_
              rintro e w1 ⟨rfl, hb1⟩
              replace HX : Hid _ := HX.out.step hb1
              clear c0 c1 c2 c3 c4 d0 d1 d2 d3 d4 x0 x1 x2 x3 x4 z0 z1 z2 z3 z4
              clear h26
              obtain ⟨x0, x1, x2, x3, x4, -, -, -, -, -⟩ := HX.out.box
              go_wp2_with fail
              refine (rId_said _ _ HX.out.nd.rdy).mono ?_
              rintro e w2 ⟨rfl, hb2⟩
              rw [HI.out]
              replace HX : Hid _ := HX.out.step hb2
              clear x0 x1 x2 x3 x4
              obtain ⟨x0, x1, x2, x3, x4, -, -, -, -, -⟩ := HX.out.box
              go_wp2
              go_ret
              exact ⟨ret_bool (by unfold allF; exact (HF.out HE.out).symm), HX.out.nd.bel⟩
          · have gn : (nu (n + 1) y == 0) = false := by simpa using h0
            have HN0 : Hid _ := h0
            clear h0
            have HE : Hid (setP (n + 1) y = false) := by
              show _ = _
              rw [HEV.out, HY.out, HK.out]
              unfold hidF
              rw [decide_eq_false HN0.out]
              simp
            clear HEV HY HK
            go_wp2_with fail
            refine h26.mono ?_
            rintro e w1 ⟨rfl, hb1⟩
            replace HX : Hid _ := HX.out.step hb1
            clear c0 c1 c2 c3 c4 d0 d1 d2 d3 d4 x0 x1 x2 x3 x4 z0 z1 z2 z3 z4
            clear h26
            obtain ⟨x0, x1, x2, x3, x4, -, -, -, -, -⟩ := HX.out.box
            go_wp2
            go_ret
            exact ⟨ret_bool (by unfold allF; exact (HF.out HE.out).symm), HX.out.nd.bel⟩
      · have HE : Hid (setP (n + 1) y = false) := by
          show (decide (kd (n + 1) y = 27) && hidF (tx (n + 1) y) (nu (n + 1) y) && areQ n (ks (n + 1) y) [exprP n]) = _
          rw [areQ_ne _ _ _ (by simpa using h1)]
          simp
        have hl1 : (((ks (n + 1) y).length : Int) != 1) = true := len_nb h1
        have HX : Hid (Nx w (n + 1) 28 t m a l (some ⟨b, off, none⟩) c wr.heap.size y sy cy (wr.alloc (Obj.cells #[Value.int IntKind.i64 (kd (n + 1) y), Value.string (bsA (tx (n + 1) y)), Value.int IntKind.i64 (nu (n + 1) y), Value.int IntKind.i64 (pl (n + 1) y), Value.slice sy (ks (n + 1) y).length cy] 24))) := Nx.new HN.out hp
        obtain ⟨x0, x1, x2, x3, x4, -, -, -, -, -⟩ := HX.out.box
        clear hp hTy h1 ek
        go_wp2
        go_ret
        exact ⟨ret_bool (by unfold allF; exact (HF.out HE.out).symm), HX.out.nd.bel⟩
    · have HX : Hid (l.all (setP (n + 1)) = true) := by
        show _ = _
        rw [← HV.out, List.take_of_length_le hge]
      go_wp2
      go_ret
      exact ⟨ret_bool (by unfold allF; exact HX.out.symm), HN.out.bel⟩
theorem rlist_25 (lo : Int) (n : Nat) (t : List UInt8) (m a : Int) (l : List (Tr (n + 1))) (b off c : Nat) (w : World) (hR : Rdy w) (hl : KsG w (n + 1) (some ⟨b, off, none⟩) c l) (hT : ∀ y ∈ l, Txs (n + 1) y) (hb : plainF t m = true) (e1 : ((l.length : Int) < lo) = False) (e2 : (32 < (l.length : Int)) = False) :
    Calls Tryz.prog 79 #[.agg #[.int .i64 28, .string (bsA t), .int .i64 m, .int .i64 a, .slice (some ⟨b, off, none⟩) l.length c], .int .i64 25, .int .i64 lo] w fun e w' => e = .returned (.bool (allF (n + 1) l (odrP (n + 1)))) ∧ Below w.heap.size w w' := by
  have HN : Hid (Nd w (n + 1) 28 t m a l (some ⟨b, off, none⟩) c (w.alloc (Obj.cells #[Value.int IntKind.i64 28, Value.string (bsA t), Value.int IntKind.i64 m, Value.int IntKind.i64 a, Value.slice (some ⟨b, off, none⟩) l.length c] 24))) := Nd.new w (n + 1) 28 t m a l _ c hR hl
  obtain ⟨d0, d1, d2, d3, d4, -, -, -, -, -⟩ := HN.out.box
  have HT : Hid (∀ y ∈ l, Txs (n + 1) y) := hT
  have HB : Hid _ := hb
  have hlen : l.length ≤ 9223372036854775807 := hl.1
  clear hl hR hT hb
  go_enter Tryz.func79, Tryz.ntmps79
  go_wp2_with (go_at_call 70; refine (rplain_any (n + 1) _ _ _ _ l _ _ _ HN.out.rdy HN.out.kids).mono ?_; rintro e w1 ⟨rfl, hb1⟩; rw [HB.out]; clear d0 d1 d2 d3 d4; replace HN : Hid _ := HN.out.step hb1; obtain ⟨d0, d1, d2, d3, d4, -, -, -, -, -⟩ := HN.out.box)
  clear d0 d1 d2 d3 d4 e1
  go_loopw [7] (fun i wr => ∃ k : Nat, k ≤ l.length ∧ i = .int .i64 k ∧ (l.take k).all (odrP (n + 1)) = true ∧ Nd w (n + 1) 28 t m a l (some ⟨b, off, none⟩) c wr) (fun i _ => l.length - (intOf i).toNat)
  case atStart => exact ⟨0, Nat.zero_le _, rfl, rfl, HN.out⟩
  case round =>
    obtain ⟨k, hk, rfl, hV, hN⟩ := hrel
    have HV : Hid ((l.take k).all (odrP (n + 1)) = true) := hV
    replace HN : Hid (Nd w (n + 1) 28 t m a l (some ⟨b, off, none⟩) c wr) := hN
    obtain ⟨d0, d1, d2, d3, d4, -, -, -, -, -⟩ := HN.out.box
    clear hV hN
    rcases Nat.lt_or_ge k l.length with hlt | hge
    · obtain ⟨y, gy⟩ : ∃ y, l[k]? = some y := ⟨_, List.getElem?_eq_getElem hlt⟩
      obtain ⟨sy, cy, ⟨c0, c1, c2, c3, c4⟩, hp⟩ := HN.out.kids.kid k y gy
      have hTy := HT.out y (List.mem_of_getElem? gy)
      have HF : Hid ((odrP (n + 1)) y = false → l.all (odrP (n + 1)) = false) := fun h => by
        rw [List.all_eq_false]
        exact ⟨y, List.mem_of_getElem? gy, by rw [h]; simp⟩
      have HG0 : Hid ((odrP (n + 1)) y = true → (l.take (k + 1)).all (odrP (n + 1)) = true) := fun h => by rw [all_snoc (odrP (n + 1)) gy, HV.out, h]; rfl
      clear HV gy
      cases hk1 : (kd (n + 1) y != 25) with
      | true =>
        have HE : Hid (odrP (n + 1) y = false) := by
          show (decide (kd (n + 1) y = 25) && decide (tx (n + 1) y = []) && flagF (nu (n + 1) y) && areQ n (ks (n + 1) y) [exprP n]) = _
          rw [decide_eq_false (by simpa using hk1)]
          simp
        have HX : Hid (Nx w (n + 1) 28 t m a l (some ⟨b, off, none⟩) c wr.heap.size y sy cy (wr.alloc (Obj.cells #[Value.int IntKind.i64 (kd (n + 1) y), Value.string (bsA (tx (n + 1) y)), Value.int IntKind.i64 (nu (n + 1) y), Value.int IntKind.i64 (pl (n + 1) y), Value.slice sy (ks (n + 1) y).length cy] 24))) := Nx.new HN.out hp
        obtain ⟨x0, x1, x2, x3, x4, -, -, -, -, -⟩ := HX.out.box
        clear hp hTy
        go_wp2
        go_ret
        exact ⟨ret_bool (by unfold allF; exact (HF.out HE.out).symm), HX.out.nd.bel⟩
      | false =>
      have ek : decide (kd (n + 1) y = 25) = true := by simpa using hk1
      by_cases h1 : (ks (n + 1) y).length = 1
      · obtain ⟨z, hz⟩ := List.length_eq_one_iff.1 h1
        have HEV : Hid (odrP (n + 1) y = (decide (kd (n + 1) y = 25) && decide (tx (n + 1) y = []) && flagF (nu (n + 1) y) && exprP n z)) := by
          show (decide (kd (n + 1) y = 25) && decide (tx (n + 1) y = []) && flagF (nu (n + 1) y) && areQ n (ks (n + 1) y) [exprP n]) = _
          rw [hz, areQ_cons, areQ_nil, Bool.and_true]
        obtain ⟨bz, oz, sz, kz, rfl, ⟨z0, z1, z2, z3, z4⟩, hgz⟩ := kid_one hp hz
        rw [hz, List.length_singleton] at c4
        have hTz : Txs n z := hTy.2 z (by rw [hz]; simp)
        have HX : Hid (Nx w (n + 1) 28 t m a l (some ⟨b, off, none⟩) c wr.heap.size y (some ⟨bz, oz, none⟩) cy (wr.alloc (Obj.cells #[Value.int IntKind.i64 (kd (n + 1) y), Value.string (bsA (tx (n + 1) y)), Value.int IntKind.i64 (nu (n + 1) y), Value.int IntKind.i64 (pl (n + 1) y), Value.slice (some ⟨bz, oz, none⟩) 1 cy] 24))) := by
          have h := Nx.new HN.out hp
          rw [hz, List.length_singleton] at h
          exact h
        obtain ⟨x0, x1, x2, x3, x4, -, -, -, -, -⟩ := HX.out.box
        rw [hz, List.length_singleton] at x4
        clear z0 z1 z2 z3 z4 hgz
        obtain ⟨bz, oz, sz, kz, ez, ⟨z0, z1, z2, z3, z4⟩, hgz⟩ := kid_one HX.out.kid hz
        cases ez
        have h26 := (rexpr_rm rId_said n _ HX.out.nd.rdy).run _ (Below.refl _ _) z sz kz hgz hTz
        unfold ndV at h26
        have HK : Hid _ := ek
        clear hp hTy hz h1 hgz hTz ek
        cases hy : exprP n z with
        | false =>
          have HE : Hid (odrP (n + 1) y = false) := by
            show _ = _
            rw [HEV.out, hy]
            simp
          rw [hy] at h26
          clear hy
          go_wp2_with fail
          refine h26.mono ?_
          rintro e w1 ⟨rfl, hb1⟩
          replace HX : Hid _ := HX.out.step hb1
          clear c0 c1 c2 c3 c4 d0 d1 d2 d3 d4 x0 x1 x2 x3 x4 z0 z1 z2 z3 z4
          clear h26
          obtain ⟨x0, x1, x2, x3, x4, -, -, -, -, -⟩ := HX.out.box
          go_wp2
          go_ret
          exact ⟨ret_bool (by unfold allF; exact (HF.out HE.out).symm), HX.out.nd.bel⟩
        | true =>
          rw [hy] at h26
          have HY : Hid _ := hy
          clear hy
          by_cases h3 : tx (n + 1) y = []
          · have gt : ((bsA (tx (n + 1) y)).toList == []) = true := by rw [bsA_tl, h3]; rfl
            have HT0 : Hid _ := h3
            clear h3
            cases hi : bitF (nu (n + 1) y) with
            | true =>
              have HI : Hid _ := hi
              clear hi
              have HE : Hid (odrP (n + 1) y = true) := by
                show _ = _
                rw [HEV.out, HY.out, HK.out]
                rw [← bit_flag, HT0.out, HI.out]
                rfl
              clear HEV HY HK
              go_wp2_with fail
              refine h26.mono ?_
              rintro e w1 ⟨rfl, hb1⟩
              replace HX : Hid _ := HX.out.step hb1
              clear c0 c1 c2 c3 c4 d0 d1 d2 d3 d4 x0 x1 x2 x3 x4 z0 z1 z2 z3 z4
              clear h26
              obtain ⟨x0, x1, x2, x3, x4, -, -, -, -, -⟩ := HX.out.box
              go_wp2_with fail
              refine (rbit_any n _ _ _ _ (ks (n + 1) y) _ _ _ HX.out.nd.rdy (NdG.kids HX.out.kid)).mono ?_
              rintro e w2 ⟨rfl, hb2⟩
              rw [HI.out]
              replace HX : Hid _ := HX.out.step hb2
              clear x0 x1 x2 x3 x4
              obtain ⟨x0, x1, x2, x3, x4, -, -, -, -, -⟩ := HX.out.box
              have HG : Hid _ := HG0.out HE.out
              go_wp2
              go_roundw
              case rel => exact ⟨k + 1, by omega, by go_num, HG.out, HX.out.nd⟩
              case measure => simp [intOf]; omega
            | false =>
              have HI : Hid _ := hi
              clear hi
              have HE : Hid (odrP (n + 1) y = false) := by
                show _ = _
                rw [HEV.out, HY.out, HK.out]
                rw [← bit_flag, HI.out]
                simp
              clear HEV HY HK
              go_wp2_with fail
              refine h26.mono ?_
              rintro e w1 ⟨rfl, hb1⟩
              replace HX : Hid _ := HX.out.step hb1
              clear c0 c1 c2 c3 c4 d0 d1 d2 d3 d4 x0 x1 x2 x3 x4 z0 z1 z2 z3 z4
              clear h26
              obtain ⟨x0, x1, x2, x3, x4, -, -, -, -, -⟩ := HX.out.box
              go_wp2_with fail
              refine (rbit_any n _ _ _ _ (ks (n + 1) y) _ _ _ HX.out.nd.rdy (NdG.kids HX.out.kid)).mono ?_
              rintro e w2 ⟨rfl, hb2⟩
              rw [HI.out]
              replace HX : Hid _ := HX.out.step hb2
              clear x0 x1 x2 x3 x4
              obtain ⟨x0, x1, x2, x3, x4, -, -, -, -, -⟩ := HX.out.box
              go_wp2
              go_ret
              exact ⟨ret_bool (by unfold allF; exact (HF.out HE.out).symm), HX.out.nd.bel⟩
          · have gt : ((bsA (tx (n + 1) y)).toList == []) = false := by rw [bsA_tl, beqL]; exact decide_eq_false h3
            have HT0 : Hid _ := h3
            clear h3
            have HE : Hid (odrP (n + 1) y = false) := by
              show _ = _
              rw [HEV.out, HY.out, HK.out]
              rw [decide_eq_false HT0.out]
              simp
            clear HEV HY HK
            go_wp2_with fail
            refine h26.mono ?_
            rintro e w1 ⟨rfl, hb1⟩
            replace HX : Hid _ := HX.out.step hb1
            clear c0 c1 c2 c3 c4 d0 d1 d2 d3 d4 x0 x1 x2 x3 x4 z0 z1 z2 z3 z4
            clear h26
            obtain ⟨x0, x1, x2, x3, x4, -, -, -, -, -⟩ := HX.out.box
            go_wp2
            go_ret
            exact ⟨ret_bool (by unfold allF; exact (HF.out HE.out).symm), HX.out.nd.bel⟩
      · have HE : Hid (odrP (n + 1) y = false) := by
          show (decide (kd (n + 1) y = 25) && decide (tx (n + 1) y = []) && flagF (nu (n + 1) y) && areQ n (ks (n + 1) y) [exprP n]) = _
          rw [areQ_ne _ _ _ (by simpa using h1)]
          simp
        have hl1 : (((ks (n + 1) y).length : Int) != 1) = true := len_nb h1
        have HX : Hid (Nx w (n + 1) 28 t m a l (some ⟨b, off, none⟩) c wr.heap.size y sy cy (wr.alloc (Obj.cells #[Value.int IntKind.i64 (kd (n + 1) y), Value.string (bsA (tx (n + 1) y)), Value.int IntKind.i64 (nu (n + 1) y), Value.int IntKind.i64 (pl (n + 1) y), Value.slice sy (ks (n + 1) y).length cy] 24))) := Nx.new HN.out hp
        obtain ⟨x0, x1, x2, x3, x4, -, -, -, -, -⟩ := HX.out.box
        clear hp hTy h1 ek
        go_wp2
        go_ret
        exact ⟨ret_bool (by unfold allF; exact (HF.out HE.out).symm), HX.out.nd.bel⟩
    · have HX : Hid (l.all (odrP (n + 1)) = true) := by
        show _ = _
        rw [← HV.out, List.take_of_length_le hge]
      go_wp2
      go_ret
      exact ⟨ret_bool (by unfold allF; exact HX.out.symm), HN.out.bel⟩
theorem rlist_0_any (lo : Int) (n : Nat) (k : Int) (t : List UInt8) (m a : Int) (l : List (Tr n)) (s : Option Addr) (c : Nat) (w : World) (hR : Rdy w) (hl : KsG w n s c l) (hT : ∀ y ∈ l, Txs n y) :
    Calls Tryz.prog 79 #[.agg #[.int .i64 k, .string (bsA t), .int .i64 m, .int .i64 a, .slice s l.length c], .int .i64 0, .int .i64 lo] w fun e w' => e = .returned (.bool (listF n k t m l lo 32 (exprP n))) ∧ Below w.heap.size w w' := by
  unfold listF manyP
  rcases Classical.em (k = 28) with rfl | hk
  · cases hb : plainF t m with
    | false => exact rlist_p 0 lo n t m a l s c w hR hl hb
    | true =>
      by_cases h1 : (l.length : Int) < lo
      · rw [decide_eq_false (by omega : ¬ lo ≤ (l.length : Int)), Bool.false_and, Bool.false_and, Bool.and_false]
        exact rlist_l 0 lo n t m a l s c w hR hl hb (eq_true h1)
      · by_cases h2 : (32 : Int) < (l.length : Int)
        · rw [decide_eq_false (by omega : ¬ (l.length : Int) ≤ 32), Bool.and_false, Bool.false_and, Bool.and_false]
          exact rlist_h 0 lo n t m a l s c w hR hl hb (eq_false h1) (eq_true h2)
        · rw [decide_eq_true (by omega : lo ≤ (l.length : Int)), decide_eq_true (by omega : (l.length : Int) ≤ 32), decide_eq_true rfl, Bool.true_and, Bool.true_and, Bool.true_and]
          cases l with
          | nil => exact rlist_e 0 lo n t m a s c w hR hl hb (eq_false h1)
          | cons y l =>
            obtain ⟨b, off, rfl⟩ := hl.addr
            exact rlist_0 lo n t m a (y :: l) b off c w hR hl hT hb (eq_false h1) (eq_false h2)
  · rw [decide_eq_false hk, Bool.false_and, Bool.false_and]
    exact rlist_k 0 lo n k t m a l s c w hR hl (by simpa using hk)
theorem rlist_21_any (lo : Int) (n : Nat) (k : Int) (t : List UInt8) (m a : Int) (l : List (Tr n)) (s : Option Addr) (c : Nat) (w : World) (hR : Rdy w) (hl : KsG w n s c l) (hT : ∀ y ∈ l, Txs n y) :
    Calls Tryz.prog 79 #[.agg #[.int .i64 k, .string (bsA t), .int .i64 m, .int .i64 a, .slice s l.length c], .int .i64 21, .int .i64 lo] w fun e w' => e = .returned (.bool (listF n k t m l lo 32 (itmP n))) ∧ Below w.heap.size w w' := by
  unfold listF manyP
  rcases Classical.em (k = 28) with rfl | hk
  · cases hb : plainF t m with
    | false => exact rlist_p 21 lo n t m a l s c w hR hl hb
    | true =>
      by_cases h1 : (l.length : Int) < lo
      · rw [decide_eq_false (by omega : ¬ lo ≤ (l.length : Int)), Bool.false_and, Bool.false_and, Bool.and_false]
        exact rlist_l 21 lo n t m a l s c w hR hl hb (eq_true h1)
      · by_cases h2 : (32 : Int) < (l.length : Int)
        · rw [decide_eq_false (by omega : ¬ (l.length : Int) ≤ 32), Bool.and_false, Bool.false_and, Bool.and_false]
          exact rlist_h 21 lo n t m a l s c w hR hl hb (eq_false h1) (eq_true h2)
        · rw [decide_eq_true (by omega : lo ≤ (l.length : Int)), decide_eq_true (by omega : (l.length : Int) ≤ 32), decide_eq_true rfl, Bool.true_and, Bool.true_and, Bool.true_and]
          cases l with
          | nil => exact rlist_e 21 lo n t m a s c w hR hl hb (eq_false h1)
          | cons y l =>
            obtain ⟨b, off, rfl⟩ := hl.addr
            cases n with
            | zero => exact Empty.elim y
            | succ n => exact rlist_21 lo n t m a (y :: l) b off c w hR hl hT hb (eq_false h1) (eq_false h2)
  · rw [decide_eq_false hk, Bool.false_and, Bool.false_and]
    exact rlist_k 21 lo n k t m a l s c w hR hl (by simpa using hk)
theorem rlist_27_any (lo : Int) (n : Nat) (k : Int) (t : List UInt8) (m a : Int) (l : List (Tr n)) (s : Option Addr) (c : Nat) (w : World) (hR : Rdy w) (hl : KsG w n s c l) (hT : ∀ y ∈ l, Txs n y) :
    Calls Tryz.prog 79 #[.agg #[.int .i64 k, .string (bsA t), .int .i64 m, .int .i64 a, .slice s l.length c], .int .i64 27, .int .i64 lo] w fun e w' => e = .returned (.bool (listF n k t m l lo 32 (setP n))) ∧ Below w.heap.size w w' := by
  unfold listF manyP
  rcases Classical.em (k = 28) with rfl | hk
  · cases hb : plainF t m with
    | false => exact rlist_p 27 lo n t m a l s c w hR hl hb
    | true =>
      by_cases h1 : (l.length : Int) < lo
      · rw [decide_eq_false (by omega : ¬ lo ≤ (l.length : Int)), Bool.false_and, Bool.false_and, Bool.and_false]
        exact rlist_l 27 lo n t m a l s c w hR hl hb (eq_true h1)
      · by_cases h2 : (32 : Int) < (l.length : Int)
        · rw [decide_eq_false (by omega : ¬ (l.length : Int) ≤ 32), Bool.and_false, Bool.false_and, Bool.and_false]
          exact rlist_h 27 lo n t m a l s c w hR hl hb (eq_false h1) (eq_true h2)
        · rw [decide_eq_true (by omega : lo ≤ (l.length : Int)), decide_eq_true (by omega : (l.length : Int) ≤ 32), decide_eq_true rfl, Bool.true_and, Bool.true_and, Bool.true_and]
          cases l with
          | nil => exact rlist_e 27 lo n t m a s c w hR hl hb (eq_false h1)
          | cons y l =>
            obtain ⟨b, off, rfl⟩ := hl.addr
            cases n with
            | zero => exact Empty.elim y
            | succ n => exact rlist_27 lo n t m a (y :: l) b off c w hR hl hT hb (eq_false h1) (eq_false h2)
  · rw [decide_eq_false hk, Bool.false_and, Bool.false_and]
    exact rlist_k 27 lo n k t m a l s c w hR hl (by simpa using hk)
theorem rlist_25_any (lo : Int) (n : Nat) (k : Int) (t : List UInt8) (m a : Int) (l : List (Tr n)) (s : Option Addr) (c : Nat) (w : World) (hR : Rdy w) (hl : KsG w n s c l) (hT : ∀ y ∈ l, Txs n y) :
    Calls Tryz.prog 79 #[.agg #[.int .i64 k, .string (bsA t), .int .i64 m, .int .i64 a, .slice s l.length c], .int .i64 25, .int .i64 lo] w fun e w' => e = .returned (.bool (listF n k t m l lo 32 (odrP n))) ∧ Below w.heap.size w w' := by
  unfold listF manyP
  rcases Classical.em (k = 28) with rfl | hk
  · cases hb : plainF t m with
    | false => exact rlist_p 25 lo n t m a l s c w hR hl hb
    | true =>
      by_cases h1 : (l.length : Int) < lo
      · rw [decide_eq_false (by omega : ¬ lo ≤ (l.length : Int)), Bool.false_and, Bool.false_and, Bool.and_false]
        exact rlist_l 25 lo n t m a l s c w hR hl hb (eq_true h1)
      · by_cases h2 : (32 : Int) < (l.length : Int)
        · rw [decide_eq_false (by omega : ¬ (l.length : Int) ≤ 32), Bool.and_false, Bool.false_and, Bool.and_false]
          exact rlist_h 25 lo n t m a l s c w hR hl hb (eq_false h1) (eq_true h2)
        · rw [decide_eq_true (by omega : lo ≤ (l.length : Int)), decide_eq_true (by omega : (l.length : Int) ≤ 32), decide_eq_true rfl, Bool.true_and, Bool.true_and, Bool.true_and]
          cases l with
          | nil => exact rlist_e 25 lo n t m a s c w hR hl hb (eq_false h1)
          | cons y l =>
            obtain ⟨b, off, rfl⟩ := hl.addr
            cases n with
            | zero => exact Empty.elim y
            | succ n => exact rlist_25 lo n t m a (y :: l) b off c w hR hl hT hb (eq_false h1) (eq_false h2)
  · rw [decide_eq_false hk, Bool.false_and, Bool.false_and]
    exact rlist_k 25 lo n k t m a l s c w hR hl (by simpa using hk)
theorem ritems_any (n : Nat) (k : Int) (t : List UInt8) (m a : Int) (l : List (Tr n)) (s : Option Addr) (c : Nat) (w : World) (hR : Rdy w) (hl : KsG w n s c l) (hT : ∀ y ∈ l, Txs n y) :
    Calls Tryz.prog 80 #[.agg #[.int .i64 k, .string (bsA t), .int .i64 m, .int .i64 a, .slice s l.length c]] w fun e w' => e = .returned (.bool (itemsF n k t m l)) ∧ Below w.heap.size w w' := by
  rcases Classical.em (k = 22) with rfl | h0
  · have HN : Hid (Nd w n 22 t m a l s c (w.alloc (Obj.cells #[Value.int IntKind.i64 22, Value.string (bsA t), Value.int IntKind.i64 m, Value.int IntKind.i64 a, Value.slice s l.length c] 24))) := Nd.new w n _ t _ a l s c hR hl
    obtain ⟨d0, d1, d2, d3, d4, -, -, -, -, -⟩ := HN.out.box
    have HT : Hid (∀ y ∈ l, Txs n y) := hT
    clear hT
    clear hl hR
    go_enter Tryz.func80, Tryz.ntmps80
    go_wp2_with (first | (go_at_call 70; (refine (rplain_any n _ _ _ _ l _ _ _ HN.out.rdy HN.out.kids).mono ?_; rintro e w1 ⟨rfl, hb1⟩; clear d0 d1 d2 d3 d4; replace HN : Hid _ := HN.out.step hb1; obtain ⟨d0, d1, d2, d3, d4, -, -, -, -, -⟩ := HN.out.box)) | (go_at_call 73; (refine (rbare_any n _ _ _ _ l _ _ _ HN.out.rdy HN.out.kids).mono ?_; rintro e w1 ⟨rfl, hb1⟩; clear d0 d1 d2 d3 d4; replace HN : Hid _ := HN.out.step hb1; obtain ⟨d0, d1, d2, d3, d4, -, -, -, -, -⟩ := HN.out.box)) | (go_at_call 79; (refine (rlist_21_any 1 n _ _ _ _ l _ _ _ HN.out.rdy HN.out.kids HT.out).mono ?_; rintro e w1 ⟨rfl, hb1⟩; clear d0 d1 d2 d3 d4; replace HN : Hid _ := HN.out.step hb1; obtain ⟨d0, d1, d2, d3, d4, -, -, -, -, -⟩ := HN.out.box)))
    all_goals (go_ret; exact ⟨by simp_all [bsA_tl, beqI, beqL, itemsF, starF], HN.out.bel⟩)
  · have HN : Hid (Nd w n k t m a l s c (w.alloc (Obj.cells #[Value.int IntKind.i64 k, Value.string (bsA t), Value.int IntKind.i64 m, Value.int IntKind.i64 a, Value.slice s l.length c] 24))) := Nd.new w n _ t _ a l s c hR hl
    obtain ⟨d0, d1, d2, d3, d4, -, -, -, -, -⟩ := HN.out.box
    have HT : Hid (∀ y ∈ l, Txs n y) := hT
    clear hT
    clear hl hR
    go_enter Tryz.func80, Tryz.ntmps80
    go_wp2_with (first | (go_at_call 70; (refine (rplain_any n _ _ _ _ l _ _ _ HN.out.rdy HN.out.kids).mono ?_; rintro e w1 ⟨rfl, hb1⟩; clear d0 d1 d2 d3 d4; replace HN : Hid _ := HN.out.step hb1; obtain ⟨d0, d1, d2, d3, d4, -, -, -, -, -⟩ := HN.out.box)) | (go_at_call 73; (refine (rbare_any n _ _ _ _ l _ _ _ HN.out.rdy HN.out.kids).mono ?_; rintro e w1 ⟨rfl, hb1⟩; clear d0 d1 d2 d3 d4; replace HN : Hid _ := HN.out.step hb1; obtain ⟨d0, d1, d2, d3, d4, -, -, -, -, -⟩ := HN.out.box)) | (go_at_call 79; (refine (rlist_21_any 1 n _ _ _ _ l _ _ _ HN.out.rdy HN.out.kids HT.out).mono ?_; rintro e w1 ⟨rfl, hb1⟩; clear d0 d1 d2 d3 d4; replace HN : Hid _ := HN.out.step hb1; obtain ⟨d0, d1, d2, d3, d4, -, -, -, -, -⟩ := HN.out.box)))
    all_goals (go_ret; exact ⟨by simp_all [bsA_tl, beqI, beqL, itemsF, starF], HN.out.bel⟩)
theorem rfrom_38 (n : Nat) (t : List UInt8) (m : Int) (a : Int) (y0 y1 : Tr n) (b off c : Nat) (w : World) (hR : Rdy w) (hl : KsG w n (some ⟨b, off, none⟩) c [y0, y1]) (hT : ∀ y ∈ [y0, y1], Txs n y) :
    Calls Tryz.prog 115 #[.agg #[.int .i64 38, .string (bsA t), .int .i64 m, .int .i64 a, .slice (some ⟨b, off, none⟩) 2 c]] w fun e w' => e = .returned (.bool (plainF t m && patP n y0 && optP n (nmeP n) y1)) ∧ Below w.heap.size w w' := by
  have HN : Hid (Nd w n 38 t m a [y0, y1] (some ⟨b, off, none⟩) c (w.alloc (Obj.cells #[Value.int IntKind.i64 38, Value.string (bsA t), Value.int IntKind.i64 m, Value.int IntKind.i64 a, Value.slice (some ⟨b, off, none⟩) 2 c] 24))) := Nd.new w n 38 t m a [y0, y1] (some ⟨b, off, none⟩) c hR hl
  obtain ⟨d0, d1, d2, d3, d4, -, -, -, -, -⟩ := HN.out.box
  obtain ⟨s0, k0, ⟨c0, c1, c2, c3, c4⟩, hg0⟩ := HN.out.kids.kid 0 y0 rfl
  simp only [Nat.reduceMul, Nat.add_zero, Nat.reduceAdd, Nat.add_assoc, Nat.zero_mul] at c0 c1 c2 c3 c4
  obtain ⟨s1, k1, ⟨e0, e1, e2, e3, e4⟩, hg1⟩ := HN.out.kids.kid 1 y1 rfl
  simp only [Nat.reduceMul, Nat.add_zero, Nat.reduceAdd, Nat.add_assoc, Nat.zero_mul] at e0 e1 e2 e3 e4
  have HT : Hid (∀ y ∈ [y0, y1], Txs n y) := hT
  clear hT
  clear hl hR
  go_enter Tryz.func115, Tryz.ntmps115
  go_wp2_with (first | (go_at_call 70; refine (rplain_any n _ _ _ _ [y0, y1] _ _ _ HN.out.rdy HN.out.kids).mono ?_; rintro e w1 ⟨rfl, hb1⟩; clear c0 c1 c2 c3 c4 hg0; clear e0 e1 e2 e3 e4 hg1; clear d0 d1 d2 d3 d4; replace HN : Hid _ := HN.out.step hb1; obtain ⟨d0, d1, d2, d3, d4, -, -, -, -, -⟩ := HN.out.box; obtain ⟨s0, k0, ⟨c0, c1, c2, c3, c4⟩, hg0⟩ := HN.out.kids.kid 0 y0 rfl; simp only [Nat.reduceMul, Nat.add_zero, Nat.reduceAdd, Nat.add_assoc, Nat.zero_mul] at c0 c1 c2 c3 c4; obtain ⟨s1, k1, ⟨e0, e1, e2, e3, e4⟩, hg1⟩ := HN.out.kids.kid 1 y1 rfl; simp only [Nat.reduceMul, Nat.add_zero, Nat.reduceAdd, Nat.add_assoc, Nat.zero_mul] at e0 e1 e2 e3 e4) | (go_at_call 27; refine ((rpat_rm n _ HN.out.rdy).run _ (Below.refl _ _) y0 s0 k0 hg0 (HT.out y0 (by simp))).mono ?_; rintro e w1 ⟨rfl, hb1⟩; clear c0 c1 c2 c3 c4 hg0; clear e0 e1 e2 e3 e4 hg1; clear d0 d1 d2 d3 d4; replace HN : Hid _ := HN.out.step hb1; obtain ⟨d0, d1, d2, d3, d4, -, -, -, -, -⟩ := HN.out.box; obtain ⟨s0, k0, ⟨c0, c1, c2, c3, c4⟩, hg0⟩ := HN.out.kids.kid 0 y0 rfl; simp only [Nat.reduceMul, Nat.add_zero, Nat.reduceAdd, Nat.add_assoc, Nat.zero_mul] at c0 c1 c2 c3 c4; obtain ⟨s1, k1, ⟨e0, e1, e2, e3, e4⟩, hg1⟩ := HN.out.kids.kid 1 y1 rfl; simp only [Nat.reduceMul, Nat.add_zero, Nat.reduceAdd, Nat.add_assoc, Nat.zero_mul] at e0 e1 e2 e3 e4) | (go_at_call 72; refine ((rnmo_rm rId_said n _ HN.out.rdy).run _ (Below.refl _ _) y1 s1 k1 hg1 (HT.out y1 (by simp))).mono ?_; rintro e w1 ⟨rfl, hb1⟩; clear c0 c1 c2 c3 c4 hg0; clear e0 e1 e2 e3 e4 hg1; clear d0 d1 d2 d3 d4; replace HN : Hid _ := HN.out.step hb1; obtain ⟨d0, d1, d2, d3, d4, -, -, -, -, -⟩ := HN.out.box; obtain ⟨s0, k0, ⟨c0, c1, c2, c3, c4⟩, hg0⟩ := HN.out.kids.kid 0 y0 rfl; simp only [Nat.reduceMul, Nat.add_zero, Nat.reduceAdd, Nat.add_assoc, Nat.zero_mul] at c0 c1 c2 c3 c4; obtain ⟨s1, k1, ⟨e0, e1, e2, e3, e4⟩, hg1⟩ := HN.out.kids.kid 1 y1 rfl; simp only [Nat.reduceMul, Nat.add_zero, Nat.reduceAdd, Nat.add_assoc, Nat.zero_mul] at e0 e1 e2 e3 e4))
  all_goals (go_ret; exact ⟨by simp_all [bsA_tl, beqI, beqL], HN.out.bel⟩)
theorem rfrom_38n (n : Nat) (t : List UInt8) (m a : Int) (l : List (Tr n)) (s : Option Addr) (c : Nat) (w : World) (hR : Rdy w) (hl : KsG w n s c l) (g2 : ((l.length : Int) == 2) = false) :
    Calls Tryz.prog 115 #[.agg #[.int .i64 38, .string (bsA t), .int .i64 m, .int .i64 a, .slice s l.length c]] w fun e w' => e = .returned (.bool (false)) ∧ Below w.heap.size w w' := by
  have HN : Hid (Nd w n 38 t m a l s c (w.alloc (Obj.cells #[Value.int IntKind.i64 38, Value.string (bsA t), Value.int IntKind.i64 m, Value.int IntKind.i64 a, Value.slice s l.length c] 24))) := Nd.new w n _ t _ a l s c hR hl
  obtain ⟨d0, d1, d2, d3, d4, -, -, -, -, -⟩ := HN.out.box
  clear hl hR
  go_enter Tryz.func115, Tryz.ntmps115
  go_wp2_with (first | (go_at_call 70; (refine (rplain_any n _ _ _ _ l _ _ _ HN.out.rdy HN.out.kids).mono ?_; rintro e w1 ⟨rfl, hb1⟩; clear d0 d1 d2 d3 d4; replace HN : Hid _ := HN.out.step hb1; obtain ⟨d0, d1, d2, d3, d4, -, -, -, -, -⟩ := HN.out.box)))
  all_goals (go_ret; exact ⟨rfl, HN.out.bel⟩)
theorem rfrom_k (n : Nat) (k : Int) (t : List UInt8) (m a : Int) (l : List (Tr n)) (s : Option Addr) (c : Nat) (w : World) (hR : Rdy w) (hl : KsG w n s c l) (h38 : (k == 38) = false) (h28 : (k != 28) = true) :
    Calls Tryz.prog 115 #[.agg #[.int .i64 k, .string (bsA t), .int .i64 m, .int .i64 a, .slice s l.length c]] w fun e w' => e = .returned (.bool (false)) ∧ Below w.heap.size w w' := by
  have HN : Hid (Nd w n k t m a l s c (w.alloc (Obj.cells #[Value.int IntKind.i64 k, Value.string (bsA t), Value.int IntKind.i64 m, Value.int IntKind.i64 a, Value.slice s l.length c] 24))) := Nd.new w n _ t _ a l s c hR hl
  obtain ⟨d0, d1, d2, d3, d4, -, -, -, -, -⟩ := HN.out.box
  clear hl hR
  go_enter Tryz.func115, Tryz.ntmps115
  go_wp2_with (first | fail)
  all_goals (go_ret; exact ⟨rfl, HN.out.bel⟩)
theorem rfrom_p (n : Nat) (t : List UInt8) (m a : Int) (l : List (Tr n)) (s : Option Addr) (c : Nat) (w : World) (hR : Rdy w) (hl : KsG w n s c l) (hb : plainF t m = false) :
    Calls Tryz.prog 115 #[.agg #[.int .i64 28, .string (bsA t), .int .i64 m, .int .i64 a, .slice s l.length c]] w fun e w' => e = .returned (.bool (false)) ∧ Below w.heap.size w w' := by
  have HN : Hid (Nd w n 28 t m a l s c (w.alloc (Obj.cells #[Value.int IntKind.i64 28, Value.string (bsA t), Value.int IntKind.i64 m, Value.int IntKind.i64 a, Value.slice s l.length c] 24))) := Nd.new w n _ t _ a l s c hR hl
  obtain ⟨d0, d1, d2, d3, d4, -, -, -, -, -⟩ := HN.out.box
  have HB : Hid _ := hb
  clear hb
  clear hl hR
  go_enter Tryz.func115, Tryz.ntmps115
  go_wp2_with (first | (go_at_call 70; refine (rplain_any n _ _ _ _ l _ _ _ HN.out.rdy HN.out.kids).mono ?_; rintro e w1 ⟨rfl, hb1⟩; rw [HB.out]; clear d0 d1 d2 d3 d4; replace HN : Hid _ := HN.out.step hb1; obtain ⟨d0, d1, d2, d3, d4, -, -, -, -, -⟩ := HN.out.box))
  all_goals (go_ret; exact ⟨rfl, HN.out.bel⟩)
theorem rfrom_l (n : Nat) (t : List UInt8) (m a : Int) (l : List (Tr n)) (s : Option Addr) (c : Nat) (w : World) (hR : Rdy w) (hl : KsG w n s c l) (hb : plainF t m = true) (e1 : ((l.length : Int) < 1) = True) :
    Calls Tryz.prog 115 #[.agg #[.int .i64 28, .string (bsA t), .int .i64 m, .int .i64 a, .slice s l.length c]] w fun e w' => e = .returned (.bool (false)) ∧ Below w.heap.size w w' := by
  have HN : Hid (Nd w n 28 t m a l s c (w.alloc (Obj.cells #[Value.int IntKind.i64 28, Value.string (bsA t), Value.int IntKind.i64 m, Value.int IntKind.i64 a, Value.slice s l.length c] 24))) := Nd.new w n _ t _ a l s c hR hl
  obtain ⟨d0, d1, d2, d3, d4, -, -, -, -, -⟩ := HN.out.box
  have HB : Hid _ := hb
  clear hb
  clear hl hR
  go_enter Tryz.func115, Tryz.ntmps115
  go_wp2_with (first | (go_at_call 70; refine (rplain_any n _ _ _ _ l _ _ _ HN.out.rdy HN.out.kids).mono ?_; rintro e w1 ⟨rfl, hb1⟩; rw [HB.out]; clear d0 d1 d2 d3 d4; replace HN : Hid _ := HN.out.step hb1; obtain ⟨d0, d1, d2, d3, d4, -, -, -, -, -⟩ := HN.out.box))
  all_goals (go_ret; exact ⟨rfl, HN.out.bel⟩)
theorem rfrom_h (n : Nat) (t : List UInt8) (m a : Int) (l : List (Tr n)) (s : Option Addr) (c : Nat) (w : World) (hR : Rdy w) (hl : KsG w n s c l) (hb : plainF t m = true) (e1 : ((l.length : Int) < 1) = False) (e2 : (2 < (l.length : Int)) = True) :
    Calls Tryz.prog 115 #[.agg #[.int .i64 28, .string (bsA t), .int .i64 m, .int .i64 a, .slice s l.length c]] w fun e w' => e = .returned (.bool (false)) ∧ Below w.heap.size w w' := by
  have HN : Hid (Nd w n 28 t m a l s c (w.alloc (Obj.cells #[Value.int IntKind.i64 28, Value.string (bsA t), Value.int IntKind.i64 m, Value.int IntKind.i64 a, Value.slice s l.length c] 24))) := Nd.new w n _ t _ a l s c hR hl
  obtain ⟨d0, d1, d2, d3, d4, -, -, -, -, -⟩ := HN.out.box
  have HB : Hid _ := hb
  clear hb
  clear hl hR
  go_enter Tryz.func115, Tryz.ntmps115
  go_wp2_with (first | (go_at_call 70; refine (rplain_any n _ _ _ _ l _ _ _ HN.out.rdy HN.out.kids).mono ?_; rintro e w1 ⟨rfl, hb1⟩; rw [HB.out]; clear d0 d1 d2 d3 d4; replace HN : Hid _ := HN.out.step hb1; obtain ⟨d0, d1, d2, d3, d4, -, -, -, -, -⟩ := HN.out.box))
  all_goals (go_ret; exact ⟨rfl, HN.out.bel⟩)
theorem rfrom_28 (n : Nat) (t : List UInt8) (m a : Int) (l : List (Tr n)) (b off c : Nat) (w : World) (hR : Rdy w) (hl : KsG w n (some ⟨b, off, none⟩) c l) (hF : RM 117 n (strmP n) w) (hT : ∀ y ∈ l, Txs n y) (hb : plainF t m = true) (e1 : ((l.length : Int) < 1) = False) (e2 : (2 < (l.length : Int)) = False) :
    Calls Tryz.prog 115 #[.agg #[.int .i64 28, .string (bsA t), .int .i64 m, .int .i64 a, .slice (some ⟨b, off, none⟩) l.length c]] w fun e w' => e = .returned (.bool (allF n l (strmP n))) ∧ Below w.heap.size w w' := by
  have HN : Hid (Nd w n 28 t m a l (some ⟨b, off, none⟩) c (w.alloc (Obj.cells #[Value.int IntKind.i64 28, Value.string (bsA t), Value.int IntKind.i64 m, Value.int IntKind.i64 a, Value.slice (some ⟨b, off, none⟩) l.length c] 24))) := Nd.new w n _ t _ a l _ c hR hl
  obtain ⟨d0, d1, d2, d3, d4, -, -, -, -, -⟩ := HN.out.box
  have HF : Hid (RM 117 n (strmP n) w) := hF
  have HT : Hid (∀ y ∈ l, Txs n y) := hT
  have hlen : l.length ≤ 9223372036854775807 := hl.1
  have HB : Hid _ := hb
  clear hb
  clear hl hR hF hT
  go_enter Tryz.func115, Tryz.ntmps115
  go_wp2_with (go_at_call 70; refine (rplain_any n _ _ _ _ l _ _ _ HN.out.rdy HN.out.kids).mono ?_; rintro e w1 ⟨rfl, hb1⟩; rw [HB.out]; clear d0 d1 d2 d3 d4; replace HN : Hid _ := HN.out.step hb1; obtain ⟨d0, d1, d2, d3, d4, -, -, -, -, -⟩ := HN.out.box)
  clear d0 d1 d2 d3 d4
  go_loopw [3] (fun i wr => ∃ k : Nat, k ≤ l.length ∧ i = .int .i64 k ∧ (l.take k).all (strmP n) = true ∧ Nd w n 28 t m a l (some ⟨b, off, none⟩) c wr) (fun i _ => l.length - (intOf i).toNat)
  case atStart => exact ⟨0, Nat.zero_le _, rfl, rfl, HN.out⟩
  case round =>
    obtain ⟨k, hk, rfl, hV, hN⟩ := hrel
    have HV : Hid ((l.take k).all (strmP n) = true) := hV
    replace HN : Hid (Nd w n 28 t m a l (some ⟨b, off, none⟩) c wr) := hN
    obtain ⟨d0, d1, d2, d3, d4, -, -, -, -, -⟩ := HN.out.box
    clear hV hN
    rcases Nat.lt_or_ge k l.length with hlt | hge
    · obtain ⟨y, gy⟩ : ∃ y, l[k]? = some y := ⟨_, List.getElem?_eq_getElem hlt⟩
      obtain ⟨s, cs, ⟨c0, c1, c2, c3, c4⟩, hp⟩ := HN.out.kids.kid k y gy
      have h1 := HF.out.run wr HN.out.bel y s cs hp (HT.out y (List.mem_of_getElem? gy))
      unfold ndV at h1
      have HZ : Hid _ := all_snoc (strmP n) gy
      cases hy : (strmP n) y with
      | false =>
        have HX : Hid (l.all (strmP n) = false) := by
          show _ = _
          rw [List.all_eq_false]
          exact ⟨y, List.mem_of_getElem? gy, by rw [hy]; simp⟩
        rw [hy] at h1
        clear gy hp HZ HV hy
        go_wp2_with fail
        refine h1.mono ?_
        rintro e w1 ⟨rfl, hb1⟩
        have HN1 : Hid _ := HN.out.step hb1
        clear h1 c0 c1 c2 c3 c4 d0 d1 d2 d3 d4
        go_wp2
        go_ret
        exact ⟨ret_bool (by show false = (allF n l (strmP n)); unfold allF; rw [HX.out]), HN1.out.bel⟩
      | true =>
        have HX : Hid ((l.take (k + 1)).all (strmP n) = true) := by show _ = _; rw [HZ.out, HV.out, hy]; rfl
        rw [hy] at h1
        clear gy hp HZ HV hy
        go_wp2_with fail
        refine h1.mono ?_
        rintro e w1 ⟨rfl, hb1⟩
        have HN1 : Hid _ := HN.out.step hb1
        clear h1 c0 c1 c2 c3 c4 d0 d1 d2 d3 d4
        go_wp2
        go_roundw
        case rel => exact ⟨k + 1, by omega, by go_num, HX.out, HN1.out⟩
        case measure => simp [intOf]; omega
    · have HX : Hid (l.all (strmP n) = true) := by
        show _ = _
        rw [← HV.out, List.take_of_length_le hge]
      go_wp2
      go_ret
      exact ⟨ret_bool (by unfold allF; exact HX.out.symm), HN.out.bel⟩
theorem rstrm_rm (n : Nat) (w : World) (hR : Rdy w) : RM 117 n (strmP n) w := ⟨fun W hW y s c hy ht => by
  cases n with
  | zero => exact Empty.elim y
  | succ n => exact rstrm_any n (kd (n + 1) y) (tx (n + 1) y) (nu (n + 1) y) (pl (n + 1) y) (ks (n + 1) y) s c W (hR.below hW) (NdG.kids hy) ht.2⟩
theorem rsrc_rm (n : Nat) (w : World) (hR : Rdy w) : RM 77 n (srcP n) w := ⟨fun W hW y s c hy ht => by
  cases n with
  | zero => exact Empty.elim y
  | succ n => exact rsrc_any n (kd (n + 1) y) (tx (n + 1) y) (nu (n + 1) y) (pl (n + 1) y) (ks (n + 1) y) s c W (hR.below hW) (NdG.kids hy) ht.2⟩
theorem rtgt_rm (n : Nat) (w : World) (hR : Rdy w) : RM 78 n (tgtP n) w := ⟨fun W hW y s c hy ht => by
  cases n with
  | zero => exact Empty.elim y
  | succ n => exact rtgt_any n (kd (n + 1) y) (tx (n + 1) y) (nu (n + 1) y) (pl (n + 1) y) (ks (n + 1) y) s c W (hR.below hW) (NdG.kids hy) ht.2⟩
theorem rnls_rm (n : Nat) (w : World) (hR : Rdy w) : RM 114 n (nlsP n) w := ⟨fun W hW y s c hy ht => by
  cases n with
  | zero => exact Empty.elim y
  | succ n => exact rnls_any n (kd (n + 1) y) (tx (n + 1) y) (nu (n + 1) y) (pl (n + 1) y) (ks (n + 1) y) s c W (hR.below hW) (NdG.kids hy) ht.2⟩
theorem ritems_rm (n : Nat) (w : World) (hR : Rdy w) : RM 80 n (itemsP n) w := ⟨fun W hW y s c hy ht => by
  cases n with
  | zero => exact Empty.elim y
  | succ n => exact ritems_any n (kd (n + 1) y) (tx (n + 1) y) (nu (n + 1) y) (pl (n + 1) y) (ks (n + 1) y) s c W (hR.below hW) (NdG.kids hy) ht.2⟩
def frmF (n : Nat) (k : Int) (t : List UInt8) (m : Int) (l : List (Tr n)) : Bool := listF n k t m l 1 2 (strmP n) || frpF n k t m l
theorem rfrom_any (n : Nat) (k : Int) (t : List UInt8) (m a : Int) (l : List (Tr n)) (s : Option Addr) (c : Nat) (w : World) (hR : Rdy w) (hl : KsG w n s c l) (hT : ∀ y ∈ l, Txs n y) :
    Calls Tryz.prog 115 #[.agg #[.int .i64 k, .string (bsA t), .int .i64 m, .int .i64 a, .slice s l.length c]] w fun e w' => e = .returned (.bool (frmF n k t m l)) ∧ Below w.heap.size w w' := by
  unfold frmF listF frpF manyP
  rcases Classical.em (k = 38) with rfl | h38
  · rw [decide_eq_false (by decide : ¬ (38 : Int) = 28), Bool.false_and, Bool.false_and, Bool.false_or, decide_eq_true rfl, Bool.true_and]
    by_cases h2 : l.length = 2
    · obtain ⟨y0, y1, rfl⟩ := len2 h2
      obtain ⟨b, off, rfl⟩ := hl.addr
      rw [areQ_cons, areQ_cons, areQ_nil, Bool.and_true, ← Bool.and_assoc]
      exact rfrom_38 n t m a y0 y1 b off c w hR hl hT
    · rw [areQ_ne _ _ _ (by simpa using h2), Bool.and_false]
      exact rfrom_38n n t m a l s c w hR hl (len_ne h2)
  rw [decide_eq_false h38, Bool.false_and, Bool.false_and, Bool.or_false]
  rcases Classical.em (k = 28) with rfl | h28
  · cases hb : plainF t m with
    | false => exact rfrom_p n t m a l s c w hR hl hb
    | true =>
      by_cases h1 : (l.length : Int) < 1
      · rw [decide_eq_false (by omega : ¬ 1 ≤ (l.length : Int)), Bool.false_and, Bool.false_and, Bool.and_false]
        exact rfrom_l n t m a l s c w hR hl hb (eq_true h1)
      · by_cases h2 : (2 : Int) < (l.length : Int)
        · rw [decide_eq_false (by omega : ¬ (l.length : Int) ≤ 2), Bool.and_false, Bool.false_and, Bool.and_false]
          exact rfrom_h n t m a l s c w hR hl hb (eq_false h1) (eq_true h2)
        · rw [decide_eq_true (by omega : 1 ≤ (l.length : Int)), decide_eq_true (by omega : (l.length : Int) ≤ 2), decide_eq_true rfl, Bool.true_and, Bool.true_and, Bool.true_and]
          cases l with
          | nil => simp at h1
          | cons y l =>
            obtain ⟨b, off, rfl⟩ := hl.addr
            exact rfrom_28 n t m a (y :: l) b off c w hR hl (rstrm_rm n w hR) hT hb (eq_false h1) (eq_false h2)
  · rw [decide_eq_false h28, Bool.false_and, Bool.false_and]
    exact rfrom_k n k t m a l s c w hR hl (by simpa using h38) (by simpa using h28)
def frmP (n : Nat) (y : Tr n) : Bool := frmF n.pred (kd n y) (tx n y) (nu n y) (ks n y)
theorem rfrom_rm (n : Nat) (w : World) (hR : Rdy w) : RM 115 n (frmP n) w := ⟨fun W hW y s c hy ht => by
  cases n with
  | zero => exact Empty.elim y
  | succ n => exact rfrom_any n (kd (n + 1) y) (tx (n + 1) y) (nu (n + 1) y) (pl (n + 1) y) (ks (n + 1) y) s c W (hR.below hW) (NdG.kids hy) ht.2⟩
theorem rrate_o (n : Nat) (k : Int) (t : List UInt8) (m a : Int) (l : List (Tr n)) (s : Option Addr) (c : Nat) (w : World) (hR : Rdy w) (hl : KsG w n s c l) (ho : noneF n k t m l = true) :
    Calls Tryz.prog 116 #[.agg #[.int .i64 k, .string (bsA t), .int .i64 m, .int .i64 a, .slice s l.length c]] w fun e w' => e = .returned (.bool (true)) ∧ Below w.heap.size w w' := by
  have HN : Hid (Nd w n k t m a l s c (w.alloc (Obj.cells #[Value.int IntKind.i64 k, Value.string (bsA t), Value.int IntKind.i64 m, Value.int IntKind.i64 a, Value.slice s l.length c] 24))) := Nd.new w n _ t _ a l s c hR hl
  obtain ⟨d0, d1, d2, d3, d4, -, -, -, -, -⟩ := HN.out.box
  have HO : Hid _ := ho
  clear ho
  clear hl hR
  go_enter Tryz.func116, Tryz.ntmps116
  go_wp2_with (first | (go_at_call 112; refine (rnone_any n _ _ _ _ l _ _ _ HN.out.rdy HN.out.kids).mono ?_; rintro e w1 ⟨rfl, hb1⟩; rw [HO.out]; clear d0 d1 d2 d3 d4; replace HN : Hid _ := HN.out.step hb1; obtain ⟨d0, d1, d2, d3, d4, -, -, -, -, -⟩ := HN.out.box))
  all_goals (go_ret; exact ⟨rfl, HN.out.bel⟩)
theorem rrate_k (n : Nat) (k : Int) (t : List UInt8) (m a : Int) (l : List (Tr n)) (s : Option Addr) (c : Nat) (w : World) (hR : Rdy w) (hl : KsG w n s c l) (ho : noneF n k t m l = false) (hk : (k != 26) = true) :
    Calls Tryz.prog 116 #[.agg #[.int .i64 k, .string (bsA t), .int .i64 m, .int .i64 a, .slice s l.length c]] w fun e w' => e = .returned (.bool (false)) ∧ Below w.heap.size w w' := by
  have HN : Hid (Nd w n k t m a l s c (w.alloc (Obj.cells #[Value.int IntKind.i64 k, Value.string (bsA t), Value.int IntKind.i64 m, Value.int IntKind.i64 a, Value.slice s l.length c] 24))) := Nd.new w n _ t _ a l s c hR hl
  obtain ⟨d0, d1, d2, d3, d4, -, -, -, -, -⟩ := HN.out.box
  have HO : Hid _ := ho
  clear ho
  clear hl hR
  go_enter Tryz.func116, Tryz.ntmps116
  go_wp2_with (first | (go_at_call 112; refine (rnone_any n _ _ _ _ l _ _ _ HN.out.rdy HN.out.kids).mono ?_; rintro e w1 ⟨rfl, hb1⟩; rw [HO.out]; clear d0 d1 d2 d3 d4; replace HN : Hid _ := HN.out.step hb1; obtain ⟨d0, d1, d2, d3, d4, -, -, -, -, -⟩ := HN.out.box))
  all_goals (go_ret; exact ⟨rfl, HN.out.bel⟩)
theorem rrate_i (n : Nat) (t : List UInt8) (m a : Int) (l : List (Tr n)) (s : Option Addr) (c : Nat) (w : World) (hR : Rdy w) (hl : KsG w n s c l) (ho : noneF n 26 t m l = false) (hi : inF rtL t = false) :
    Calls Tryz.prog 116 #[.agg #[.int .i64 26, .string (bsA t), .int .i64 m, .int .i64 a, .slice s l.length c]] w fun e w' => e = .returned (.bool (false)) ∧ Below w.heap.size w w' := by
  have HN : Hid (Nd w n 26 t m a l s c (w.alloc (Obj.cells #[Value.int IntKind.i64 26, Value.string (bsA t), Value.int IntKind.i64 m, Value.int IntKind.i64 a, Value.slice s l.length c] 24))) := Nd.new w n _ t _ a l s c hR hl
  obtain ⟨d0, d1, d2, d3, d4, -, -, -, -, -⟩ := HN.out.box
  have HO : Hid _ := ho
  clear ho
  have HI : Hid _ := hi
  clear hi
  clear hl hR
  go_enter Tryz.func116, Tryz.ntmps116
  go_wp2_with (first | (go_at_call 112; refine (rnone_any n _ _ _ _ l _ _ _ HN.out.rdy HN.out.kids).mono ?_; rintro e w1 ⟨rfl, hb1⟩; rw [HO.out]; clear d0 d1 d2 d3 d4; replace HN : Hid _ := HN.out.step hb1; obtain ⟨d0, d1, d2, d3, d4, -, -, -, -, -⟩ := HN.out.box) | (go_at_call 67; refine (rin_b t rtL _ _ _ _ _ rfl rfl (by simp) (by decide)).mono ?_; rintro e w1 ⟨rfl, hb1⟩; rw [HI.out]; clear d0 d1 d2 d3 d4; replace HN : Hid _ := HN.out.step hb1; obtain ⟨d0, d1, d2, d3, d4, -, -, -, -, -⟩ := HN.out.box))
  all_goals (go_ret; exact ⟨rfl, HN.out.bel⟩)
theorem rrate_n (n : Nat) (t : List UInt8) (m a : Int) (l : List (Tr n)) (s : Option Addr) (c : Nat) (w : World) (hR : Rdy w) (hl : KsG w n s c l) (ho : noneF n 26 t m l = false) (hi : inF rtL t = true) (g1 : ((l.length : Int) != 1) = true) :
    Calls Tryz.prog 116 #[.agg #[.int .i64 26, .string (bsA t), .int .i64 m, .int .i64 a, .slice s l.length c]] w fun e w' => e = .returned (.bool (false)) ∧ Below w.heap.size w w' := by
  have HN : Hid (Nd w n 26 t m a l s c (w.alloc (Obj.cells #[Value.int IntKind.i64 26, Value.string (bsA t), Value.int IntKind.i64 m, Value.int IntKind.i64 a, Value.slice s l.length c] 24))) := Nd.new w n _ t _ a l s c hR hl
  obtain ⟨d0, d1, d2, d3, d4, -, -, -, -, -⟩ := HN.out.box
  have HO : Hid _ := ho
  clear ho
  have HI : Hid _ := hi
  clear hi
  clear hl hR
  go_enter Tryz.func116, Tryz.ntmps116
  go_wp2_with (first | (go_at_call 112; refine (rnone_any n _ _ _ _ l _ _ _ HN.out.rdy HN.out.kids).mono ?_; rintro e w1 ⟨rfl, hb1⟩; rw [HO.out]; clear d0 d1 d2 d3 d4; replace HN : Hid _ := HN.out.step hb1; obtain ⟨d0, d1, d2, d3, d4, -, -, -, -, -⟩ := HN.out.box) | (go_at_call 67; refine (rin_b t rtL _ _ _ _ _ rfl rfl (by simp) (by decide)).mono ?_; rintro e w1 ⟨rfl, hb1⟩; rw [HI.out]; clear d0 d1 d2 d3 d4; replace HN : Hid _ := HN.out.step hb1; obtain ⟨d0, d1, d2, d3, d4, -, -, -, -, -⟩ := HN.out.box))
  all_goals (go_ret; exact ⟨rfl, HN.out.bel⟩)
theorem rrate_1 (n : Nat) (t : List UInt8) (m a : Int) (y0 : Tr n) (b off c : Nat) (w : World) (hR : Rdy w) (hl : KsG w n (some ⟨b, off, none⟩) c [y0]) (ho : noneF n 26 t m [y0] = false) (hi : inF rtL t = true) (hk0 : (kd n y0 != 15) = true) :
    Calls Tryz.prog 116 #[.agg #[.int .i64 26, .string (bsA t), .int .i64 m, .int .i64 a, .slice (some ⟨b, off, none⟩) 1 c]] w fun e w' => e = .returned (.bool (false)) ∧ Below w.heap.size w w' := by
  have HN : Hid (Nd w n 26 t m a [y0] (some ⟨b, off, none⟩) c (w.alloc (Obj.cells #[Value.int IntKind.i64 26, Value.string (bsA t), Value.int IntKind.i64 m, Value.int IntKind.i64 a, Value.slice (some ⟨b, off, none⟩) 1 c] 24))) := Nd.new w n 26 t m a [y0] (some ⟨b, off, none⟩) c hR hl
  obtain ⟨d0, d1, d2, d3, d4, -, -, -, -, -⟩ := HN.out.box
  obtain ⟨s0, k0, ⟨c0, c1, c2, c3, c4⟩, hg0⟩ := HN.out.kids.kid 0 y0 rfl
  simp only [Nat.reduceMul, Nat.add_zero, Nat.reduceAdd, Nat.add_assoc, Nat.zero_mul] at c0 c1 c2 c3 c4
  have HO : Hid _ := ho
  have HI : Hid _ := hi
  clear hl hR ho hi
  go_enter Tryz.func116, Tryz.ntmps116
  go_wp2_with (go_at_call 112; refine (rnone_any n _ _ _ _ [y0] _ _ _ HN.out.rdy HN.out.kids).mono ?_; rintro e w1 ⟨rfl, hb1⟩; rw [HO.out]; clear c0 c1 c2 c3 c4 hg0; clear d0 d1 d2 d3 d4; replace HN : Hid _ := HN.out.step hb1; obtain ⟨d0, d1, d2, d3, d4, -, -, -, -, -⟩ := HN.out.box; obtain ⟨s0, k0, ⟨c0, c1, c2, c3, c4⟩, hg0⟩ := HN.out.kids.kid 0 y0 rfl; simp only [Nat.reduceMul, Nat.add_zero, Nat.reduceAdd, Nat.add_assoc, Nat.zero_mul] at c0 c1 c2 c3 c4)
  refine (rin_b t rtL _ _ _ _ _ rfl rfl (by simp) (by decide)).mono ?_
  rintro e w1 ⟨rfl, hb1⟩
  rw [HI.out]
  clear c0 c1 c2 c3 c4 hg0
  clear d0 d1 d2 d3 d4
  replace HN : Hid _ := HN.out.step hb1
  obtain ⟨d0, d1, d2, d3, d4, -, -, -, -, -⟩ := HN.out.box
  obtain ⟨s0, k0, ⟨c0, c1, c2, c3, c4⟩, hg0⟩ := HN.out.kids.kid 0 y0 rfl
  simp only [Nat.reduceMul, Nat.add_zero, Nat.reduceAdd, Nat.add_assoc, Nat.zero_mul] at c0 c1 c2 c3 c4
  have HX : Hid (Nx w n 26 t m a [y0] (some ⟨b, off, none⟩) c w1.heap.size y0 s0 k0 (w1.alloc (Obj.cells #[Value.int IntKind.i64 (kd n y0), Value.string (bsA (tx n y0)), Value.int IntKind.i64 (nu n y0), Value.int IntKind.i64 (pl n y0), Value.slice s0 (ks n y0).length k0] 24))) := Nx.new HN.out hg0
  obtain ⟨x0, x1, x2, x3, x4, -, -, -, -, -⟩ := HX.out.box
  obtain ⟨f0, f1, f2, f3, f4, -, -, -, -, -⟩ := HX.out.nd.box
  clear hg0 hb1
  go_wp2
  all_goals (go_ret; exact ⟨rfl, HX.out.nd.bel⟩)
theorem rrate_2 (n : Nat) (t : List UInt8) (m a : Int) (y0 : Tr n) (b off c : Nat) (w : World) (hR : Rdy w) (hl : KsG w n (some ⟨b, off, none⟩) c [y0]) (ho : noneF n 26 t m [y0] = false) (hi : inF rtL t = true) (hk0 : (kd n y0 != 15) = false) (hn0 : (nu n y0 != 0) = true) :
    Calls Tryz.prog 116 #[.agg #[.int .i64 26, .string (bsA t), .int .i64 m, .int .i64 a, .slice (some ⟨b, off, none⟩) 1 c]] w fun e w' => e = .returned (.bool (false)) ∧ Below w.heap.size w w' := by
  have HN : Hid (Nd w n 26 t m a [y0] (some ⟨b, off, none⟩) c (w.alloc (Obj.cells #[Value.int IntKind.i64 26, Value.string (bsA t), Value.int IntKind.i64 m, Value.int IntKind.i64 a, Value.slice (some ⟨b, off, none⟩) 1 c] 24))) := Nd.new w n 26 t m a [y0] (some ⟨b, off, none⟩) c hR hl
  obtain ⟨d0, d1, d2, d3, d4, -, -, -, -, -⟩ := HN.out.box
  obtain ⟨s0, k0, ⟨c0, c1, c2, c3, c4⟩, hg0⟩ := HN.out.kids.kid 0 y0 rfl
  simp only [Nat.reduceMul, Nat.add_zero, Nat.reduceAdd, Nat.add_assoc, Nat.zero_mul] at c0 c1 c2 c3 c4
  have HO : Hid _ := ho
  have HI : Hid _ := hi
  clear hl hR ho hi
  go_enter Tryz.func116, Tryz.ntmps116
  go_wp2_with (go_at_call 112; refine (rnone_any n _ _ _ _ [y0] _ _ _ HN.out.rdy HN.out.kids).mono ?_; rintro e w1 ⟨rfl, hb1⟩; rw [HO.out]; clear c0 c1 c2 c3 c4 hg0; clear d0 d1 d2 d3 d4; replace HN : Hid _ := HN.out.step hb1; obtain ⟨d0, d1, d2, d3, d4, -, -, -, -, -⟩ := HN.out.box; obtain ⟨s0, k0, ⟨c0, c1, c2, c3, c4⟩, hg0⟩ := HN.out.kids.kid 0 y0 rfl; simp only [Nat.reduceMul, Nat.add_zero, Nat.reduceAdd, Nat.add_assoc, Nat.zero_mul] at c0 c1 c2 c3 c4)
  refine (rin_b t rtL _ _ _ _ _ rfl rfl (by simp) (by decide)).mono ?_
  rintro e w1 ⟨rfl, hb1⟩
  rw [HI.out]
  clear c0 c1 c2 c3 c4 hg0
  clear d0 d1 d2 d3 d4
  replace HN : Hid _ := HN.out.step hb1
  obtain ⟨d0, d1, d2, d3, d4, -, -, -, -, -⟩ := HN.out.box
  obtain ⟨s0, k0, ⟨c0, c1, c2, c3, c4⟩, hg0⟩ := HN.out.kids.kid 0 y0 rfl
  simp only [Nat.reduceMul, Nat.add_zero, Nat.reduceAdd, Nat.add_assoc, Nat.zero_mul] at c0 c1 c2 c3 c4
  have HX : Hid (Nx w n 26 t m a [y0] (some ⟨b, off, none⟩) c w1.heap.size y0 s0 k0 (w1.alloc (Obj.cells #[Value.int IntKind.i64 (kd n y0), Value.string (bsA (tx n y0)), Value.int IntKind.i64 (nu n y0), Value.int IntKind.i64 (pl n y0), Value.slice s0 (ks n y0).length k0] 24))) := Nx.new HN.out hg0
  obtain ⟨x0, x1, x2, x3, x4, -, -, -, -, -⟩ := HX.out.box
  obtain ⟨f0, f1, f2, f3, f4, -, -, -, -, -⟩ := HX.out.nd.box
  clear hg0 hb1
  go_wp2
  all_goals (go_ret; exact ⟨rfl, HX.out.nd.bel⟩)
theorem rrate_3 (n : Nat) (t : List UInt8) (m a : Int) (y0 : Tr n) (b off c : Nat) (w : World) (hR : Rdy w) (hl : KsG w n (some ⟨b, off, none⟩) c [y0]) (ho : noneF n 26 t m [y0] = false) (hi : inF rtL t = true) (hk0 : (kd n y0 != 15) = false) (hn0 : (nu n y0 != 0) = false) (hbr : emp n.pred (ks n y0) = false) :
    Calls Tryz.prog 116 #[.agg #[.int .i64 26, .string (bsA t), .int .i64 m, .int .i64 a, .slice (some ⟨b, off, none⟩) 1 c]] w fun e w' => e = .returned (.bool (false)) ∧ Below w.heap.size w w' := by
  have HN : Hid (Nd w n 26 t m a [y0] (some ⟨b, off, none⟩) c (w.alloc (Obj.cells #[Value.int IntKind.i64 26, Value.string (bsA t), Value.int IntKind.i64 m, Value.int IntKind.i64 a, Value.slice (some ⟨b, off, none⟩) 1 c] 24))) := Nd.new w n 26 t m a [y0] (some ⟨b, off, none⟩) c hR hl
  obtain ⟨d0, d1, d2, d3, d4, -, -, -, -, -⟩ := HN.out.box
  obtain ⟨s0, k0, ⟨c0, c1, c2, c3, c4⟩, hg0⟩ := HN.out.kids.kid 0 y0 rfl
  simp only [Nat.reduceMul, Nat.add_zero, Nat.reduceAdd, Nat.add_assoc, Nat.zero_mul] at c0 c1 c2 c3 c4
  have HO : Hid _ := ho
  have HI : Hid _ := hi
  clear hl hR ho hi
  have HBR : Hid _ := hbr
  clear hbr
  go_enter Tryz.func116, Tryz.ntmps116
  go_wp2_with (go_at_call 112; refine (rnone_any n _ _ _ _ [y0] _ _ _ HN.out.rdy HN.out.kids).mono ?_; rintro e w1 ⟨rfl, hb1⟩; rw [HO.out]; clear c0 c1 c2 c3 c4 hg0; clear d0 d1 d2 d3 d4; replace HN : Hid _ := HN.out.step hb1; obtain ⟨d0, d1, d2, d3, d4, -, -, -, -, -⟩ := HN.out.box; obtain ⟨s0, k0, ⟨c0, c1, c2, c3, c4⟩, hg0⟩ := HN.out.kids.kid 0 y0 rfl; simp only [Nat.reduceMul, Nat.add_zero, Nat.reduceAdd, Nat.add_assoc, Nat.zero_mul] at c0 c1 c2 c3 c4)
  refine (rin_b t rtL _ _ _ _ _ rfl rfl (by simp) (by decide)).mono ?_
  rintro e w1 ⟨rfl, hb1⟩
  rw [HI.out]
  clear c0 c1 c2 c3 c4 hg0
  clear d0 d1 d2 d3 d4
  replace HN : Hid _ := HN.out.step hb1
  obtain ⟨d0, d1, d2, d3, d4, -, -, -, -, -⟩ := HN.out.box
  obtain ⟨s0, k0, ⟨c0, c1, c2, c3, c4⟩, hg0⟩ := HN.out.kids.kid 0 y0 rfl
  simp only [Nat.reduceMul, Nat.add_zero, Nat.reduceAdd, Nat.add_assoc, Nat.zero_mul] at c0 c1 c2 c3 c4
  have HX : Hid (Nx w n 26 t m a [y0] (some ⟨b, off, none⟩) c w1.heap.size y0 s0 k0 (w1.alloc (Obj.cells #[Value.int IntKind.i64 (kd n y0), Value.string (bsA (tx n y0)), Value.int IntKind.i64 (nu n y0), Value.int IntKind.i64 (pl n y0), Value.slice s0 (ks n y0).length k0] 24))) := Nx.new HN.out hg0
  obtain ⟨x0, x1, x2, x3, x4, -, -, -, -, -⟩ := HX.out.box
  obtain ⟨f0, f1, f2, f3, f4, -, -, -, -, -⟩ := HX.out.nd.box
  clear hg0 hb1
  go_wp2_with fail
  refine (rbare_any n.pred _ _ _ _ (ks n y0) _ _ _ HX.out.nd.rdy (ksG_of HX.out.kid)).mono ?_
  rintro e w2 ⟨rfl, hb1⟩
  rw [HBR.out]
  replace HX : Hid _ := HX.out.step hb1
  clear x0 x1 x2 x3 x4 f0 f1 f2 f3 f4 d0 d1 d2 d3 d4 c0 c1 c2 c3 c4
  obtain ⟨x0, x1, x2, x3, x4, -, -, -, -, -⟩ := HX.out.box
  obtain ⟨f0, f1, f2, f3, f4, -, -, -, -, -⟩ := HX.out.nd.box
  go_wp2
  all_goals (go_ret; exact ⟨rfl, HX.out.nd.bel⟩)
theorem rrate_4 (n : Nat) (t : List UInt8) (m a : Int) (y0 : Tr n) (b off c : Nat) (w : World) (hR : Rdy w) (hl : KsG w n (some ⟨b, off, none⟩) c [y0]) (ho : noneF n 26 t m [y0] = false) (hi : inF rtL t = true) (hk0 : (kd n y0 != 15) = false) (hn0 : (nu n y0 != 0) = false) (hbr : emp n.pred (ks n y0) = true) (em : (m < 1) = True) :
    Calls Tryz.prog 116 #[.agg #[.int .i64 26, .string (bsA t), .int .i64 m, .int .i64 a, .slice (some ⟨b, off, none⟩) 1 c]] w fun e w' => e = .returned (.bool (false)) ∧ Below w.heap.size w w' := by
  have HN : Hid (Nd w n 26 t m a [y0] (some ⟨b, off, none⟩) c (w.alloc (Obj.cells #[Value.int IntKind.i64 26, Value.string (bsA t), Value.int IntKind.i64 m, Value.int IntKind.i64 a, Value.slice (some ⟨b, off, none⟩) 1 c] 24))) := Nd.new w n 26 t m a [y0] (some ⟨b, off, none⟩) c hR hl
  obtain ⟨d0, d1, d2, d3, d4, -, -, -, -, -⟩ := HN.out.box
  obtain ⟨s0, k0, ⟨c0, c1, c2, c3, c4⟩, hg0⟩ := HN.out.kids.kid 0 y0 rfl
  simp only [Nat.reduceMul, Nat.add_zero, Nat.reduceAdd, Nat.add_assoc, Nat.zero_mul] at c0 c1 c2 c3 c4
  have HO : Hid _ := ho
  have HI : Hid _ := hi
  clear hl hR ho hi
  have HBR : Hid _ := hbr
  clear hbr
  go_enter Tryz.func116, Tryz.ntmps116
  go_wp2_with (go_at_call 112; refine (rnone_any n _ _ _ _ [y0] _ _ _ HN.out.rdy HN.out.kids).mono ?_; rintro e w1 ⟨rfl, hb1⟩; rw [HO.out]; clear c0 c1 c2 c3 c4 hg0; clear d0 d1 d2 d3 d4; replace HN : Hid _ := HN.out.step hb1; obtain ⟨d0, d1, d2, d3, d4, -, -, -, -, -⟩ := HN.out.box; obtain ⟨s0, k0, ⟨c0, c1, c2, c3, c4⟩, hg0⟩ := HN.out.kids.kid 0 y0 rfl; simp only [Nat.reduceMul, Nat.add_zero, Nat.reduceAdd, Nat.add_assoc, Nat.zero_mul] at c0 c1 c2 c3 c4)
  refine (rin_b t rtL _ _ _ _ _ rfl rfl (by simp) (by decide)).mono ?_
  rintro e w1 ⟨rfl, hb1⟩
  rw [HI.out]
  clear c0 c1 c2 c3 c4 hg0
  clear d0 d1 d2 d3 d4
  replace HN : Hid _ := HN.out.step hb1
  obtain ⟨d0, d1, d2, d3, d4, -, -, -, -, -⟩ := HN.out.box
  obtain ⟨s0, k0, ⟨c0, c1, c2, c3, c4⟩, hg0⟩ := HN.out.kids.kid 0 y0 rfl
  simp only [Nat.reduceMul, Nat.add_zero, Nat.reduceAdd, Nat.add_assoc, Nat.zero_mul] at c0 c1 c2 c3 c4
  have HX : Hid (Nx w n 26 t m a [y0] (some ⟨b, off, none⟩) c w1.heap.size y0 s0 k0 (w1.alloc (Obj.cells #[Value.int IntKind.i64 (kd n y0), Value.string (bsA (tx n y0)), Value.int IntKind.i64 (nu n y0), Value.int IntKind.i64 (pl n y0), Value.slice s0 (ks n y0).length k0] 24))) := Nx.new HN.out hg0
  obtain ⟨x0, x1, x2, x3, x4, -, -, -, -, -⟩ := HX.out.box
  obtain ⟨f0, f1, f2, f3, f4, -, -, -, -, -⟩ := HX.out.nd.box
  clear hg0 hb1
  go_wp2_with fail
  refine (rbare_any n.pred _ _ _ _ (ks n y0) _ _ _ HX.out.nd.rdy (ksG_of HX.out.kid)).mono ?_
  rintro e w2 ⟨rfl, hb1⟩
  rw [HBR.out]
  replace HX : Hid _ := HX.out.step hb1
  clear x0 x1 x2 x3 x4 f0 f1 f2 f3 f4 d0 d1 d2 d3 d4 c0 c1 c2 c3 c4
  obtain ⟨x0, x1, x2, x3, x4, -, -, -, -, -⟩ := HX.out.box
  obtain ⟨f0, f1, f2, f3, f4, -, -, -, -, -⟩ := HX.out.nd.box
  go_wp2
  all_goals (go_ret; exact ⟨rfl, HX.out.nd.bel⟩)
theorem rrate_5 (n : Nat) (t : List UInt8) (m a : Int) (y0 : Tr n) (b off c : Nat) (w : World) (hR : Rdy w) (hl : KsG w n (some ⟨b, off, none⟩) c [y0]) (ho : noneF n 26 t m [y0] = false) (hi : inF rtL t = true) (hk0 : (kd n y0 != 15) = false) (hn0 : (nu n y0 != 0) = false) (hbr : emp n.pred (ks n y0) = true) (em : (m < 1) = False) (te : ((bsA (tx n y0)).toList == [101, 118, 101, 110, 116, 115]) = true) (le1 : (m ≤ 65536) = True) :
    Calls Tryz.prog 116 #[.agg #[.int .i64 26, .string (bsA t), .int .i64 m, .int .i64 a, .slice (some ⟨b, off, none⟩) 1 c]] w fun e w' => e = .returned (.bool (true)) ∧ Below w.heap.size w w' := by
  have HN : Hid (Nd w n 26 t m a [y0] (some ⟨b, off, none⟩) c (w.alloc (Obj.cells #[Value.int IntKind.i64 26, Value.string (bsA t), Value.int IntKind.i64 m, Value.int IntKind.i64 a, Value.slice (some ⟨b, off, none⟩) 1 c] 24))) := Nd.new w n 26 t m a [y0] (some ⟨b, off, none⟩) c hR hl
  obtain ⟨d0, d1, d2, d3, d4, -, -, -, -, -⟩ := HN.out.box
  obtain ⟨s0, k0, ⟨c0, c1, c2, c3, c4⟩, hg0⟩ := HN.out.kids.kid 0 y0 rfl
  simp only [Nat.reduceMul, Nat.add_zero, Nat.reduceAdd, Nat.add_assoc, Nat.zero_mul] at c0 c1 c2 c3 c4
  have HO : Hid _ := ho
  have HI : Hid _ := hi
  clear hl hR ho hi
  have HBR : Hid _ := hbr
  clear hbr
  go_enter Tryz.func116, Tryz.ntmps116
  go_wp2_with (go_at_call 112; refine (rnone_any n _ _ _ _ [y0] _ _ _ HN.out.rdy HN.out.kids).mono ?_; rintro e w1 ⟨rfl, hb1⟩; rw [HO.out]; clear c0 c1 c2 c3 c4 hg0; clear d0 d1 d2 d3 d4; replace HN : Hid _ := HN.out.step hb1; obtain ⟨d0, d1, d2, d3, d4, -, -, -, -, -⟩ := HN.out.box; obtain ⟨s0, k0, ⟨c0, c1, c2, c3, c4⟩, hg0⟩ := HN.out.kids.kid 0 y0 rfl; simp only [Nat.reduceMul, Nat.add_zero, Nat.reduceAdd, Nat.add_assoc, Nat.zero_mul] at c0 c1 c2 c3 c4)
  refine (rin_b t rtL _ _ _ _ _ rfl rfl (by simp) (by decide)).mono ?_
  rintro e w1 ⟨rfl, hb1⟩
  rw [HI.out]
  clear c0 c1 c2 c3 c4 hg0
  clear d0 d1 d2 d3 d4
  replace HN : Hid _ := HN.out.step hb1
  obtain ⟨d0, d1, d2, d3, d4, -, -, -, -, -⟩ := HN.out.box
  obtain ⟨s0, k0, ⟨c0, c1, c2, c3, c4⟩, hg0⟩ := HN.out.kids.kid 0 y0 rfl
  simp only [Nat.reduceMul, Nat.add_zero, Nat.reduceAdd, Nat.add_assoc, Nat.zero_mul] at c0 c1 c2 c3 c4
  have HX : Hid (Nx w n 26 t m a [y0] (some ⟨b, off, none⟩) c w1.heap.size y0 s0 k0 (w1.alloc (Obj.cells #[Value.int IntKind.i64 (kd n y0), Value.string (bsA (tx n y0)), Value.int IntKind.i64 (nu n y0), Value.int IntKind.i64 (pl n y0), Value.slice s0 (ks n y0).length k0] 24))) := Nx.new HN.out hg0
  obtain ⟨x0, x1, x2, x3, x4, -, -, -, -, -⟩ := HX.out.box
  obtain ⟨f0, f1, f2, f3, f4, -, -, -, -, -⟩ := HX.out.nd.box
  clear hg0 hb1
  go_wp2_with fail
  refine (rbare_any n.pred _ _ _ _ (ks n y0) _ _ _ HX.out.nd.rdy (ksG_of HX.out.kid)).mono ?_
  rintro e w2 ⟨rfl, hb1⟩
  rw [HBR.out]
  replace HX : Hid _ := HX.out.step hb1
  clear x0 x1 x2 x3 x4 f0 f1 f2 f3 f4 d0 d1 d2 d3 d4 c0 c1 c2 c3 c4
  obtain ⟨x0, x1, x2, x3, x4, -, -, -, -, -⟩ := HX.out.box
  obtain ⟨f0, f1, f2, f3, f4, -, -, -, -, -⟩ := HX.out.nd.box
  go_wp2
  all_goals (go_ret; exact ⟨rfl, HX.out.nd.bel⟩)
theorem rrate_6 (n : Nat) (t : List UInt8) (m a : Int) (y0 : Tr n) (b off c : Nat) (w : World) (hR : Rdy w) (hl : KsG w n (some ⟨b, off, none⟩) c [y0]) (ho : noneF n 26 t m [y0] = false) (hi : inF rtL t = true) (hk0 : (kd n y0 != 15) = false) (hn0 : (nu n y0 != 0) = false) (hbr : emp n.pred (ks n y0) = true) (em : (m < 1) = False) (te : ((bsA (tx n y0)).toList == [101, 118, 101, 110, 116, 115]) = true) (le1 : (m ≤ 65536) = False) (tm : ((bsA (tx n y0)).toList == [109, 115]) = false) :
    Calls Tryz.prog 116 #[.agg #[.int .i64 26, .string (bsA t), .int .i64 m, .int .i64 a, .slice (some ⟨b, off, none⟩) 1 c]] w fun e w' => e = .returned (.bool (false)) ∧ Below w.heap.size w w' := by
  have HN : Hid (Nd w n 26 t m a [y0] (some ⟨b, off, none⟩) c (w.alloc (Obj.cells #[Value.int IntKind.i64 26, Value.string (bsA t), Value.int IntKind.i64 m, Value.int IntKind.i64 a, Value.slice (some ⟨b, off, none⟩) 1 c] 24))) := Nd.new w n 26 t m a [y0] (some ⟨b, off, none⟩) c hR hl
  obtain ⟨d0, d1, d2, d3, d4, -, -, -, -, -⟩ := HN.out.box
  obtain ⟨s0, k0, ⟨c0, c1, c2, c3, c4⟩, hg0⟩ := HN.out.kids.kid 0 y0 rfl
  simp only [Nat.reduceMul, Nat.add_zero, Nat.reduceAdd, Nat.add_assoc, Nat.zero_mul] at c0 c1 c2 c3 c4
  have HO : Hid _ := ho
  have HI : Hid _ := hi
  clear hl hR ho hi
  have HBR : Hid _ := hbr
  clear hbr
  go_enter Tryz.func116, Tryz.ntmps116
  go_wp2_with (go_at_call 112; refine (rnone_any n _ _ _ _ [y0] _ _ _ HN.out.rdy HN.out.kids).mono ?_; rintro e w1 ⟨rfl, hb1⟩; rw [HO.out]; clear c0 c1 c2 c3 c4 hg0; clear d0 d1 d2 d3 d4; replace HN : Hid _ := HN.out.step hb1; obtain ⟨d0, d1, d2, d3, d4, -, -, -, -, -⟩ := HN.out.box; obtain ⟨s0, k0, ⟨c0, c1, c2, c3, c4⟩, hg0⟩ := HN.out.kids.kid 0 y0 rfl; simp only [Nat.reduceMul, Nat.add_zero, Nat.reduceAdd, Nat.add_assoc, Nat.zero_mul] at c0 c1 c2 c3 c4)
  refine (rin_b t rtL _ _ _ _ _ rfl rfl (by simp) (by decide)).mono ?_
  rintro e w1 ⟨rfl, hb1⟩
  rw [HI.out]
  clear c0 c1 c2 c3 c4 hg0
  clear d0 d1 d2 d3 d4
  replace HN : Hid _ := HN.out.step hb1
  obtain ⟨d0, d1, d2, d3, d4, -, -, -, -, -⟩ := HN.out.box
  obtain ⟨s0, k0, ⟨c0, c1, c2, c3, c4⟩, hg0⟩ := HN.out.kids.kid 0 y0 rfl
  simp only [Nat.reduceMul, Nat.add_zero, Nat.reduceAdd, Nat.add_assoc, Nat.zero_mul] at c0 c1 c2 c3 c4
  have HX : Hid (Nx w n 26 t m a [y0] (some ⟨b, off, none⟩) c w1.heap.size y0 s0 k0 (w1.alloc (Obj.cells #[Value.int IntKind.i64 (kd n y0), Value.string (bsA (tx n y0)), Value.int IntKind.i64 (nu n y0), Value.int IntKind.i64 (pl n y0), Value.slice s0 (ks n y0).length k0] 24))) := Nx.new HN.out hg0
  obtain ⟨x0, x1, x2, x3, x4, -, -, -, -, -⟩ := HX.out.box
  obtain ⟨f0, f1, f2, f3, f4, -, -, -, -, -⟩ := HX.out.nd.box
  clear hg0 hb1
  go_wp2_with fail
  refine (rbare_any n.pred _ _ _ _ (ks n y0) _ _ _ HX.out.nd.rdy (ksG_of HX.out.kid)).mono ?_
  rintro e w2 ⟨rfl, hb1⟩
  rw [HBR.out]
  replace HX : Hid _ := HX.out.step hb1
  clear x0 x1 x2 x3 x4 f0 f1 f2 f3 f4 d0 d1 d2 d3 d4 c0 c1 c2 c3 c4
  obtain ⟨x0, x1, x2, x3, x4, -, -, -, -, -⟩ := HX.out.box
  obtain ⟨f0, f1, f2, f3, f4, -, -, -, -, -⟩ := HX.out.nd.box
  go_wp2
  all_goals (go_ret; exact ⟨rfl, HX.out.nd.bel⟩)
theorem rrate_7 (n : Nat) (t : List UInt8) (m a : Int) (y0 : Tr n) (b off c : Nat) (w : World) (hR : Rdy w) (hl : KsG w n (some ⟨b, off, none⟩) c [y0]) (ho : noneF n 26 t m [y0] = false) (hi : inF rtL t = true) (hk0 : (kd n y0 != 15) = false) (hn0 : (nu n y0 != 0) = false) (hbr : emp n.pred (ks n y0) = true) (em : (m < 1) = False) (te : ((bsA (tx n y0)).toList == [101, 118, 101, 110, 116, 115]) = false) (tm : ((bsA (tx n y0)).toList == [109, 115]) = true) (le2 : (m ≤ 1099511627776) = True) :
    Calls Tryz.prog 116 #[.agg #[.int .i64 26, .string (bsA t), .int .i64 m, .int .i64 a, .slice (some ⟨b, off, none⟩) 1 c]] w fun e w' => e = .returned (.bool (true)) ∧ Below w.heap.size w w' := by
  have HN : Hid (Nd w n 26 t m a [y0] (some ⟨b, off, none⟩) c (w.alloc (Obj.cells #[Value.int IntKind.i64 26, Value.string (bsA t), Value.int IntKind.i64 m, Value.int IntKind.i64 a, Value.slice (some ⟨b, off, none⟩) 1 c] 24))) := Nd.new w n 26 t m a [y0] (some ⟨b, off, none⟩) c hR hl
  obtain ⟨d0, d1, d2, d3, d4, -, -, -, -, -⟩ := HN.out.box
  obtain ⟨s0, k0, ⟨c0, c1, c2, c3, c4⟩, hg0⟩ := HN.out.kids.kid 0 y0 rfl
  simp only [Nat.reduceMul, Nat.add_zero, Nat.reduceAdd, Nat.add_assoc, Nat.zero_mul] at c0 c1 c2 c3 c4
  have HO : Hid _ := ho
  have HI : Hid _ := hi
  clear hl hR ho hi
  have HBR : Hid _ := hbr
  clear hbr
  go_enter Tryz.func116, Tryz.ntmps116
  go_wp2_with (go_at_call 112; refine (rnone_any n _ _ _ _ [y0] _ _ _ HN.out.rdy HN.out.kids).mono ?_; rintro e w1 ⟨rfl, hb1⟩; rw [HO.out]; clear c0 c1 c2 c3 c4 hg0; clear d0 d1 d2 d3 d4; replace HN : Hid _ := HN.out.step hb1; obtain ⟨d0, d1, d2, d3, d4, -, -, -, -, -⟩ := HN.out.box; obtain ⟨s0, k0, ⟨c0, c1, c2, c3, c4⟩, hg0⟩ := HN.out.kids.kid 0 y0 rfl; simp only [Nat.reduceMul, Nat.add_zero, Nat.reduceAdd, Nat.add_assoc, Nat.zero_mul] at c0 c1 c2 c3 c4)
  refine (rin_b t rtL _ _ _ _ _ rfl rfl (by simp) (by decide)).mono ?_
  rintro e w1 ⟨rfl, hb1⟩
  rw [HI.out]
  clear c0 c1 c2 c3 c4 hg0
  clear d0 d1 d2 d3 d4
  replace HN : Hid _ := HN.out.step hb1
  obtain ⟨d0, d1, d2, d3, d4, -, -, -, -, -⟩ := HN.out.box
  obtain ⟨s0, k0, ⟨c0, c1, c2, c3, c4⟩, hg0⟩ := HN.out.kids.kid 0 y0 rfl
  simp only [Nat.reduceMul, Nat.add_zero, Nat.reduceAdd, Nat.add_assoc, Nat.zero_mul] at c0 c1 c2 c3 c4
  have HX : Hid (Nx w n 26 t m a [y0] (some ⟨b, off, none⟩) c w1.heap.size y0 s0 k0 (w1.alloc (Obj.cells #[Value.int IntKind.i64 (kd n y0), Value.string (bsA (tx n y0)), Value.int IntKind.i64 (nu n y0), Value.int IntKind.i64 (pl n y0), Value.slice s0 (ks n y0).length k0] 24))) := Nx.new HN.out hg0
  obtain ⟨x0, x1, x2, x3, x4, -, -, -, -, -⟩ := HX.out.box
  obtain ⟨f0, f1, f2, f3, f4, -, -, -, -, -⟩ := HX.out.nd.box
  clear hg0 hb1
  go_wp2_with fail
  refine (rbare_any n.pred _ _ _ _ (ks n y0) _ _ _ HX.out.nd.rdy (ksG_of HX.out.kid)).mono ?_
  rintro e w2 ⟨rfl, hb1⟩
  rw [HBR.out]
  replace HX : Hid _ := HX.out.step hb1
  clear x0 x1 x2 x3 x4 f0 f1 f2 f3 f4 d0 d1 d2 d3 d4 c0 c1 c2 c3 c4
  obtain ⟨x0, x1, x2, x3, x4, -, -, -, -, -⟩ := HX.out.box
  obtain ⟨f0, f1, f2, f3, f4, -, -, -, -, -⟩ := HX.out.nd.box
  go_wp2
  all_goals (go_ret; exact ⟨rfl, HX.out.nd.bel⟩)
theorem rrate_8 (n : Nat) (t : List UInt8) (m a : Int) (y0 : Tr n) (b off c : Nat) (w : World) (hR : Rdy w) (hl : KsG w n (some ⟨b, off, none⟩) c [y0]) (ho : noneF n 26 t m [y0] = false) (hi : inF rtL t = true) (hk0 : (kd n y0 != 15) = false) (hn0 : (nu n y0 != 0) = false) (hbr : emp n.pred (ks n y0) = true) (em : (m < 1) = False) (te : ((bsA (tx n y0)).toList == [101, 118, 101, 110, 116, 115]) = false) (tm : ((bsA (tx n y0)).toList == [109, 115]) = true) (le2 : (m ≤ 1099511627776) = False) :
    Calls Tryz.prog 116 #[.agg #[.int .i64 26, .string (bsA t), .int .i64 m, .int .i64 a, .slice (some ⟨b, off, none⟩) 1 c]] w fun e w' => e = .returned (.bool (false)) ∧ Below w.heap.size w w' := by
  have HN : Hid (Nd w n 26 t m a [y0] (some ⟨b, off, none⟩) c (w.alloc (Obj.cells #[Value.int IntKind.i64 26, Value.string (bsA t), Value.int IntKind.i64 m, Value.int IntKind.i64 a, Value.slice (some ⟨b, off, none⟩) 1 c] 24))) := Nd.new w n 26 t m a [y0] (some ⟨b, off, none⟩) c hR hl
  obtain ⟨d0, d1, d2, d3, d4, -, -, -, -, -⟩ := HN.out.box
  obtain ⟨s0, k0, ⟨c0, c1, c2, c3, c4⟩, hg0⟩ := HN.out.kids.kid 0 y0 rfl
  simp only [Nat.reduceMul, Nat.add_zero, Nat.reduceAdd, Nat.add_assoc, Nat.zero_mul] at c0 c1 c2 c3 c4
  have HO : Hid _ := ho
  have HI : Hid _ := hi
  clear hl hR ho hi
  have HBR : Hid _ := hbr
  clear hbr
  go_enter Tryz.func116, Tryz.ntmps116
  go_wp2_with (go_at_call 112; refine (rnone_any n _ _ _ _ [y0] _ _ _ HN.out.rdy HN.out.kids).mono ?_; rintro e w1 ⟨rfl, hb1⟩; rw [HO.out]; clear c0 c1 c2 c3 c4 hg0; clear d0 d1 d2 d3 d4; replace HN : Hid _ := HN.out.step hb1; obtain ⟨d0, d1, d2, d3, d4, -, -, -, -, -⟩ := HN.out.box; obtain ⟨s0, k0, ⟨c0, c1, c2, c3, c4⟩, hg0⟩ := HN.out.kids.kid 0 y0 rfl; simp only [Nat.reduceMul, Nat.add_zero, Nat.reduceAdd, Nat.add_assoc, Nat.zero_mul] at c0 c1 c2 c3 c4)
  refine (rin_b t rtL _ _ _ _ _ rfl rfl (by simp) (by decide)).mono ?_
  rintro e w1 ⟨rfl, hb1⟩
  rw [HI.out]
  clear c0 c1 c2 c3 c4 hg0
  clear d0 d1 d2 d3 d4
  replace HN : Hid _ := HN.out.step hb1
  obtain ⟨d0, d1, d2, d3, d4, -, -, -, -, -⟩ := HN.out.box
  obtain ⟨s0, k0, ⟨c0, c1, c2, c3, c4⟩, hg0⟩ := HN.out.kids.kid 0 y0 rfl
  simp only [Nat.reduceMul, Nat.add_zero, Nat.reduceAdd, Nat.add_assoc, Nat.zero_mul] at c0 c1 c2 c3 c4
  have HX : Hid (Nx w n 26 t m a [y0] (some ⟨b, off, none⟩) c w1.heap.size y0 s0 k0 (w1.alloc (Obj.cells #[Value.int IntKind.i64 (kd n y0), Value.string (bsA (tx n y0)), Value.int IntKind.i64 (nu n y0), Value.int IntKind.i64 (pl n y0), Value.slice s0 (ks n y0).length k0] 24))) := Nx.new HN.out hg0
  obtain ⟨x0, x1, x2, x3, x4, -, -, -, -, -⟩ := HX.out.box
  obtain ⟨f0, f1, f2, f3, f4, -, -, -, -, -⟩ := HX.out.nd.box
  clear hg0 hb1
  go_wp2_with fail
  refine (rbare_any n.pred _ _ _ _ (ks n y0) _ _ _ HX.out.nd.rdy (ksG_of HX.out.kid)).mono ?_
  rintro e w2 ⟨rfl, hb1⟩
  rw [HBR.out]
  replace HX : Hid _ := HX.out.step hb1
  clear x0 x1 x2 x3 x4 f0 f1 f2 f3 f4 d0 d1 d2 d3 d4 c0 c1 c2 c3 c4
  obtain ⟨x0, x1, x2, x3, x4, -, -, -, -, -⟩ := HX.out.box
  obtain ⟨f0, f1, f2, f3, f4, -, -, -, -, -⟩ := HX.out.nd.box
  go_wp2
  all_goals (go_ret; exact ⟨rfl, HX.out.nd.bel⟩)
theorem rrate_9 (n : Nat) (t : List UInt8) (m a : Int) (y0 : Tr n) (b off c : Nat) (w : World) (hR : Rdy w) (hl : KsG w n (some ⟨b, off, none⟩) c [y0]) (ho : noneF n 26 t m [y0] = false) (hi : inF rtL t = true) (hk0 : (kd n y0 != 15) = false) (hn0 : (nu n y0 != 0) = false) (hbr : emp n.pred (ks n y0) = true) (em : (m < 1) = False) (te : ((bsA (tx n y0)).toList == [101, 118, 101, 110, 116, 115]) = false) (tm : ((bsA (tx n y0)).toList == [109, 115]) = false) :
    Calls Tryz.prog 116 #[.agg #[.int .i64 26, .string (bsA t), .int .i64 m, .int .i64 a, .slice (some ⟨b, off, none⟩) 1 c]] w fun e w' => e = .returned (.bool (false)) ∧ Below w.heap.size w w' := by
  have HN : Hid (Nd w n 26 t m a [y0] (some ⟨b, off, none⟩) c (w.alloc (Obj.cells #[Value.int IntKind.i64 26, Value.string (bsA t), Value.int IntKind.i64 m, Value.int IntKind.i64 a, Value.slice (some ⟨b, off, none⟩) 1 c] 24))) := Nd.new w n 26 t m a [y0] (some ⟨b, off, none⟩) c hR hl
  obtain ⟨d0, d1, d2, d3, d4, -, -, -, -, -⟩ := HN.out.box
  obtain ⟨s0, k0, ⟨c0, c1, c2, c3, c4⟩, hg0⟩ := HN.out.kids.kid 0 y0 rfl
  simp only [Nat.reduceMul, Nat.add_zero, Nat.reduceAdd, Nat.add_assoc, Nat.zero_mul] at c0 c1 c2 c3 c4
  have HO : Hid _ := ho
  have HI : Hid _ := hi
  clear hl hR ho hi
  have HBR : Hid _ := hbr
  clear hbr
  go_enter Tryz.func116, Tryz.ntmps116
  go_wp2_with (go_at_call 112; refine (rnone_any n _ _ _ _ [y0] _ _ _ HN.out.rdy HN.out.kids).mono ?_; rintro e w1 ⟨rfl, hb1⟩; rw [HO.out]; clear c0 c1 c2 c3 c4 hg0; clear d0 d1 d2 d3 d4; replace HN : Hid _ := HN.out.step hb1; obtain ⟨d0, d1, d2, d3, d4, -, -, -, -, -⟩ := HN.out.box; obtain ⟨s0, k0, ⟨c0, c1, c2, c3, c4⟩, hg0⟩ := HN.out.kids.kid 0 y0 rfl; simp only [Nat.reduceMul, Nat.add_zero, Nat.reduceAdd, Nat.add_assoc, Nat.zero_mul] at c0 c1 c2 c3 c4)
  refine (rin_b t rtL _ _ _ _ _ rfl rfl (by simp) (by decide)).mono ?_
  rintro e w1 ⟨rfl, hb1⟩
  rw [HI.out]
  clear c0 c1 c2 c3 c4 hg0
  clear d0 d1 d2 d3 d4
  replace HN : Hid _ := HN.out.step hb1
  obtain ⟨d0, d1, d2, d3, d4, -, -, -, -, -⟩ := HN.out.box
  obtain ⟨s0, k0, ⟨c0, c1, c2, c3, c4⟩, hg0⟩ := HN.out.kids.kid 0 y0 rfl
  simp only [Nat.reduceMul, Nat.add_zero, Nat.reduceAdd, Nat.add_assoc, Nat.zero_mul] at c0 c1 c2 c3 c4
  have HX : Hid (Nx w n 26 t m a [y0] (some ⟨b, off, none⟩) c w1.heap.size y0 s0 k0 (w1.alloc (Obj.cells #[Value.int IntKind.i64 (kd n y0), Value.string (bsA (tx n y0)), Value.int IntKind.i64 (nu n y0), Value.int IntKind.i64 (pl n y0), Value.slice s0 (ks n y0).length k0] 24))) := Nx.new HN.out hg0
  obtain ⟨x0, x1, x2, x3, x4, -, -, -, -, -⟩ := HX.out.box
  obtain ⟨f0, f1, f2, f3, f4, -, -, -, -, -⟩ := HX.out.nd.box
  clear hg0 hb1
  go_wp2_with fail
  refine (rbare_any n.pred _ _ _ _ (ks n y0) _ _ _ HX.out.nd.rdy (ksG_of HX.out.kid)).mono ?_
  rintro e w2 ⟨rfl, hb1⟩
  rw [HBR.out]
  replace HX : Hid _ := HX.out.step hb1
  clear x0 x1 x2 x3 x4 f0 f1 f2 f3 f4 d0 d1 d2 d3 d4 c0 c1 c2 c3 c4
  obtain ⟨x0, x1, x2, x3, x4, -, -, -, -, -⟩ := HX.out.box
  obtain ⟨f0, f1, f2, f3, f4, -, -, -, -, -⟩ := HX.out.nd.box
  go_wp2
  all_goals (go_ret; exact ⟨rfl, HX.out.nd.bel⟩)
theorem rrate_a (n : Nat) (t : List UInt8) (m a : Int) (y0 : Tr n) (b off c : Nat) (w : World) (hR : Rdy w) (hl : KsG w n (some ⟨b, off, none⟩) c [y0]) (ho : noneF n 26 t m [y0] = false) (hi : inF rtL t = true) :
    Calls Tryz.prog 116 #[.agg #[.int .i64 26, .string (bsA t), .int .i64 m, .int .i64 a, .slice (some ⟨b, off, none⟩) 1 c]] w fun e w' => e = .returned (.bool (witF m 1 65536 && unitP n [101, 118, 101, 110, 116, 115] y0 || witF m 1 1099511627776 && unitP n [109, 115] y0)) ∧ Below w.heap.size w w' := by
  have eu : ∀ u, unitP n u y0 = (decide (kd n y0 = 15) && decide (tx n y0 = u) && decide (nu n y0 = 0) && emp n.pred (ks n y0)) := fun u => rfl
  rw [eu, eu]
  unfold witF
  rcases Classical.em (kd n y0 = 15) with hk | hk
  · have gk : (kd n y0 != 15) = false := by simp [hk]
    rcases Classical.em (nu n y0 = 0) with hn | hn
    · have gn : (nu n y0 != 0) = false := by simp [hn]
      cases hb : emp n.pred (ks n y0) with
      | false =>
        simp only [Bool.and_false, Bool.or_false]
        exact rrate_3 n t m a y0 b off c w hR hl ho hi gk gn hb
      | true =>
        rw [decide_eq_true hk, decide_eq_true hn]
        simp only [Bool.and_true, Bool.true_and]
        by_cases h1 : m < 1
        · rw [decide_eq_false (by omega : ¬ 1 ≤ m)]
          exact rrate_4 n t m a y0 b off c w hR hl ho hi gk gn hb (eq_true h1)
        · rw [decide_eq_true (by omega : 1 ≤ m), Bool.true_and, Bool.true_and]
          by_cases hE : tx n y0 = [101, 118, 101, 110, 116, 115]
          · have gE : ((bsA (tx n y0)).toList == [101, 118, 101, 110, 116, 115]) = true := by rw [bsA_tl, hE]; rfl
            have gM : ((bsA (tx n y0)).toList == [109, 115]) = false := by rw [bsA_tl, hE]; rfl
            rw [decide_eq_true hE, decide_eq_false (by rw [hE]; decide : ¬ tx n y0 = [109, 115]), Bool.and_false, Bool.or_false, Bool.and_true]
            by_cases h2 : m ≤ 65536
            · rw [decide_eq_true h2]
              exact rrate_5 n t m a y0 b off c w hR hl ho hi gk gn hb (eq_false h1) gE (eq_true h2)
            · rw [decide_eq_false h2]
              exact rrate_6 n t m a y0 b off c w hR hl ho hi gk gn hb (eq_false h1) gE (eq_false h2) gM
          · have gE : ((bsA (tx n y0)).toList == [101, 118, 101, 110, 116, 115]) = false := by rw [bsA_tl, beqL]; exact decide_eq_false hE
            rw [decide_eq_false hE, Bool.and_false, Bool.false_or]
            by_cases hM : tx n y0 = [109, 115]
            · have gM : ((bsA (tx n y0)).toList == [109, 115]) = true := by rw [bsA_tl, hM]; rfl
              rw [decide_eq_true hM, Bool.and_true]
              by_cases h2 : m ≤ 1099511627776
              · rw [decide_eq_true h2]
                exact rrate_7 n t m a y0 b off c w hR hl ho hi gk gn hb (eq_false h1) gE gM (eq_true h2)
              · rw [decide_eq_false h2]
                exact rrate_8 n t m a y0 b off c w hR hl ho hi gk gn hb (eq_false h1) gE gM (eq_false h2)
            · have gM : ((bsA (tx n y0)).toList == [109, 115]) = false := by rw [bsA_tl, beqL]; exact decide_eq_false hM
              rw [decide_eq_false hM, Bool.and_false]
              exact rrate_9 n t m a y0 b off c w hR hl ho hi gk gn hb (eq_false h1) gE gM
    · rw [decide_eq_false hn]
      simp only [Bool.and_false, Bool.false_and, Bool.or_false]
      exact rrate_2 n t m a y0 b off c w hR hl ho hi gk (by simpa using hn)
  · rw [decide_eq_false hk]
    simp only [Bool.and_false, Bool.false_and, Bool.or_false]
    exact rrate_1 n t m a y0 b off c w hR hl ho hi (by simpa using hk)
theorem rrate_any (n : Nat) (k : Int) (t : List UInt8) (m a : Int) (l : List (Tr n)) (s : Option Addr) (c : Nat) (w : World) (hR : Rdy w) (hl : KsG w n s c l) :
    Calls Tryz.prog 116 #[.agg #[.int .i64 k, .string (bsA t), .int .i64 m, .int .i64 a, .slice s l.length c]] w fun e w' => e = .returned (.bool (rateF n k t m l || noneF n k t m l)) ∧ Below w.heap.size w w' := by
  cases ho : noneF n k t m l with
  | true =>
    rw [Bool.or_true]
    exact rrate_o n k t m a l s c w hR hl ho
  | false =>
    rw [Bool.or_false]
    unfold rateF
    rcases Classical.em (k = 26) with rfl | hk
    · rw [decide_eq_true rfl, Bool.true_and, ← inF_c]
      cases hi : inF rtL t with
      | false =>
        rw [Bool.false_and]
        exact rrate_i n t m a l s c w hR hl ho hi
      | true =>
        rw [Bool.true_and]
        by_cases h1 : l.length = 1
        · obtain ⟨y0, rfl⟩ := List.length_eq_one_iff.1 h1
          obtain ⟨b, off, rfl⟩ := hl.addr
          rw [areQ_cons, areQ_nil, Bool.and_true, areQ_cons, areQ_nil, Bool.and_true]
          exact rrate_a n t m a y0 b off c w hR hl ho hi
        · rw [areQ_ne _ _ _ (by simpa using h1), areQ_ne _ _ _ (by simpa using h1), Bool.and_false, Bool.and_false, Bool.or_false]
          exact rrate_n n t m a l s c w hR hl ho hi (len_nb h1)
    · rw [decide_eq_false hk, Bool.false_and, Bool.false_and]
      exact rrate_k n k t m a l s c w hR hl ho (by simpa using hk)
theorem rrate_rm (n : Nat) (w : World) (hR : Rdy w) : RM 116 n (optP n (rateP n)) w := ⟨fun W hW y s c hy _ => by
  cases n with
  | zero => exact Empty.elim y
  | succ n => exact rrate_any n (kd (n + 1) y) (tx (n + 1) y) (nu (n + 1) y) (pl (n + 1) y) (ks (n + 1) y) s c W (hR.below hW) (NdG.kids hy)⟩
end Go.Proofs.YtcemogaacicnfaaGreatDoor
