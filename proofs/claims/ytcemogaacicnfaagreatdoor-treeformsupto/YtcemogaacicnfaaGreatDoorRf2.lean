/- Which trees are expressions, by the document. -/
import Derived.Test.YtcemogaacicnfaaGreatDoorRf1
import Derived.Test.YtcemogaacicnfaaGreatDoorRunes
namespace Go.Proofs.YtcemogaacicnfaaGreatDoor
set_option linter.unusedSimpArgs false
set_option maxRecDepth 20000
set_option maxHeartbeats 4000000
open Go.ChangeShapes Go.WideShapes Go.ChangeAt Go.RowKit

/-- What is asked of the document's Id. -/
def RIdSaid : Prop := ∀ (t : List UInt8) (w : World), Rdy w → Calls Tryz.prog 65 #[.string (bsA t)] w fun e w' => e = .returned (.bool (idC t)) ∧ Below w.heap.size w w'
def inF (L : List (List UInt8)) (t : List UInt8) : Bool := L.any fun y => decide (y = t)
theorem rin_b (t : List UInt8) (L : List (List UInt8)) (g c len : Nat) (W : World) (cs : Array Value) (hcs : cs.toList = L.map fun x => .string (bsA x)) (hlen : len = L.length) (hg : g = W.heap.size) (h63 : L.length ≤ 9223372036854775807) :
    Calls Tryz.prog 67 #[.string (bsA t), .slice (some ⟨g, 0, none⟩) len c] (W.alloc (.cells cs 9)) fun e w' => e = .returned (.bool (inF L t)) ∧ Below W.heap.size W w' := by
  subst hg hlen
  have hA : Below W.heap.size W (W.alloc (.cells cs 9)) := (Below.refl _ _).alloc (Nat.le_refl _) _
  have h := rin_go t L W.heap.size c (W.alloc (.cells cs 9)) h63 (fun i x hx => arr_new W cs 9 i _ (by rw [hcs, List.getElem?_map, hx]; rfl))
  exact h.mono fun e w' ⟨he, hw⟩ => ⟨he, by rw [hw]; exact hA⟩
def allF (n : Nat) (l : List (Tr n)) (E : Tr n → Bool) : Bool := l.all E
theorem rexprs_q (n : Nat) (l : List (Tr n)) (s : Option Addr) (c : Nat) (E : Tr n → Bool) (w : World) (hl : KsG w n s c l) (hE : RM 26 n E w) (ht : ∀ y ∈ l, Txs n y) :
    Calls Tryz.prog 68 #[.slice s l.length c] w fun e w' => e = .returned (.bool (allF n l E)) ∧ Below w.heap.size w w' := rexprs_any n l s c E w hl hE ht
def vdF (t : List UInt8) : Bool := Lib.validD t
theorem rrun_any (t : List UInt8) (w : World) (h : t.length ≤ 1048576) : Calls Tryz.prog 108 #[.string (bsA t)] w fun e w' => e = .returned (.bool (vdF t)) ∧ w' = w := by
  have h1 := runes_any (bsA t) w (by rw [bsA_size]; omega)
  rw [bsA_list] at h1
  exact h1
theorem rnone_any (n : Nat) (k : Int) (t : List UInt8) (m a : Int) (l : List (Tr n)) (s : Option Addr) (c : Nat) (w : World) (hR : Rdy w) (hl : KsG w n s c l) :
    Calls Tryz.prog 112 #[.agg #[.int .i64 k, .string (bsA t), .int .i64 m, .int .i64 a, .slice s l.length c]] w fun e w' => e = .returned (.bool (noneF n k t m l)) ∧ Below w.heap.size w w' := by
  rcases Classical.em (k = 20) with rfl | h0
  · have HN : Hid (Nd w n 20 t m a l s c (w.alloc (Obj.cells #[Value.int IntKind.i64 20, Value.string (bsA t), Value.int IntKind.i64 m, Value.int IntKind.i64 a, Value.slice s l.length c] 24))) := Nd.new w n _ t _ a l s c hR hl
    obtain ⟨d0, d1, d2, d3, d4, -, -, -, -, -⟩ := HN.out.box
    clear hl hR
    go_enter Tryz.func112, Tryz.ntmps112
    go_wp2_with (first | (go_at_call 70; (refine (rplain_any n _ _ _ _ l _ _ _ HN.out.rdy HN.out.kids).mono ?_; rintro e w1 ⟨rfl, hb1⟩; clear d0 d1 d2 d3 d4; replace HN : Hid _ := HN.out.step hb1; obtain ⟨d0, d1, d2, d3, d4, -, -, -, -, -⟩ := HN.out.box)) | (go_at_call 73; (refine (rbare_any n _ _ _ _ l _ _ _ HN.out.rdy HN.out.kids).mono ?_; rintro e w1 ⟨rfl, hb1⟩; clear d0 d1 d2 d3 d4; replace HN : Hid _ := HN.out.step hb1; obtain ⟨d0, d1, d2, d3, d4, -, -, -, -, -⟩ := HN.out.box)))
    all_goals (go_ret; exact ⟨by simp_all [bsA_tl, beqI, beqL, noneF], HN.out.bel⟩)
  · have HN : Hid (Nd w n k t m a l s c (w.alloc (Obj.cells #[Value.int IntKind.i64 k, Value.string (bsA t), Value.int IntKind.i64 m, Value.int IntKind.i64 a, Value.slice s l.length c] 24))) := Nd.new w n _ t _ a l s c hR hl
    obtain ⟨d0, d1, d2, d3, d4, -, -, -, -, -⟩ := HN.out.box
    clear hl hR
    go_enter Tryz.func112, Tryz.ntmps112
    go_wp2_with (first | (go_at_call 70; (refine (rplain_any n _ _ _ _ l _ _ _ HN.out.rdy HN.out.kids).mono ?_; rintro e w1 ⟨rfl, hb1⟩; clear d0 d1 d2 d3 d4; replace HN : Hid _ := HN.out.step hb1; obtain ⟨d0, d1, d2, d3, d4, -, -, -, -, -⟩ := HN.out.box)) | (go_at_call 73; (refine (rbare_any n _ _ _ _ l _ _ _ HN.out.rdy HN.out.kids).mono ?_; rintro e w1 ⟨rfl, hb1⟩; clear d0 d1 d2 d3 d4; replace HN : Hid _ := HN.out.step hb1; obtain ⟨d0, d1, d2, d3, d4, -, -, -, -, -⟩ := HN.out.box)))
    all_goals (go_ret; exact ⟨by simp_all [bsA_tl, beqI, beqL, noneF], HN.out.bel⟩)
theorem rnme_any (n : Nat) (k : Int) (t : List UInt8) (m a : Int) (l : List (Tr n)) (s : Option Addr) (c : Nat) (w : World) (hR : Rdy w) (hl : KsG w n s c l) (hI : RIdSaid) :
    Calls Tryz.prog 66 #[.agg #[.int .i64 k, .string (bsA t), .int .i64 m, .int .i64 a, .slice s l.length c]] w fun e w' => e = .returned (.bool (nmeF n k t m l)) ∧ Below w.heap.size w w' := by
  rcases Classical.em (k = 15) with rfl | h0
  all_goals rcases Classical.em (m = 0) with rfl | h1
  · have HN : Hid (Nd w n 15 t 0 a l s c (w.alloc (Obj.cells #[Value.int IntKind.i64 15, Value.string (bsA t), Value.int IntKind.i64 0, Value.int IntKind.i64 a, Value.slice s l.length c] 24))) := Nd.new w n _ t _ a l s c hR hl
    obtain ⟨d0, d1, d2, d3, d4, -, -, -, -, -⟩ := HN.out.box
    have HID : Hid RIdSaid := hI
    clear hI
    clear hl hR
    go_enter Tryz.func66, Tryz.ntmps66
    go_wp2_with (first | (go_at_call 65; (refine (HID.out _ _ HN.out.rdy).mono ?_; rintro e w1 ⟨rfl, hb1⟩; clear d0 d1 d2 d3 d4; replace HN : Hid _ := HN.out.step hb1; obtain ⟨d0, d1, d2, d3, d4, -, -, -, -, -⟩ := HN.out.box)) | (go_at_call 73; (refine (rbare_any n _ _ _ _ l _ _ _ HN.out.rdy HN.out.kids).mono ?_; rintro e w1 ⟨rfl, hb1⟩; clear d0 d1 d2 d3 d4; replace HN : Hid _ := HN.out.step hb1; obtain ⟨d0, d1, d2, d3, d4, -, -, -, -, -⟩ := HN.out.box)))
    all_goals (go_ret; exact ⟨by simp_all [bsA_tl, beqI, beqL, nmeF, hidF], HN.out.bel⟩)
  · have HN : Hid (Nd w n 15 t m a l s c (w.alloc (Obj.cells #[Value.int IntKind.i64 15, Value.string (bsA t), Value.int IntKind.i64 m, Value.int IntKind.i64 a, Value.slice s l.length c] 24))) := Nd.new w n _ t _ a l s c hR hl
    obtain ⟨d0, d1, d2, d3, d4, -, -, -, -, -⟩ := HN.out.box
    have HID : Hid RIdSaid := hI
    clear hI
    clear hl hR
    go_enter Tryz.func66, Tryz.ntmps66
    go_wp2_with (first | (go_at_call 65; (refine (HID.out _ _ HN.out.rdy).mono ?_; rintro e w1 ⟨rfl, hb1⟩; clear d0 d1 d2 d3 d4; replace HN : Hid _ := HN.out.step hb1; obtain ⟨d0, d1, d2, d3, d4, -, -, -, -, -⟩ := HN.out.box)) | (go_at_call 73; (refine (rbare_any n _ _ _ _ l _ _ _ HN.out.rdy HN.out.kids).mono ?_; rintro e w1 ⟨rfl, hb1⟩; clear d0 d1 d2 d3 d4; replace HN : Hid _ := HN.out.step hb1; obtain ⟨d0, d1, d2, d3, d4, -, -, -, -, -⟩ := HN.out.box)))
    all_goals (go_ret; exact ⟨by simp_all [bsA_tl, beqI, beqL, nmeF, hidF], HN.out.bel⟩)
  · have HN : Hid (Nd w n k t 0 a l s c (w.alloc (Obj.cells #[Value.int IntKind.i64 k, Value.string (bsA t), Value.int IntKind.i64 0, Value.int IntKind.i64 a, Value.slice s l.length c] 24))) := Nd.new w n _ t _ a l s c hR hl
    obtain ⟨d0, d1, d2, d3, d4, -, -, -, -, -⟩ := HN.out.box
    have HID : Hid RIdSaid := hI
    clear hI
    clear hl hR
    go_enter Tryz.func66, Tryz.ntmps66
    go_wp2_with (first | (go_at_call 65; (refine (HID.out _ _ HN.out.rdy).mono ?_; rintro e w1 ⟨rfl, hb1⟩; clear d0 d1 d2 d3 d4; replace HN : Hid _ := HN.out.step hb1; obtain ⟨d0, d1, d2, d3, d4, -, -, -, -, -⟩ := HN.out.box)) | (go_at_call 73; (refine (rbare_any n _ _ _ _ l _ _ _ HN.out.rdy HN.out.kids).mono ?_; rintro e w1 ⟨rfl, hb1⟩; clear d0 d1 d2 d3 d4; replace HN : Hid _ := HN.out.step hb1; obtain ⟨d0, d1, d2, d3, d4, -, -, -, -, -⟩ := HN.out.box)))
    all_goals (go_ret; exact ⟨by simp_all [bsA_tl, beqI, beqL, nmeF, hidF], HN.out.bel⟩)
  · have HN : Hid (Nd w n k t m a l s c (w.alloc (Obj.cells #[Value.int IntKind.i64 k, Value.string (bsA t), Value.int IntKind.i64 m, Value.int IntKind.i64 a, Value.slice s l.length c] 24))) := Nd.new w n _ t _ a l s c hR hl
    obtain ⟨d0, d1, d2, d3, d4, -, -, -, -, -⟩ := HN.out.box
    have HID : Hid RIdSaid := hI
    clear hI
    clear hl hR
    go_enter Tryz.func66, Tryz.ntmps66
    go_wp2_with (first | (go_at_call 65; (refine (HID.out _ _ HN.out.rdy).mono ?_; rintro e w1 ⟨rfl, hb1⟩; clear d0 d1 d2 d3 d4; replace HN : Hid _ := HN.out.step hb1; obtain ⟨d0, d1, d2, d3, d4, -, -, -, -, -⟩ := HN.out.box)) | (go_at_call 73; (refine (rbare_any n _ _ _ _ l _ _ _ HN.out.rdy HN.out.kids).mono ?_; rintro e w1 ⟨rfl, hb1⟩; clear d0 d1 d2 d3 d4; replace HN : Hid _ := HN.out.step hb1; obtain ⟨d0, d1, d2, d3, d4, -, -, -, -, -⟩ := HN.out.box)))
    all_goals (go_ret; exact ⟨by simp_all [bsA_tl, beqI, beqL, nmeF, hidF], HN.out.bel⟩)
theorem rleaf_1 (n : Nat) (t : List UInt8) (m a : Int) (l : List (Tr n)) (s : Option Addr) (c : Nat) (w : World) (hR : Rdy w) (hl : KsG w n s c l) :
    Calls Tryz.prog 64 #[.agg #[.int .i64 1, .string (bsA t), .int .i64 m, .int .i64 a, .slice s l.length c]] w fun e w' => e = .returned (.bool (plainF t m)) ∧ Below w.heap.size w w' := by
  have HN : Hid (Nd w n 1 t m a l s c (w.alloc (Obj.cells #[Value.int IntKind.i64 1, Value.string (bsA t), Value.int IntKind.i64 m, Value.int IntKind.i64 a, Value.slice s l.length c] 24))) := Nd.new w n _ t _ a l s c hR hl
  obtain ⟨d0, d1, d2, d3, d4, -, -, -, -, -⟩ := HN.out.box
  clear hl hR
  go_enter Tryz.func64, Tryz.ntmps64
  go_wp2_with (first | (go_at_call 70; (refine (rplain_any n _ _ _ _ l _ _ _ HN.out.rdy HN.out.kids).mono ?_; rintro e w1 ⟨rfl, hb1⟩; clear d0 d1 d2 d3 d4; replace HN : Hid _ := HN.out.step hb1; obtain ⟨d0, d1, d2, d3, d4, -, -, -, -, -⟩ := HN.out.box)))
  all_goals (go_ret; exact ⟨by simp_all [bsA_tl, beqI, beqL], HN.out.bel⟩)
theorem rleaf_2 (n : Nat) (t : List UInt8) (m a : Int) (l : List (Tr n)) (s : Option Addr) (c : Nat) (w : World) (hR : Rdy w) (hl : KsG w n s c l) :
    Calls Tryz.prog 64 #[.agg #[.int .i64 2, .string (bsA t), .int .i64 m, .int .i64 a, .slice s l.length c]] w fun e w' => e = .returned (.bool (decide (t = []) && bitF m)) ∧ Below w.heap.size w w' := by
  have HN : Hid (Nd w n 2 t m a l s c (w.alloc (Obj.cells #[Value.int IntKind.i64 2, Value.string (bsA t), Value.int IntKind.i64 m, Value.int IntKind.i64 a, Value.slice s l.length c] 24))) := Nd.new w n _ t _ a l s c hR hl
  obtain ⟨d0, d1, d2, d3, d4, -, -, -, -, -⟩ := HN.out.box
  clear hl hR
  go_enter Tryz.func64, Tryz.ntmps64
  go_wp2_with (first | (go_at_call 69; (refine (rbit_any n _ _ _ _ l _ _ _ HN.out.rdy HN.out.kids).mono ?_; rintro e w1 ⟨rfl, hb1⟩; clear d0 d1 d2 d3 d4; replace HN : Hid _ := HN.out.step hb1; obtain ⟨d0, d1, d2, d3, d4, -, -, -, -, -⟩ := HN.out.box)))
  all_goals (go_ret; exact ⟨by simp_all [bsA_tl, beqI, beqL], HN.out.bel⟩)
theorem rleaf_3 (n : Nat) (t : List UInt8) (m a : Int) (l : List (Tr n)) (s : Option Addr) (c : Nat) (w : World) (hR : Rdy w) (hl : KsG w n s c l) :
    Calls Tryz.prog 64 #[.agg #[.int .i64 3, .string (bsA t), .int .i64 m, .int .i64 a, .slice s l.length c]] w fun e w' => e = .returned (.bool (decide (t = []) && decide (0 ≤ m))) ∧ Below w.heap.size w w' := by
  have HN : Hid (Nd w n 3 t m a l s c (w.alloc (Obj.cells #[Value.int IntKind.i64 3, Value.string (bsA t), Value.int IntKind.i64 m, Value.int IntKind.i64 a, Value.slice s l.length c] 24))) := Nd.new w n _ t _ a l s c hR hl
  obtain ⟨d0, d1, d2, d3, d4, -, -, -, -, -⟩ := HN.out.box
  clear hl hR
  go_enter Tryz.func64, Tryz.ntmps64
  go_wp2_with (first | fail)
  all_goals (go_ret; refine ⟨?_, HN.out.bel⟩; first | (simp_all [bsA_tl, bsA_size, beqI, beqL]; done) | (simp_all [bsA_tl, bsA_size, beqI, beqL]; intros; omega))
theorem rleaf_4 (n : Nat) (t : List UInt8) (m a : Int) (l : List (Tr n)) (s : Option Addr) (c : Nat) (w : World) (hR : Rdy w) (hl : KsG w n s c l) :
    Calls Tryz.prog 64 #[.agg #[.int .i64 4, .string (bsA t), .int .i64 m, .int .i64 a, .slice s l.length c]] w fun e w' => e = .returned (.bool (decide (t = []) && decide (0 ≤ m))) ∧ Below w.heap.size w w' := by
  have HN : Hid (Nd w n 4 t m a l s c (w.alloc (Obj.cells #[Value.int IntKind.i64 4, Value.string (bsA t), Value.int IntKind.i64 m, Value.int IntKind.i64 a, Value.slice s l.length c] 24))) := Nd.new w n _ t _ a l s c hR hl
  obtain ⟨d0, d1, d2, d3, d4, -, -, -, -, -⟩ := HN.out.box
  clear hl hR
  go_enter Tryz.func64, Tryz.ntmps64
  go_wp2_with (first | fail)
  all_goals (go_ret; refine ⟨?_, HN.out.bel⟩; first | (simp_all [bsA_tl, bsA_size, beqI, beqL]; done) | (simp_all [bsA_tl, bsA_size, beqI, beqL]; intros; omega))
theorem rleaf_5 (n : Nat) (t : List UInt8) (m a : Int) (l : List (Tr n)) (s : Option Addr) (c : Nat) (w : World) (hR : Rdy w) (hl : KsG w n s c l) (hx : t.length ≤ 1048576) :
    Calls Tryz.prog 64 #[.agg #[.int .i64 5, .string (bsA t), .int .i64 m, .int .i64 a, .slice s l.length c]] w fun e w' => e = .returned (.bool (decide (m = 0) && vdF t && decide ((t.length : Int) ≤ 1024))) ∧ Below w.heap.size w w' := by
  rcases Classical.em (m = 0) with rfl | h0
  · have HN : Hid (Nd w n 5 t 0 a l s c (w.alloc (Obj.cells #[Value.int IntKind.i64 5, Value.string (bsA t), Value.int IntKind.i64 0, Value.int IntKind.i64 a, Value.slice s l.length c] 24))) := Nd.new w n _ t _ a l s c hR hl
    obtain ⟨d0, d1, d2, d3, d4, -, -, -, -, -⟩ := HN.out.box
    clear hl hR
    go_enter Tryz.func64, Tryz.ntmps64
    go_wp2_with (first | (go_at_call 108; refine (rrun_any _ _ hx).mono ?_; rintro e w1 ⟨rfl, rfl⟩))
    all_goals (go_ret; refine ⟨?_, HN.out.bel⟩; first | (simp_all [bsA_tl, bsA_size, beqI, beqL]; done) | (simp_all [bsA_tl, bsA_size, beqI, beqL]; intros; omega))
  · have HN : Hid (Nd w n 5 t m a l s c (w.alloc (Obj.cells #[Value.int IntKind.i64 5, Value.string (bsA t), Value.int IntKind.i64 m, Value.int IntKind.i64 a, Value.slice s l.length c] 24))) := Nd.new w n _ t _ a l s c hR hl
    obtain ⟨d0, d1, d2, d3, d4, -, -, -, -, -⟩ := HN.out.box
    clear hl hR
    go_enter Tryz.func64, Tryz.ntmps64
    go_wp2_with (first | (go_at_call 108; refine (rrun_any _ _ hx).mono ?_; rintro e w1 ⟨rfl, rfl⟩))
    all_goals (go_ret; refine ⟨?_, HN.out.bel⟩; first | (simp_all [bsA_tl, bsA_size, beqI, beqL]; done) | (simp_all [bsA_tl, bsA_size, beqI, beqL]; intros; omega))
def lf1 (t : List UInt8) (m : Int) : Bool := plainF t m
theorem rexpr_1 (n : Nat) (t : List UInt8) (m a : Int) (l : List (Tr n)) (s : Option Addr) (c : Nat) (w : World) (hR : Rdy w) (hl : KsG w n s c l) (q0 : Bool) (g0 : ((l.length : Int) == 0) = q0) :
    Calls Tryz.prog 26 #[.agg #[.int .i64 1, .string (bsA t), .int .i64 m, .int .i64 a, .slice s l.length c]] w fun e w' => e = .returned (.bool (q0 && lf1 t m)) ∧ Below w.heap.size w w' := by
  have HN : Hid (Nd w n 1 t m a l s c (w.alloc (Obj.cells #[Value.int IntKind.i64 1, Value.string (bsA t), Value.int IntKind.i64 m, Value.int IntKind.i64 a, Value.slice s l.length c] 24))) := Nd.new w n _ t _ a l s c hR hl
  obtain ⟨d0, d1, d2, d3, d4, -, -, -, -, -⟩ := HN.out.box
  clear hl hR
  go_enter Tryz.func26, Tryz.ntmps26
  go_wp2_with (first | (go_at_call 64; (refine (rleaf_1 n t m _ l s c _ HN.out.rdy HN.out.kids).mono ?_; rintro e w1 ⟨rfl, hb1⟩; clear d0 d1 d2 d3 d4; replace HN : Hid _ := HN.out.step hb1; obtain ⟨d0, d1, d2, d3, d4, -, -, -, -, -⟩ := HN.out.box)))
  all_goals (go_ret; exact ⟨by simp_all [bsA_tl, beqI, beqL, lf1], HN.out.bel⟩)
def lf2 (t : List UInt8) (m : Int) : Bool := decide (t = []) && bitF m
theorem rexpr_2 (n : Nat) (t : List UInt8) (m a : Int) (l : List (Tr n)) (s : Option Addr) (c : Nat) (w : World) (hR : Rdy w) (hl : KsG w n s c l) (q0 : Bool) (g0 : ((l.length : Int) == 0) = q0) :
    Calls Tryz.prog 26 #[.agg #[.int .i64 2, .string (bsA t), .int .i64 m, .int .i64 a, .slice s l.length c]] w fun e w' => e = .returned (.bool (q0 && lf2 t m)) ∧ Below w.heap.size w w' := by
  have HN : Hid (Nd w n 2 t m a l s c (w.alloc (Obj.cells #[Value.int IntKind.i64 2, Value.string (bsA t), Value.int IntKind.i64 m, Value.int IntKind.i64 a, Value.slice s l.length c] 24))) := Nd.new w n _ t _ a l s c hR hl
  obtain ⟨d0, d1, d2, d3, d4, -, -, -, -, -⟩ := HN.out.box
  clear hl hR
  go_enter Tryz.func26, Tryz.ntmps26
  go_wp2_with (first | (go_at_call 64; (refine (rleaf_2 n t m _ l s c _ HN.out.rdy HN.out.kids).mono ?_; rintro e w1 ⟨rfl, hb1⟩; clear d0 d1 d2 d3 d4; replace HN : Hid _ := HN.out.step hb1; obtain ⟨d0, d1, d2, d3, d4, -, -, -, -, -⟩ := HN.out.box)))
  all_goals (go_ret; exact ⟨by simp_all [bsA_tl, beqI, beqL, lf2], HN.out.bel⟩)
def lf3 (t : List UInt8) (m : Int) : Bool := decide (t = []) && decide (0 ≤ m)
theorem rexpr_3 (n : Nat) (t : List UInt8) (m a : Int) (l : List (Tr n)) (s : Option Addr) (c : Nat) (w : World) (hR : Rdy w) (hl : KsG w n s c l) (q0 : Bool) (g0 : ((l.length : Int) == 0) = q0) :
    Calls Tryz.prog 26 #[.agg #[.int .i64 3, .string (bsA t), .int .i64 m, .int .i64 a, .slice s l.length c]] w fun e w' => e = .returned (.bool (q0 && lf3 t m)) ∧ Below w.heap.size w w' := by
  have HN : Hid (Nd w n 3 t m a l s c (w.alloc (Obj.cells #[Value.int IntKind.i64 3, Value.string (bsA t), Value.int IntKind.i64 m, Value.int IntKind.i64 a, Value.slice s l.length c] 24))) := Nd.new w n _ t _ a l s c hR hl
  obtain ⟨d0, d1, d2, d3, d4, -, -, -, -, -⟩ := HN.out.box
  clear hl hR
  go_enter Tryz.func26, Tryz.ntmps26
  go_wp2_with (first | (go_at_call 64; (refine (rleaf_3 n t m _ l s c _ HN.out.rdy HN.out.kids).mono ?_; rintro e w1 ⟨rfl, hb1⟩; clear d0 d1 d2 d3 d4; replace HN : Hid _ := HN.out.step hb1; obtain ⟨d0, d1, d2, d3, d4, -, -, -, -, -⟩ := HN.out.box)))
  all_goals (go_ret; exact ⟨by simp_all [bsA_tl, beqI, beqL, lf3], HN.out.bel⟩)
def lf4 (t : List UInt8) (m : Int) : Bool := decide (t = []) && decide (0 ≤ m)
theorem rexpr_4 (n : Nat) (t : List UInt8) (m a : Int) (l : List (Tr n)) (s : Option Addr) (c : Nat) (w : World) (hR : Rdy w) (hl : KsG w n s c l) (q0 : Bool) (g0 : ((l.length : Int) == 0) = q0) :
    Calls Tryz.prog 26 #[.agg #[.int .i64 4, .string (bsA t), .int .i64 m, .int .i64 a, .slice s l.length c]] w fun e w' => e = .returned (.bool (q0 && lf4 t m)) ∧ Below w.heap.size w w' := by
  have HN : Hid (Nd w n 4 t m a l s c (w.alloc (Obj.cells #[Value.int IntKind.i64 4, Value.string (bsA t), Value.int IntKind.i64 m, Value.int IntKind.i64 a, Value.slice s l.length c] 24))) := Nd.new w n _ t _ a l s c hR hl
  obtain ⟨d0, d1, d2, d3, d4, -, -, -, -, -⟩ := HN.out.box
  clear hl hR
  go_enter Tryz.func26, Tryz.ntmps26
  go_wp2_with (first | (go_at_call 64; (refine (rleaf_4 n t m _ l s c _ HN.out.rdy HN.out.kids).mono ?_; rintro e w1 ⟨rfl, hb1⟩; clear d0 d1 d2 d3 d4; replace HN : Hid _ := HN.out.step hb1; obtain ⟨d0, d1, d2, d3, d4, -, -, -, -, -⟩ := HN.out.box)))
  all_goals (go_ret; exact ⟨by simp_all [bsA_tl, beqI, beqL, lf4], HN.out.bel⟩)
def lf5 (t : List UInt8) (m : Int) : Bool := decide (m = 0) && vdF t && decide ((t.length : Int) ≤ 1024)
theorem rexpr_5 (n : Nat) (t : List UInt8) (m a : Int) (l : List (Tr n)) (s : Option Addr) (c : Nat) (w : World) (hR : Rdy w) (hl : KsG w n s c l) (q0 : Bool) (g0 : ((l.length : Int) == 0) = q0) (hx : t.length ≤ 1048576) :
    Calls Tryz.prog 26 #[.agg #[.int .i64 5, .string (bsA t), .int .i64 m, .int .i64 a, .slice s l.length c]] w fun e w' => e = .returned (.bool (q0 && lf5 t m)) ∧ Below w.heap.size w w' := by
  have HN : Hid (Nd w n 5 t m a l s c (w.alloc (Obj.cells #[Value.int IntKind.i64 5, Value.string (bsA t), Value.int IntKind.i64 m, Value.int IntKind.i64 a, Value.slice s l.length c] 24))) := Nd.new w n _ t _ a l s c hR hl
  obtain ⟨d0, d1, d2, d3, d4, -, -, -, -, -⟩ := HN.out.box
  clear hl hR
  go_enter Tryz.func26, Tryz.ntmps26
  go_wp2_with (first | (go_at_call 64; (refine (rleaf_5 n t m _ l s c _ HN.out.rdy HN.out.kids hx).mono ?_; rintro e w1 ⟨rfl, hb1⟩; clear d0 d1 d2 d3 d4; replace HN : Hid _ := HN.out.step hb1; obtain ⟨d0, d1, d2, d3, d4, -, -, -, -, -⟩ := HN.out.box)))
  all_goals (go_ret; exact ⟨by simp_all [bsA_tl, beqI, beqL, lf5], HN.out.bel⟩)
theorem rexpr_7 (n : Nat) (t : List UInt8) (m a : Int) (l : List (Tr n)) (s : Option Addr) (c : Nat) (w : World) (hR : Rdy w) (hl : KsG w n s c l) (q1 : Bool) (g1 : ((l.length : Int) == 1) = q1) (E : Tr n → Bool) (hE : RM 26 n E w) (hT : ∀ y ∈ l, Txs n y) :
    Calls Tryz.prog 26 #[.agg #[.int .i64 7, .string (bsA t), .int .i64 m, .int .i64 a, .slice s l.length c]] w fun e w' => e = .returned (.bool (decide (m = 0) && inF [[45], [110, 111, 116]] t && q1 && allF n l E)) ∧ Below w.heap.size w w' := by
  rcases Classical.em (m = 0) with rfl | h0
  · have HN : Hid (Nd w n 7 t 0 a l s c (w.alloc (Obj.cells #[Value.int IntKind.i64 7, Value.string (bsA t), Value.int IntKind.i64 0, Value.int IntKind.i64 a, Value.slice s l.length c] 24))) := Nd.new w n _ t _ a l s c hR hl
    obtain ⟨d0, d1, d2, d3, d4, -, -, -, -, -⟩ := HN.out.box
    have HM : Hid (RM 26 n E w) := hE
    have HT : Hid (∀ y ∈ l, Txs n y) := hT
    clear hE hT
    clear hl hR
    go_enter Tryz.func26, Tryz.ntmps26
    go_wp2_with (first | (go_at_call 67; (refine (rin_b t [[45], [110, 111, 116]] _ _ _ _ _ rfl rfl (by simp) (by decide)).mono ?_; rintro e w1 ⟨rfl, hb1⟩; clear d0 d1 d2 d3 d4; replace HN : Hid _ := HN.out.step hb1; obtain ⟨d0, d1, d2, d3, d4, -, -, -, -, -⟩ := HN.out.box)) | (go_at_call 68; (refine (rexprs_q n l s c E _ HN.out.kids (HM.out.below HN.out.bel) HT.out).mono ?_; rintro e w1 ⟨rfl, hb1⟩; clear d0 d1 d2 d3 d4; replace HN : Hid _ := HN.out.step hb1; obtain ⟨d0, d1, d2, d3, d4, -, -, -, -, -⟩ := HN.out.box)))
    all_goals (go_ret; exact ⟨by simp_all [bsA_tl, beqI, beqL], HN.out.bel⟩)
  · have HN : Hid (Nd w n 7 t m a l s c (w.alloc (Obj.cells #[Value.int IntKind.i64 7, Value.string (bsA t), Value.int IntKind.i64 m, Value.int IntKind.i64 a, Value.slice s l.length c] 24))) := Nd.new w n _ t _ a l s c hR hl
    obtain ⟨d0, d1, d2, d3, d4, -, -, -, -, -⟩ := HN.out.box
    have HM : Hid (RM 26 n E w) := hE
    have HT : Hid (∀ y ∈ l, Txs n y) := hT
    clear hE hT
    clear hl hR
    go_enter Tryz.func26, Tryz.ntmps26
    go_wp2_with (first | (go_at_call 67; (refine (rin_b t [[45], [110, 111, 116]] _ _ _ _ _ rfl rfl (by simp) (by decide)).mono ?_; rintro e w1 ⟨rfl, hb1⟩; clear d0 d1 d2 d3 d4; replace HN : Hid _ := HN.out.step hb1; obtain ⟨d0, d1, d2, d3, d4, -, -, -, -, -⟩ := HN.out.box)) | (go_at_call 68; (refine (rexprs_q n l s c E _ HN.out.kids (HM.out.below HN.out.bel) HT.out).mono ?_; rintro e w1 ⟨rfl, hb1⟩; clear d0 d1 d2 d3 d4; replace HN : Hid _ := HN.out.step hb1; obtain ⟨d0, d1, d2, d3, d4, -, -, -, -, -⟩ := HN.out.box)))
    all_goals (go_ret; exact ⟨by simp_all [bsA_tl, beqI, beqL], HN.out.bel⟩)
theorem rexpr_8 (n : Nat) (t : List UInt8) (m a : Int) (l : List (Tr n)) (s : Option Addr) (c : Nat) (w : World) (hR : Rdy w) (hl : KsG w n s c l) (q2 : Bool) (g2 : ((l.length : Int) == 2) = q2) (E : Tr n → Bool) (hE : RM 26 n E w) (hT : ∀ y ∈ l, Txs n y) :
    Calls Tryz.prog 26 #[.agg #[.int .i64 8, .string (bsA t), .int .i64 m, .int .i64 a, .slice s l.length c]] w fun e w' => e = .returned (.bool (decide (m = 0) && inF infL t && q2 && allF n l E)) ∧ Below w.heap.size w w' := by
  rcases Classical.em (m = 0) with rfl | h0
  · have HN : Hid (Nd w n 8 t 0 a l s c (w.alloc (Obj.cells #[Value.int IntKind.i64 8, Value.string (bsA t), Value.int IntKind.i64 0, Value.int IntKind.i64 a, Value.slice s l.length c] 24))) := Nd.new w n _ t _ a l s c hR hl
    obtain ⟨d0, d1, d2, d3, d4, -, -, -, -, -⟩ := HN.out.box
    have HM : Hid (RM 26 n E w) := hE
    have HT : Hid (∀ y ∈ l, Txs n y) := hT
    clear hE hT
    clear hl hR
    go_enter Tryz.func26, Tryz.ntmps26
    go_wp2_with (first | (go_at_call 67; (refine (rin_b t infL _ _ _ _ _ rfl rfl (by simp) (by decide)).mono ?_; rintro e w1 ⟨rfl, hb1⟩; clear d0 d1 d2 d3 d4; replace HN : Hid _ := HN.out.step hb1; obtain ⟨d0, d1, d2, d3, d4, -, -, -, -, -⟩ := HN.out.box)) | (go_at_call 68; (refine (rexprs_q n l s c E _ HN.out.kids (HM.out.below HN.out.bel) HT.out).mono ?_; rintro e w1 ⟨rfl, hb1⟩; clear d0 d1 d2 d3 d4; replace HN : Hid _ := HN.out.step hb1; obtain ⟨d0, d1, d2, d3, d4, -, -, -, -, -⟩ := HN.out.box)))
    all_goals (go_ret; exact ⟨by simp_all [bsA_tl, beqI, beqL], HN.out.bel⟩)
  · have HN : Hid (Nd w n 8 t m a l s c (w.alloc (Obj.cells #[Value.int IntKind.i64 8, Value.string (bsA t), Value.int IntKind.i64 m, Value.int IntKind.i64 a, Value.slice s l.length c] 24))) := Nd.new w n _ t _ a l s c hR hl
    obtain ⟨d0, d1, d2, d3, d4, -, -, -, -, -⟩ := HN.out.box
    have HM : Hid (RM 26 n E w) := hE
    have HT : Hid (∀ y ∈ l, Txs n y) := hT
    clear hE hT
    clear hl hR
    go_enter Tryz.func26, Tryz.ntmps26
    go_wp2_with (first | (go_at_call 67; (refine (rin_b t infL _ _ _ _ _ rfl rfl (by simp) (by decide)).mono ?_; rintro e w1 ⟨rfl, hb1⟩; clear d0 d1 d2 d3 d4; replace HN : Hid _ := HN.out.step hb1; obtain ⟨d0, d1, d2, d3, d4, -, -, -, -, -⟩ := HN.out.box)) | (go_at_call 68; (refine (rexprs_q n l s c E _ HN.out.kids (HM.out.below HN.out.bel) HT.out).mono ?_; rintro e w1 ⟨rfl, hb1⟩; clear d0 d1 d2 d3 d4; replace HN : Hid _ := HN.out.step hb1; obtain ⟨d0, d1, d2, d3, d4, -, -, -, -, -⟩ := HN.out.box)))
    all_goals (go_ret; exact ⟨by simp_all [bsA_tl, beqI, beqL], HN.out.bel⟩)
theorem rexpr_9 (n : Nat) (t : List UInt8) (m a : Int) (l : List (Tr n)) (s : Option Addr) (c : Nat) (w : World) (hR : Rdy w) (hl : KsG w n s c l) (q1 : Bool) (g1 : ((l.length : Int) == 1) = q1) (E : Tr n → Bool) (hE : RM 26 n E w) (hT : ∀ y ∈ l, Txs n y) :
    Calls Tryz.prog 26 #[.agg #[.int .i64 9, .string (bsA t), .int .i64 m, .int .i64 a, .slice s l.length c]] w fun e w' => e = .returned (.bool (decide (t = []) && bitF m && q1 && allF n l E)) ∧ Below w.heap.size w w' := by
  have HN : Hid (Nd w n 9 t m a l s c (w.alloc (Obj.cells #[Value.int IntKind.i64 9, Value.string (bsA t), Value.int IntKind.i64 m, Value.int IntKind.i64 a, Value.slice s l.length c] 24))) := Nd.new w n _ t _ a l s c hR hl
  obtain ⟨d0, d1, d2, d3, d4, -, -, -, -, -⟩ := HN.out.box
  have HM : Hid (RM 26 n E w) := hE
  have HT : Hid (∀ y ∈ l, Txs n y) := hT
  clear hE hT
  clear hl hR
  go_enter Tryz.func26, Tryz.ntmps26
  go_wp2_with (first | (go_at_call 69; (refine (rbit_any n _ _ _ _ l _ _ _ HN.out.rdy HN.out.kids).mono ?_; rintro e w1 ⟨rfl, hb1⟩; clear d0 d1 d2 d3 d4; replace HN : Hid _ := HN.out.step hb1; obtain ⟨d0, d1, d2, d3, d4, -, -, -, -, -⟩ := HN.out.box)) | (go_at_call 68; (refine (rexprs_q n l s c E _ HN.out.kids (HM.out.below HN.out.bel) HT.out).mono ?_; rintro e w1 ⟨rfl, hb1⟩; clear d0 d1 d2 d3 d4; replace HN : Hid _ := HN.out.step hb1; obtain ⟨d0, d1, d2, d3, d4, -, -, -, -, -⟩ := HN.out.box)))
  all_goals (go_ret; exact ⟨by simp_all [bsA_tl, beqI, beqL], HN.out.bel⟩)
theorem rexpr_10 (n : Nat) (t : List UInt8) (m a : Int) (l : List (Tr n)) (s : Option Addr) (c : Nat) (w : World) (hR : Rdy w) (hl : KsG w n s c l) (q3 : Bool) (g3 : ((l.length : Int) == 3) = q3) (E : Tr n → Bool) (hE : RM 26 n E w) (hT : ∀ y ∈ l, Txs n y) :
    Calls Tryz.prog 26 #[.agg #[.int .i64 10, .string (bsA t), .int .i64 m, .int .i64 a, .slice s l.length c]] w fun e w' => e = .returned (.bool (plainF t m && q3 && allF n l E)) ∧ Below w.heap.size w w' := by
  have HN : Hid (Nd w n 10 t m a l s c (w.alloc (Obj.cells #[Value.int IntKind.i64 10, Value.string (bsA t), Value.int IntKind.i64 m, Value.int IntKind.i64 a, Value.slice s l.length c] 24))) := Nd.new w n _ t _ a l s c hR hl
  obtain ⟨d0, d1, d2, d3, d4, -, -, -, -, -⟩ := HN.out.box
  have HM : Hid (RM 26 n E w) := hE
  have HT : Hid (∀ y ∈ l, Txs n y) := hT
  clear hE hT
  clear hl hR
  go_enter Tryz.func26, Tryz.ntmps26
  go_wp2_with (first | (go_at_call 70; (refine (rplain_any n _ _ _ _ l _ _ _ HN.out.rdy HN.out.kids).mono ?_; rintro e w1 ⟨rfl, hb1⟩; clear d0 d1 d2 d3 d4; replace HN : Hid _ := HN.out.step hb1; obtain ⟨d0, d1, d2, d3, d4, -, -, -, -, -⟩ := HN.out.box)) | (go_at_call 68; (refine (rexprs_q n l s c E _ HN.out.kids (HM.out.below HN.out.bel) HT.out).mono ?_; rintro e w1 ⟨rfl, hb1⟩; clear d0 d1 d2 d3 d4; replace HN : Hid _ := HN.out.step hb1; obtain ⟨d0, d1, d2, d3, d4, -, -, -, -, -⟩ := HN.out.box)))
  all_goals (go_ret; exact ⟨by simp_all [bsA_tl, beqI, beqL], HN.out.bel⟩)
theorem rexpr_11 (n : Nat) (t : List UInt8) (m a : Int) (l : List (Tr n)) (s : Option Addr) (c : Nat) (w : World) (hR : Rdy w) (hl : KsG w n s c l) (E : Tr n → Bool) (hE : RM 26 n E w) (hT : ∀ y ∈ l, Txs n y) :
    Calls Tryz.prog 26 #[.agg #[.int .i64 11, .string (bsA t), .int .i64 m, .int .i64 a, .slice s l.length c]] w fun e w' => e = .returned (.bool (plainF t m && decide (2 ≤ (l.length : Int)) && allF n l E)) ∧ Below w.heap.size w w' := by
  have HN : Hid (Nd w n 11 t m a l s c (w.alloc (Obj.cells #[Value.int IntKind.i64 11, Value.string (bsA t), Value.int IntKind.i64 m, Value.int IntKind.i64 a, Value.slice s l.length c] 24))) := Nd.new w n _ t _ a l s c hR hl
  obtain ⟨d0, d1, d2, d3, d4, -, -, -, -, -⟩ := HN.out.box
  have HM : Hid (RM 26 n E w) := hE
  have HT : Hid (∀ y ∈ l, Txs n y) := hT
  clear hE hT
  clear hl hR
  go_enter Tryz.func26, Tryz.ntmps26
  go_wp2_with (first | (go_at_call 70; (refine (rplain_any n _ _ _ _ l _ _ _ HN.out.rdy HN.out.kids).mono ?_; rintro e w1 ⟨rfl, hb1⟩; clear d0 d1 d2 d3 d4; replace HN : Hid _ := HN.out.step hb1; obtain ⟨d0, d1, d2, d3, d4, -, -, -, -, -⟩ := HN.out.box)) | (go_at_call 68; (refine (rexprs_q n l s c E _ HN.out.kids (HM.out.below HN.out.bel) HT.out).mono ?_; rintro e w1 ⟨rfl, hb1⟩; clear d0 d1 d2 d3 d4; replace HN : Hid _ := HN.out.step hb1; obtain ⟨d0, d1, d2, d3, d4, -, -, -, -, -⟩ := HN.out.box)))
  all_goals (go_ret; refine ⟨?_, HN.out.bel⟩; first | (simp_all [bsA_tl, bsA_size, beqI, beqL]; done) | (simp_all [bsA_tl, bsA_size, beqI, beqL]; intros; omega))
theorem rexpr_12 (n : Nat) (t : List UInt8) (m a : Int) (l : List (Tr n)) (s : Option Addr) (c : Nat) (w : World) (hR : Rdy w) (hl : KsG w n s c l) (E : Tr n → Bool) (hE : RM 26 n E w) (hT : ∀ y ∈ l, Txs n y) :
    Calls Tryz.prog 26 #[.agg #[.int .i64 12, .string (bsA t), .int .i64 m, .int .i64 a, .slice s l.length c]] w fun e w' => e = .returned (.bool (plainF t m && decide (3 ≤ (l.length : Int)) && oddF n l && allF n l E)) ∧ Below w.heap.size w w' := by
  have HN : Hid (Nd w n 12 t m a l s c (w.alloc (Obj.cells #[Value.int IntKind.i64 12, Value.string (bsA t), Value.int IntKind.i64 m, Value.int IntKind.i64 a, Value.slice s l.length c] 24))) := Nd.new w n _ t _ a l s c hR hl
  obtain ⟨d0, d1, d2, d3, d4, -, -, -, -, -⟩ := HN.out.box
  have HM : Hid (RM 26 n E w) := hE
  have HT : Hid (∀ y ∈ l, Txs n y) := hT
  clear hE hT
  clear hl hR
  go_enter Tryz.func26, Tryz.ntmps26
  go_wp2_with (first | (go_at_call 70; (refine (rplain_any n _ _ _ _ l _ _ _ HN.out.rdy HN.out.kids).mono ?_; rintro e w1 ⟨rfl, hb1⟩; clear d0 d1 d2 d3 d4; replace HN : Hid _ := HN.out.step hb1; obtain ⟨d0, d1, d2, d3, d4, -, -, -, -, -⟩ := HN.out.box)) | (go_at_call 68; (refine (rexprs_q n l s c E _ HN.out.kids (HM.out.below HN.out.bel) HT.out).mono ?_; rintro e w1 ⟨rfl, hb1⟩; clear d0 d1 d2 d3 d4; replace HN : Hid _ := HN.out.step hb1; obtain ⟨d0, d1, d2, d3, d4, -, -, -, -, -⟩ := HN.out.box)))
  all_goals (go_ret; refine ⟨?_, HN.out.bel⟩; first | (simp_all [bsA_tl, bsA_size, beqI, beqL, oddF]; done) | (simp_all [bsA_tl, bsA_size, beqI, beqL, oddF]; intros; omega))
theorem rexpr_13 (n : Nat) (t : List UInt8) (m a : Int) (l : List (Tr n)) (s : Option Addr) (c : Nat) (w : World) (hR : Rdy w) (hl : KsG w n s c l) (hI : RIdSaid) (E : Tr n → Bool) (hE : RM 26 n E w) (hT : ∀ y ∈ l, Txs n y) :
    Calls Tryz.prog 26 #[.agg #[.int .i64 13, .string (bsA t), .int .i64 m, .int .i64 a, .slice s l.length c]] w fun e w' => e = .returned (.bool (idC t && decide (m = 0) && allF n l E)) ∧ Below w.heap.size w w' := by
  rcases Classical.em (m = 0) with rfl | h0
  · have HN : Hid (Nd w n 13 t 0 a l s c (w.alloc (Obj.cells #[Value.int IntKind.i64 13, Value.string (bsA t), Value.int IntKind.i64 0, Value.int IntKind.i64 a, Value.slice s l.length c] 24))) := Nd.new w n _ t _ a l s c hR hl
    obtain ⟨d0, d1, d2, d3, d4, -, -, -, -, -⟩ := HN.out.box
    have HID : Hid RIdSaid := hI
    clear hI
    have HM : Hid (RM 26 n E w) := hE
    have HT : Hid (∀ y ∈ l, Txs n y) := hT
    clear hE hT
    clear hl hR
    go_enter Tryz.func26, Tryz.ntmps26
    go_wp2_with (first | (go_at_call 65; (refine (HID.out _ _ HN.out.rdy).mono ?_; rintro e w1 ⟨rfl, hb1⟩; clear d0 d1 d2 d3 d4; replace HN : Hid _ := HN.out.step hb1; obtain ⟨d0, d1, d2, d3, d4, -, -, -, -, -⟩ := HN.out.box)) | (go_at_call 68; (refine (rexprs_q n l s c E _ HN.out.kids (HM.out.below HN.out.bel) HT.out).mono ?_; rintro e w1 ⟨rfl, hb1⟩; clear d0 d1 d2 d3 d4; replace HN : Hid _ := HN.out.step hb1; obtain ⟨d0, d1, d2, d3, d4, -, -, -, -, -⟩ := HN.out.box)))
    all_goals (go_ret; exact ⟨by simp_all [bsA_tl, beqI, beqL], HN.out.bel⟩)
  · have HN : Hid (Nd w n 13 t m a l s c (w.alloc (Obj.cells #[Value.int IntKind.i64 13, Value.string (bsA t), Value.int IntKind.i64 m, Value.int IntKind.i64 a, Value.slice s l.length c] 24))) := Nd.new w n _ t _ a l s c hR hl
    obtain ⟨d0, d1, d2, d3, d4, -, -, -, -, -⟩ := HN.out.box
    have HID : Hid RIdSaid := hI
    clear hI
    have HM : Hid (RM 26 n E w) := hE
    have HT : Hid (∀ y ∈ l, Txs n y) := hT
    clear hE hT
    clear hl hR
    go_enter Tryz.func26, Tryz.ntmps26
    go_wp2_with (first | (go_at_call 65; (refine (HID.out _ _ HN.out.rdy).mono ?_; rintro e w1 ⟨rfl, hb1⟩; clear d0 d1 d2 d3 d4; replace HN : Hid _ := HN.out.step hb1; obtain ⟨d0, d1, d2, d3, d4, -, -, -, -, -⟩ := HN.out.box)) | (go_at_call 68; (refine (rexprs_q n l s c E _ HN.out.kids (HM.out.below HN.out.bel) HT.out).mono ?_; rintro e w1 ⟨rfl, hb1⟩; clear d0 d1 d2 d3 d4; replace HN : Hid _ := HN.out.step hb1; obtain ⟨d0, d1, d2, d3, d4, -, -, -, -, -⟩ := HN.out.box)))
    all_goals (go_ret; exact ⟨by simp_all [bsA_tl, beqI, beqL], HN.out.bel⟩)
theorem rexpr_14a (n : Nat) (t : List UInt8) (m a : Int) (l : List (Tr n)) (s : Option Addr) (c : Nat) (w : World) (hR : Rdy w) (hl : KsG w n s c l) (hi : inF aggL t = false) :
    Calls Tryz.prog 26 #[.agg #[.int .i64 14, .string (bsA t), .int .i64 m, .int .i64 a, .slice s l.length c]] w fun e w' => e = .returned (.bool (false)) ∧ Below w.heap.size w w' := by
  have HN : Hid (Nd w n 14 t m a l s c (w.alloc (Obj.cells #[Value.int IntKind.i64 14, Value.string (bsA t), Value.int IntKind.i64 m, Value.int IntKind.i64 a, Value.slice s l.length c] 24))) := Nd.new w n _ t _ a l s c hR hl
  obtain ⟨d0, d1, d2, d3, d4, -, -, -, -, -⟩ := HN.out.box
  have HIN : Hid _ := hi
  clear hi
  clear hl hR
  go_enter Tryz.func26, Tryz.ntmps26
  go_wp2_with (first | (go_at_call 67; refine (rin_b t aggL _ _ _ _ _ rfl rfl (by simp) (by decide)).mono ?_; rintro e w1 ⟨rfl, hb1⟩; rw [HIN.out]; clear d0 d1 d2 d3 d4; replace HN : Hid _ := HN.out.step hb1; obtain ⟨d0, d1, d2, d3, d4, -, -, -, -, -⟩ := HN.out.box))
  all_goals (go_ret; exact ⟨rfl, HN.out.bel⟩)
theorem rexpr_14b (n : Nat) (t : List UInt8) (m a : Int) (l : List (Tr n)) (s : Option Addr) (c : Nat) (w : World) (hR : Rdy w) (hl : KsG w n s c l) (hi : inF aggL t = true) (hb : bitF m = false) :
    Calls Tryz.prog 26 #[.agg #[.int .i64 14, .string (bsA t), .int .i64 m, .int .i64 a, .slice s l.length c]] w fun e w' => e = .returned (.bool (false)) ∧ Below w.heap.size w w' := by
  have HN : Hid (Nd w n 14 t m a l s c (w.alloc (Obj.cells #[Value.int IntKind.i64 14, Value.string (bsA t), Value.int IntKind.i64 m, Value.int IntKind.i64 a, Value.slice s l.length c] 24))) := Nd.new w n _ t _ a l s c hR hl
  obtain ⟨d0, d1, d2, d3, d4, -, -, -, -, -⟩ := HN.out.box
  have HIN : Hid _ := hi
  have HBT : Hid _ := hb
  clear hi hb
  clear hl hR
  go_enter Tryz.func26, Tryz.ntmps26
  go_wp2_with (first | (go_at_call 67; refine (rin_b t aggL _ _ _ _ _ rfl rfl (by simp) (by decide)).mono ?_; rintro e w1 ⟨rfl, hb1⟩; rw [HIN.out]; clear d0 d1 d2 d3 d4; replace HN : Hid _ := HN.out.step hb1; obtain ⟨d0, d1, d2, d3, d4, -, -, -, -, -⟩ := HN.out.box) | (go_at_call 69; refine (rbit_any n _ _ _ _ l _ _ _ HN.out.rdy HN.out.kids).mono ?_; rintro e w1 ⟨rfl, hb1⟩; rw [HBT.out]; clear d0 d1 d2 d3 d4; replace HN : Hid _ := HN.out.step hb1; obtain ⟨d0, d1, d2, d3, d4, -, -, -, -, -⟩ := HN.out.box))
  all_goals (go_ret; exact ⟨rfl, HN.out.bel⟩)
theorem rexpr_14c (n : Nat) (t : List UInt8) (m a : Int) (l : List (Tr n)) (s : Option Addr) (c : Nat) (w : World) (hR : Rdy w) (hl : KsG w n s c l) (hi : inF aggL t = true) (hb : bitF m = true) (q0 : Bool) (g0 : ((l.length : Int) == 0) = q0) (q1 : Bool) (g1 : ((l.length : Int) == 1) = q1) (qc : Bool) (gc : ((bsA t).toList == [99, 111, 117, 110, 116]) = qc) (qm : Bool) (gm : (m == 0) = qm) (E : Tr n → Bool) (hE : RM 26 n E w) (hT : ∀ y ∈ l, Txs n y) :
    Calls Tryz.prog 26 #[.agg #[.int .i64 14, .string (bsA t), .int .i64 m, .int .i64 a, .slice s l.length c]] w fun e w' => e = .returned (.bool (q1 && allF n l E || q0 && qc && qm)) ∧ Below w.heap.size w w' := by
  have HN : Hid (Nd w n 14 t m a l s c (w.alloc (Obj.cells #[Value.int IntKind.i64 14, Value.string (bsA t), Value.int IntKind.i64 m, Value.int IntKind.i64 a, Value.slice s l.length c] 24))) := Nd.new w n _ t _ a l s c hR hl
  obtain ⟨d0, d1, d2, d3, d4, -, -, -, -, -⟩ := HN.out.box
  have HIN : Hid _ := hi
  have HBT : Hid _ := hb
  clear hi hb
  have HM : Hid (RM 26 n E w) := hE
  have HT : Hid (∀ y ∈ l, Txs n y) := hT
  clear hE hT
  clear hl hR
  go_enter Tryz.func26, Tryz.ntmps26
  go_wp2_with (first | (go_at_call 67; refine (rin_b t aggL _ _ _ _ _ rfl rfl (by simp) (by decide)).mono ?_; rintro e w1 ⟨rfl, hb1⟩; rw [HIN.out]; clear d0 d1 d2 d3 d4; replace HN : Hid _ := HN.out.step hb1; obtain ⟨d0, d1, d2, d3, d4, -, -, -, -, -⟩ := HN.out.box) | (go_at_call 69; refine (rbit_any n _ _ _ _ l _ _ _ HN.out.rdy HN.out.kids).mono ?_; rintro e w1 ⟨rfl, hb1⟩; rw [HBT.out]; clear d0 d1 d2 d3 d4; replace HN : Hid _ := HN.out.step hb1; obtain ⟨d0, d1, d2, d3, d4, -, -, -, -, -⟩ := HN.out.box) | (go_at_call 68; (refine (rexprs_q n l s c E _ HN.out.kids (HM.out.below HN.out.bel) HT.out).mono ?_; rintro e w1 ⟨rfl, hb1⟩; clear d0 d1 d2 d3 d4; replace HN : Hid _ := HN.out.step hb1; obtain ⟨d0, d1, d2, d3, d4, -, -, -, -, -⟩ := HN.out.box)))
  all_goals (go_ret; exact ⟨by simp_all, HN.out.bel⟩)
theorem rexpr_x (n : Nat) (k : Int) (t : List UInt8) (m a : Int) (l : List (Tr n)) (s : Option Addr) (c : Nat) (w : World) (hR : Rdy w) (hl : KsG w n s c l) (h1 : (k == 1) = false) (h2 : (k == 2) = false) (h3 : (k == 3) = false) (h4 : (k == 4) = false) (h5 : (k == 5) = false) (h6 : (k == 6) = false) (h7 : (k == 7) = false) (h8 : (k == 8) = false) (h9 : (k == 9) = false) (h10 : (k == 10) = false) (h11 : (k == 11) = false) (h12 : (k == 12) = false) (h13 : (k == 13) = false) (h14 : (k == 14) = false) :
    Calls Tryz.prog 26 #[.agg #[.int .i64 k, .string (bsA t), .int .i64 m, .int .i64 a, .slice s l.length c]] w fun e w' => e = .returned (.bool (false)) ∧ Below w.heap.size w w' := by
  have HN : Hid (Nd w n k t m a l s c (w.alloc (Obj.cells #[Value.int IntKind.i64 k, Value.string (bsA t), Value.int IntKind.i64 m, Value.int IntKind.i64 a, Value.slice s l.length c] 24))) := Nd.new w n _ t _ a l s c hR hl
  obtain ⟨d0, d1, d2, d3, d4, -, -, -, -, -⟩ := HN.out.box
  clear hl hR
  go_enter Tryz.func26, Tryz.ntmps26
  go_wp2_with (first | fail)
  all_goals (go_ret; exact ⟨by simp_all [bsA_tl, beqI, beqL], HN.out.bel⟩)
end Go.Proofs.YtcemogaacicnfaaGreatDoor
