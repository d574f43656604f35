/- An expression or none, a name or none: by the document. -/
import Derived.Test.YtcemogaacicnfaaGreatDoorRf3
namespace Go.Proofs.YtcemogaacicnfaaGreatDoor
set_option linter.unusedSimpArgs false
set_option maxRecDepth 20000
set_option maxHeartbeats 4000000
open Go.ChangeShapes Go.WideShapes Go.ChangeAt Go.RowKit

theorem rexo_any (n : Nat) (k : Int) (t : List UInt8) (m a : Int) (l : List (Tr n)) (s : Option Addr) (c : Nat) (w : World) (hR : Rdy w) (hl : KsG w n s c l) (hI : RIdSaid) (hT : ∀ y ∈ l, Txs n y) (hx : t.length ≤ 1048576) :
    Calls Tryz.prog 71 #[.agg #[.int .i64 k, .string (bsA t), .int .i64 m, .int .i64 a, .slice s l.length c]] w fun e w' => e = .returned (.bool (noneF n k t m l || exF n k t m l (exprP n))) ∧ Below w.heap.size w w' := by
  have HN : Hid (Nd w n k t m a l s c (w.alloc (Obj.cells #[Value.int IntKind.i64 k, Value.string (bsA t), Value.int IntKind.i64 m, Value.int IntKind.i64 a, Value.slice s l.length c] 24))) := Nd.new w n _ t _ a l s c hR hl
  obtain ⟨d0, d1, d2, d3, d4, -, -, -, -, -⟩ := HN.out.box
  have HID : Hid RIdSaid := hI
  have HT : Hid (∀ y ∈ l, Txs n y) := hT
  clear hI hT
  clear hl hR
  go_enter Tryz.func71, Tryz.ntmps71
  go_wp2_with (first | (go_at_call 112; (refine (rnone_any n _ _ _ _ l _ _ _ HN.out.rdy HN.out.kids).mono ?_; rintro e w1 ⟨rfl, hb1⟩; clear d0 d1 d2 d3 d4; replace HN : Hid _ := HN.out.step hb1; obtain ⟨d0, d1, d2, d3, d4, -, -, -, -, -⟩ := HN.out.box)) | (go_at_call 26; (refine (rexpr_any n _ _ _ _ l _ _ _ HN.out.rdy HN.out.kids HID.out (exprP n) (rexpr_rm HID.out n _ HN.out.rdy) HT.out hx).mono ?_; rintro e w1 ⟨rfl, hb1⟩; clear d0 d1 d2 d3 d4; replace HN : Hid _ := HN.out.step hb1; obtain ⟨d0, d1, d2, d3, d4, -, -, -, -, -⟩ := HN.out.box)))
  all_goals (go_ret; exact ⟨by simp_all [bsA_tl, beqI, beqL], HN.out.bel⟩)
theorem rnmo_any (n : Nat) (k : Int) (t : List UInt8) (m a : Int) (l : List (Tr n)) (s : Option Addr) (c : Nat) (w : World) (hR : Rdy w) (hl : KsG w n s c l) (hI : RIdSaid) :
    Calls Tryz.prog 72 #[.agg #[.int .i64 k, .string (bsA t), .int .i64 m, .int .i64 a, .slice s l.length c]] w fun e w' => e = .returned (.bool (noneF n k t m l || nmeF n k t m l)) ∧ Below w.heap.size w w' := by
  have HN : Hid (Nd w n k t m a l s c (w.alloc (Obj.cells #[Value.int IntKind.i64 k, Value.string (bsA t), Value.int IntKind.i64 m, Value.int IntKind.i64 a, Value.slice s l.length c] 24))) := Nd.new w n _ t _ a l s c hR hl
  obtain ⟨d0, d1, d2, d3, d4, -, -, -, -, -⟩ := HN.out.box
  have HID : Hid RIdSaid := hI
  clear hI
  clear hl hR
  go_enter Tryz.func72, Tryz.ntmps72
  go_wp2_with (first | (go_at_call 112; (refine (rnone_any n _ _ _ _ l _ _ _ HN.out.rdy HN.out.kids).mono ?_; rintro e w1 ⟨rfl, hb1⟩; clear d0 d1 d2 d3 d4; replace HN : Hid _ := HN.out.step hb1; obtain ⟨d0, d1, d2, d3, d4, -, -, -, -, -⟩ := HN.out.box)) | (go_at_call 66; (refine (rnme_any n _ _ _ _ l _ _ _ HN.out.rdy HN.out.kids HID.out).mono ?_; rintro e w1 ⟨rfl, hb1⟩; clear d0 d1 d2 d3 d4; replace HN : Hid _ := HN.out.step hb1; obtain ⟨d0, d1, d2, d3, d4, -, -, -, -, -⟩ := HN.out.box)))
  all_goals (go_ret; exact ⟨by simp_all [bsA_tl, beqI, beqL], HN.out.bel⟩)
theorem rexo_rm (hI : RIdSaid) (n : Nat) (w : World) (hR : Rdy w) : RM 71 n (optP n (exprP n)) w := ⟨fun W hW y s c hy ht => by
  cases n with
  | zero => exact Empty.elim y
  | succ n =>
    have h := rexo_any n (kd (n + 1) y) (tx (n + 1) y) (nu (n + 1) y) (pl (n + 1) y) (ks (n + 1) y) s c W (hR.below hW) (NdG.kids hy) hI ht.2 ht.1
    rw [Bool.or_comm] at h
    exact h⟩
theorem rnmo_rm (hI : RIdSaid) (n : Nat) (w : World) (hR : Rdy w) : RM 72 n (optP n (nmeP n)) w := ⟨fun W hW y s c hy _ => by
  cases n with
  | zero => exact Empty.elim y
  | succ n =>
    have h := rnmo_any n (kd (n + 1) y) (tx (n + 1) y) (nu (n + 1) y) (pl (n + 1) y) (ks (n + 1) y) s c W (hR.below hW) (NdG.kids hy) hI
    rw [Bool.or_comm] at h
    exact h⟩
end Go.Proofs.YtcemogaacicnfaaGreatDoor
