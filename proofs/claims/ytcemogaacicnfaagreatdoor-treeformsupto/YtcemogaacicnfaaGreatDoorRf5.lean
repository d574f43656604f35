/- Which trees are patterns, by the document. -/
import Derived.Test.YtcemogaacicnfaaGreatDoorRid
import Derived.Test.YtcemogaacicnfaaGreatDoorRf4
namespace Go.Proofs.YtcemogaacicnfaaGreatDoor
set_option linter.unusedSimpArgs false
set_option maxRecDepth 20000
set_option maxHeartbeats 4000000
open Go.ChangeShapes Go.WideShapes Go.ChangeAt Go.RowKit

theorem KsG.kid {W : World} {n b off c : Nat} {l : List (Tr n)} (h : KsG W n (some ⟨b, off, none⟩) c l) (i : Nat) (y : Tr n) (hi : l[i]? = some y) : ∃ sy cy, (W.cell? ⟨b, off + i * 5, none⟩ = some (.int .i64 (kd n y)) ∧ W.cell? ⟨b, off + i * 5 + 1, none⟩ = some (.string (bsA (tx n y))) ∧ W.cell? ⟨b, off + i * 5 + 2, none⟩ = some (.int .i64 (nu n y)) ∧ W.cell? ⟨b, off + i * 5 + 3, none⟩ = some (.int .i64 (pl n y)) ∧ W.cell? ⟨b, off + i * 5 + 4, none⟩ = some (.slice sy (ks n y).length cy)) ∧ NdG W n y sy cy := by
  obtain ⟨_, h, _⟩ := h
  rcases h with h | ⟨b', off', e, hc⟩
  · rw [h] at hi; cases hi
  · cases e
    obtain ⟨s, c, hcs, hp⟩ := hc i y hi
    exact ⟨s, c, hcs, hp⟩
theorem ksG_of {W : World} {n : Nat} {y : Tr n} {s : Option Addr} {c : Nat} (h : NdG W n y s c) : KsG W n.pred s c (ks n y) := by
  cases n with
  | zero => exact Empty.elim y
  | succ n => exact h
theorem kid_one {W : World} {n : Nat} {y : Tr (n + 1)} {z : Tr n} {s : Option Addr} {c : Nat} (h : NdG W (n + 1) y s c) (hz : ks (n + 1) y = [z]) : ∃ b off sz cz, s = some ⟨b, off, none⟩ ∧ (W.cell? ⟨b, off, none⟩ = some (.int .i64 (kd n z)) ∧ W.cell? ⟨b, off + 1, none⟩ = some (.string (bsA (tx n z))) ∧ W.cell? ⟨b, off + 2, none⟩ = some (.int .i64 (nu n z)) ∧ W.cell? ⟨b, off + 3, none⟩ = some (.int .i64 (pl n z)) ∧ W.cell? ⟨b, off + 4, none⟩ = some (.slice sz (ks n z).length cz)) ∧ NdG W n z sz cz := by
  have h' := NdG.kids h
  rw [hz] at h'
  obtain ⟨_, h, _⟩ := h'
  rcases h with h | ⟨b, off, e, hc⟩
  · cases h
  · obtain ⟨sz, cz, hcs, hp⟩ := hc 0 z rfl
    simp only [Nat.zero_mul, Nat.add_zero] at hcs
    exact ⟨b, off, sz, cz, e, hcs, hp⟩
theorem KsG.addr {W : World} {n : Nat} {s : Option Addr} {c : Nat} {y : Tr n} {l : List (Tr n)} (h : KsG W n s c (y :: l)) : ∃ b off, s = some ⟨b, off, none⟩ := by
  obtain ⟨_, h, _⟩ := h
  rcases h with h | ⟨b, off, e, _⟩
  · cases h
  · exact ⟨b, off, e⟩
/-- A tree in a box, and one of its kids in another. -/
structure Nx (w : World) (n : Nat) (k : Int) (t : List UInt8) (m a : Int) (l : List (Tr n)) (s : Option Addr) (c : Nat) (bx : Nat) (y : Tr n) (sy : Option Addr) (cy : Nat) (W : World) : Prop where
  nd : Nd w n k t m a l s c W
  box : Box5 W bx (.int .i64 (kd n y)) (.string (bsA (tx n y))) (.int .i64 (nu n y)) (.int .i64 (pl n y)) (.slice sy (ks n y).length cy)
  kid : NdG W n y sy cy
theorem Nx.step {w : World} {n : Nat} {k : Int} {t : List UInt8} {m a : Int} {l : List (Tr n)} {s : Option Addr} {c : Nat} {bx : Nat} {y : Tr n} {sy : Option Addr} {cy : Nat} {W W' : World} (h : Nx w n k t m a l s c bx y sy cy W) (hb : Below W.heap.size W W') : Nx w n k t m a l s c bx y sy cy W' :=
  ⟨h.nd.step hb, h.box.below hb, NdG.below hb h.kid⟩
theorem Nx.new {w : World} {n : Nat} {k : Int} {t : List UInt8} {m a : Int} {l : List (Tr n)} {s : Option Addr} {c : Nat} {y : Tr n} {sy : Option Addr} {cy : Nat} {W : World} (h : Nd w n k t m a l s c W) (hk : NdG W n y sy cy) : Nx w n k t m a l s c W.heap.size y sy cy (W.alloc (Obj.cells #[Value.int IntKind.i64 (kd n y), Value.string (bsA (tx n y)), Value.int IntKind.i64 (nu n y), Value.int IntKind.i64 (pl n y), Value.slice sy (ks n y).length cy] 24)) :=
  have hA : Below W.heap.size W (W.alloc (Obj.cells #[Value.int IntKind.i64 (kd n y), Value.string (bsA (tx n y)), Value.int IntKind.i64 (nu n y), Value.int IntKind.i64 (pl n y), Value.slice sy (ks n y).length cy] 24)) := (Below.refl _ _).alloc (Nat.le_refl _) _
  ⟨h.step hA, Box5.new W _ _ _ _ _ 24, NdG.below hA hk⟩
theorem len2 {α : Type} {l : List α} (hl : l.length = 2) : ∃ a b, l = [a, b] := by
  match l, hl with
  | [a, b], _ => exact ⟨a, b, rfl⟩
theorem len3 {α : Type} {l : List α} (hl : l.length = 3) : ∃ a b c, l = [a, b, c] := by
  match l, hl with
  | [a, b, c], _ => exact ⟨a, b, c, rfl⟩
theorem len4 {α : Type} {l : List α} (hl : l.length = 4) : ∃ a b c d, l = [a, b, c, d] := by
  match l, hl with
  | [a, b, c, d], _ => exact ⟨a, b, c, d, rfl⟩
theorem len8 {α : Type} {l : List α} (hl : l.length = 8) : ∃ a b c d e f g h, l = [a, b, c, d, e, f, g, h] := by
  match l, hl with
  | [a, b, c, d, e, f, g, h], _ => exact ⟨a, b, c, d, e, f, g, h, rfl⟩
theorem areQ_cons (n : Nat) (y : Tr n) (l : List (Tr n)) (p : Tr n → Bool) (ps : List (Tr n → Bool)) : areQ n (y :: l) (p :: ps) = (p y && areQ n l ps) := by
  unfold areQ
  have e : decide ((y :: l).length = (p :: ps).length) = decide (l.length = ps.length) := by simp
  rw [e, List.zip_cons_cons, List.all_cons]
  show (_ && (p y && _)) = _
  cases p y <;> simp
theorem areQ_nil (n : Nat) : areQ n [] [] = true := rfl
theorem areQ_ne (n : Nat) (l : List (Tr n)) (ps : List (Tr n → Bool)) (h : ¬ l.length = ps.length) : areQ n l ps = false := by
  unfold areQ
  rw [decide_eq_false h]
  rfl
theorem len_ne {n : Nat} {l : List (Tr n)} {k : Nat} (h : ¬ l.length = k) : ((l.length : Int) == (k : Int)) = false := by
  rw [beq_eq_false_iff_ne]
  omega
theorem len_nb {n : Nat} {l : List (Tr n)} {k : Nat} (h : ¬ l.length = k) : ((l.length : Int) != (k : Int)) = true := by
  rw [bne_iff_ne]
  omega
theorem rpat_31 (n : Nat) (t : List UInt8) (m : Int) (a : Int) (y0 : Tr n) (b off c : Nat) (w : World) (hR : Rdy w) (hl : KsG w n (some ⟨b, off, none⟩) c [y0]) (P : Tr n → Bool) (hP : RM 27 n P w) (hT : ∀ y ∈ [y0], Txs n y) :
    Calls Tryz.prog 27 #[.agg #[.int .i64 31, .string (bsA t), .int .i64 m, .int .i64 a, .slice (some ⟨b, off, none⟩) 1 c]] w fun e w' => e = .returned (.bool (plainF t m && P y0)) ∧ Below w.heap.size w w' := by
  have HN : Hid (Nd w n 31 t m a [y0] (some ⟨b, off, none⟩) c (w.alloc (Obj.cells #[Value.int IntKind.i64 31, Value.string (bsA t), Value.int IntKind.i64 m, Value.int IntKind.i64 a, Value.slice (some ⟨b, off, none⟩) 1 c] 24))) := Nd.new w n 31 t m a [y0] (some ⟨b, off, none⟩) c hR hl
  obtain ⟨d0, d1, d2, d3, d4, -, -, -, -, -⟩ := HN.out.box
  obtain ⟨s0, k0, ⟨c0, c1, c2, c3, c4⟩, hg0⟩ := HN.out.kids.kid 0 y0 rfl
  simp only [Nat.reduceMul, Nat.add_zero, Nat.reduceAdd, Nat.add_assoc, Nat.zero_mul] at c0 c1 c2 c3 c4
  have HP : Hid (RM 27 n P w) := hP
  have HT : Hid (∀ y ∈ [y0], Txs n y) := hT
  clear hP hT
  clear hl hR
  go_enter Tryz.func27, Tryz.ntmps27
  go_wp2_with (first | (go_at_call 70; refine (rplain_any n _ _ _ _ [y0] _ _ _ HN.out.rdy HN.out.kids).mono ?_; rintro e w1 ⟨rfl, hb1⟩; clear c0 c1 c2 c3 c4 hg0; clear d0 d1 d2 d3 d4; replace HN : Hid _ := HN.out.step hb1; obtain ⟨d0, d1, d2, d3, d4, -, -, -, -, -⟩ := HN.out.box; obtain ⟨s0, k0, ⟨c0, c1, c2, c3, c4⟩, hg0⟩ := HN.out.kids.kid 0 y0 rfl; simp only [Nat.reduceMul, Nat.add_zero, Nat.reduceAdd, Nat.add_assoc, Nat.zero_mul] at c0 c1 c2 c3 c4) | (go_at_call 27; refine ((HP.out.below HN.out.bel).run _ (Below.refl _ _) y0 s0 k0 hg0 (HT.out y0 (by simp))).mono ?_; rintro e w1 ⟨rfl, hb1⟩; clear c0 c1 c2 c3 c4 hg0; clear d0 d1 d2 d3 d4; replace HN : Hid _ := HN.out.step hb1; obtain ⟨d0, d1, d2, d3, d4, -, -, -, -, -⟩ := HN.out.box; obtain ⟨s0, k0, ⟨c0, c1, c2, c3, c4⟩, hg0⟩ := HN.out.kids.kid 0 y0 rfl; simp only [Nat.reduceMul, Nat.add_zero, Nat.reduceAdd, Nat.add_assoc, Nat.zero_mul] at c0 c1 c2 c3 c4))
  all_goals (go_ret; exact ⟨by simp_all [bsA_tl, beqI, beqL], HN.out.bel⟩)
theorem rpat_32 (n : Nat) (t : List UInt8) (m : Int) (a : Int) (y0 y1 : Tr n) (b off c : Nat) (w : World) (hR : Rdy w) (hl : KsG w n (some ⟨b, off, none⟩) c [y0, y1]) (P : Tr n → Bool) (hP : RM 27 n P w) (hT : ∀ y ∈ [y0, y1], Txs n y) :
    Calls Tryz.prog 27 #[.agg #[.int .i64 32, .string (bsA t), .int .i64 m, .int .i64 a, .slice (some ⟨b, off, none⟩) 2 c]] w fun e w' => e = .returned (.bool (plainF t m && P y0 && P y1)) ∧ Below w.heap.size w w' := by
  have HN : Hid (Nd w n 32 t m a [y0, y1] (some ⟨b, off, none⟩) c (w.alloc (Obj.cells #[Value.int IntKind.i64 32, Value.string (bsA t), Value.int IntKind.i64 m, Value.int IntKind.i64 a, Value.slice (some ⟨b, off, none⟩) 2 c] 24))) := Nd.new w n 32 t m a [y0, y1] (some ⟨b, off, none⟩) c hR hl
  obtain ⟨d0, d1, d2, d3, d4, -, -, -, -, -⟩ := HN.out.box
  obtain ⟨s0, k0, ⟨c0, c1, c2, c3, c4⟩, hg0⟩ := HN.out.kids.kid 0 y0 rfl
  simp only [Nat.reduceMul, Nat.add_zero, Nat.reduceAdd, Nat.add_assoc, Nat.zero_mul] at c0 c1 c2 c3 c4
  obtain ⟨s1, k1, ⟨e0, e1, e2, e3, e4⟩, hg1⟩ := HN.out.kids.kid 1 y1 rfl
  simp only [Nat.reduceMul, Nat.add_zero, Nat.reduceAdd, Nat.add_assoc, Nat.zero_mul] at e0 e1 e2 e3 e4
  have HP : Hid (RM 27 n P w) := hP
  have HT : Hid (∀ y ∈ [y0, y1], Txs n y) := hT
  clear hP hT
  have HM0 : Hid True := trivial
  have HM1 : Hid True := trivial
  clear hl hR
  go_enter Tryz.func27, Tryz.ntmps27
  go_wp2_with (first | (go_at_call 70; refine (rplain_any n _ _ _ _ [y0, y1] _ _ _ HN.out.rdy HN.out.kids).mono ?_; rintro e w1 ⟨rfl, hb1⟩; clear c0 c1 c2 c3 c4 hg0; clear e0 e1 e2 e3 e4 hg1; clear d0 d1 d2 d3 d4; replace HN : Hid _ := HN.out.step hb1; obtain ⟨d0, d1, d2, d3, d4, -, -, -, -, -⟩ := HN.out.box; obtain ⟨s0, k0, ⟨c0, c1, c2, c3, c4⟩, hg0⟩ := HN.out.kids.kid 0 y0 rfl; simp only [Nat.reduceMul, Nat.add_zero, Nat.reduceAdd, Nat.add_assoc, Nat.zero_mul] at c0 c1 c2 c3 c4; obtain ⟨s1, k1, ⟨e0, e1, e2, e3, e4⟩, hg1⟩ := HN.out.kids.kid 1 y1 rfl; simp only [Nat.reduceMul, Nat.add_zero, Nat.reduceAdd, Nat.add_assoc, Nat.zero_mul] at e0 e1 e2 e3 e4) | (go_at_call 27; clear HM0; refine ((HP.out.below HN.out.bel).run _ (Below.refl _ _) y0 s0 k0 hg0 (HT.out y0 (by simp))).mono ?_; rintro e w1 ⟨rfl, hb1⟩; clear c0 c1 c2 c3 c4 hg0; clear e0 e1 e2 e3 e4 hg1; clear d0 d1 d2 d3 d4; replace HN : Hid _ := HN.out.step hb1; obtain ⟨d0, d1, d2, d3, d4, -, -, -, -, -⟩ := HN.out.box; obtain ⟨s0, k0, ⟨c0, c1, c2, c3, c4⟩, hg0⟩ := HN.out.kids.kid 0 y0 rfl; simp only [Nat.reduceMul, Nat.add_zero, Nat.reduceAdd, Nat.add_assoc, Nat.zero_mul] at c0 c1 c2 c3 c4; obtain ⟨s1, k1, ⟨e0, e1, e2, e3, e4⟩, hg1⟩ := HN.out.kids.kid 1 y1 rfl; simp only [Nat.reduceMul, Nat.add_zero, Nat.reduceAdd, Nat.add_assoc, Nat.zero_mul] at e0 e1 e2 e3 e4) | (go_at_call 27; clear HM1; refine ((HP.out.below HN.out.bel).run _ (Below.refl _ _) y1 s1 k1 hg1 (HT.out y1 (by simp))).mono ?_; rintro e w1 ⟨rfl, hb1⟩; clear c0 c1 c2 c3 c4 hg0; clear e0 e1 e2 e3 e4 hg1; clear d0 d1 d2 d3 d4; replace HN : Hid _ := HN.out.step hb1; obtain ⟨d0, d1, d2, d3, d4, -, -, -, -, -⟩ := HN.out.box; obtain ⟨s0, k0, ⟨c0, c1, c2, c3, c4⟩, hg0⟩ := HN.out.kids.kid 0 y0 rfl; simp only [Nat.reduceMul, Nat.add_zero, Nat.reduceAdd, Nat.add_assoc, Nat.zero_mul] at c0 c1 c2 c3 c4; obtain ⟨s1, k1, ⟨e0, e1, e2, e3, e4⟩, hg1⟩ := HN.out.kids.kid 1 y1 rfl; simp only [Nat.reduceMul, Nat.add_zero, Nat.reduceAdd, Nat.add_assoc, Nat.zero_mul] at e0 e1 e2 e3 e4))
  all_goals (go_ret; exact ⟨by simp_all [bsA_tl, beqI, beqL], HN.out.bel⟩)
theorem rpat_34 (n : Nat) (t : List UInt8) (m : Int) (a : Int) (y0 y1 : Tr n) (b off c : Nat) (w : World) (hR : Rdy w) (hl : KsG w n (some ⟨b, off, none⟩) c [y0, y1]) (P : Tr n → Bool) (hP : RM 27 n P w) (hT : ∀ y ∈ [y0, y1], Txs n y) :
    Calls Tryz.prog 27 #[.agg #[.int .i64 34, .string (bsA t), .int .i64 m, .int .i64 a, .slice (some ⟨b, off, none⟩) 2 c]] w fun e w' => e = .returned (.bool (plainF t m && P y0 && P y1)) ∧ Below w.heap.size w w' := by
  have HN : Hid (Nd w n 34 t m a [y0, y1] (some ⟨b, off, none⟩) c (w.alloc (Obj.cells #[Value.int IntKind.i64 34, Value.string (bsA t), Value.int IntKind.i64 m, Value.int IntKind.i64 a, Value.slice (some ⟨b, off, none⟩) 2 c] 24))) := Nd.new w n 34 t m a [y0, y1] (some ⟨b, off, none⟩) c hR hl
  obtain ⟨d0, d1, d2, d3, d4, -, -, -, -, -⟩ := HN.out.box
  obtain ⟨s0, k0, ⟨c0, c1, c2, c3, c4⟩, hg0⟩ := HN.out.kids.kid 0 y0 rfl
  simp only [Nat.reduceMul, Nat.add_zero, Nat.reduceAdd, Nat.add_assoc, Nat.zero_mul] at c0 c1 c2 c3 c4
  obtain ⟨s1, k1, ⟨e0, e1, e2, e3, e4⟩, hg1⟩ := HN.out.kids.kid 1 y1 rfl
  simp only [Nat.reduceMul, Nat.add_zero, Nat.reduceAdd, Nat.add_assoc, Nat.zero_mul] at e0 e1 e2 e3 e4
  have HP : Hid (RM 27 n P w) := hP
  have HT : Hid (∀ y ∈ [y0, y1], Txs n y) := hT
  clear hP hT
  have HM0 : Hid True := trivial
  have HM1 : Hid True := trivial
  clear hl hR
  go_enter Tryz.func27, Tryz.ntmps27
  go_wp2_with (first | (go_at_call 70; refine (rplain_any n _ _ _ _ [y0, y1] _ _ _ HN.out.rdy HN.out.kids).mono ?_; rintro e w1 ⟨rfl, hb1⟩; clear c0 c1 c2 c3 c4 hg0; clear e0 e1 e2 e3 e4 hg1; clear d0 d1 d2 d3 d4; replace HN : Hid _ := HN.out.step hb1; obtain ⟨d0, d1, d2, d3, d4, -, -, -, -, -⟩ := HN.out.box; obtain ⟨s0, k0, ⟨c0, c1, c2, c3, c4⟩, hg0⟩ := HN.out.kids.kid 0 y0 rfl; simp only [Nat.reduceMul, Nat.add_zero, Nat.reduceAdd, Nat.add_assoc, Nat.zero_mul] at c0 c1 c2 c3 c4; obtain ⟨s1, k1, ⟨e0, e1, e2, e3, e4⟩, hg1⟩ := HN.out.kids.kid 1 y1 rfl; simp only [Nat.reduceMul, Nat.add_zero, Nat.reduceAdd, Nat.add_assoc, Nat.zero_mul] at e0 e1 e2 e3 e4) | (go_at_call 27; clear HM0; refine ((HP.out.below HN.out.bel).run _ (Below.refl _ _) y0 s0 k0 hg0 (HT.out y0 (by simp))).mono ?_; rintro e w1 ⟨rfl, hb1⟩; clear c0 c1 c2 c3 c4 hg0; clear e0 e1 e2 e3 e4 hg1; clear d0 d1 d2 d3 d4; replace HN : Hid _ := HN.out.step hb1; obtain ⟨d0, d1, d2, d3, d4, -, -, -, -, -⟩ := HN.out.box; obtain ⟨s0, k0, ⟨c0, c1, c2, c3, c4⟩, hg0⟩ := HN.out.kids.kid 0 y0 rfl; simp only [Nat.reduceMul, Nat.add_zero, Nat.reduceAdd, Nat.add_assoc, Nat.zero_mul] at c0 c1 c2 c3 c4; obtain ⟨s1, k1, ⟨e0, e1, e2, e3, e4⟩, hg1⟩ := HN.out.kids.kid 1 y1 rfl; simp only [Nat.reduceMul, Nat.add_zero, Nat.reduceAdd, Nat.add_assoc, Nat.zero_mul] at e0 e1 e2 e3 e4) | (go_at_call 27; clear HM1; refine ((HP.out.below HN.out.bel).run _ (Below.refl _ _) y1 s1 k1 hg1 (HT.out y1 (by simp))).mono ?_; rintro e w1 ⟨rfl, hb1⟩; clear c0 c1 c2 c3 c4 hg0; clear e0 e1 e2 e3 e4 hg1; clear d0 d1 d2 d3 d4; replace HN : Hid _ := HN.out.step hb1; obtain ⟨d0, d1, d2, d3, d4, -, -, -, -, -⟩ := HN.out.box; obtain ⟨s0, k0, ⟨c0, c1, c2, c3, c4⟩, hg0⟩ := HN.out.kids.kid 0 y0 rfl; simp only [Nat.reduceMul, Nat.add_zero, Nat.reduceAdd, Nat.add_assoc, Nat.zero_mul] at c0 c1 c2 c3 c4; obtain ⟨s1, k1, ⟨e0, e1, e2, e3, e4⟩, hg1⟩ := HN.out.kids.kid 1 y1 rfl; simp only [Nat.reduceMul, Nat.add_zero, Nat.reduceAdd, Nat.add_assoc, Nat.zero_mul] at e0 e1 e2 e3 e4))
  all_goals (go_ret; exact ⟨by simp_all [bsA_tl, beqI, beqL], HN.out.bel⟩)
theorem rpat_36 (n : Nat) (t : List UInt8) (m a : Int) (l : List (Tr n)) (s : Option Addr) (c : Nat) (w : World) (hR : Rdy w) (hl : KsG w n s c l) (q0 : Bool) (g0 : ((l.length : Int) == 0) = q0) :
    Calls Tryz.prog 27 #[.agg #[.int .i64 36, .string (bsA t), .int .i64 m, .int .i64 a, .slice s l.length c]] w fun e w' => e = .returned (.bool (decide (t = []) && witF m 0 1099511627776 && q0)) ∧ Below w.heap.size w w' := by
  have HN : Hid (Nd w n 36 t m a l s c (w.alloc (Obj.cells #[Value.int IntKind.i64 36, Value.string (bsA t), Value.int IntKind.i64 m, Value.int IntKind.i64 a, Value.slice s l.length c] 24))) := Nd.new w n _ t _ a l s c hR hl
  obtain ⟨d0, d1, d2, d3, d4, -, -, -, -, -⟩ := HN.out.box
  clear hl hR
  go_enter Tryz.func27, Tryz.ntmps27
  go_wp2_with (first | fail)
  all_goals (go_ret; refine ⟨?_, HN.out.bel⟩; first | (simp_all [bsA_tl, bsA_size, beqI, beqL, witF]; done) | (simp_all [bsA_tl, bsA_size, beqI, beqL, witF]; intros; omega))
theorem rpat_37a (n : Nat) (t : List UInt8) (m : Int) (a : Int) (y0 : Tr n) (b off c : Nat) (w : World) (hR : Rdy w) (hl : KsG w n (some ⟨b, off, none⟩) c [y0]) (e1 : (0 ≤ m) = True) (e2 : (m ≤ 1099511627776) = True) (P : Tr n → Bool) (hP : RM 27 n P w) (hT : ∀ y ∈ [y0], Txs n y) :
    Calls Tryz.prog 27 #[.agg #[.int .i64 37, .string (bsA t), .int .i64 m, .int .i64 a, .slice (some ⟨b, off, none⟩) 1 c]] w fun e w' => e = .returned (.bool (decide (t = []) && P y0)) ∧ Below w.heap.size w w' := by
  have HN : Hid (Nd w n 37 t m a [y0] (some ⟨b, off, none⟩) c (w.alloc (Obj.cells #[Value.int IntKind.i64 37, Value.string (bsA t), Value.int IntKind.i64 m, Value.int IntKind.i64 a, Value.slice (some ⟨b, off, none⟩) 1 c] 24))) := Nd.new w n 37 t m a [y0] (some ⟨b, off, none⟩) c hR hl
  obtain ⟨d0, d1, d2, d3, d4, -, -, -, -, -⟩ := HN.out.box
  obtain ⟨s0, k0, ⟨c0, c1, c2, c3, c4⟩, hg0⟩ := HN.out.kids.kid 0 y0 rfl
  simp only [Nat.reduceMul, Nat.add_zero, Nat.reduceAdd, Nat.add_assoc, Nat.zero_mul] at c0 c1 c2 c3 c4
  have HP : Hid (RM 27 n P w) := hP
  have HT : Hid (∀ y ∈ [y0], Txs n y) := hT
  clear hP hT
  clear hl hR
  go_enter Tryz.func27, Tryz.ntmps27
  go_wp2_with (first | (go_at_call 27; refine ((HP.out.below HN.out.bel).run _ (Below.refl _ _) y0 s0 k0 hg0 (HT.out y0 (by simp))).mono ?_; rintro e w1 ⟨rfl, hb1⟩; clear c0 c1 c2 c3 c4 hg0; clear d0 d1 d2 d3 d4; replace HN : Hid _ := HN.out.step hb1; obtain ⟨d0, d1, d2, d3, d4, -, -, -, -, -⟩ := HN.out.box; obtain ⟨s0, k0, ⟨c0, c1, c2, c3, c4⟩, hg0⟩ := HN.out.kids.kid 0 y0 rfl; simp only [Nat.reduceMul, Nat.add_zero, Nat.reduceAdd, Nat.add_assoc, Nat.zero_mul] at c0 c1 c2 c3 c4))
  all_goals (go_ret; exact ⟨by simp_all [bsA_tl, beqI, beqL], HN.out.bel⟩)
theorem rpat_37b (n : Nat) (t : List UInt8) (m : Int) (a : Int) (y0 : Tr n) (b off c : Nat) (w : World) (hR : Rdy w) (hl : KsG w n (some ⟨b, off, none⟩) c [y0]) (e1 : (0 ≤ m) = True) (e2 : (m ≤ 1099511627776) = False) (P : Tr n → Bool) (hP : RM 27 n P w) (hT : ∀ y ∈ [y0], Txs n y) :
    Calls Tryz.prog 27 #[.agg #[.int .i64 37, .string (bsA t), .int .i64 m, .int .i64 a, .slice (some ⟨b, off, none⟩) 1 c]] w fun e w' => e = .returned (.bool (false)) ∧ Below w.heap.size w w' := by
  have HN : Hid (Nd w n 37 t m a [y0] (some ⟨b, off, none⟩) c (w.alloc (Obj.cells #[Value.int IntKind.i64 37, Value.string (bsA t), Value.int IntKind.i64 m, Value.int IntKind.i64 a, Value.slice (some ⟨b, off, none⟩) 1 c] 24))) := Nd.new w n 37 t m a [y0] (some ⟨b, off, none⟩) c hR hl
  obtain ⟨d0, d1, d2, d3, d4, -, -, -, -, -⟩ := HN.out.box
  obtain ⟨s0, k0, ⟨c0, c1, c2, c3, c4⟩, hg0⟩ := HN.out.kids.kid 0 y0 rfl
  simp only [Nat.reduceMul, Nat.add_zero, Nat.reduceAdd, Nat.add_assoc, Nat.zero_mul] at c0 c1 c2 c3 c4
  have HP : Hid (RM 27 n P w) := hP
  have HT : Hid (∀ y ∈ [y0], Txs n y) := hT
  clear hP hT
  clear hl hR
  go_enter Tryz.func27, Tryz.ntmps27
  go_wp2_with (first | (go_at_call 27; refine ((HP.out.below HN.out.bel).run _ (Below.refl _ _) y0 s0 k0 hg0 (HT.out y0 (by simp))).mono ?_; rintro e w1 ⟨rfl, hb1⟩; clear c0 c1 c2 c3 c4 hg0; clear d0 d1 d2 d3 d4; replace HN : Hid _ := HN.out.step hb1; obtain ⟨d0, d1, d2, d3, d4, -, -, -, -, -⟩ := HN.out.box; obtain ⟨s0, k0, ⟨c0, c1, c2, c3, c4⟩, hg0⟩ := HN.out.kids.kid 0 y0 rfl; simp only [Nat.reduceMul, Nat.add_zero, Nat.reduceAdd, Nat.add_assoc, Nat.zero_mul] at c0 c1 c2 c3 c4))
  all_goals (go_ret; exact ⟨by simp_all [bsA_tl, beqI, beqL], HN.out.bel⟩)
theorem rpat_37c (n : Nat) (t : List UInt8) (m : Int) (a : Int) (y0 : Tr n) (b off c : Nat) (w : World) (hR : Rdy w) (hl : KsG w n (some ⟨b, off, none⟩) c [y0]) (e1 : (0 ≤ m) = False) (P : Tr n → Bool) (hP : RM 27 n P w) (hT : ∀ y ∈ [y0], Txs n y) :
    Calls Tryz.prog 27 #[.agg #[.int .i64 37, .string (bsA t), .int .i64 m, .int .i64 a, .slice (some ⟨b, off, none⟩) 1 c]] w fun e w' => e = .returned (.bool (false)) ∧ Below w.heap.size w w' := by
  have HN : Hid (Nd w n 37 t m a [y0] (some ⟨b, off, none⟩) c (w.alloc (Obj.cells #[Value.int IntKind.i64 37, Value.string (bsA t), Value.int IntKind.i64 m, Value.int IntKind.i64 a, Value.slice (some ⟨b, off, none⟩) 1 c] 24))) := Nd.new w n 37 t m a [y0] (some ⟨b, off, none⟩) c hR hl
  obtain ⟨d0, d1, d2, d3, d4, -, -, -, -, -⟩ := HN.out.box
  obtain ⟨s0, k0, ⟨c0, c1, c2, c3, c4⟩, hg0⟩ := HN.out.kids.kid 0 y0 rfl
  simp only [Nat.reduceMul, Nat.add_zero, Nat.reduceAdd, Nat.add_assoc, Nat.zero_mul] at c0 c1 c2 c3 c4
  have HP : Hid (RM 27 n P w) := hP
  have HT : Hid (∀ y ∈ [y0], Txs n y) := hT
  clear hP hT
  clear hl hR
  go_enter Tryz.func27, Tryz.ntmps27
  go_wp2_with (first | (go_at_call 27; refine ((HP.out.below HN.out.bel).run _ (Below.refl _ _) y0 s0 k0 hg0 (HT.out y0 (by simp))).mono ?_; rintro e w1 ⟨rfl, hb1⟩; clear c0 c1 c2 c3 c4 hg0; clear d0 d1 d2 d3 d4; replace HN : Hid _ := HN.out.step hb1; obtain ⟨d0, d1, d2, d3, d4, -, -, -, -, -⟩ := HN.out.box; obtain ⟨s0, k0, ⟨c0, c1, c2, c3, c4⟩, hg0⟩ := HN.out.kids.kid 0 y0 rfl; simp only [Nat.reduceMul, Nat.add_zero, Nat.reduceAdd, Nat.add_assoc, Nat.zero_mul] at c0 c1 c2 c3 c4))
  all_goals (go_ret; exact ⟨by simp_all [bsA_tl, beqI, beqL], HN.out.bel⟩)
theorem rpat_30 (n : Nat) (t : List UInt8) (a : Int) (y0 y1 : Tr n) (b off c : Nat) (w : World) (hR : Rdy w) (hl : KsG w n (some ⟨b, off, none⟩) c [y0, y1]) (hI : RIdSaid) (hT : ∀ y ∈ [y0, y1], Txs n y) :
    Calls Tryz.prog 27 #[.agg #[.int .i64 30, .string (bsA t), .int .i64 0, .int .i64 a, .slice (some ⟨b, off, none⟩) 2 c]] w fun e w' => e = .returned (.bool (idC t && optP n (exprP n) y0 && optP n (nmeP n) y1)) ∧ Below w.heap.size w w' := by
  have HN : Hid (Nd w n 30 t 0 a [y0, y1] (some ⟨b, off, none⟩) c (w.alloc (Obj.cells #[Value.int IntKind.i64 30, Value.string (bsA t), Value.int IntKind.i64 0, Value.int IntKind.i64 a, Value.slice (some ⟨b, off, none⟩) 2 c] 24))) := Nd.new w n 30 t 0 a [y0, y1] (some ⟨b, off, none⟩) c hR hl
  obtain ⟨d0, d1, d2, d3, d4, -, -, -, -, -⟩ := HN.out.box
  obtain ⟨s0, k0, ⟨c0, c1, c2, c3, c4⟩, hg0⟩ := HN.out.kids.kid 0 y0 rfl
  simp only [Nat.reduceMul, Nat.add_zero, Nat.reduceAdd, Nat.add_assoc, Nat.zero_mul] at c0 c1 c2 c3 c4
  obtain ⟨s1, k1, ⟨e0, e1, e2, e3, e4⟩, hg1⟩ := HN.out.kids.kid 1 y1 rfl
  simp only [Nat.reduceMul, Nat.add_zero, Nat.reduceAdd, Nat.add_assoc, Nat.zero_mul] at e0 e1 e2 e3 e4
  have HID : Hid RIdSaid := hI
  have HT : Hid (∀ y ∈ [y0, y1], Txs n y) := hT
  clear hI hT
  clear hl hR
  go_enter Tryz.func27, Tryz.ntmps27
  go_wp2_with (first | (go_at_call 65; refine (HID.out _ _ HN.out.rdy).mono ?_; rintro e w1 ⟨rfl, hb1⟩; clear c0 c1 c2 c3 c4 hg0; clear e0 e1 e2 e3 e4 hg1; clear d0 d1 d2 d3 d4; replace HN : Hid _ := HN.out.step hb1; obtain ⟨d0, d1, d2, d3, d4, -, -, -, -, -⟩ := HN.out.box; obtain ⟨s0, k0, ⟨c0, c1, c2, c3, c4⟩, hg0⟩ := HN.out.kids.kid 0 y0 rfl; simp only [Nat.reduceMul, Nat.add_zero, Nat.reduceAdd, Nat.add_assoc, Nat.zero_mul] at c0 c1 c2 c3 c4; obtain ⟨s1, k1, ⟨e0, e1, e2, e3, e4⟩, hg1⟩ := HN.out.kids.kid 1 y1 rfl; simp only [Nat.reduceMul, Nat.add_zero, Nat.reduceAdd, Nat.add_assoc, Nat.zero_mul] at e0 e1 e2 e3 e4) | (go_at_call 71; refine ((rexo_rm HID.out n _ HN.out.rdy).run _ (Below.refl _ _) y0 s0 k0 hg0 (HT.out y0 (by simp))).mono ?_; rintro e w1 ⟨rfl, hb1⟩; clear c0 c1 c2 c3 c4 hg0; clear e0 e1 e2 e3 e4 hg1; clear d0 d1 d2 d3 d4; replace HN : Hid _ := HN.out.step hb1; obtain ⟨d0, d1, d2, d3, d4, -, -, -, -, -⟩ := HN.out.box; obtain ⟨s0, k0, ⟨c0, c1, c2, c3, c4⟩, hg0⟩ := HN.out.kids.kid 0 y0 rfl; simp only [Nat.reduceMul, Nat.add_zero, Nat.reduceAdd, Nat.add_assoc, Nat.zero_mul] at c0 c1 c2 c3 c4; obtain ⟨s1, k1, ⟨e0, e1, e2, e3, e4⟩, hg1⟩ := HN.out.kids.kid 1 y1 rfl; simp only [Nat.reduceMul, Nat.add_zero, Nat.reduceAdd, Nat.add_assoc, Nat.zero_mul] at e0 e1 e2 e3 e4) | (go_at_call 72; refine ((rnmo_rm HID.out n _ HN.out.rdy).run _ (Below.refl _ _) y1 s1 k1 hg1 (HT.out y1 (by simp))).mono ?_; rintro e w1 ⟨rfl, hb1⟩; clear c0 c1 c2 c3 c4 hg0; clear e0 e1 e2 e3 e4 hg1; clear d0 d1 d2 d3 d4; replace HN : Hid _ := HN.out.step hb1; obtain ⟨d0, d1, d2, d3, d4, -, -, -, -, -⟩ := HN.out.box; obtain ⟨s0, k0, ⟨c0, c1, c2, c3, c4⟩, hg0⟩ := HN.out.kids.kid 0 y0 rfl; simp only [Nat.reduceMul, Nat.add_zero, Nat.reduceAdd, Nat.add_assoc, Nat.zero_mul] at c0 c1 c2 c3 c4; obtain ⟨s1, k1, ⟨e0, e1, e2, e3, e4⟩, hg1⟩ := HN.out.kids.kid 1 y1 rfl; simp only [Nat.reduceMul, Nat.add_zero, Nat.reduceAdd, Nat.add_assoc, Nat.zero_mul] at e0 e1 e2 e3 e4))
  all_goals (go_ret; exact ⟨by simp_all [bsA_tl, beqI, beqL], HN.out.bel⟩)
theorem rpat_30m (n : Nat) (t : List UInt8) (m a : Int) (l : List (Tr n)) (s : Option Addr) (c : Nat) (w : World) (hR : Rdy w) (hl : KsG w n s c l) (hI : RIdSaid) (hm : (m == 0) = false) :
    Calls Tryz.prog 27 #[.agg #[.int .i64 30, .string (bsA t), .int .i64 m, .int .i64 a, .slice s l.length c]] w fun e w' => e = .returned (.bool (false)) ∧ Below w.heap.size w w' := by
  have HN : Hid (Nd w n 30 t m a l s c (w.alloc (Obj.cells #[Value.int IntKind.i64 30, Value.string (bsA t), Value.int IntKind.i64 m, Value.int IntKind.i64 a, Value.slice s l.length c] 24))) := Nd.new w n _ t _ a l s c hR hl
  obtain ⟨d0, d1, d2, d3, d4, -, -, -, -, -⟩ := HN.out.box
  have HID : Hid RIdSaid := hI
  clear hI
  clear hl hR
  go_enter Tryz.func27, Tryz.ntmps27
  go_wp2_with (first | (go_at_call 65; (refine (HID.out _ _ HN.out.rdy).mono ?_; rintro e w1 ⟨rfl, hb1⟩; clear d0 d1 d2 d3 d4; replace HN : Hid _ := HN.out.step hb1; obtain ⟨d0, d1, d2, d3, d4, -, -, -, -, -⟩ := HN.out.box)))
  all_goals (go_ret; exact ⟨rfl, HN.out.bel⟩)
theorem rpat_30n (n : Nat) (t : List UInt8) (m a : Int) (l : List (Tr n)) (s : Option Addr) (c : Nat) (w : World) (hR : Rdy w) (hl : KsG w n s c l) (hI : RIdSaid) (g2 : ((l.length : Int) == 2) = false) :
    Calls Tryz.prog 27 #[.agg #[.int .i64 30, .string (bsA t), .int .i64 m, .int .i64 a, .slice s l.length c]] w fun e w' => e = .returned (.bool (false)) ∧ Below w.heap.size w w' := by
  rcases Classical.em (m = 0) with rfl | h0
  · have HN : Hid (Nd w n 30 t 0 a l s c (w.alloc (Obj.cells #[Value.int IntKind.i64 30, Value.string (bsA t), Value.int IntKind.i64 0, Value.int IntKind.i64 a, Value.slice s l.length c] 24))) := Nd.new w n _ t _ a l s c hR hl
    obtain ⟨d0, d1, d2, d3, d4, -, -, -, -, -⟩ := HN.out.box
    have HID : Hid RIdSaid := hI
    clear hI
    clear hl hR
    go_enter Tryz.func27, Tryz.ntmps27
    go_wp2_with (first | (go_at_call 65; (refine (HID.out _ _ HN.out.rdy).mono ?_; rintro e w1 ⟨rfl, hb1⟩; clear d0 d1 d2 d3 d4; replace HN : Hid _ := HN.out.step hb1; obtain ⟨d0, d1, d2, d3, d4, -, -, -, -, -⟩ := HN.out.box)))
    all_goals (go_ret; exact ⟨rfl, HN.out.bel⟩)
  · have HN : Hid (Nd w n 30 t m a l s c (w.alloc (Obj.cells #[Value.int IntKind.i64 30, Value.string (bsA t), Value.int IntKind.i64 m, Value.int IntKind.i64 a, Value.slice s l.length c] 24))) := Nd.new w n _ t _ a l s c hR hl
    obtain ⟨d0, d1, d2, d3, d4, -, -, -, -, -⟩ := HN.out.box
    have HID : Hid RIdSaid := hI
    clear hI
    clear hl hR
    go_enter Tryz.func27, Tryz.ntmps27
    go_wp2_with (first | (go_at_call 65; (refine (HID.out _ _ HN.out.rdy).mono ?_; rintro e w1 ⟨rfl, hb1⟩; clear d0 d1 d2 d3 d4; replace HN : Hid _ := HN.out.step hb1; obtain ⟨d0, d1, d2, d3, d4, -, -, -, -, -⟩ := HN.out.box)))
    all_goals (go_ret; exact ⟨rfl, HN.out.bel⟩)
theorem rpat_31n (n : Nat) (t : List UInt8) (m a : Int) (l : List (Tr n)) (s : Option Addr) (c : Nat) (w : World) (hR : Rdy w) (hl : KsG w n s c l) (g1 : ((l.length : Int) == 1) = false) :
    Calls Tryz.prog 27 #[.agg #[.int .i64 31, .string (bsA t), .int .i64 m, .int .i64 a, .slice s l.length c]] w fun e w' => e = .returned (.bool (false)) ∧ Below w.heap.size w w' := by
  have HN : Hid (Nd w n 31 t m a l s c (w.alloc (Obj.cells #[Value.int IntKind.i64 31, Value.string (bsA t), Value.int IntKind.i64 m, Value.int IntKind.i64 a, Value.slice s l.length c] 24))) := Nd.new w n _ t _ a l s c hR hl
  obtain ⟨d0, d1, d2, d3, d4, -, -, -, -, -⟩ := HN.out.box
  clear hl hR
  go_enter Tryz.func27, Tryz.ntmps27
  go_wp2_with (first | (go_at_call 70; (refine (rplain_any n _ _ _ _ l _ _ _ HN.out.rdy HN.out.kids).mono ?_; rintro e w1 ⟨rfl, hb1⟩; clear d0 d1 d2 d3 d4; replace HN : Hid _ := HN.out.step hb1; obtain ⟨d0, d1, d2, d3, d4, -, -, -, -, -⟩ := HN.out.box)))
  all_goals (go_ret; exact ⟨rfl, HN.out.bel⟩)
theorem rpat_32n (n : Nat) (t : List UInt8) (m a : Int) (l : List (Tr n)) (s : Option Addr) (c : Nat) (w : World) (hR : Rdy w) (hl : KsG w n s c l) (g2 : ((l.length : Int) == 2) = false) :
    Calls Tryz.prog 27 #[.agg #[.int .i64 32, .string (bsA t), .int .i64 m, .int .i64 a, .slice s l.length c]] w fun e w' => e = .returned (.bool (false)) ∧ Below w.heap.size w w' := by
  have HN : Hid (Nd w n 32 t m a l s c (w.alloc (Obj.cells #[Value.int IntKind.i64 32, Value.string (bsA t), Value.int IntKind.i64 m, Value.int IntKind.i64 a, Value.slice s l.length c] 24))) := Nd.new w n _ t _ a l s c hR hl
  obtain ⟨d0, d1, d2, d3, d4, -, -, -, -, -⟩ := HN.out.box
  clear hl hR
  go_enter Tryz.func27, Tryz.ntmps27
  go_wp2_with (first | (go_at_call 70; (refine (rplain_any n _ _ _ _ l _ _ _ HN.out.rdy HN.out.kids).mono ?_; rintro e w1 ⟨rfl, hb1⟩; clear d0 d1 d2 d3 d4; replace HN : Hid _ := HN.out.step hb1; obtain ⟨d0, d1, d2, d3, d4, -, -, -, -, -⟩ := HN.out.box)))
  all_goals (go_ret; exact ⟨rfl, HN.out.bel⟩)
theorem rpat_34n (n : Nat) (t : List UInt8) (m a : Int) (l : List (Tr n)) (s : Option Addr) (c : Nat) (w : World) (hR : Rdy w) (hl : KsG w n s c l) (g2 : ((l.length : Int) == 2) = false) :
    Calls Tryz.prog 27 #[.agg #[.int .i64 34, .string (bsA t), .int .i64 m, .int .i64 a, .slice s l.length c]] w fun e w' => e = .returned (.bool (false)) ∧ Below w.heap.size w w' := by
  have HN : Hid (Nd w n 34 t m a l s c (w.alloc (Obj.cells #[Value.int IntKind.i64 34, Value.string (bsA t), Value.int IntKind.i64 m, Value.int IntKind.i64 a, Value.slice s l.length c] 24))) := Nd.new w n _ t _ a l s c hR hl
  obtain ⟨d0, d1, d2, d3, d4, -, -, -, -, -⟩ := HN.out.box
  clear hl hR
  go_enter Tryz.func27, Tryz.ntmps27
  go_wp2_with (first | (go_at_call 70; (refine (rplain_any n _ _ _ _ l _ _ _ HN.out.rdy HN.out.kids).mono ?_; rintro e w1 ⟨rfl, hb1⟩; clear d0 d1 d2 d3 d4; replace HN : Hid _ := HN.out.step hb1; obtain ⟨d0, d1, d2, d3, d4, -, -, -, -, -⟩ := HN.out.box)))
  all_goals (go_ret; exact ⟨rfl, HN.out.bel⟩)
theorem rpat_33n (n : Nat) (t : List UInt8) (m a : Int) (l : List (Tr n)) (s : Option Addr) (c : Nat) (w : World) (hR : Rdy w) (hl : KsG w n s c l) (g2 : ((l.length : Int) != 2) = true) :
    Calls Tryz.prog 27 #[.agg #[.int .i64 33, .string (bsA t), .int .i64 m, .int .i64 a, .slice s l.length c]] w fun e w' => e = .returned (.bool (false)) ∧ Below w.heap.size w w' := by
  have HN : Hid (Nd w n 33 t m a l s c (w.alloc (Obj.cells #[Value.int IntKind.i64 33, Value.string (bsA t), Value.int IntKind.i64 m, Value.int IntKind.i64 a, Value.slice s l.length c] 24))) := Nd.new w n _ t _ a l s c hR hl
  obtain ⟨d0, d1, d2, d3, d4, -, -, -, -, -⟩ := HN.out.box
  clear hl hR
  go_enter Tryz.func27, Tryz.ntmps27
  go_wp2_with (first | (go_at_call 70; (refine (rplain_any n _ _ _ _ l _ _ _ HN.out.rdy HN.out.kids).mono ?_; rintro e w1 ⟨rfl, hb1⟩; clear d0 d1 d2 d3 d4; replace HN : Hid _ := HN.out.step hb1; obtain ⟨d0, d1, d2, d3, d4, -, -, -, -, -⟩ := HN.out.box)))
  all_goals (go_ret; exact ⟨rfl, HN.out.bel⟩)
theorem rpat_37n (n : Nat) (t : List UInt8) (m a : Int) (l : List (Tr n)) (s : Option Addr) (c : Nat) (w : World) (hR : Rdy w) (hl : KsG w n s c l) (g1 : ((l.length : Int) == 1) = false) :
    Calls Tryz.prog 27 #[.agg #[.int .i64 37, .string (bsA t), .int .i64 m, .int .i64 a, .slice s l.length c]] w fun e w' => e = .returned (.bool (false)) ∧ Below w.heap.size w w' := by
  have HN : Hid (Nd w n 37 t m a l s c (w.alloc (Obj.cells #[Value.int IntKind.i64 37, Value.string (bsA t), Value.int IntKind.i64 m, Value.int IntKind.i64 a, Value.slice s l.length c] 24))) := Nd.new w n _ t _ a l s c hR hl
  obtain ⟨d0, d1, d2, d3, d4, -, -, -, -, -⟩ := HN.out.box
  clear hl hR
  go_enter Tryz.func27, Tryz.ntmps27
  go_wp2_with (first | fail)
  all_goals (go_ret; exact ⟨rfl, HN.out.bel⟩)
theorem rpat_x (n : Nat) (k : Int) (t : List UInt8) (m a : Int) (l : List (Tr n)) (s : Option Addr) (c : Nat) (w : World) (hR : Rdy w) (hl : KsG w n s c l) (h30 : (k == 30) = false) (h31 : (k == 31) = false) (h32 : (k == 32) = false) (h33 : (k == 33) = false) (h34 : (k == 34) = false) (h36 : (k == 36) = false) (h37 : (k == 37) = false) :
    Calls Tryz.prog 27 #[.agg #[.int .i64 k, .string (bsA t), .int .i64 m, .int .i64 a, .slice s l.length c]] w fun e w' => e = .returned (.bool (false)) ∧ Below w.heap.size w w' := by
  have HN : Hid (Nd w n k t m a l s c (w.alloc (Obj.cells #[Value.int IntKind.i64 k, Value.string (bsA t), Value.int IntKind.i64 m, Value.int IntKind.i64 a, Value.slice s l.length c] 24))) := Nd.new w n _ t _ a l s c hR hl
  obtain ⟨d0, d1, d2, d3, d4, -, -, -, -, -⟩ := HN.out.box
  clear hl hR
  go_enter Tryz.func27, Tryz.ntmps27
  go_wp2_with (first | fail)
  all_goals (go_ret; exact ⟨rfl, HN.out.bel⟩)
theorem rpat_33x (n : Nat) (t : List UInt8) (m a : Int) (y0 y1 : Tr (n + 1)) (b off c : Nat) (w : World) (hR : Rdy w) (hl : KsG w (n + 1) (some ⟨b, off, none⟩) c [y0, y1]) (P : Tr (n + 1) → Bool) (hP : RM 27 (n + 1) P w) (hT : ∀ y ∈ [y0, y1], Txs (n + 1) y) (qk : Bool) (gk : (kd (n + 1) y1 == 35) = qk) (gl : (((ks (n + 1) y1).length : Int) == 1) = false) :
    Calls Tryz.prog 27 #[.agg #[.int .i64 33, .string (bsA t), .int .i64 m, .int .i64 a, .slice (some ⟨b, off, none⟩) 2 c]] w fun e w' => e = .returned (.bool (plainF t m && P y0 && (P y1))) ∧ Below w.heap.size w w' := by
  have HN : Hid (Nd w (n + 1) 33 t m a [y0, y1] (some ⟨b, off, none⟩) c (w.alloc (Obj.cells #[Value.int IntKind.i64 33, Value.string (bsA t), Value.int IntKind.i64 m, Value.int IntKind.i64 a, Value.slice (some ⟨b, off, none⟩) 2 c] 24))) := Nd.new w (n + 1) 33 t m a [y0, y1] (some ⟨b, off, none⟩) c hR hl
  obtain ⟨d0, d1, d2, d3, d4, -, -, -, -, -⟩ := HN.out.box
  obtain ⟨s0, k0, ⟨c0, c1, c2, c3, c4⟩, hg0⟩ := HN.out.kids.kid 0 y0 rfl
  simp only [Nat.reduceMul, Nat.add_zero, Nat.reduceAdd, Nat.add_assoc, Nat.zero_mul] at c0 c1 c2 c3 c4
  obtain ⟨s1, k1, ⟨e0, e1, e2, e3, e4⟩, hg1⟩ := HN.out.kids.kid 1 y1 rfl
  simp only [Nat.reduceMul, Nat.add_zero, Nat.reduceAdd, Nat.add_assoc, Nat.zero_mul] at e0 e1 e2 e3 e4
  have HP : Hid (RM 27 (n + 1) P w) := hP
  have HT : Hid (∀ y ∈ [y0, y1], Txs (n + 1) y) := hT
  clear hl hR hP hT
  have hpl := fun W (h : Nd w (n + 1) 33 t m a [y0, y1] (some ⟨b, off, none⟩) c W) => rplain_any (n + 1) 33 t m a [y0, y1] (some ⟨b, off, none⟩) c W h.rdy h.kids
  have hp0 := fun W (h : Nd w (n + 1) 33 t m a [y0, y1] (some ⟨b, off, none⟩) c W) s1 k1 (hg : NdG W (n + 1) y0 s1 k1) => (HP.out.below h.bel).run _ (Below.refl _ _) y0 s1 k1 hg (HT.out y0 (by simp))
  have HPL : Hid _ := hpl
  have HP0 : Hid _ := hp0
  clear hpl hp0
  cases hq : plainF t m with
  | false =>
    rw [hq] at HPL
    clear hq
    go_enter Tryz.func27, Tryz.ntmps27
    go_wp2_with (go_at_call 70; refine (HPL.out _ HN.out).mono ?_; rintro e w1 ⟨rfl, hb1⟩; clear c0 c1 c2 c3 c4 hg0; clear e0 e1 e2 e3 e4 hg1; clear d0 d1 d2 d3 d4; replace HN : Hid _ := HN.out.step hb1; obtain ⟨d0, d1, d2, d3, d4, -, -, -, -, -⟩ := HN.out.box; obtain ⟨s0, k0, ⟨c0, c1, c2, c3, c4⟩, hg0⟩ := HN.out.kids.kid 0 y0 rfl; simp only [Nat.reduceMul, Nat.add_zero, Nat.reduceAdd, Nat.add_assoc, Nat.zero_mul] at c0 c1 c2 c3 c4; obtain ⟨s1, k1, ⟨e0, e1, e2, e3, e4⟩, hg1⟩ := HN.out.kids.kid 1 y1 rfl; simp only [Nat.reduceMul, Nat.add_zero, Nat.reduceAdd, Nat.add_assoc, Nat.zero_mul] at e0 e1 e2 e3 e4)
    go_ret
    exact ⟨rfl, HN.out.bel⟩
  | true =>
  rw [hq] at HPL
  clear hq
  cases hq : P y0 with
  | false =>
    rw [hq] at HP0
    clear hq
    go_enter Tryz.func27, Tryz.ntmps27
    go_wp2_with (first | (go_at_call 70; refine (HPL.out _ HN.out).mono ?_; rintro e w1 ⟨rfl, hb1⟩; clear c0 c1 c2 c3 c4 hg0; clear e0 e1 e2 e3 e4 hg1; clear d0 d1 d2 d3 d4; replace HN : Hid _ := HN.out.step hb1; obtain ⟨d0, d1, d2, d3, d4, -, -, -, -, -⟩ := HN.out.box; obtain ⟨s0, k0, ⟨c0, c1, c2, c3, c4⟩, hg0⟩ := HN.out.kids.kid 0 y0 rfl; simp only [Nat.reduceMul, Nat.add_zero, Nat.reduceAdd, Nat.add_assoc, Nat.zero_mul] at c0 c1 c2 c3 c4; obtain ⟨s1, k1, ⟨e0, e1, e2, e3, e4⟩, hg1⟩ := HN.out.kids.kid 1 y1 rfl; simp only [Nat.reduceMul, Nat.add_zero, Nat.reduceAdd, Nat.add_assoc, Nat.zero_mul] at e0 e1 e2 e3 e4) | (go_at_call 27; refine (HP0.out _ HN.out s0 k0 hg0).mono ?_; rintro e w1 ⟨rfl, hb1⟩; clear c0 c1 c2 c3 c4 hg0; clear e0 e1 e2 e3 e4 hg1; clear d0 d1 d2 d3 d4; replace HN : Hid _ := HN.out.step hb1; obtain ⟨d0, d1, d2, d3, d4, -, -, -, -, -⟩ := HN.out.box; obtain ⟨s0, k0, ⟨c0, c1, c2, c3, c4⟩, hg0⟩ := HN.out.kids.kid 0 y0 rfl; simp only [Nat.reduceMul, Nat.add_zero, Nat.reduceAdd, Nat.add_assoc, Nat.zero_mul] at c0 c1 c2 c3 c4; obtain ⟨s1, k1, ⟨e0, e1, e2, e3, e4⟩, hg1⟩ := HN.out.kids.kid 1 y1 rfl; simp only [Nat.reduceMul, Nat.add_zero, Nat.reduceAdd, Nat.add_assoc, Nat.zero_mul] at e0 e1 e2 e3 e4))
    go_ret
    exact ⟨rfl, HN.out.bel⟩
  | true =>
  rw [hq] at HP0
  clear hq
  go_enter Tryz.func27, Tryz.ntmps27
  go_wp2_with (go_at_call 70; refine (HPL.out _ HN.out).mono ?_; rintro e w1 ⟨rfl, hb1⟩; clear c0 c1 c2 c3 c4 hg0; clear e0 e1 e2 e3 e4 hg1; clear d0 d1 d2 d3 d4; replace HN : Hid _ := HN.out.step hb1; obtain ⟨d0, d1, d2, d3, d4, -, -, -, -, -⟩ := HN.out.box; obtain ⟨s0, k0, ⟨c0, c1, c2, c3, c4⟩, hg0⟩ := HN.out.kids.kid 0 y0 rfl; simp only [Nat.reduceMul, Nat.add_zero, Nat.reduceAdd, Nat.add_assoc, Nat.zero_mul] at c0 c1 c2 c3 c4; obtain ⟨s1, k1, ⟨e0, e1, e2, e3, e4⟩, hg1⟩ := HN.out.kids.kid 1 y1 rfl; simp only [Nat.reduceMul, Nat.add_zero, Nat.reduceAdd, Nat.add_assoc, Nat.zero_mul] at e0 e1 e2 e3 e4)
  refine (HP0.out _ HN.out s0 k0 hg0).mono ?_
  rintro e w1 ⟨rfl, hb1⟩
  clear c0 c1 c2 c3 c4 hg0
  clear e0 e1 e2 e3 e4 hg1
  clear d0 d1 d2 d3 d4
  replace HN : Hid _ := HN.out.step hb1
  obtain ⟨d0, d1, d2, d3, d4, -, -, -, -, -⟩ := HN.out.box
  obtain ⟨s0, k0, ⟨c0, c1, c2, c3, c4⟩, hg0⟩ := HN.out.kids.kid 0 y0 rfl
  simp only [Nat.reduceMul, Nat.add_zero, Nat.reduceAdd, Nat.add_assoc, Nat.zero_mul] at c0 c1 c2 c3 c4
  obtain ⟨s1, k1, ⟨e0, e1, e2, e3, e4⟩, hg1⟩ := HN.out.kids.kid 1 y1 rfl
  simp only [Nat.reduceMul, Nat.add_zero, Nat.reduceAdd, Nat.add_assoc, Nat.zero_mul] at e0 e1 e2 e3 e4
  have HX : Hid (Nx w (n + 1) 33 t m a [y0, y1] (some ⟨b, off, none⟩) c w1.heap.size y1 s1 k1 (w1.alloc (Obj.cells #[Value.int IntKind.i64 (kd (n + 1) y1), Value.string (bsA (tx (n + 1) y1)), Value.int IntKind.i64 (nu (n + 1) y1), Value.int IntKind.i64 (pl (n + 1) y1), Value.slice s1 (ks (n + 1) y1).length k1] 24))) := Nx.new HN.out hg1
  obtain ⟨x0, x1, x2, x3, x4, -, -, -, -, -⟩ := HX.out.box
  clear hg0 hb1
  go_wp2_with fail
  refine ((HP.out.below HX.out.nd.bel).run _ (Below.refl _ _) y1 s1 k1 HX.out.kid (HT.out y1 (by simp))).mono ?_
  rintro e w2 ⟨rfl, hb1⟩
  replace HX : Hid (Nx w (n + 1) 33 t m a [y0, y1] (some ⟨b, off, none⟩) c w1.heap.size y1 s1 k1 w2) := HX.out.step hb1
  clear x0 x1 x2 x3 x4 hb1 HN d0 d1 d2 d3 d4 c0 c1 c2 c3 c4 e0 e1 e2 e3 e4 hg1
  obtain ⟨bx, hbx⟩ : ∃ bx, bx = w1.heap.size := ⟨_, rfl⟩
  rw [← hbx] at HX ⊢
  clear hbx
  obtain ⟨x0, x1, x2, x3, x4, -, -, -, -, -⟩ := HX.out.box
  go_wp2_with (first | (go_at_call 70; refine (rplain_any n _ _ _ _ (ks (n + 1) y1) _ _ _ HX.out.nd.rdy (NdG.kids HX.out.kid)).mono ?_; rintro e w3 ⟨rfl, hb1⟩; clear x0 x1 x2 x3 x4; replace HX : Hid _ := HX.out.step hb1; obtain ⟨x0, x1, x2, x3, x4, -, -, -, -, -⟩ := HX.out.box))
  all_goals (go_ret; exact ⟨by simp_all [bsA_tl, beqI, beqL], HX.out.nd.bel⟩)
theorem rpat_33y (n : Nat) (t : List UInt8) (m a : Int) (y0 y1 : Tr (n + 1)) (b off c : Nat) (w : World) (hR : Rdy w) (hl : KsG w (n + 1) (some ⟨b, off, none⟩) c [y0, y1]) (P : Tr (n + 1) → Bool) (hP : RM 27 (n + 1) P w) (hT : ∀ y ∈ [y0, y1], Txs (n + 1) y) (qk : Bool) (gk : (kd (n + 1) y1 == 35) = qk) (z : Tr n) (hz : ks (n + 1) y1 = [z]) (P2 : Tr n → Bool) (hP2 : RM 27 n P2 w) (hTz : Txs n z) :
    Calls Tryz.prog 27 #[.agg #[.int .i64 33, .string (bsA t), .int .i64 m, .int .i64 a, .slice (some ⟨b, off, none⟩) 2 c]] w fun e w' => e = .returned (.bool (plainF t m && P y0 && (P y1 || qk && plainF (tx (n + 1) y1) (nu (n + 1) y1) && P2 z))) ∧ Below w.heap.size w w' := by
  have HN : Hid (Nd w (n + 1) 33 t m a [y0, y1] (some ⟨b, off, none⟩) c (w.alloc (Obj.cells #[Value.int IntKind.i64 33, Value.string (bsA t), Value.int IntKind.i64 m, Value.int IntKind.i64 a, Value.slice (some ⟨b, off, none⟩) 2 c] 24))) := Nd.new w (n + 1) 33 t m a [y0, y1] (some ⟨b, off, none⟩) c hR hl
  obtain ⟨d0, d1, d2, d3, d4, -, -, -, -, -⟩ := HN.out.box
  obtain ⟨s0, k0, ⟨c0, c1, c2, c3, c4⟩, hg0⟩ := HN.out.kids.kid 0 y0 rfl
  simp only [Nat.reduceMul, Nat.add_zero, Nat.reduceAdd, Nat.add_assoc, Nat.zero_mul] at c0 c1 c2 c3 c4
  obtain ⟨s1, k1, ⟨e0, e1, e2, e3, e4⟩, hg1⟩ := HN.out.kids.kid 1 y1 rfl
  simp only [Nat.reduceMul, Nat.add_zero, Nat.reduceAdd, Nat.add_assoc, Nat.zero_mul] at e0 e1 e2 e3 e4
  have HP : Hid (RM 27 (n + 1) P w) := hP
  have HT : Hid (∀ y ∈ [y0, y1], Txs (n + 1) y) := hT
  have HZ : Hid (ks (n + 1) y1 = [z]) := hz
  have HP2 : Hid (RM 27 n P2 w) := hP2
  clear hz hP2
  clear hl hR hP hT
  have hpl := fun W (h : Nd w (n + 1) 33 t m a [y0, y1] (some ⟨b, off, none⟩) c W) => rplain_any (n + 1) 33 t m a [y0, y1] (some ⟨b, off, none⟩) c W h.rdy h.kids
  have hp0 := fun W (h : Nd w (n + 1) 33 t m a [y0, y1] (some ⟨b, off, none⟩) c W) s1 k1 (hg : NdG W (n + 1) y0 s1 k1) => (HP.out.below h.bel).run _ (Below.refl _ _) y0 s1 k1 hg (HT.out y0 (by simp))
  have HPL : Hid _ := hpl
  have HP0 : Hid _ := hp0
  clear hpl hp0
  cases hq : plainF t m with
  | false =>
    rw [hq] at HPL
    clear hq
    go_enter Tryz.func27, Tryz.ntmps27
    go_wp2_with (go_at_call 70; refine (HPL.out _ HN.out).mono ?_; rintro e w1 ⟨rfl, hb1⟩; clear c0 c1 c2 c3 c4 hg0; clear e0 e1 e2 e3 e4 hg1; clear d0 d1 d2 d3 d4; replace HN : Hid _ := HN.out.step hb1; obtain ⟨d0, d1, d2, d3, d4, -, -, -, -, -⟩ := HN.out.box; obtain ⟨s0, k0, ⟨c0, c1, c2, c3, c4⟩, hg0⟩ := HN.out.kids.kid 0 y0 rfl; simp only [Nat.reduceMul, Nat.add_zero, Nat.reduceAdd, Nat.add_assoc, Nat.zero_mul] at c0 c1 c2 c3 c4; obtain ⟨s1, k1, ⟨e0, e1, e2, e3, e4⟩, hg1⟩ := HN.out.kids.kid 1 y1 rfl; simp only [Nat.reduceMul, Nat.add_zero, Nat.reduceAdd, Nat.add_assoc, Nat.zero_mul] at e0 e1 e2 e3 e4)
    go_ret
    exact ⟨rfl, HN.out.bel⟩
  | true =>
  rw [hq] at HPL
  clear hq
  cases hq : P y0 with
  | false =>
    rw [hq] at HP0
    clear hq
    go_enter Tryz.func27, Tryz.ntmps27
    go_wp2_with (first | (go_at_call 70; refine (HPL.out _ HN.out).mono ?_; rintro e w1 ⟨rfl, hb1⟩; clear c0 c1 c2 c3 c4 hg0; clear e0 e1 e2 e3 e4 hg1; clear d0 d1 d2 d3 d4; replace HN : Hid _ := HN.out.step hb1; obtain ⟨d0, d1, d2, d3, d4, -, -, -, -, -⟩ := HN.out.box; obtain ⟨s0, k0, ⟨c0, c1, c2, c3, c4⟩, hg0⟩ := HN.out.kids.kid 0 y0 rfl; simp only [Nat.reduceMul, Nat.add_zero, Nat.reduceAdd, Nat.add_assoc, Nat.zero_mul] at c0 c1 c2 c3 c4; obtain ⟨s1, k1, ⟨e0, e1, e2, e3, e4⟩, hg1⟩ := HN.out.kids.kid 1 y1 rfl; simp only [Nat.reduceMul, Nat.add_zero, Nat.reduceAdd, Nat.add_assoc, Nat.zero_mul] at e0 e1 e2 e3 e4) | (go_at_call 27; refine (HP0.out _ HN.out s0 k0 hg0).mono ?_; rintro e w1 ⟨rfl, hb1⟩; clear c0 c1 c2 c3 c4 hg0; clear e0 e1 e2 e3 e4 hg1; clear d0 d1 d2 d3 d4; replace HN : Hid _ := HN.out.step hb1; obtain ⟨d0, d1, d2, d3, d4, -, -, -, -, -⟩ := HN.out.box; obtain ⟨s0, k0, ⟨c0, c1, c2, c3, c4⟩, hg0⟩ := HN.out.kids.kid 0 y0 rfl; simp only [Nat.reduceMul, Nat.add_zero, Nat.reduceAdd, Nat.add_assoc, Nat.zero_mul] at c0 c1 c2 c3 c4; obtain ⟨s1, k1, ⟨e0, e1, e2, e3, e4⟩, hg1⟩ := HN.out.kids.kid 1 y1 rfl; simp only [Nat.reduceMul, Nat.add_zero, Nat.reduceAdd, Nat.add_assoc, Nat.zero_mul] at e0 e1 e2 e3 e4))
    go_ret
    exact ⟨rfl, HN.out.bel⟩
  | true =>
  rw [hq] at HP0
  clear hq
  go_enter Tryz.func27, Tryz.ntmps27
  go_wp2_with (go_at_call 70; refine (HPL.out _ HN.out).mono ?_; rintro e w1 ⟨rfl, hb1⟩; clear c0 c1 c2 c3 c4 hg0; clear e0 e1 e2 e3 e4 hg1; clear d0 d1 d2 d3 d4; replace HN : Hid _ := HN.out.step hb1; obtain ⟨d0, d1, d2, d3, d4, -, -, -, -, -⟩ := HN.out.box; obtain ⟨s0, k0, ⟨c0, c1, c2, c3, c4⟩, hg0⟩ := HN.out.kids.kid 0 y0 rfl; simp only [Nat.reduceMul, Nat.add_zero, Nat.reduceAdd, Nat.add_assoc, Nat.zero_mul] at c0 c1 c2 c3 c4; obtain ⟨s1, k1, ⟨e0, e1, e2, e3, e4⟩, hg1⟩ := HN.out.kids.kid 1 y1 rfl; simp only [Nat.reduceMul, Nat.add_zero, Nat.reduceAdd, Nat.add_assoc, Nat.zero_mul] at e0 e1 e2 e3 e4)
  refine (HP0.out _ HN.out s0 k0 hg0).mono ?_
  rintro e w1 ⟨rfl, hb1⟩
  clear c0 c1 c2 c3 c4 hg0
  clear e0 e1 e2 e3 e4 hg1
  clear d0 d1 d2 d3 d4
  replace HN : Hid _ := HN.out.step hb1
  obtain ⟨d0, d1, d2, d3, d4, -, -, -, -, -⟩ := HN.out.box
  obtain ⟨s0, k0, ⟨c0, c1, c2, c3, c4⟩, hg0⟩ := HN.out.kids.kid 0 y0 rfl
  simp only [Nat.reduceMul, Nat.add_zero, Nat.reduceAdd, Nat.add_assoc, Nat.zero_mul] at c0 c1 c2 c3 c4
  obtain ⟨s1, k1, ⟨e0, e1, e2, e3, e4⟩, hg1⟩ := HN.out.kids.kid 1 y1 rfl
  simp only [Nat.reduceMul, Nat.add_zero, Nat.reduceAdd, Nat.add_assoc, Nat.zero_mul] at e0 e1 e2 e3 e4
  have HX : Hid (Nx w (n + 1) 33 t m a [y0, y1] (some ⟨b, off, none⟩) c w1.heap.size y1 s1 k1 (w1.alloc (Obj.cells #[Value.int IntKind.i64 (kd (n + 1) y1), Value.string (bsA (tx (n + 1) y1)), Value.int IntKind.i64 (nu (n + 1) y1), Value.int IntKind.i64 (pl (n + 1) y1), Value.slice s1 (ks (n + 1) y1).length k1] 24))) := Nx.new HN.out hg1
  obtain ⟨x0, x1, x2, x3, x4, -, -, -, -, -⟩ := HX.out.box
  clear hg0 hb1
  go_wp2_with fail
  refine ((HP.out.below HX.out.nd.bel).run _ (Below.refl _ _) y1 s1 k1 HX.out.kid (HT.out y1 (by simp))).mono ?_
  rintro e w2 ⟨rfl, hb1⟩
  replace HX : Hid (Nx w (n + 1) 33 t m a [y0, y1] (some ⟨b, off, none⟩) c w1.heap.size y1 s1 k1 w2) := HX.out.step hb1
  clear x0 x1 x2 x3 x4 hb1 HN d0 d1 d2 d3 d4 c0 c1 c2 c3 c4 e0 e1 e2 e3 e4 hg1
  obtain ⟨bx, hbx⟩ : ∃ bx, bx = w1.heap.size := ⟨_, rfl⟩
  rw [← hbx] at HX ⊢
  clear hbx
  obtain ⟨x0, x1, x2, x3, x4, -, -, -, -, -⟩ := HX.out.box
  rw [HZ.out, List.length_singleton] at x4
  obtain ⟨bz, oz, sz, kz, rfl, ⟨z0, z1, z2, z3, z4⟩, hgz⟩ := kid_one HX.out.kid HZ.out
  go_wp2_with (first | (go_at_call 70; refine (rplain_any n _ _ _ _ [z] _ _ _ HX.out.nd.rdy (by have h := NdG.kids HX.out.kid; rw [HZ.out] at h; exact h)).mono ?_; rintro e w3 ⟨rfl, hb1⟩; clear x0 x1 x2 x3 x4 z0 z1 z2 z3 z4 hgz; replace HX : Hid _ := HX.out.step hb1; obtain ⟨x0, x1, x2, x3, x4, -, -, -, -, -⟩ := HX.out.box; rw [HZ.out, List.length_singleton] at x4; obtain ⟨bz, oz, sz, kz, ez, ⟨z0, z1, z2, z3, z4⟩, hgz⟩ := kid_one HX.out.kid HZ.out; cases ez) | (go_at_call 27; refine ((HP2.out.below HX.out.nd.bel).run _ (Below.refl _ _) z sz kz hgz hTz).mono ?_; rintro e w3 ⟨rfl, hb1⟩; clear x0 x1 x2 x3 x4 z0 z1 z2 z3 z4 hgz; replace HX : Hid _ := HX.out.step hb1; obtain ⟨x0, x1, x2, x3, x4, -, -, -, -, -⟩ := HX.out.box; rw [HZ.out, List.length_singleton] at x4; obtain ⟨bz, oz, sz, kz, ez, ⟨z0, z1, z2, z3, z4⟩, hgz⟩ := kid_one HX.out.kid HZ.out; cases ez))
  all_goals (go_ret; exact ⟨by simp_all [bsA_tl, beqI, beqL], HX.out.nd.bel⟩)
theorem rpat_33 (n : Nat) (t : List UInt8) (m a : Int) (y0 y1 : Tr n) (b off c : Nat) (w : World) (hR : Rdy w) (hl : KsG w n (some ⟨b, off, none⟩) c [y0, y1]) (hT : ∀ y ∈ [y0, y1], Txs n y) (hP : RM 27 n (patP n) w) (hP2 : RM 27 n.pred (patP n.pred) w) :
    Calls Tryz.prog 27 #[.agg #[.int .i64 33, .string (bsA t), .int .i64 m, .int .i64 a, .slice (some ⟨b, off, none⟩) 2 c]] w fun e w' => e = .returned (.bool (plainF t m && patP n y0 && (patP n y1 || notP n y1))) ∧ Below w.heap.size w w' := by
  cases n with
  | zero => exact Empty.elim y0
  | succ n =>
    have en : notP (n + 1) y1 = (decide (kd (n + 1) y1 = 35) && plainF (tx (n + 1) y1) (nu (n + 1) y1) && areQ n (ks (n + 1) y1) [patP n]) := rfl
    rw [en]
    by_cases h1 : (ks (n + 1) y1).length = 1
    · obtain ⟨z, hz⟩ := List.length_eq_one_iff.1 h1
      have h := rpat_33y n t m a y0 y1 b off c w hR hl (patP (n + 1)) hP hT _ rfl z hz (patP n) hP2 ((hT y1 (by simp)).2 z (by rw [hz]; simp))
      rw [hz, areQ_cons, areQ_nil, Bool.and_true, ← beqI]
      exact h
    · have h := rpat_33x n t m a y0 y1 b off c w hR hl (patP (n + 1)) hP hT _ rfl (len_ne h1)
      rw [areQ_ne _ _ _ (by simpa using h1), Bool.and_false, Bool.or_false]
      exact h
theorem rpat_37 (n : Nat) (t : List UInt8) (m a : Int) (y0 : Tr n) (b off c : Nat) (w : World) (hR : Rdy w) (hl : KsG w n (some ⟨b, off, none⟩) c [y0]) (P : Tr n → Bool) (hP : RM 27 n P w) (hT : ∀ y ∈ [y0], Txs n y) :
    Calls Tryz.prog 27 #[.agg #[.int .i64 37, .string (bsA t), .int .i64 m, .int .i64 a, .slice (some ⟨b, off, none⟩) 1 c]] w fun e w' => e = .returned (.bool (decide (t = []) && witF m 0 1099511627776 && P y0)) ∧ Below w.heap.size w w' := by
  unfold witF
  by_cases h0 : 0 ≤ m
  · by_cases h1 : m ≤ 1099511627776
    · rw [decide_eq_true h0, decide_eq_true h1, Bool.and_true, Bool.and_true]
      exact rpat_37a n t m a y0 b off c w hR hl (eq_true h0) (eq_true h1) P hP hT
    · rw [decide_eq_true h0, decide_eq_false h1, Bool.and_false, Bool.and_false, Bool.false_and]
      exact rpat_37b n t m a y0 b off c w hR hl (eq_true h0) (eq_false h1) P hP hT
  · rw [decide_eq_false h0, Bool.false_and, Bool.and_false, Bool.false_and]
    exact rpat_37c n t m a y0 b off c w hR hl (eq_false h0) P hP hT
theorem rpat_any (hI : RIdSaid) (n : Nat) (k : Int) (t : List UInt8) (m a : Int) (l : List (Tr n)) (s : Option Addr) (c : Nat) (w : World) (hR : Rdy w) (hl : KsG w n s c l) (hT : ∀ y ∈ l, Txs n y) (hP : RM 27 n (patP n) w) (hP2 : RM 27 n.pred (patP n.pred) w) :
    Calls Tryz.prog 27 #[.agg #[.int .i64 k, .string (bsA t), .int .i64 m, .int .i64 a, .slice s l.length c]] w fun e w' => e = .returned (.bool (paF n k t m l (patP n) (notP n))) ∧ Below w.heap.size w w' := by
  have key : ∀ q, paF n k t m l (patP n) (notP n) = q → Calls Tryz.prog 27 #[.agg #[.int .i64 k, .string (bsA t), .int .i64 m, .int .i64 a, .slice s l.length c]] w (fun e w' => e = .returned (.bool (q)) ∧ Below w.heap.size w w') → Calls Tryz.prog 27 #[.agg #[.int .i64 k, .string (bsA t), .int .i64 m, .int .i64 a, .slice s l.length c]] w fun e w' => e = .returned (.bool (paF n k t m l (patP n) (notP n))) ∧ Below w.heap.size w w' := fun q e h => by rw [e]; exact h
  rcases Classical.em (k = 30) with rfl | h30
  · rcases Classical.em (m = 0) with rfl | hm
    · by_cases h2 : l.length = 2
      · obtain ⟨y0, y1, rfl⟩ := len2 h2
        obtain ⟨b, off, rfl⟩ := hl.addr
        refine key _ ?_ (rpat_30 n t a y0 y1 b off c w hR hl hI hT)
        rw [paF, if_pos rfl, areQ_cons, areQ_cons, areQ_nil, Bool.and_true, hidF, decide_eq_true rfl, Bool.and_true, Bool.and_assoc]
      · refine key _ ?_ (rpat_30n n t 0 a l s c w hR hl hI (len_ne h2))
        rw [paF, if_pos rfl, areQ_ne _ _ _ (by simpa using h2), Bool.and_false]
    · refine key _ ?_ (rpat_30m n t m a l s c w hR hl hI (by simpa using hm))
      rw [paF, if_pos rfl, hidF, decide_eq_false hm, Bool.and_false, Bool.false_and]
  rcases Classical.em (k = 31) with rfl | h31
  · by_cases h1 : l.length = 1
    · obtain ⟨y0, rfl⟩ := List.length_eq_one_iff.1 h1
      obtain ⟨b, off, rfl⟩ := hl.addr
      refine key _ ?_ (rpat_31 n t m a y0 b off c w hR hl (patP n) hP hT)
      rw [paF, if_neg (by decide), if_pos rfl, areQ_cons, areQ_nil, Bool.and_true]
    · refine key _ ?_ (rpat_31n n t m a l s c w hR hl (len_ne h1))
      rw [paF, if_neg (by decide), if_pos rfl, areQ_ne _ _ _ (by simpa using h1), Bool.and_false]
  rcases Classical.em (k = 32) with rfl | h32
  ·
    by_cases h2 : l.length = 2
    · obtain ⟨y0, y1, rfl⟩ := len2 h2
      obtain ⟨b, off, rfl⟩ := hl.addr
      refine key _ ?_ (rpat_32 n t m a y0 y1 b off c w hR hl (patP n) hP hT)
      rw [paF, if_neg (by decide), if_neg (by decide), if_pos rfl, areQ_cons, areQ_cons, areQ_nil, Bool.and_true, Bool.and_assoc]
    · refine key _ ?_ (rpat_32n n t m a l s c w hR hl (len_ne h2))
      rw [paF, if_neg (by decide), if_neg (by decide), if_pos rfl, areQ_ne _ _ _ (by simpa using h2), Bool.and_false]
  rcases Classical.em (k = 33) with rfl | h33
  ·
    by_cases h2 : l.length = 2
    · obtain ⟨y0, y1, rfl⟩ := len2 h2
      obtain ⟨b, off, rfl⟩ := hl.addr
      refine key _ ?_ (rpat_33 n t m a y0 y1 b off c w hR hl hT hP hP2)
      rw [paF, if_neg (by decide), if_neg (by decide), if_neg (by decide), if_pos rfl, areQ_cons, areQ_cons, areQ_nil, Bool.and_true, Bool.and_assoc]
      rfl
    · refine key _ ?_ (rpat_33n n t m a l s c w hR hl (len_nb h2))
      rw [paF, if_neg (by decide), if_neg (by decide), if_neg (by decide), if_pos rfl, areQ_ne _ _ _ (by simpa using h2), Bool.and_false]
  rcases Classical.em (k = 34) with rfl | h34
  ·
    by_cases h2 : l.length = 2
    · obtain ⟨y0, y1, rfl⟩ := len2 h2
      obtain ⟨b, off, rfl⟩ := hl.addr
      refine key _ ?_ (rpat_34 n t m a y0 y1 b off c w hR hl (patP n) hP hT)
      rw [paF, if_neg (by decide), if_neg (by decide), if_neg (by decide), if_neg (by decide), if_pos rfl, areQ_cons, areQ_cons, areQ_nil, Bool.and_true, Bool.and_assoc]
    · refine key _ ?_ (rpat_34n n t m a l s c w hR hl (len_ne h2))
      rw [paF, if_neg (by decide), if_neg (by decide), if_neg (by decide), if_neg (by decide), if_pos rfl, areQ_ne _ _ _ (by simpa using h2), Bool.and_false]
  rcases Classical.em (k = 36) with rfl | h36
  · refine key _ ?_ (rpat_36 n t m a l s c w hR hl _ rfl)
    rw [paF, if_neg (by decide), if_neg (by decide), if_neg (by decide), if_neg (by decide), if_neg (by decide), if_pos rfl, len0]
  rcases Classical.em (k = 37) with rfl | h37
  · by_cases h1 : l.length = 1
    · obtain ⟨y0, rfl⟩ := List.length_eq_one_iff.1 h1
      obtain ⟨b, off, rfl⟩ := hl.addr
      refine key _ ?_ (rpat_37 n t m a y0 b off c w hR hl (patP n) hP hT)
      rw [paF, if_neg (by decide), if_neg (by decide), if_neg (by decide), if_neg (by decide), if_neg (by decide), if_neg (by decide), if_pos rfl, areQ_cons, areQ_nil, Bool.and_true]
    · refine key _ ?_ (rpat_37n n t m a l s c w hR hl (len_ne h1))
      rw [paF, if_neg (by decide), if_neg (by decide), if_neg (by decide), if_neg (by decide), if_neg (by decide), if_neg (by decide), if_pos rfl, areQ_ne _ _ _ (by simpa using h1), Bool.and_false]
  refine key false ?_ (rpat_x n k t m a l s c w hR hl (by simpa using h30) (by simpa using h31) (by simpa using h32) (by simpa using h33) (by simpa using h34) (by simpa using h36) (by simpa using h37))
  rw [paF, if_neg h30, if_neg h31, if_neg h32, if_neg h33, if_neg h34, if_neg h36, if_neg h37]
theorem rpat_two (hI : RIdSaid) : ∀ (n : Nat), (∀ w, Rdy w → RM 27 n (patP n) w) ∧ (∀ w, Rdy w → RM 27 n.pred (patP n.pred) w)
  | 0 => ⟨fun w _ => ⟨fun W _ y s c hy _ => Empty.elim y⟩, fun w _ => ⟨fun W _ y s c hy _ => Empty.elim y⟩⟩
  | n + 1 => by
    obtain ⟨h1, h2⟩ := rpat_two hI n
    refine ⟨fun w hR => ⟨fun W hW y s c hy ht => ?_⟩, h1⟩
    exact rpat_any hI n (kd (n + 1) y) (tx (n + 1) y) (nu (n + 1) y) (pl (n + 1) y) (ks (n + 1) y) s c W (hR.below hW) (NdG.kids hy) ht.2 (h1 W (hR.below hW)) (h2 W (hR.below hW))
theorem rpat_rm (n : Nat) (w : World) (hR : Rdy w) : RM 27 n (patP n) w := (rpat_two rId_said n).1 w hR
end Go.Proofs.YtcemogaacicnfaaGreatDoor
