/- Lists, units, halves of a row: by the code. -/
import Derived.Test.YtcemogaacicnfaaGreatDoorSt1
namespace Go.Proofs.YtcemogaacicnfaaGreatDoor
set_option linter.unusedSimpArgs false
set_option maxRecDepth 20000
set_option maxHeartbeats 4000000
section
open Go.ChangeShapes Go.WideShapes Go.ChangeAt Go.RowKit

def listF (n : Nat) (k : Int) (t : List UInt8) (m : Int) (l : List (Tr n)) (lo hi : Int) (M : Tr n → Bool) : Bool := decide (k = 28) && plainF t m && manyP n l lo hi M
theorem lst_28 (n : Nat) (t : List UInt8) (m a : Int) (l : List (Tr n)) (s : Option Addr) (c : Nat) (w : World) (hR : Rdy w) (hl : KsG w n s c l) (B1 B2 B3 : Nat) (lo hi : Int) (q : FuncId) (cs : List Value) (e1 : w.cell? ⟨B1, 0, none⟩ = some (.int .i64 lo)) (e2 : w.cell? ⟨B2, 0, none⟩ = some (.int .i64 hi)) (e3 : w.cell? ⟨B3, 0, none⟩ = some (plV q cs)) (M : Tr n → Bool) (hM : May q cs n M w) :
    Calls Tryz.prog 123 #[.agg #[.int .i64 28, .string (bsA t), .int .i64 m, .int .i64 a, .slice s l.length c], .pointer (some ⟨B1, 0, none⟩), .pointer (some ⟨B2, 0, none⟩), .pointer (some ⟨B3, 0, none⟩)] w fun e w' => e = .returned (.bool (plainF t m && manyP n l lo hi M)) ∧ Below w.heap.size w w' := by
  have HN : Hid (Nd w n 28 t m a l s c (w.alloc (Obj.cells #[Value.int IntKind.i64 28, Value.string (bsA t), Value.int IntKind.i64 m, Value.int IntKind.i64 a, Value.slice s l.length c] 24))) := Nd.new w n _ t _ a l s c hR hl
  obtain ⟨d0, d1, d2, d3, d4, -, -, -, -, -⟩ := HN.out.box
  have HM : Hid (May q cs n M w) := hM
  have He1 : Hid _ := cell_below HN.out.bel e1
  have He2 : Hid _ := cell_below HN.out.bel e2
  have He3 : Hid _ := cell_below HN.out.bel e3
  clear hM e1 e2 e3
  unfold plV at He3
  have e1 := He1.out
  have e2 := He2.out
  have e3 := He3.out
  clear hl hR
  go_enter Tryz.func123, Tryz.ntmps123
  go_wp2_with (first | (go_at_call 39; refine (isPlain_any n _ _ _ _ l _ _ _ HN.out.rdy HN.out.kids).mono ?_; rintro e w1 ⟨rfl, hb1⟩; clear d0 d1 d2 d3 d4; replace HN : Hid _ := HN.out.step hb1; obtain ⟨d0, d1, d2, d3, d4, -, -, -, -, -⟩ := HN.out.box; clear e1 e2 e3; replace He1 : Hid _ := cell_below hb1 He1.out; have e1 := He1.out; replace He2 : Hid _ := cell_below hb1 He2.out; have e2 := He2.out; replace He3 : Hid _ := cell_below hb1 He3.out; have e3 := He3.out) | (go_at_call 47; (refine (many_any n l s c _ _ q cs M _ HN.out.kids (HM.out.below HN.out.bel)).mono ?_; rintro e w1 ⟨rfl, hb1⟩; clear d0 d1 d2 d3 d4; replace HN : Hid _ := HN.out.step hb1; obtain ⟨d0, d1, d2, d3, d4, -, -, -, -, -⟩ := HN.out.box)))
  all_goals (go_ret; exact ⟨by simp_all [bsA_tl, beqI, beqL], HN.out.bel⟩)
theorem lst_x (n : Nat) (k : Int) (t : List UInt8) (m a : Int) (l : List (Tr n)) (s : Option Addr) (c : Nat) (w : World) (hR : Rdy w) (hl : KsG w n s c l) (B1 B2 B3 : Nat) (h0 : (k == 28) = false) :
    Calls Tryz.prog 123 #[.agg #[.int .i64 k, .string (bsA t), .int .i64 m, .int .i64 a, .slice s l.length c], .pointer (some ⟨B1, 0, none⟩), .pointer (some ⟨B2, 0, none⟩), .pointer (some ⟨B3, 0, none⟩)] w fun e w' => e = .returned (.bool (false)) ∧ Below w.heap.size w w' := by
  have HN : Hid (Nd w n k t m a l s c (w.alloc (Obj.cells #[Value.int IntKind.i64 k, Value.string (bsA t), Value.int IntKind.i64 m, Value.int IntKind.i64 a, Value.slice s l.length c] 24))) := Nd.new w n _ t _ a l s c hR hl
  obtain ⟨d0, d1, d2, d3, d4, -, -, -, -, -⟩ := HN.out.box
  clear hl hR
  go_enter Tryz.func123, Tryz.ntmps123
  go_wp2_with (first | fail)
  all_goals (go_ret; exact ⟨by simp_all [bsA_tl, beqI, beqL], HN.out.bel⟩)
theorem lst1_any (n : Nat) (k : Int) (t : List UInt8) (m a : Int) (l : List (Tr n)) (s : Option Addr) (c : Nat) (w : World) (hR : Rdy w) (hl : KsG w n s c l) (B1 B2 B3 : Nat) (lo hi : Int) (q : FuncId) (cs : List Value) (e1 : w.cell? ⟨B1, 0, none⟩ = some (.int .i64 lo)) (e2 : w.cell? ⟨B2, 0, none⟩ = some (.int .i64 hi)) (e3 : w.cell? ⟨B3, 0, none⟩ = some (plV q cs)) (M : Tr n → Bool) (hM : May q cs n M w) :
    Calls Tryz.prog 123 #[.agg #[.int .i64 k, .string (bsA t), .int .i64 m, .int .i64 a, .slice s l.length c], .pointer (some ⟨B1, 0, none⟩), .pointer (some ⟨B2, 0, none⟩), .pointer (some ⟨B3, 0, none⟩)] w fun e w' => e = .returned (.bool (listF n k t m l lo hi M)) ∧ Below w.heap.size w w' := by
  unfold listF
  rcases Classical.em (k = 28) with rfl | h
  · exact lst_28 n t m a l s c w hR hl B1 B2 B3 lo hi q cs e1 e2 e3 M hM
  · rw [decide_eq_false h]
    exact lst_x n k t m a l s c w hR hl B1 B2 B3 (by simpa using h)
theorem ent123 : Ent 123 := ent_of Tryz.func123 (by kernel_rfl) (by kernel_rfl)
def lstP (n : Nat) (lo hi : Int) (M : Tr n.pred → Bool) (y : Tr n) : Bool := listF n.pred (kd n y) (tx n y) (nu n y) (ks n y) lo hi M
theorem listOf_any (lo hi : Int) (q : FuncId) (cs : List Value) (w : World) (hR : Rdy w) :
    Calls Tryz.prog 100 #[.int .i64 lo, .int .i64 hi, plV q cs] w fun e w' => (∃ vs, e = .returned (plV 123 vs) ∧ ∀ n M, May q cs n.pred M w → May 123 vs n (lstP n lo hi M) w') ∧ Below w.heap.size w w' := by
  have hA : Below w.heap.size w (w.alloc (Obj.cells #[.int .i64 lo] 3)) := (Below.refl _ _).alloc (Nat.le_refl _) _
  have hA' : Below (w.alloc (Obj.cells #[.int .i64 lo] 3)).heap.size (w.alloc (Obj.cells #[.int .i64 lo] 3)) ((w.alloc (Obj.cells #[.int .i64 lo] 3)).alloc (Obj.cells #[.int .i64 hi] 3)) := (Below.refl _ _).alloc (Nat.le_refl _) _
  have hA2 : Below ((w.alloc (Obj.cells #[.int .i64 lo] 3)).alloc (Obj.cells #[.int .i64 hi] 3)).heap.size ((w.alloc (Obj.cells #[.int .i64 lo] 3)).alloc (Obj.cells #[.int .i64 hi] 3)) (((w.alloc (Obj.cells #[.int .i64 lo] 3)).alloc (Obj.cells #[.int .i64 hi] 3)).alloc (Obj.cells #[plV q cs] 49)) := (Below.refl _ _).alloc (Nat.le_refl _) _
  have hB1 := hA.trans (hA'.mono hA.size)
  have hB := hB1.trans (hA2.mono hB1.size)
  obtain ⟨g0, _⟩ := cell1_new w (.int .i64 lo) 3
  obtain ⟨g1, _⟩ := cell1_new (w.alloc (Obj.cells #[.int .i64 lo] 3)) (.int .i64 hi) 3
  obtain ⟨g2, _⟩ := cell1_new ((w.alloc (Obj.cells #[.int .i64 lo] 3)).alloc (Obj.cells #[.int .i64 hi] 3)) (plV q cs) 49
  have g0 := cell_below hA2 (cell_below hA' g0)
  have g1 := cell_below hA2 g1
  simp only [World.size_alloc] at g1 g2
  have HE : Hid (∀ n M, May q cs n.pred M w → May 123 [.pointer (some ⟨w.heap.size, 0, none⟩), .pointer (some ⟨w.heap.size + 1, 0, none⟩), .pointer (some ⟨w.heap.size + 1 + 1, 0, none⟩)] n (lstP n lo hi M) (((w.alloc (Obj.cells #[.int .i64 lo] 3)).alloc (Obj.cells #[.int .i64 hi] 3)).alloc (Obj.cells #[plV q cs] 49))) := by
    intro n M hM
    refine ⟨ent123, fun W hW y s c hy => ?_⟩
    cases n with
    | zero => exact Empty.elim y
    | succ n => exact lst1_any n _ _ _ _ _ s c W ((hR.below hB).below hW) (NdG.kids hy) _ _ _ lo hi q cs (cell_below hW g0) (cell_below hW g1) (cell_below hW g2) M ((hM.below hB).below hW)
  clear g0 g1 g2 hA hA' hA2 hB1
  unfold plV at hB HE ⊢
  go_enter Tryz.func100, Tryz.ntmps100
  go_wp2
  go_ret
  exact ⟨⟨_, rfl, HE.out⟩, hB⟩
def unitF (n : Nat) (k : Int) (t : List UInt8) (m : Int) (l : List (Tr n)) (u : List UInt8) : Bool := decide (k = 15) && decide (t = u) && decide (m = 0) && emp n l
theorem unit_15 (n : Nat) (t : List UInt8) (m a : Int) (l : List (Tr n)) (s : Option Addr) (c : Nat) (w : World) (hR : Rdy w) (hl : KsG w n s c l) (B1 : Nat) (u : List UInt8) (e1 : w.cell? ⟨B1, 0, none⟩ = some (.string (bsA u))) :
    Calls Tryz.prog 132 #[.agg #[.int .i64 15, .string (bsA t), .int .i64 m, .int .i64 a, .slice s l.length c], .pointer (some ⟨B1, 0, none⟩)] w fun e w' => e = .returned (.bool (decide (t = u) && decide (m = 0) && emp n l)) ∧ Below w.heap.size w w' := by
  rcases Classical.em (m = 0) with rfl | h0
  · have HN : Hid (Nd w n 15 t 0 a l s c (w.alloc (Obj.cells #[Value.int IntKind.i64 15, Value.string (bsA t), Value.int IntKind.i64 0, Value.int IntKind.i64 a, Value.slice s l.length c] 24))) := Nd.new w n _ t _ a l s c hR hl
    obtain ⟨d0, d1, d2, d3, d4, -, -, -, -, -⟩ := HN.out.box
    have He1 : Hid _ := cell_below HN.out.bel e1
    clear e1
    have e1 := He1.out
    clear hl hR
    go_enter Tryz.func132, Tryz.ntmps132
    go_wp2_with (first | (go_at_call 40; (refine (are_e n l s c _ HN.out.kids).mono ?_; rintro e w1 ⟨rfl, hb1⟩; clear d0 d1 d2 d3 d4; replace HN : Hid _ := HN.out.step hb1; obtain ⟨d0, d1, d2, d3, d4, -, -, -, -, -⟩ := HN.out.box)))
    all_goals (go_ret; exact ⟨by simp_all [bsA_tl, beqI, beqL], HN.out.bel⟩)
  · have HN : Hid (Nd w n 15 t m a l s c (w.alloc (Obj.cells #[Value.int IntKind.i64 15, Value.string (bsA t), Value.int IntKind.i64 m, Value.int IntKind.i64 a, Value.slice s l.length c] 24))) := Nd.new w n _ t _ a l s c hR hl
    obtain ⟨d0, d1, d2, d3, d4, -, -, -, -, -⟩ := HN.out.box
    have He1 : Hid _ := cell_below HN.out.bel e1
    clear e1
    have e1 := He1.out
    clear hl hR
    go_enter Tryz.func132, Tryz.ntmps132
    go_wp2_with (first | (go_at_call 40; (refine (are_e n l s c _ HN.out.kids).mono ?_; rintro e w1 ⟨rfl, hb1⟩; clear d0 d1 d2 d3 d4; replace HN : Hid _ := HN.out.step hb1; obtain ⟨d0, d1, d2, d3, d4, -, -, -, -, -⟩ := HN.out.box)))
    all_goals (go_ret; exact ⟨by simp_all [bsA_tl, beqI, beqL], HN.out.bel⟩)
theorem unit_x (n : Nat) (k : Int) (t : List UInt8) (m a : Int) (l : List (Tr n)) (s : Option Addr) (c : Nat) (w : World) (hR : Rdy w) (hl : KsG w n s c l) (B1 : Nat) (u : List UInt8) (e1 : w.cell? ⟨B1, 0, none⟩ = some (.string (bsA u))) (h0 : (k == 15) = false) :
    Calls Tryz.prog 132 #[.agg #[.int .i64 k, .string (bsA t), .int .i64 m, .int .i64 a, .slice s l.length c], .pointer (some ⟨B1, 0, none⟩)] w fun e w' => e = .returned (.bool (false)) ∧ Below w.heap.size w w' := by
  have HN : Hid (Nd w n k t m a l s c (w.alloc (Obj.cells #[Value.int IntKind.i64 k, Value.string (bsA t), Value.int IntKind.i64 m, Value.int IntKind.i64 a, Value.slice s l.length c] 24))) := Nd.new w n _ t _ a l s c hR hl
  obtain ⟨d0, d1, d2, d3, d4, -, -, -, -, -⟩ := HN.out.box
  have He1 : Hid _ := cell_below HN.out.bel e1
  clear e1
  have e1 := He1.out
  clear hl hR
  go_enter Tryz.func132, Tryz.ntmps132
  go_wp2_with (first | fail)
  all_goals (go_ret; exact ⟨by simp_all [bsA_tl, beqI, beqL], HN.out.bel⟩)
theorem ent132 : Ent 132 := ent_of Tryz.func132 (by kernel_rfl) (by kernel_rfl)
def unitP (n : Nat) (u : List UInt8) (y : Tr n) : Bool := unitF n.pred (kd n y) (tx n y) (nu n y) (ks n y) u
theorem unit1_any (n : Nat) (k : Int) (t : List UInt8) (m a : Int) (l : List (Tr n)) (s : Option Addr) (c : Nat) (w : World) (hR : Rdy w) (hl : KsG w n s c l) (B1 : Nat) (u : List UInt8) (e1 : w.cell? ⟨B1, 0, none⟩ = some (.string (bsA u))) :
    Calls Tryz.prog 132 #[.agg #[.int .i64 k, .string (bsA t), .int .i64 m, .int .i64 a, .slice s l.length c], .pointer (some ⟨B1, 0, none⟩)] w fun e w' => e = .returned (.bool (unitF n k t m l u)) ∧ Below w.heap.size w w' := by
  unfold unitF
  rcases Classical.em (k = 15) with rfl | h
  · exact unit_15 n t m a l s c w hR hl B1 u e1
  · rw [decide_eq_false h]
    exact unit_x n k t m a l s c w hR hl B1 u e1 (by simpa using h)
theorem unit_any (u : List UInt8) (w : World) (hR : Rdy w) :
    Calls Tryz.prog 124 #[.string (bsA u)] w fun e w' => (∃ vs, e = .returned (plV 132 vs) ∧ ∀ n, May 132 vs n (unitP n u) w') ∧ Below w.heap.size w w' := by
  have hA : Below w.heap.size w (w.alloc (Obj.cells #[.string (bsA u)] 9)) := (Below.refl _ _).alloc (Nat.le_refl _) _
  obtain ⟨g0, _⟩ := cell1_new w (.string (bsA u)) 9
  have HE : Hid (∀ n, May 132 [.pointer (some ⟨w.heap.size, 0, none⟩)] n (unitP n u) (w.alloc (Obj.cells #[.string (bsA u)] 9))) := by
    intro n
    refine ⟨ent132, fun W hW y s c hy => ?_⟩
    cases n with
    | zero => exact Empty.elim y
    | succ n => exact unit1_any n _ _ _ _ _ s c W ((hR.below hA).below hW) (NdG.kids hy) _ u (cell_below hW g0)
  clear g0
  unfold plV
  go_enter Tryz.func124, Tryz.ntmps124
  go_wp2
  go_ret
  exact ⟨⟨_, rfl, HE.out⟩, hA⟩
theorem split_some (b off len cap : Nat) (hd : Nat) (w : World) (hl : len ≤ cap) :
    Calls Tryz.prog 56 #[.slice (some ⟨b, off, none⟩) len cap, .int .i64 hd] w fun e w' => (∃ s2, e = .returned (.tuple #[.slice (some ⟨b, off, none⟩) (min hd len) cap, .slice s2 (len - min hd len) (cap - min hd len)]) ∧ (s2 = some ⟨b, off + min hd len * 5, none⟩ ∨ len - min hd len = 0)) ∧ Below w.heap.size w w' := by
  have f1 : 0 ≤ min (hd : Int) len ∧ min (hd : Int) len ≤ cap := by omega
  have f2 : 0 ≤ min (hd : Int) len ∧ min (hd : Int) len ≤ len := by omega
  have HT : Hid ((min (hd : Int) len).toNat = min hd len) := by show _ = _; omega
  rcases Classical.em (cap = (min (hd : Int) len).toNat) with hcp | hcp
  · have hcp' : (cap = (min (hd : Int) len).toNat) = True := by simpa using hcp
    have HC : Hid _ := hcp
    clear hcp
    go_enter Tryz.func56, Tryz.ntmps56
    go_wp2
    refine wp_region_held_drew (S := (fun _ => True)) (by kernel_rfl) ?_ (fun hHeld => ?_)
    · trivial
    refine tk 0 (some 10) (v := ?_) rfl ?_ ?_
    rotate_left
    · intro wS hSw; (try dsimp only at hSw); go_simp; (try with_reducible rfl)
    try simp only [Act.put, List.setIfInBounds_toArray, List.set_cons_zero, List.set_cons_succ]
    refine tk 1 (some 11) (v := ?_) rfl ?_ ?_
    rotate_left
    · intro wS hSw; (try dsimp only at hSw); go_simp; (try with_reducible rfl)
    try simp only [Act.put, List.setIfInBounds_toArray, List.set_cons_zero, List.set_cons_succ]
    refine tk 2 (some 12) (v := ?_) rfl ?_ ?_
    rotate_left
    · intro wS hSw; (try dsimp only at hSw); go_simp; (try with_reducible rfl)
    try simp only [Act.put, List.setIfInBounds_toArray, List.set_cons_zero, List.set_cons_succ]
    refine tk 3 (some 13) (v := ?_) rfl ?_ ?_
    rotate_left
    · intro wS hSw; (try dsimp only at hSw); go_simp; (try with_reducible rfl)
    try simp only [Act.put, List.setIfInBounds_toArray, List.set_cons_zero, List.set_cons_succ]
    refine tk 4 (some 14) (v := ?_) rfl ?_ ?_
    rotate_left
    · intro wS hSw; (try dsimp only at hSw); go_simp; (try with_reducible rfl)
    try simp only [Act.put, List.setIfInBounds_toArray, List.set_cons_zero, List.set_cons_succ]
    refine tk 5 (some 15) (v := ?_) rfl ?_ ?_
    rotate_left
    · intro wS hSw; (try dsimp only at hSw); go_simp; (try with_reducible rfl)
    try simp only [Act.put, List.setIfInBounds_toArray, List.set_cons_zero, List.set_cons_succ]
    refine tk 6 (some 4) (v := ?_) rfl ?_ ?_
    rotate_left
    · intro wS hSw; (try dsimp only at hSw); go_simp; (try with_reducible rfl)
    try simp only [Act.put, List.setIfInBounds_toArray, List.set_cons_zero, List.set_cons_succ]
    refine tk 7 (some 5) (v := ?_) rfl ?_ ?_
    rotate_left
    · intro wS hSw; (try dsimp only at hSw); go_simp; (try with_reducible rfl)
    try simp only [Act.put, List.setIfInBounds_toArray, List.set_cons_zero, List.set_cons_succ]
    refine wpAnyH_done (by kernel_rfl) ?_ _
    go_wp2
    refine bodyPost_ret (v := .tuple #[.slice (some ⟨b, off, none⟩) (min (hd : Int) len).toNat cap, .slice (some ⟨b, off, none⟩) (len - (min (hd : Int) len).toNat) (cap - (min (hd : Int) len).toNat)]) (by simp [results, Tryz.results56, go_sem]) rfl ⟨⟨_, by rw [HT.out], Or.inr (by have := HC.out; rw [HT.out] at this; omega)⟩, (Bel.out (by repeat (first | exact Bel.refl _ | refine Bel.drew ?_ | refine Bel.drewN ?_ _ | refine Bel.alloc ?_ _ | refine Bel.setCell ?_ (by simp <;> omega) _ | refine Bel.step ?_ (by assumption))))⟩
  · have hcp' : (cap = (min (hd : Int) len).toNat) = False := by simpa using hcp
    have HC : Hid _ := hcp
    clear hcp
    go_enter Tryz.func56, Tryz.ntmps56
    go_wp2
    refine wp_region_held_drew (S := (fun _ => True)) (by kernel_rfl) ?_ (fun hHeld => ?_)
    · trivial
    refine tk 0 (some 10) (v := ?_) rfl ?_ ?_
    rotate_left
    · intro wS hSw; (try dsimp only at hSw); go_simp; (try with_reducible rfl)
    try simp only [Act.put, List.setIfInBounds_toArray, List.set_cons_zero, List.set_cons_succ]
    refine tk 1 (some 11) (v := ?_) rfl ?_ ?_
    rotate_left
    · intro wS hSw; (try dsimp only at hSw); go_simp; (try with_reducible rfl)
    try simp only [Act.put, List.setIfInBounds_toArray, List.set_cons_zero, List.set_cons_succ]
    refine tk 2 (some 12) (v := ?_) rfl ?_ ?_
    rotate_left
    · intro wS hSw; (try dsimp only at hSw); go_simp; (try with_reducible rfl)
    try simp only [Act.put, List.setIfInBounds_toArray, List.set_cons_zero, List.set_cons_succ]
    refine tk 3 (some 13) (v := ?_) rfl ?_ ?_
    rotate_left
    · intro wS hSw; (try dsimp only at hSw); go_simp; (try with_reducible rfl)
    try simp only [Act.put, List.setIfInBounds_toArray, List.set_cons_zero, List.set_cons_succ]
    refine tk 4 (some 14) (v := ?_) rfl ?_ ?_
    rotate_left
    · intro wS hSw; (try dsimp only at hSw); go_simp; (try with_reducible rfl)
    try simp only [Act.put, List.setIfInBounds_toArray, List.set_cons_zero, List.set_cons_succ]
    refine tk 5 (some 15) (v := ?_) rfl ?_ ?_
    rotate_left
    · intro wS hSw; (try dsimp only at hSw); go_simp; (try with_reducible rfl)
    try simp only [Act.put, List.setIfInBounds_toArray, List.set_cons_zero, List.set_cons_succ]
    refine tk 6 (some 4) (v := ?_) rfl ?_ ?_
    rotate_left
    · intro wS hSw; (try dsimp only at hSw); go_simp; (try with_reducible rfl)
    try simp only [Act.put, List.setIfInBounds_toArray, List.set_cons_zero, List.set_cons_succ]
    refine tk 7 (some 5) (v := ?_) rfl ?_ ?_
    rotate_left
    · intro wS hSw; (try dsimp only at hSw); go_simp; (try with_reducible rfl)
    try simp only [Act.put, List.setIfInBounds_toArray, List.set_cons_zero, List.set_cons_succ]
    refine wpAnyH_done (by kernel_rfl) ?_ _
    go_wp2
    refine bodyPost_ret (v := .tuple #[.slice (some ⟨b, off, none⟩) (min (hd : Int) len).toNat cap, .slice (some ⟨b, off + (min (hd : Int) len).toNat * 5, none⟩) (len - (min (hd : Int) len).toNat) (cap - (min (hd : Int) len).toNat)]) (by simp [results, Tryz.results56, go_sem]) rfl ⟨⟨_, by rw [HT.out], Or.inl rfl⟩, (Bel.out (by repeat (first | exact Bel.refl _ | refine Bel.drew ?_ | refine Bel.drewN ?_ _ | refine Bel.alloc ?_ _ | refine Bel.setCell ?_ (by simp <;> omega) _ | refine Bel.step ?_ (by assumption))))⟩
theorem split_none (cap hd : Nat) (w : World) :
    Calls Tryz.prog 56 #[.slice none 0 cap, .int .i64 hd] w fun e w' => e = .returned (.tuple #[.slice none 0 cap, .slice none 0 cap]) ∧ Below w.heap.size w w' := by
  have f0 : min (hd : Int) 0 = 0 := by omega
  go_enter Tryz.func56, Tryz.ntmps56
  go_wp2
  refine wp_region_held_drew (S := (fun _ => True)) (by kernel_rfl) ?_ (fun hHeld => ?_)
  · trivial
  refine tk 0 (some 10) (v := ?_) rfl ?_ ?_
  rotate_left
  · intro wS hSw; (try dsimp only at hSw); go_simp; (try with_reducible rfl)
  try simp only [Act.put, List.setIfInBounds_toArray, List.set_cons_zero, List.set_cons_succ]
  refine tk 1 (some 11) (v := ?_) rfl ?_ ?_
  rotate_left
  · intro wS hSw; (try dsimp only at hSw); go_simp; (try with_reducible rfl)
  try simp only [Act.put, List.setIfInBounds_toArray, List.set_cons_zero, List.set_cons_succ]
  refine tk 2 (some 12) (v := ?_) rfl ?_ ?_
  rotate_left
  · intro wS hSw; (try dsimp only at hSw); go_simp; (try with_reducible rfl)
  try simp only [Act.put, List.setIfInBounds_toArray, List.set_cons_zero, List.set_cons_succ]
  refine tk 3 (some 13) (v := ?_) rfl ?_ ?_
  rotate_left
  · intro wS hSw; (try dsimp only at hSw); go_simp; (try with_reducible rfl)
  try simp only [Act.put, List.setIfInBounds_toArray, List.set_cons_zero, List.set_cons_succ]
  refine tk 4 (some 14) (v := ?_) rfl ?_ ?_
  rotate_left
  · intro wS hSw; (try dsimp only at hSw); go_simp; (try with_reducible rfl)
  try simp only [Act.put, List.setIfInBounds_toArray, List.set_cons_zero, List.set_cons_succ]
  refine tk 5 (some 15) (v := ?_) rfl ?_ ?_
  rotate_left
  · intro wS hSw; (try dsimp only at hSw); go_simp; (try with_reducible rfl)
  try simp only [Act.put, List.setIfInBounds_toArray, List.set_cons_zero, List.set_cons_succ]
  refine tk 6 (some 4) (v := ?_) rfl ?_ ?_
  rotate_left
  · intro wS hSw; (try dsimp only at hSw); go_simp; (try with_reducible rfl)
  try simp only [Act.put, List.setIfInBounds_toArray, List.set_cons_zero, List.set_cons_succ]
  refine tk 7 (some 5) (v := ?_) rfl ?_ ?_
  rotate_left
  · intro wS hSw; (try dsimp only at hSw); go_simp; (try with_reducible rfl)
  try simp only [Act.put, List.setIfInBounds_toArray, List.set_cons_zero, List.set_cons_succ]
  refine wpAnyH_done (by kernel_rfl) ?_ _
  go_wp2
  refine bodyPost_ret (v := .tuple #[.slice none 0 cap, .slice none 0 cap]) (by simp [results, Tryz.results56, go_sem]) rfl ⟨rfl, (Bel.out (by repeat (first | exact Bel.refl _ | refine Bel.drew ?_ | refine Bel.drewN ?_ _ | refine Bel.alloc ?_ _ | refine Bel.setCell ?_ (by simp <;> omega) _ | refine Bel.step ?_ (by assumption))))⟩
theorem split_zero (a : Addr) (cap hd : Nat) (w : World) :
    Calls Tryz.prog 56 #[.slice (some a) 0 cap, .int .i64 hd] w fun e w' => e = .returned (.tuple #[.slice (some a) 0 cap, .slice (some a) 0 cap]) ∧ Below w.heap.size w w' := by
  have f0 : min (hd : Int) 0 = 0 := by omega
  go_enter Tryz.func56, Tryz.ntmps56
  go_wp2
  refine wp_region_held_drew (S := (fun _ => True)) (by kernel_rfl) ?_ (fun hHeld => ?_)
  · trivial
  refine tk 0 (some 10) (v := ?_) rfl ?_ ?_
  rotate_left
  · intro wS hSw; (try dsimp only at hSw); go_simp; (try with_reducible rfl)
  try simp only [Act.put, List.setIfInBounds_toArray, List.set_cons_zero, List.set_cons_succ]
  refine tk 1 (some 11) (v := ?_) rfl ?_ ?_
  rotate_left
  · intro wS hSw; (try dsimp only at hSw); go_simp; (try with_reducible rfl)
  try simp only [Act.put, List.setIfInBounds_toArray, List.set_cons_zero, List.set_cons_succ]
  refine tk 2 (some 12) (v := ?_) rfl ?_ ?_
  rotate_left
  · intro wS hSw; (try dsimp only at hSw); go_simp; (try with_reducible rfl)
  try simp only [Act.put, List.setIfInBounds_toArray, List.set_cons_zero, List.set_cons_succ]
  refine tk 3 (some 13) (v := ?_) rfl ?_ ?_
  rotate_left
  · intro wS hSw; (try dsimp only at hSw); go_simp; (try with_reducible rfl)
  try simp only [Act.put, List.setIfInBounds_toArray, List.set_cons_zero, List.set_cons_succ]
  refine tk 4 (some 14) (v := ?_) rfl ?_ ?_
  rotate_left
  · intro wS hSw; (try dsimp only at hSw); go_simp; (try with_reducible rfl)
  try simp only [Act.put, List.setIfInBounds_toArray, List.set_cons_zero, List.set_cons_succ]
  refine tk 5 (some 15) (v := ?_) rfl ?_ ?_
  rotate_left
  · intro wS hSw; (try dsimp only at hSw); go_simp; (try with_reducible rfl)
  try simp only [Act.put, List.setIfInBounds_toArray, List.set_cons_zero, List.set_cons_succ]
  refine tk 6 (some 4) (v := ?_) rfl ?_ ?_
  rotate_left
  · intro wS hSw; (try dsimp only at hSw); go_simp; (try with_reducible rfl)
  try simp only [Act.put, List.setIfInBounds_toArray, List.set_cons_zero, List.set_cons_succ]
  refine tk 7 (some 5) (v := ?_) rfl ?_ ?_
  rotate_left
  · intro wS hSw; (try dsimp only at hSw); go_simp; (try with_reducible rfl)
  try simp only [Act.put, List.setIfInBounds_toArray, List.set_cons_zero, List.set_cons_succ]
  refine wpAnyH_done (by kernel_rfl) ?_ _
  go_wp2
  refine bodyPost_ret (v := .tuple #[.slice (some a) 0 cap, .slice (some a) 0 cap]) (by simp [results, Tryz.results56, go_sem]) rfl ⟨rfl, (Bel.out (by repeat (first | exact Bel.refl _ | refine Bel.drew ?_ | refine Bel.drewN ?_ _ | refine Bel.alloc ?_ _ | refine Bel.setCell ?_ (by simp <;> omega) _ | refine Bel.step ?_ (by assumption))))⟩
theorem split_l (n : Nat) (l : List (Tr n)) (s : Option Addr) (c hd : Nat) (w : World) (hl : KsG w n s c l) :
    Calls Tryz.prog 56 #[.slice s l.length c, .int .i64 hd] w fun e w' => (∃ s2 c2, e = .returned (.tuple #[.slice s (l.take hd).length c, .slice s2 (l.drop hd).length c2]) ∧ KsG w n s c (l.take hd) ∧ KsG w n s2 c2 (l.drop hd)) ∧ Below w.heap.size w w' := by
  have hl0 := hl
  obtain ⟨h63, hl, hcap⟩ := hl
  rcases hl with rfl | ⟨b, off, rfl, hc⟩
  · have h0 : KsG w n s c ([] : List (Tr n)) := ⟨by simp, Or.inl rfl, by simp⟩
    cases s with
    | none => exact (split_none c hd w).mono fun e w' ⟨he, hb⟩ => ⟨⟨none, c, by rw [he]; simp, by simpa using h0, by simpa using h0⟩, hb⟩
    | some a => exact (split_zero a c hd w).mono fun e w' ⟨he, hb⟩ => ⟨⟨some a, c, by rw [he]; simp, by simpa using h0, by simpa using h0⟩, hb⟩
  · refine (split_some b off l.length c hd w hcap).mono fun e w' ⟨⟨s2, he, hs⟩, hb⟩ => ⟨⟨s2, c - min hd l.length, ?_, hl0.take hd, ?_⟩, hb⟩
    · have e1 : l.length - min hd l.length = l.length - hd := by omega
      rw [he, List.length_take, List.length_drop, e1]
    · rcases hs with rfl | h0
      · rcases Nat.le_total hd l.length with h | h
        · rw [Nat.min_eq_left h]
          exact hl0.drop hd
        · have e0 : l.drop hd = [] := List.drop_eq_nil_of_le h
          rw [e0]
          exact ⟨by simp, Or.inl rfl, by simp⟩
      · have e0 : l.drop hd = [] := List.drop_eq_nil_of_le (by omega)
        rw [e0]
        exact ⟨by simp, Or.inl rfl, by simp⟩
theorem split_any (n : Nat) (l : List (Tr n)) (s : Option Addr) (c hd : Nat) (w : World) (hl : KsG w n s c l) :
    Calls Tryz.prog 56 #[.slice s l.length c, .int .i64 hd] w fun e w' => (∃ s2 c2 l1 l2, Hid (l1 = l.take hd) ∧ Hid (l2 = l.drop hd) ∧ e = .returned (.tuple #[.slice s l1.length c, .slice s2 l2.length c2]) ∧ KsG w n s c l1 ∧ KsG w n s2 c2 l2) ∧ Below w.heap.size w w' :=
  (split_l n l s c hd w hl).mono fun _ _ ⟨⟨s2, c2, he, h1, h2⟩, hb⟩ => ⟨⟨s2, c2, _, _, rfl, rfl, he, h1, h2⟩, hb⟩
end
section
open Go.ChangeShapes Go.WideShapes Go.ChangeAt Go.RowKit

def strmF (n : Nat) (k : Int) (t : List UInt8) (m : Int) (l : List (Tr n)) : Bool := decide (k = 24) && hidF t m && areQ n (l.take 2) [optP n (exprP n), optP n (nmeP n)] && manyP n (l.drop 2) 0 4 (viewP n)
theorem strm_any (n : Nat) (k : Int) (t : List UInt8) (m a : Int) (l : List (Tr n)) (s : Option Addr) (c : Nat) (w : World) (hR : Rdy w) (hl : KsG w n s c l) :
    Calls Tryz.prog 101 #[.agg #[.int .i64 k, .string (bsA t), .int .i64 m, .int .i64 a, .slice s l.length c]] w fun e w' => e = .returned (.bool (strmF n k t m l)) ∧ Below w.heap.size w w' := by
  rcases Classical.em (k = 24) with rfl | h0
  · have HN : Hid (Nd w n 24 t m a l s c (w.alloc (Obj.cells #[Value.int IntKind.i64 24, Value.string (bsA t), Value.int IntKind.i64 m, Value.int IntKind.i64 a, Value.slice s l.length c] 24))) := Nd.new w n _ t _ a l s c hR hl
    obtain ⟨d0, d1, d2, d3, d4, -, -, -, -, -⟩ := HN.out.box
    clear hl hR
    go_enter Tryz.func101, Tryz.ntmps101
    go_wp2_with (first | (go_at_call 56; refine (split_any n l s c 2 _ HN.out.kids).mono ?_; rintro e w1 ⟨⟨s2, c2, l1, l2, HL1, HL2, rfl, hk1, hk2⟩, hb1⟩; have HK1 : Hid (KsG w1 n s c l1) := hk1.below hb1; have HK2 : Hid (KsG w1 n s2 c2 l2) := hk2.below hb1; clear hk1 hk2; clear d0 d1 d2 d3 d4; replace HN : Hid _ := HN.out.step hb1; obtain ⟨d0, d1, d2, d3, d4, -, -, -, -, -⟩ := HN.out.box) | (go_at_call 48; refine (hasId_any n _ _ _ _ l _ _ _ HN.out.rdy HN.out.kids).mono ?_; rintro e w1 ⟨rfl, hb1⟩; clear d0 d1 d2 d3 d4; replace HN : Hid _ := HN.out.step hb1; obtain ⟨d0, d1, d2, d3, d4, -, -, -, -, -⟩ := HN.out.box; (try replace HK1 : Hid (KsG w1 n s c l1) := HK1.out.below hb1); (try replace HK2 : Hid (KsG w1 n s2 c2 l2) := HK2.out.below hb1); (try replace HVa : Hid _ := HVa.out.below hb1); (try replace HVb : Hid _ := HVb.out.below hb1)) | (go_at_call 50; refine (optional_any 23 [] _ HN.out.rdy).mono ?_; rintro e w1 ⟨⟨vsa, rfl, hva⟩, hb1⟩; have HVa : Hid (May 92 vsa n (optP n (exprP n)) w1) := hva n _ (expr_may n _ HN.out.rdy); clear hva; clear d0 d1 d2 d3 d4; replace HN : Hid _ := HN.out.step hb1; obtain ⟨d0, d1, d2, d3, d4, -, -, -, -, -⟩ := HN.out.box; (try replace HK1 : Hid (KsG w1 n s c l1) := HK1.out.below hb1); (try replace HK2 : Hid (KsG w1 n s2 c2 l2) := HK2.out.below hb1); unfold plV) | (go_at_call 50; refine (optional_any 51 [] _ HN.out.rdy).mono ?_; rintro e w1 ⟨⟨vsb, rfl, hvb⟩, hb1⟩; have HVb : Hid (May 92 vsb n (optP n (nmeP n)) w1) := hvb n _ (nme_may n _ HN.out.rdy); clear hvb; clear d0 d1 d2 d3 d4; replace HN : Hid _ := HN.out.step hb1; obtain ⟨d0, d1, d2, d3, d4, -, -, -, -, -⟩ := HN.out.box; (try replace HK1 : Hid (KsG w1 n s c l1) := HK1.out.below hb1); (try replace HK2 : Hid (KsG w1 n s2 c2 l2) := HK2.out.below hb1); replace HVa : Hid _ := HVa.out.below hb1; unfold plV) | (go_at_call 40; refine (are_b n l1 [(92, vsa, optP n (exprP n)), (92, vsb, optP n (nmeP n))] s c _ _ _ _ _ rfl rfl (by simp) HK1.out (List.forall_mem_cons.2 ⟨HVa.out, List.forall_mem_cons.2 ⟨HVb.out, by simp⟩⟩)).mono ?_; rintro e w1 ⟨rfl, hb1⟩; clear d0 d1 d2 d3 d4; replace HN : Hid _ := HN.out.step hb1; obtain ⟨d0, d1, d2, d3, d4, -, -, -, -, -⟩ := HN.out.box; (try replace HK1 : Hid (KsG w1 n s c l1) := HK1.out.below hb1); (try replace HK2 : Hid (KsG w1 n s2 c2 l2) := HK2.out.below hb1); (try replace HVa : Hid _ := HVa.out.below hb1); (try replace HVb : Hid _ := HVb.out.below hb1)) | (go_at_call 47; refine (many_any n l2 s2 c2 _ _ 57 [] (viewP n) _ HK2.out (view_may n _ HN.out.rdy)).mono ?_; rintro e w1 ⟨rfl, hb1⟩; clear d0 d1 d2 d3 d4; replace HN : Hid _ := HN.out.step hb1; obtain ⟨d0, d1, d2, d3, d4, -, -, -, -, -⟩ := HN.out.box; (try replace HK1 : Hid (KsG w1 n s c l1) := HK1.out.below hb1); (try replace HK2 : Hid (KsG w1 n s2 c2 l2) := HK2.out.below hb1); (try replace HVa : Hid _ := HVa.out.below hb1); (try replace HVb : Hid _ := HVb.out.below hb1)))
    all_goals (go_ret; refine ⟨?_, HN.out.bel⟩; have e1 := HL1.out; have e2 := HL2.out; subst e1 e2; simp_all [bsA_tl, beqI, beqL, strmF])
  · have HN : Hid (Nd w n k t m a l s c (w.alloc (Obj.cells #[Value.int IntKind.i64 k, Value.string (bsA t), Value.int IntKind.i64 m, Value.int IntKind.i64 a, Value.slice s l.length c] 24))) := Nd.new w n _ t _ a l s c hR hl
    obtain ⟨d0, d1, d2, d3, d4, -, -, -, -, -⟩ := HN.out.box
    clear hl hR
    go_enter Tryz.func101, Tryz.ntmps101
    go_wp2_with (first | (go_at_call 56; refine (split_any n l s c 2 _ HN.out.kids).mono ?_; rintro e w1 ⟨⟨s2, c2, l1, l2, HL1, HL2, rfl, hk1, hk2⟩, hb1⟩; have HK1 : Hid (KsG w1 n s c l1) := hk1.below hb1; have HK2 : Hid (KsG w1 n s2 c2 l2) := hk2.below hb1; clear hk1 hk2; clear d0 d1 d2 d3 d4; replace HN : Hid _ := HN.out.step hb1; obtain ⟨d0, d1, d2, d3, d4, -, -, -, -, -⟩ := HN.out.box) | (go_at_call 48; refine (hasId_any n _ _ _ _ l _ _ _ HN.out.rdy HN.out.kids).mono ?_; rintro e w1 ⟨rfl, hb1⟩; clear d0 d1 d2 d3 d4; replace HN : Hid _ := HN.out.step hb1; obtain ⟨d0, d1, d2, d3, d4, -, -, -, -, -⟩ := HN.out.box; (try replace HK1 : Hid (KsG w1 n s c l1) := HK1.out.below hb1); (try replace HK2 : Hid (KsG w1 n s2 c2 l2) := HK2.out.below hb1); (try replace HVa : Hid _ := HVa.out.below hb1); (try replace HVb : Hid _ := HVb.out.below hb1)) | (go_at_call 50; refine (optional_any 23 [] _ HN.out.rdy).mono ?_; rintro e w1 ⟨⟨vsa, rfl, hva⟩, hb1⟩; have HVa : Hid (May 92 vsa n (optP n (exprP n)) w1) := hva n _ (expr_may n _ HN.out.rdy); clear hva; clear d0 d1 d2 d3 d4; replace HN : Hid _ := HN.out.step hb1; obtain ⟨d0, d1, d2, d3, d4, -, -, -, -, -⟩ := HN.out.box; (try replace HK1 : Hid (KsG w1 n s c l1) := HK1.out.below hb1); (try replace HK2 : Hid (KsG w1 n s2 c2 l2) := HK2.out.below hb1); unfold plV) | (go_at_call 50; refine (optional_any 51 [] _ HN.out.rdy).mono ?_; rintro e w1 ⟨⟨vsb, rfl, hvb⟩, hb1⟩; have HVb : Hid (May 92 vsb n (optP n (nmeP n)) w1) := hvb n _ (nme_may n _ HN.out.rdy); clear hvb; clear d0 d1 d2 d3 d4; replace HN : Hid _ := HN.out.step hb1; obtain ⟨d0, d1, d2, d3, d4, -, -, -, -, -⟩ := HN.out.box; (try replace HK1 : Hid (KsG w1 n s c l1) := HK1.out.below hb1); (try replace HK2 : Hid (KsG w1 n s2 c2 l2) := HK2.out.below hb1); replace HVa : Hid _ := HVa.out.below hb1; unfold plV) | (go_at_call 40; refine (are_b n l1 [(92, vsa, optP n (exprP n)), (92, vsb, optP n (nmeP n))] s c _ _ _ _ _ rfl rfl (by simp) HK1.out (List.forall_mem_cons.2 ⟨HVa.out, List.forall_mem_cons.2 ⟨HVb.out, by simp⟩⟩)).mono ?_; rintro e w1 ⟨rfl, hb1⟩; clear d0 d1 d2 d3 d4; replace HN : Hid _ := HN.out.step hb1; obtain ⟨d0, d1, d2, d3, d4, -, -, -, -, -⟩ := HN.out.box; (try replace HK1 : Hid (KsG w1 n s c l1) := HK1.out.below hb1); (try replace HK2 : Hid (KsG w1 n s2 c2 l2) := HK2.out.below hb1); (try replace HVa : Hid _ := HVa.out.below hb1); (try replace HVb : Hid _ := HVb.out.below hb1)) | (go_at_call 47; refine (many_any n l2 s2 c2 _ _ 57 [] (viewP n) _ HK2.out (view_may n _ HN.out.rdy)).mono ?_; rintro e w1 ⟨rfl, hb1⟩; clear d0 d1 d2 d3 d4; replace HN : Hid _ := HN.out.step hb1; obtain ⟨d0, d1, d2, d3, d4, -, -, -, -, -⟩ := HN.out.box; (try replace HK1 : Hid (KsG w1 n s c l1) := HK1.out.below hb1); (try replace HK2 : Hid (KsG w1 n s2 c2 l2) := HK2.out.below hb1); (try replace HVa : Hid _ := HVa.out.below hb1); (try replace HVb : Hid _ := HVb.out.below hb1)))
    all_goals (go_ret; refine ⟨?_, HN.out.bel⟩; have e1 := HL1.out; have e2 := HL2.out; subst e1 e2; simp_all [bsA_tl, beqI, beqL, strmF])
theorem ent101 : Ent 101 := ent_of Tryz.func101 (by kernel_rfl) (by kernel_rfl)
def strmP (n : Nat) (y : Tr n) : Bool := strmF n.pred (kd n y) (tx n y) (nu n y) (ks n y)
theorem strm_may (n : Nat) (w : World) (hR : Rdy w) : May 101 [] n (strmP n) w := ⟨ent101, fun W hW y s c hy => by
  cases n with
  | zero => exact Empty.elim y
  | succ n => exact strm_any n (kd (n + 1) y) (tx (n + 1) y) (nu (n + 1) y) (pl (n + 1) y) (ks (n + 1) y) s c W (hR.below hW) (NdG.kids hy)⟩
def srcF (n : Nat) (k : Int) (t : List UInt8) (m : Int) (l : List (Tr n)) : Bool := strmF n k t m l && decide ((l.length : Int) = 2)
theorem src_any (n : Nat) (k : Int) (t : List UInt8) (m a : Int) (l : List (Tr n)) (s : Option Addr) (c : Nat) (w : World) (hR : Rdy w) (hl : KsG w n s c l) :
    Calls Tryz.prog 60 #[.agg #[.int .i64 k, .string (bsA t), .int .i64 m, .int .i64 a, .slice s l.length c]] w fun e w' => e = .returned (.bool (srcF n k t m l)) ∧ Below w.heap.size w w' := by
  have HN : Hid (Nd w n k t m a l s c (w.alloc (Obj.cells #[Value.int IntKind.i64 k, Value.string (bsA t), Value.int IntKind.i64 m, Value.int IntKind.i64 a, Value.slice s l.length c] 24))) := Nd.new w n _ t _ a l s c hR hl
  obtain ⟨d0, d1, d2, d3, d4, -, -, -, -, -⟩ := HN.out.box
  clear hl hR
  go_enter Tryz.func60, Tryz.ntmps60
  go_wp2_with (first | (go_at_call 101; (refine (strm_any n _ _ _ _ l _ _ _ HN.out.rdy HN.out.kids).mono ?_; rintro e w1 ⟨rfl, hb1⟩; clear d0 d1 d2 d3 d4; replace HN : Hid _ := HN.out.step hb1; obtain ⟨d0, d1, d2, d3, d4, -, -, -, -, -⟩ := HN.out.box)))
  all_goals (go_ret; exact ⟨by simp_all [bsA_tl, beqI, beqL, srcF], HN.out.bel⟩)
theorem ent60 : Ent 60 := ent_of Tryz.func60 (by kernel_rfl) (by kernel_rfl)
def srcP (n : Nat) (y : Tr n) : Bool := srcF n.pred (kd n y) (tx n y) (nu n y) (ks n y)
theorem src_may (n : Nat) (w : World) (hR : Rdy w) : May 60 [] n (srcP n) w := ⟨ent60, fun W hW y s c hy => by
  cases n with
  | zero => exact Empty.elim y
  | succ n => exact src_any n (kd (n + 1) y) (tx (n + 1) y) (nu (n + 1) y) (pl (n + 1) y) (ks (n + 1) y) s c W (hR.below hW) (NdG.kids hy)⟩
def idxP (n : Nat) (l : List (Tr n)) (i : Nat) (P : Tr n → Bool) : Bool := match l[i]? with | some y => P y | none => false
def tgtF (n : Nat) (k : Int) (t : List UInt8) (m : Int) (l : List (Tr n)) : Bool := srcF n k t m l && idxP n l 0 (noneP n)
theorem tgt_any (n : Nat) (k : Int) (t : List UInt8) (m a : Int) (l : List (Tr n)) (s : Option Addr) (c : Nat) (w : World) (hR : Rdy w) (hl : KsG w n s c l) :
    Calls Tryz.prog 61 #[.agg #[.int .i64 k, .string (bsA t), .int .i64 m, .int .i64 a, .slice s l.length c]] w fun e w' => e = .returned (.bool (tgtF n k t m l)) ∧ Below w.heap.size w w' := by
  have HN : Hid (Nd w n k t m a l s c (w.alloc (Obj.cells #[Value.int IntKind.i64 k, Value.string (bsA t), Value.int IntKind.i64 m, Value.int IntKind.i64 a, Value.slice s l.length c] 24))) := Nd.new w n k t m a l s c hR hl
  obtain ⟨d0, d1, d2, d3, d4, -, -, -, -, -⟩ := HN.out.box
  have h1 := src_any n k t m a l s c _ HN.out.rdy HN.out.kids
  clear hl hR
  unfold tgtF
  cases hb : srcF n k t m l with
  | false =>
    rw [hb] at h1
    go_enter Tryz.func61, Tryz.ntmps61
    go_wp2_with fail
    refine h1.mono ?_
    rintro e w1 ⟨rfl, hb1⟩
    have HE : Hid _ := HN.out.step hb1
    clear h1
    go_wp2
    go_ret
    exact ⟨rfl, HE.out.bel⟩
  | true =>
    rw [hb] at h1
    have H2 : Hid (l.length = 2) := by
      show _ = _
      unfold srcF at hb
      simp only [Bool.and_eq_true, decide_eq_true_eq] at hb
      omega
    obtain ⟨y, hy⟩ : ∃ y, l[0]? = some y := ⟨_, List.getElem?_eq_getElem (by rw [H2.out]; omega)⟩
    have HR : Hid (idxP n l 0 (noneP n) = noneP n y) := by show _ = _; unfold idxP; rw [hy]
    have HY : Hid _ := hy
    generalize idxP n l 0 (noneP n) = rr at *
    clear hb hy
    go_enter Tryz.func61, Tryz.ntmps61
    go_wp2_with fail
    refine h1.mono ?_
    rintro e w1 ⟨rfl, hb1⟩
    have HN1 : Hid (Nd w n k t m a l s c w1) := HN.out.step hb1
    clear h1 d0 d1 d2 d3 d4
    obtain ⟨d0, d1, d2, d3, d4, -, -, -, -, -⟩ := HN1.out.box
    obtain ⟨_, hk, _⟩ := HN1.out.kids
    rcases hk with hk | ⟨b, off, rfl, hc⟩
    · have h2 := H2.out; rw [hk] at h2; cases h2
    obtain ⟨sy, cy, ⟨c0, c1, c2, c3, c4⟩, hg⟩ := hc 0 y HY.out
    simp only [Nat.reduceMul, Nat.add_zero, Nat.reduceAdd, Nat.add_assoc] at c0 c1 c2 c3 c4
    have h3 := (none_may n w1 HN1.out.rdy).run w1 (Below.refl _ _) y sy cy hg
    unfold ndV at h3
    change Calls Tryz.prog 91 #[.agg #[.int .i64 (kd n y), .string (bsA (tx n y)), .int .i64 (nu n y), .int .i64 (pl n y), .slice sy (ks n y).length cy]] w1 _ at h3
    clear hc hg
    rw [H2.out] at d4
    generalize noneP n y = r at *
    clear H2 HY
    go_wp2_with fail
    refine h3.mono ?_
    rintro e w2 ⟨rfl, hb2⟩
    have HN2 := HN1.out.bel.trans (hb2.mono HN1.out.bel.size)
    clear h3
    go_wp2
    go_ret
    exact ⟨by rw [HR.out]; simp, HN2⟩
theorem ent61 : Ent 61 := ent_of Tryz.func61 (by kernel_rfl) (by kernel_rfl)
def tgtP (n : Nat) (y : Tr n) : Bool := tgtF n.pred (kd n y) (tx n y) (nu n y) (ks n y)
theorem tgt_may (n : Nat) (w : World) (hR : Rdy w) : May 61 [] n (tgtP n) w := ⟨ent61, fun W hW y s c hy => by
  cases n with
  | zero => exact Empty.elim y
  | succ n => exact tgt_any n (kd (n + 1) y) (tx (n + 1) y) (nu (n + 1) y) (pl (n + 1) y) (ks (n + 1) y) s c W (hR.below hW) (NdG.kids hy)⟩
def nlsF (n : Nat) (k : Int) (t : List UInt8) (m : Int) (l : List (Tr n)) : Bool := srcF n k t m l && idxP n l 1 (noneP n)
theorem nls_any (n : Nat) (k : Int) (t : List UInt8) (m a : Int) (l : List (Tr n)) (s : Option Addr) (c : Nat) (w : World) (hR : Rdy w) (hl : KsG w n s c l) :
    Calls Tryz.prog 97 #[.agg #[.int .i64 k, .string (bsA t), .int .i64 m, .int .i64 a, .slice s l.length c]] w fun e w' => e = .returned (.bool (nlsF n k t m l)) ∧ Below w.heap.size w w' := by
  have HN : Hid (Nd w n k t m a l s c (w.alloc (Obj.cells #[Value.int IntKind.i64 k, Value.string (bsA t), Value.int IntKind.i64 m, Value.int IntKind.i64 a, Value.slice s l.length c] 24))) := Nd.new w n k t m a l s c hR hl
  obtain ⟨d0, d1, d2, d3, d4, -, -, -, -, -⟩ := HN.out.box
  have h1 := src_any n k t m a l s c _ HN.out.rdy HN.out.kids
  clear hl hR
  unfold nlsF
  cases hb : srcF n k t m l with
  | false =>
    rw [hb] at h1
    go_enter Tryz.func97, Tryz.ntmps97
    go_wp2_with fail
    refine h1.mono ?_
    rintro e w1 ⟨rfl, hb1⟩
    have HE : Hid _ := HN.out.step hb1
    clear h1
    go_wp2
    go_ret
    exact ⟨rfl, HE.out.bel⟩
  | true =>
    rw [hb] at h1
    have H2 : Hid (l.length = 2) := by
      show _ = _
      unfold srcF at hb
      simp only [Bool.and_eq_true, decide_eq_true_eq] at hb
      omega
    obtain ⟨y, hy⟩ : ∃ y, l[1]? = some y := ⟨_, List.getElem?_eq_getElem (by rw [H2.out]; omega)⟩
    have HR : Hid (idxP n l 1 (noneP n) = noneP n y) := by show _ = _; unfold idxP; rw [hy]
    have HY : Hid _ := hy
    generalize idxP n l 1 (noneP n) = rr at *
    clear hb hy
    go_enter Tryz.func97, Tryz.ntmps97
    go_wp2_with fail
    refine h1.mono ?_
    rintro e w1 ⟨rfl, hb1⟩
    have HN1 : Hid (Nd w n k t m a l s c w1) := HN.out.step hb1
    clear h1 d0 d1 d2 d3 d4
    obtain ⟨d0, d1, d2, d3, d4, -, -, -, -, -⟩ := HN1.out.box
    obtain ⟨_, hk, _⟩ := HN1.out.kids
    rcases hk with hk | ⟨b, off, rfl, hc⟩
    · have h2 := H2.out; rw [hk] at h2; cases h2
    obtain ⟨sy, cy, ⟨c0, c1, c2, c3, c4⟩, hg⟩ := hc 1 y HY.out
    simp only [Nat.reduceMul, Nat.add_zero, Nat.reduceAdd, Nat.add_assoc] at c0 c1 c2 c3 c4
    have h3 := (none_may n w1 HN1.out.rdy).run w1 (Below.refl _ _) y sy cy hg
    unfold ndV at h3
    change Calls Tryz.prog 91 #[.agg #[.int .i64 (kd n y), .string (bsA (tx n y)), .int .i64 (nu n y), .int .i64 (pl n y), .slice sy (ks n y).length cy]] w1 _ at h3
    clear hc hg
    rw [H2.out] at d4
    generalize noneP n y = r at *
    clear H2 HY
    go_wp2_with fail
    refine h3.mono ?_
    rintro e w2 ⟨rfl, hb2⟩
    have HN2 := HN1.out.bel.trans (hb2.mono HN1.out.bel.size)
    clear h3
    go_wp2
    go_ret
    exact ⟨by rw [HR.out]; simp, HN2⟩
theorem ent97 : Ent 97 := ent_of Tryz.func97 (by kernel_rfl) (by kernel_rfl)
def nlsP (n : Nat) (y : Tr n) : Bool := nlsF n.pred (kd n y) (tx n y) (nu n y) (ks n y)
theorem nls_may (n : Nat) (w : World) (hR : Rdy w) : May 97 [] n (nlsP n) w := ⟨ent97, fun W hW y s c hy => by
  cases n with
  | zero => exact Empty.elim y
  | succ n => exact nls_any n (kd (n + 1) y) (tx (n + 1) y) (nu (n + 1) y) (pl (n + 1) y) (ks (n + 1) y) s c W (hR.below hW) (NdG.kids hy)⟩
def ebtF (n : Nat) (k : Int) (t : List UInt8) (m : Int) (l : List (Tr n)) : Bool := decide (k = 36) && decide (0 < m) && paF n 36 t m l (patP n) (notP n)
theorem ebt_any (n : Nat) (k : Int) (t : List UInt8) (m a : Int) (l : List (Tr n)) (s : Option Addr) (c : Nat) (w : World) (hR : Rdy w) (hl : KsG w n s c l) :
    Calls Tryz.prog 98 #[.agg #[.int .i64 k, .string (bsA t), .int .i64 m, .int .i64 a, .slice s l.length c]] w fun e w' => e = .returned (.bool (ebtF n k t m l)) ∧ Below w.heap.size w w' := by
  rcases Classical.em (k = 36) with rfl | h0
  · have HN : Hid (Nd w n 36 t m a l s c (w.alloc (Obj.cells #[Value.int IntKind.i64 36, Value.string (bsA t), Value.int IntKind.i64 m, Value.int IntKind.i64 a, Value.slice s l.length c] 24))) := Nd.new w n _ t _ a l s c hR hl
    obtain ⟨d0, d1, d2, d3, d4, -, -, -, -, -⟩ := HN.out.box
    clear hl hR
    go_enter Tryz.func98, Tryz.ntmps98
    go_wp2_with (first | (go_at_call 24; (refine (pat_any n _ _ _ _ l _ _ _ HN.out.rdy HN.out.kids (patP n) (pat_may n _ HN.out.rdy) (notP n) (pat_not n _ HN.out.rdy).2).mono ?_; rintro e w1 ⟨rfl, hb1⟩; clear d0 d1 d2 d3 d4; replace HN : Hid _ := HN.out.step hb1; obtain ⟨d0, d1, d2, d3, d4, -, -, -, -, -⟩ := HN.out.box)))
    all_goals (go_ret; refine ⟨?_, HN.out.bel⟩; first | (simp_all [bsA_tl, beqI, beqL, ebtF]; done) | (simp_all [bsA_tl, beqI, beqL, ebtF]; intro h; omega))
  · have HN : Hid (Nd w n k t m a l s c (w.alloc (Obj.cells #[Value.int IntKind.i64 k, Value.string (bsA t), Value.int IntKind.i64 m, Value.int IntKind.i64 a, Value.slice s l.length c] 24))) := Nd.new w n _ t _ a l s c hR hl
    obtain ⟨d0, d1, d2, d3, d4, -, -, -, -, -⟩ := HN.out.box
    clear hl hR
    go_enter Tryz.func98, Tryz.ntmps98
    go_wp2_with (first | (go_at_call 24; (refine (pat_any n _ _ _ _ l _ _ _ HN.out.rdy HN.out.kids (patP n) (pat_may n _ HN.out.rdy) (notP n) (pat_not n _ HN.out.rdy).2).mono ?_; rintro e w1 ⟨rfl, hb1⟩; clear d0 d1 d2 d3 d4; replace HN : Hid _ := HN.out.step hb1; obtain ⟨d0, d1, d2, d3, d4, -, -, -, -, -⟩ := HN.out.box)))
    all_goals (go_ret; refine ⟨?_, HN.out.bel⟩; first | (simp_all [bsA_tl, beqI, beqL, ebtF]; done) | (simp_all [bsA_tl, beqI, beqL, ebtF]; intro h; omega))
theorem ent98 : Ent 98 := ent_of Tryz.func98 (by kernel_rfl) (by kernel_rfl)
def ebtP (n : Nat) (y : Tr n) : Bool := ebtF n.pred (kd n y) (tx n y) (nu n y) (ks n y)
theorem ebt_may (n : Nat) (w : World) (hR : Rdy w) : May 98 [] n (ebtP n) w := ⟨ent98, fun W hW y s c hy => by
  cases n with
  | zero => exact Empty.elim y
  | succ n => exact ebt_any n (kd (n + 1) y) (tx (n + 1) y) (nu (n + 1) y) (pl (n + 1) y) (ks (n + 1) y) s c W (hR.below hW) (NdG.kids hy)⟩
end
end Go.Proofs.YtcemogaacicnfaaGreatDoor
