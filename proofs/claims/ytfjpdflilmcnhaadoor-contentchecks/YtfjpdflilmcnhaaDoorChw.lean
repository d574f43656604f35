/- Which views may be, both ways (the walk of ContentChecks). -/
import Derived.Test.YtfjpdflilmcnhaaDoorRcw
import Derived.Test.YtfjpdflilmcnhaaDoorAwk
namespace Go.Proofs.YtfjpdflilmcnhaaDoor
open Go.ChangeShapes Go.WideShapes Go.ChangeAt Go.RowKit

set_option maxRecDepth 20000 in
set_option maxHeartbeats 8000000 in
theorem checks_walk (k n : Int) (a : Option Addr) (cap : Nat) (d : Bool) (c : Int) (zs : List Int) (w : World) (hreach : zs.length * 8 ≤ 140737488351232) (hz : NsAt w a zs) :
    Calls Tryd.prog 3 #[vwV k n a zs.length cap d, .int .i64 c] w fun e w' => e = .returned (.bool true) ∧ Below w.heap.size w w' := by
  have hc1 := fun wx (hb : Below w.heap.size w wx) => Check_any k n a cap d c zs wx hreach (hz.below hb)
  have hc2 := fun wx (hb : Below w.heap.size w wx) => rCheck_any k n a cap d c zs wx (by omega) (hz.below hb)
  have haw := fun wx => awake_any wx
  generalize ckE (mayB k n zs d c) = r at *
  generalize zs.length = len at *
  clear hreach hz
  unfold vwV at hc1 hc2 ⊢
  go_enter Tryd.func3, Tryd.ntmps3
  go_upto_region 1 with (fail)
  have y0 : (w.alloc (Obj.cells #[.int .i64 k, .int .i64 n, .slice a len cap, .bool d] 24)).cell? ⟨w.heap.size, 0, none⟩ = some (.int .i64 k) := by go_simp
  have y1 : (w.alloc (Obj.cells #[.int .i64 k, .int .i64 n, .slice a len cap, .bool d] 24)).cell? ⟨w.heap.size, 1, none⟩ = some (.int .i64 n) := by go_simp
  have y2 : (w.alloc (Obj.cells #[.int .i64 k, .int .i64 n, .slice a len cap, .bool d] 24)).cell? ⟨w.heap.size, 2, none⟩ = some (.slice a len cap) := by go_simp
  have y3 : (w.alloc (Obj.cells #[.int .i64 k, .int .i64 n, .slice a len cap, .bool d] 24)).cell? ⟨w.heap.size, 3, none⟩ = some (.bool d) := by go_simp
  have hb1 : Below w.heap.size w (w.alloc (Obj.cells #[.int .i64 k, .int .i64 n, .slice a len cap, .bool d] 24)) := (Below.refl _ _).alloc (Nat.le_refl _) _
  obtain ⟨X, hX⟩ : ∃ X, w.heap.size = X := ⟨_, rfl⟩
  have HB1 : Hid _ := hb1
  rw [hX] at y0 y1 y2 y3 ⊢
  clear hX
  generalize (w.alloc (Obj.cells #[.int .i64 k, .int .i64 n, .slice a len cap, .bool d] 24)) = w1 at *
  refine wp_region_held_drew (S := (fun wS => Bel w1.heap.size w1 wS)) (by kernel_rfl) ?_ (fun hHeld => ?_)
  · (try dsimp only); exact (Bel.refl _).drew
  refine wpAnyH_take (i := 0) (oi := { dst := some 5, op := Op.load 24 (Operand.tmp 2), type := 24, pos := "law.go:57", after := #[], guard := none }) (v := ?_) rfl (by kernel_rfl) (by kernel_rfl) (by kernel_rfl) (fun _ _ _ h => h) (Or.inl ⟨by kernel_rfl, ?_⟩) (by assumption) ?_
  rotate_left
  · intro wS hSw; (try dsimp only at hSw); have c0 := cell_below hSw.out y0; have c1 := cell_below hSw.out y1; have c2 := cell_below hSw.out y2; have c3 := cell_below hSw.out y3; go_simp; (try with_reducible rfl)
  try simp only [Act.put, List.setIfInBounds_toArray, List.set_cons_zero, List.set_cons_succ]
  refine wpAnyH_take (i := 1) (oi := { dst := some 6, op := Op.move (Operand.tmp 1), type := 3, pos := "law.go:57", after := #[], guard := none }) (v := ?_) rfl (by kernel_rfl) (by kernel_rfl) (by kernel_rfl) (fun _ _ _ h => h) (Or.inl ⟨by kernel_rfl, ?_⟩) (by assumption) ?_
  rotate_left
  · intro wS hSw; (try dsimp only at hSw); go_simp; (try with_reducible rfl)
  try simp only [Act.put, List.setIfInBounds_toArray, List.set_cons_zero, List.set_cons_succ]
  refine wpAnyH_take (i := 3) (oi := { dst := some 8, op := Op.load 24 (Operand.tmp 2), type := 24, pos := "law.go:57", after := #[], guard := none }) (v := ?_) rfl (by kernel_rfl) (by kernel_rfl) (by kernel_rfl) (fun _ _ _ h => h) (Or.inl ⟨by kernel_rfl, ?_⟩) (by assumption) ?_
  rotate_left
  · intro wS hSw; (try dsimp only at hSw); have c0 := cell_below hSw.out y0; have c1 := cell_below hSw.out y1; have c2 := cell_below hSw.out y2; have c3 := cell_below hSw.out y3; go_simp; (try with_reducible rfl)
  try simp only [Act.put, List.setIfInBounds_toArray, List.set_cons_zero, List.set_cons_succ]
  refine wpAnyH_take (i := 4) (oi := { dst := some 9, op := Op.move (Operand.tmp 1), type := 3, pos := "law.go:57", after := #[], guard := none }) (v := ?_) rfl (by kernel_rfl) (by kernel_rfl) (by kernel_rfl) (fun _ _ _ h => h) (Or.inl ⟨by kernel_rfl, ?_⟩) (by assumption) ?_
  rotate_left
  · intro wS hSw; (try dsimp only at hSw); go_simp; (try with_reducible rfl)
  try simp only [Act.put, List.setIfInBounds_toArray, List.set_cons_zero, List.set_cons_succ]
  refine wpAnyH_ready (rs := [2]) (by kernel_rfl) (by simp) ?_
  refine AllReadyH.cons (o := { dst := some 7, op := Op.call { callee := Callee.value (Operand.func 7), args := #[Operand.tmp 5, Operand.tmp 6], argTypes := #[24, 3] }, type := 25, pos := "law.go:57", after := #[{ on := 0, ground := Ground.data }, { on := 1, ground := Ground.data }], guard := none }) rfl (fun K hK => ?_) AllReadyH.nil
  go_simp
  refine (hc1 _ (HB1.out.drew)).mono ?_
  rintro e w2 ⟨rfl, hb2⟩
  have hB2 : Below w1.heap.size w1 w2 := (Below.refl w1.heap.size w1).drew.trans hb2
  (try dsimp only)
  refine hK.out _ _ ?_ (fun hH2 => ?_)
  · (try dsimp only); exact Bel.of hB2
  clear hK K
  try simp only [Act.put, List.setIfInBounds_toArray, List.set_cons_zero, List.set_cons_succ]
  refine wpAnyH_ready (rs := [5]) (by kernel_rfl) (by simp) ?_
  refine AllReadyH.cons (o := { dst := some 10, op := Op.call { callee := Callee.value (Operand.func 8), args := #[Operand.tmp 8, Operand.tmp 9], argTypes := #[24, 3] }, type := 3, pos := "law.go:57", after := #[{ on := 3, ground := Ground.data }, { on := 4, ground := Ground.data }, { on := 2, ground := Ground.chain }], guard := none }) rfl (fun K hK => ?_) AllReadyH.nil
  go_simp
  refine (hc2 _ (HB1.out.trans (hB2.mono HB1.out.size))).mono ?_
  rintro e w3 ⟨rfl, hb3⟩
  have hB3 : Below w1.heap.size w1 w3 := hB2.trans (hb3.mono hB2.size)
  (try dsimp only)
  refine hK.out _ _ ?_ (fun hH5 => ?_)
  · (try dsimp only); exact Bel.of hB3
  clear hK K
  try simp only [Act.put, List.setIfInBounds_toArray, List.set_cons_zero, List.set_cons_succ]
  refine wpAnyH_take (i := 6) (oi := { dst := some 11, op := Op.binOp BinOp.eql 3 (Operand.tmp 7) (Operand.tmp 10) 3, type := 4, pos := "law.go:57", after := #[{ on := 2, ground := Ground.data }, { on := 5, ground := Ground.data }], guard := none }) (v := ?_) rfl (by kernel_rfl) (by kernel_rfl) (by kernel_rfl) (fun _ _ _ h => h) (Or.inl ⟨by kernel_rfl, ?_⟩) (by assumption) ?_
  rotate_left
  · intro wS hSw; (try dsimp only at hSw); go_simp; (try with_reducible rfl)
  try simp only [Act.put, List.setIfInBounds_toArray, List.set_cons_zero, List.set_cons_succ]
  refine wpAnyH_take (i := 7) (oi := { dst := some 12, op := Op.move (Operand.tmp 11), type := 4, pos := "law.go:57", after := #[{ on := 6, ground := Ground.data }, { on := 5, ground := Ground.chain }], guard := none }) (v := ?_) rfl (by kernel_rfl) (by kernel_rfl) (by kernel_rfl) (fun _ _ _ h => h) (Or.inl ⟨by kernel_rfl, ?_⟩) (by assumption) ?_
  rotate_left
  · intro wS hSw; (try dsimp only at hSw); go_simp; (try with_reducible rfl)
  try simp only [Act.put, List.setIfInBounds_toArray, List.set_cons_zero, List.set_cons_succ]
  refine wpAnyH_ready (rs := [8]) (by kernel_rfl) (by simp) ?_
  refine AllReadyH.cons (o := { dst := some 13, op := Op.call { callee := Callee.value (Operand.func 9), args := #[], argTypes := #[] }, type := 4, pos := "law.go:57", after := #[{ on := 7, ground := Ground.chain }, { on := 7, ground := Ground.guard }], guard := some (7, true) }) rfl (fun K hK => ?_) AllReadyH.nil
  go_simp
  refine (haw _).mono ?_
  rintro e w4 ⟨rfl, hb4⟩
  have hB4 : Below w1.heap.size w1 w4 := hB3.trans (hb4.mono hB3.size)
  (try dsimp only)
  refine hK.out _ _ ?_ (fun hH8 => ?_)
  · (try dsimp only); exact Bel.of hB4
  clear hK K
  try simp only [Act.put, List.setIfInBounds_toArray, List.set_cons_zero, List.set_cons_succ]
  refine wpAnyH_take (i := 9) (oi := { dst := some 14, op := Op.pick (Operand.tmp 12) (Operand.tmp 13) (Operand.const (Value.bool false)), type := 4, pos := "law.go:57", after := #[{ on := 7, ground := Ground.data }, { on := 8, ground := Ground.data }], guard := none }) (v := ?_) rfl (by kernel_rfl) (by kernel_rfl) (by kernel_rfl) (fun _ _ _ h => h) (Or.inl ⟨by kernel_rfl, ?_⟩) (by assumption) ?_
  rotate_left
  · intro wS hSw; (try dsimp only at hSw); go_simp; (try with_reducible rfl)
  try simp only [Act.put, List.setIfInBounds_toArray, List.set_cons_zero, List.set_cons_succ]
  refine wpAnyH_take (i := 10) (oi := { dst := some 4, op := Op.assign (Operand.tmp 14), type := 4, pos := "law.go:57", after := #[{ on := 9, ground := Ground.data }, { on := 8, ground := Ground.chain }, { on := 0, ground := Ground.phase }, { on := 1, ground := Ground.phase }, { on := 2, ground := Ground.phase }, { on := 3, ground := Ground.phase }, { on := 4, ground := Ground.phase }, { on := 5, ground := Ground.phase }, { on := 6, ground := Ground.phase }, { on := 7, ground := Ground.phase }, { on := 8, ground := Ground.phase }, { on := 9, ground := Ground.phase }], guard := none }) (v := ?_) rfl (by kernel_rfl) (by kernel_rfl) (by kernel_rfl) (fun _ _ _ h => h) (Or.inl ⟨by kernel_rfl, ?_⟩) (by assumption) ?_
  rotate_left
  · intro wS hSw; (try dsimp only at hSw); go_simp; (try with_reducible rfl)
  try simp only [Act.put, List.setIfInBounds_toArray, List.set_cons_zero, List.set_cons_succ]
  refine wpAnyH_done (by kernel_rfl) ?_ _
  have HB4 : Hid (Below w.heap.size w w4) := HB1.out.trans (hB4.mono HB1.out.size)
  clear hc1 hc2 haw hH2 hH5 hH8 hHeld hb2 hb3 hb4 hB2 hB3 hB4 HB1 hb1 y0 y1 y2 y3
  go_wp2
  go_ret
  exact ⟨rfl, HB4.out⟩
end Go.Proofs.YtfjpdflilmcnhaaDoor
