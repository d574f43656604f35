/- Which two trees are the same, wherever they begin in a source (the walk). -/
import Derived.Test.YtcemogaacicnfaaGreatDoorSux
namespace Go.Proofs.YtcemogaacicnfaaGreatDoor
open Go.ChangeShapes Go.WideShapes Go.ChangeAt Go.RowKit

set_option linter.unusedSimpArgs false in
set_option maxRecDepth 20000 in
set_option maxHeartbeats 8000000 in
theorem treeSame_walk (n : Nat) (x y : Tr (n + 1)) (s s' : Option Addr) (c c' : Nat) (at_ : Int) (w : World) (hR : Rdy w) (hx : NdAt w (n + 1) x s) (hy : NdAt w (n + 1) y s') :
    Calls Tryz.prog 4 #[ndV (n + 1) x s c, ndV (n + 1) y s' c', .int .i64 at_] w fun e w' => e = .returned (.bool true) ∧ Below w.heap.size w w' := by
  have hS1 := fun W hx hy => Same_any (n + 1) x y s s' c c' W hx hy
  have hS2 := fun W hx hy => RSame_any (n + 1) x y s s' c c' W hx hy
  have hS3 := fun W (hx : NdAt W (n + 1) x s) => Same_any (n + 1) (plc n x at_) x s s c c W (ndAt_plc at_ hx) hx
  have hS4 := fun W (hx : NdAt W (n + 1) x s) (hy : NdAt W (n + 1) y s') => Same_any (n + 1) y (plc n x at_) s' s c' c W hy (ndAt_plc at_ hx)
  have e3 : samP (n + 1) (plc n x at_) x = true := by rw [sam_plc]; exact samP_refl _ _
  have e4 : samP (n + 1) y (plc n x at_) = samP (n + 1) x y := by rw [samP_comm, sam_plc]
  rw [e3] at hS3
  rw [e4] at hS4
  generalize samP (n + 1) x y = q at hS1 hS2 hS4
  have HS1 : Hid (∀ W, NdAt W (n + 1) x s → NdAt W (n + 1) y s' → Calls Tryz.prog 18 #[.agg #[.int .i64 (kd (n + 1) x), .string (bsA (tx (n + 1) x)), .int .i64 (nu (n + 1) x), .int .i64 (pl (n + 1) x), .slice s (ks (n + 1) x).length c], .agg #[.int .i64 (kd (n + 1) y), .string (bsA (tx (n + 1) y)), .int .i64 (nu (n + 1) y), .int .i64 (pl (n + 1) y), .slice s' (ks (n + 1) y).length c']] W fun e w' => e = .returned (.bool q) ∧ Below W.heap.size W w') := hS1
  have HS2 : Hid (∀ W, NdAt W (n + 1) x s → NdAt W (n + 1) y s' → Calls Tryz.prog 19 #[.agg #[.int .i64 (kd (n + 1) x), .string (bsA (tx (n + 1) x)), .int .i64 (nu (n + 1) x), .int .i64 (pl (n + 1) x), .slice s (ks (n + 1) x).length c], .agg #[.int .i64 (kd (n + 1) y), .string (bsA (tx (n + 1) y)), .int .i64 (nu (n + 1) y), .int .i64 (pl (n + 1) y), .slice s' (ks (n + 1) y).length c']] W fun e w' => e = .returned (.bool q) ∧ Below W.heap.size W w') := hS2
  have HS3 : Hid (∀ W, NdAt W (n + 1) x s → Calls Tryz.prog 18 #[.agg #[.int .i64 (kd (n + 1) x), .string (bsA (tx (n + 1) x)), .int .i64 (nu (n + 1) x), .int .i64 at_, .slice s (ks (n + 1) x).length c], .agg #[.int .i64 (kd (n + 1) x), .string (bsA (tx (n + 1) x)), .int .i64 (nu (n + 1) x), .int .i64 (pl (n + 1) x), .slice s (ks (n + 1) x).length c]] W fun e w' => e = .returned (.bool true) ∧ Below W.heap.size W w') := hS3
  have HS4 : Hid (∀ W, NdAt W (n + 1) x s → NdAt W (n + 1) y s' → Calls Tryz.prog 18 #[.agg #[.int .i64 (kd (n + 1) y), .string (bsA (tx (n + 1) y)), .int .i64 (nu (n + 1) y), .int .i64 (pl (n + 1) y), .slice s' (ks (n + 1) y).length c'], .agg #[.int .i64 (kd (n + 1) x), .string (bsA (tx (n + 1) x)), .int .i64 (nu (n + 1) x), .int .i64 at_, .slice s (ks (n + 1) x).length c]] W fun e w' => e = .returned (.bool q) ∧ Below W.heap.size W w') := hS4
  clear hS1 hS2 hS3 hS4 e3 e4
  have hB0 : Below w.heap.size w (((w.alloc (Obj.cells #[Value.int IntKind.i64 (kd (n + 1) x), Value.string (bsA (tx (n + 1) x)), Value.int IntKind.i64 (nu (n + 1) x), Value.int IntKind.i64 (pl (n + 1) x), Value.slice s (ks (n + 1) x).length c] 24)).alloc (Obj.cells #[Value.int IntKind.i64 (kd (n + 1) y), Value.string (bsA (tx (n + 1) y)), Value.int IntKind.i64 (nu (n + 1) y), Value.int IntKind.i64 (pl (n + 1) y), Value.slice s' (ks (n + 1) y).length c'] 24)).alloc (Obj.cells #[Value.int IntKind.i64 (kd (n + 1) x), Value.string (bsA (tx (n + 1) x)), Value.int IntKind.i64 (nu (n + 1) x), Value.int IntKind.i64 at_, Value.slice s (ks (n + 1) x).length c] 24)) := (((Below.refl _ w).alloc (Nat.le_refl _) _).alloc (by simp) _).alloc (by simp <;> omega) _
  have hB : Below w.heap.size w ((((w.alloc (Obj.cells #[Value.int IntKind.i64 (kd (n + 1) x), Value.string (bsA (tx (n + 1) x)), Value.int IntKind.i64 (nu (n + 1) x), Value.int IntKind.i64 (pl (n + 1) x), Value.slice s (ks (n + 1) x).length c] 24)).alloc (Obj.cells #[Value.int IntKind.i64 (kd (n + 1) y), Value.string (bsA (tx (n + 1) y)), Value.int IntKind.i64 (nu (n + 1) y), Value.int IntKind.i64 (pl (n + 1) y), Value.slice s' (ks (n + 1) y).length c'] 24)).alloc (Obj.cells #[Value.int IntKind.i64 (kd (n + 1) x), Value.string (bsA (tx (n + 1) x)), Value.int IntKind.i64 (nu (n + 1) x), Value.int IntKind.i64 at_, Value.slice s (ks (n + 1) x).length c] 24)).drew) := hB0.drew
  have HX : Hid (NdAt ((((w.alloc (Obj.cells #[Value.int IntKind.i64 (kd (n + 1) x), Value.string (bsA (tx (n + 1) x)), Value.int IntKind.i64 (nu (n + 1) x), Value.int IntKind.i64 (pl (n + 1) x), Value.slice s (ks (n + 1) x).length c] 24)).alloc (Obj.cells #[Value.int IntKind.i64 (kd (n + 1) y), Value.string (bsA (tx (n + 1) y)), Value.int IntKind.i64 (nu (n + 1) y), Value.int IntKind.i64 (pl (n + 1) y), Value.slice s' (ks (n + 1) y).length c'] 24)).alloc (Obj.cells #[Value.int IntKind.i64 (kd (n + 1) x), Value.string (bsA (tx (n + 1) x)), Value.int IntKind.i64 (nu (n + 1) x), Value.int IntKind.i64 at_, Value.slice s (ks (n + 1) x).length c] 24)).drew) (n + 1) x s) := NdAt.below hB hx
  have HY : Hid (NdAt ((((w.alloc (Obj.cells #[Value.int IntKind.i64 (kd (n + 1) x), Value.string (bsA (tx (n + 1) x)), Value.int IntKind.i64 (nu (n + 1) x), Value.int IntKind.i64 (pl (n + 1) x), Value.slice s (ks (n + 1) x).length c] 24)).alloc (Obj.cells #[Value.int IntKind.i64 (kd (n + 1) y), Value.string (bsA (tx (n + 1) y)), Value.int IntKind.i64 (nu (n + 1) y), Value.int IntKind.i64 (pl (n + 1) y), Value.slice s' (ks (n + 1) y).length c'] 24)).alloc (Obj.cells #[Value.int IntKind.i64 (kd (n + 1) x), Value.string (bsA (tx (n + 1) x)), Value.int IntKind.i64 (nu (n + 1) x), Value.int IntKind.i64 at_, Value.slice s (ks (n + 1) x).length c] 24)).drew) (n + 1) y s') := NdAt.below hB hy
  have bA := Box5.new w (.int .i64 (kd (n + 1) x)) (.string (bsA (tx (n + 1) x))) (.int .i64 (nu (n + 1) x)) (.int .i64 (pl (n + 1) x)) (.slice s (ks (n + 1) x).length c) 24
  have bB := Box5.new (w.alloc (Obj.cells #[Value.int IntKind.i64 (kd (n + 1) x), Value.string (bsA (tx (n + 1) x)), Value.int IntKind.i64 (nu (n + 1) x), Value.int IntKind.i64 (pl (n + 1) x), Value.slice s (ks (n + 1) x).length c] 24)) (.int .i64 (kd (n + 1) y)) (.string (bsA (tx (n + 1) y))) (.int .i64 (nu (n + 1) y)) (.int .i64 (pl (n + 1) y)) (.slice s' (ks (n + 1) y).length c') 24
  have bC := Box5.new ((w.alloc (Obj.cells #[Value.int IntKind.i64 (kd (n + 1) x), Value.string (bsA (tx (n + 1) x)), Value.int IntKind.i64 (nu (n + 1) x), Value.int IntKind.i64 (pl (n + 1) x), Value.slice s (ks (n + 1) x).length c] 24)).alloc (Obj.cells #[Value.int IntKind.i64 (kd (n + 1) y), Value.string (bsA (tx (n + 1) y)), Value.int IntKind.i64 (nu (n + 1) y), Value.int IntKind.i64 (pl (n + 1) y), Value.slice s' (ks (n + 1) y).length c'] 24)) (.int .i64 (kd (n + 1) x)) (.string (bsA (tx (n + 1) x))) (.int .i64 (nu (n + 1) x)) (.int .i64 at_) (.slice s (ks (n + 1) x).length c) 24
  simp only [World.size_alloc] at bB bC
  have HBA : Hid (Box5 (((w.alloc (Obj.cells #[Value.int IntKind.i64 (kd (n + 1) x), Value.string (bsA (tx (n + 1) x)), Value.int IntKind.i64 (nu (n + 1) x), Value.int IntKind.i64 (pl (n + 1) x), Value.slice s (ks (n + 1) x).length c] 24)).alloc (Obj.cells #[Value.int IntKind.i64 (kd (n + 1) y), Value.string (bsA (tx (n + 1) y)), Value.int IntKind.i64 (nu (n + 1) y), Value.int IntKind.i64 (pl (n + 1) y), Value.slice s' (ks (n + 1) y).length c'] 24)).alloc (Obj.cells #[Value.int IntKind.i64 (kd (n + 1) x), Value.string (bsA (tx (n + 1) x)), Value.int IntKind.i64 (nu (n + 1) x), Value.int IntKind.i64 at_, Value.slice s (ks (n + 1) x).length c] 24)).drew w.heap.size (.int .i64 (kd (n + 1) x)) (.string (bsA (tx (n + 1) x))) (.int .i64 (nu (n + 1) x)) (.int .i64 (pl (n + 1) x)) (.slice s (ks (n + 1) x).length c)) := ((bA.below ((Below.refl _ _).alloc (Nat.le_refl _) _)).below ((Below.refl _ _).alloc (Nat.le_refl _) _)).drew
  have HBB : Hid (Box5 (((w.alloc (Obj.cells #[Value.int IntKind.i64 (kd (n + 1) x), Value.string (bsA (tx (n + 1) x)), Value.int IntKind.i64 (nu (n + 1) x), Value.int IntKind.i64 (pl (n + 1) x), Value.slice s (ks (n + 1) x).length c] 24)).alloc (Obj.cells #[Value.int IntKind.i64 (kd (n + 1) y), Value.string (bsA (tx (n + 1) y)), Value.int IntKind.i64 (nu (n + 1) y), Value.int IntKind.i64 (pl (n + 1) y), Value.slice s' (ks (n + 1) y).length c'] 24)).alloc (Obj.cells #[Value.int IntKind.i64 (kd (n + 1) x), Value.string (bsA (tx (n + 1) x)), Value.int IntKind.i64 (nu (n + 1) x), Value.int IntKind.i64 at_, Value.slice s (ks (n + 1) x).length c] 24)).drew (w.heap.size + 1) (.int .i64 (kd (n + 1) y)) (.string (bsA (tx (n + 1) y))) (.int .i64 (nu (n + 1) y)) (.int .i64 (pl (n + 1) y)) (.slice s' (ks (n + 1) y).length c')) := (bB.below ((Below.refl _ _).alloc (Nat.le_refl _) _)).drew
  have HBC : Hid (Box5 (((w.alloc (Obj.cells #[Value.int IntKind.i64 (kd (n + 1) x), Value.string (bsA (tx (n + 1) x)), Value.int IntKind.i64 (nu (n + 1) x), Value.int IntKind.i64 (pl (n + 1) x), Value.slice s (ks (n + 1) x).length c] 24)).alloc (Obj.cells #[Value.int IntKind.i64 (kd (n + 1) y), Value.string (bsA (tx (n + 1) y)), Value.int IntKind.i64 (nu (n + 1) y), Value.int IntKind.i64 (pl (n + 1) y), Value.slice s' (ks (n + 1) y).length c'] 24)).alloc (Obj.cells #[Value.int IntKind.i64 (kd (n + 1) x), Value.string (bsA (tx (n + 1) x)), Value.int IntKind.i64 (nu (n + 1) x), Value.int IntKind.i64 at_, Value.slice s (ks (n + 1) x).length c] 24)).drew (w.heap.size + 2) (.int .i64 (kd (n + 1) x)) (.string (bsA (tx (n + 1) x))) (.int .i64 (nu (n + 1) x)) (.int .i64 at_) (.slice s (ks (n + 1) x).length c)) := bC.drew
  unfold ndV
  clear hx hy bA bB bC hB0
  go_enter Tryz.func4, Tryz.ntmps4
  go_wp2_with fail
  refine wp_region_held_drew (S := (fun wS => Box5 wS w.heap.size (.int .i64 (kd (n + 1) x)) (.string (bsA (tx (n + 1) x))) (.int .i64 (nu (n + 1) x)) (.int .i64 (pl (n + 1) x)) (.slice s (ks (n + 1) x).length c) ∧ Box5 wS (w.heap.size + 1) (.int .i64 (kd (n + 1) y)) (.string (bsA (tx (n + 1) y))) (.int .i64 (nu (n + 1) y)) (.int .i64 (pl (n + 1) y)) (.slice s' (ks (n + 1) y).length c') ∧ Box5 wS (w.heap.size + 2) (.int .i64 (kd (n + 1) x)) (.string (bsA (tx (n + 1) x))) (.int .i64 (nu (n + 1) x)) (.int .i64 at_) (.slice s (ks (n + 1) x).length c))) (by kernel_rfl) ?_ (fun hHeld => ?_)
  · (try dsimp only); exact ⟨HBA.out, HBB.out, HBC.out⟩
  refine wpAnyH_take (i := 0) (oi := { dst := some 11, op := Op.load 24 (Operand.tmp 3), type := 24, pos := "law.go:52", after := #[], guard := none }) (v := ?_) rfl (by kernel_rfl) (by kernel_rfl) (by kernel_rfl) (fun _ _ _ h => h) (Or.inl ⟨by kernel_rfl, ?_⟩) (by assumption) ?_
  rotate_left
  · intro wS hSw; (try dsimp only at hSw); have q0 := hSw.1.c0; have q1 := hSw.1.c1; have q2 := hSw.1.c2; have q3 := hSw.1.c3; have q4 := hSw.1.c4; go_simp; (try with_reducible rfl)
  try simp only [Act.put, List.setIfInBounds_toArray, List.set_cons_zero, List.set_cons_succ]
  refine wpAnyH_take (i := 1) (oi := { dst := some 12, op := Op.load 24 (Operand.tmp 4), type := 24, pos := "law.go:52", after := #[], guard := none }) (v := ?_) rfl (by kernel_rfl) (by kernel_rfl) (by kernel_rfl) (fun _ _ _ h => h) (Or.inl ⟨by kernel_rfl, ?_⟩) (by assumption) ?_
  rotate_left
  · intro wS hSw; (try dsimp only at hSw); have q0 := hSw.2.1.c0; have q1 := hSw.2.1.c1; have q2 := hSw.2.1.c2; have q3 := hSw.2.1.c3; have q4 := hSw.2.1.c4; go_simp; (try with_reducible rfl)
  try simp only [Act.put, List.setIfInBounds_toArray, List.set_cons_zero, List.set_cons_succ]
  refine wpAnyH_take (i := 3) (oi := { dst := some 14, op := Op.load 24 (Operand.tmp 3), type := 24, pos := "law.go:52", after := #[], guard := none }) (v := ?_) rfl (by kernel_rfl) (by kernel_rfl) (by kernel_rfl) (fun _ _ _ h => h) (Or.inl ⟨by kernel_rfl, ?_⟩) (by assumption) ?_
  rotate_left
  · intro wS hSw; (try dsimp only at hSw); have q0 := hSw.1.c0; have q1 := hSw.1.c1; have q2 := hSw.1.c2; have q3 := hSw.1.c3; have q4 := hSw.1.c4; go_simp; (try with_reducible rfl)
  try simp only [Act.put, List.setIfInBounds_toArray, List.set_cons_zero, List.set_cons_succ]
  refine wpAnyH_take (i := 4) (oi := { dst := some 15, op := Op.load 24 (Operand.tmp 4), type := 24, pos := "law.go:52", after := #[], guard := none }) (v := ?_) rfl (by kernel_rfl) (by kernel_rfl) (by kernel_rfl) (fun _ _ _ h => h) (Or.inl ⟨by kernel_rfl, ?_⟩) (by assumption) ?_
  rotate_left
  · intro wS hSw; (try dsimp only at hSw); have q0 := hSw.2.1.c0; have q1 := hSw.2.1.c1; have q2 := hSw.2.1.c2; have q3 := hSw.2.1.c3; have q4 := hSw.2.1.c4; go_simp; (try with_reducible rfl)
  try simp only [Act.put, List.setIfInBounds_toArray, List.set_cons_zero, List.set_cons_succ]
  refine wpAnyH_ready (rs := [2]) (by kernel_rfl) (by simp) ?_
  refine AllReadyH.cons (o := { dst := some 13, op := Op.call { callee := Callee.value (Operand.func 18), args := #[Operand.tmp 11, Operand.tmp 12], argTypes := #[24, 24] }, type := 4, pos := "law.go:52", after := #[{ on := 0, ground := Ground.data }, { on := 1, ground := Ground.data }], guard := none }) rfl (fun K hK => ?_) AllReadyH.nil
  go_simp
  go_at_call 18
  refine (HS1.out _ HX.out HY.out).mono ?_
  rintro e v1 ⟨rfl, hb1⟩
  have HX : Hid _ := NdAt.below hb1 HX.out
  have HY : Hid _ := NdAt.below hb1 HY.out
  have HBA : Hid _ := Box5.below HBA.out hb1
  have HBB : Hid _ := Box5.below HBB.out hb1
  have HBC : Hid _ := Box5.below HBC.out hb1
  have hB := hB.trans (hb1.mono hB.size)
  refine hK.out _ _ ?_ (fun hH2 => ?_)
  · (try dsimp only); exact ⟨HBA.out, HBB.out, HBC.out⟩
  clear hK K
  try simp only [Act.put, List.setIfInBounds_toArray, List.set_cons_zero, List.set_cons_succ]
  refine wpAnyH_ready (rs := [5]) (by kernel_rfl) (by simp) ?_
  refine AllReadyH.cons (o := { dst := some 16, op := Op.call { callee := Callee.value (Operand.func 19), args := #[Operand.tmp 14, Operand.tmp 15], argTypes := #[24, 24] }, type := 4, pos := "law.go:52", after := #[{ on := 3, ground := Ground.data }, { on := 4, ground := Ground.data }, { on := 2, ground := Ground.chain }], guard := none }) rfl (fun K hK => ?_) AllReadyH.nil
  go_simp
  go_at_call 19
  refine (HS2.out _ HX.out HY.out).mono ?_
  rintro e v2 ⟨rfl, hb2⟩
  have HX : Hid _ := NdAt.below hb2 HX.out
  have HY : Hid _ := NdAt.below hb2 HY.out
  have HBA : Hid _ := Box5.below HBA.out hb2
  have HBB : Hid _ := Box5.below HBB.out hb2
  have HBC : Hid _ := Box5.below HBC.out hb2
  have hB := hB.trans (hb2.mono hB.size)
  refine hK.out _ _ ?_ (fun hH5 => ?_)
  · (try dsimp only); exact ⟨HBA.out, HBB.out, HBC.out⟩
  clear hK K
  try simp only [Act.put, List.setIfInBounds_toArray, List.set_cons_zero, List.set_cons_succ]
  refine wpAnyH_take (i := 6) (oi := { dst := some 17, op := Op.binOp BinOp.eql 4 (Operand.tmp 13) (Operand.tmp 16) 4, type := 4, pos := "law.go:52", after := #[{ on := 2, ground := Ground.data }, { on := 5, ground := Ground.data }], guard := none }) (v := ?_) rfl (by kernel_rfl) (by kernel_rfl) (by kernel_rfl) (fun _ _ _ h => h) (Or.inl ⟨by kernel_rfl, ?_⟩) (by assumption) ?_
  rotate_left
  · intro wS hSw; (try dsimp only at hSw); go_simp; (try with_reducible rfl)
  try simp only [Act.put, List.setIfInBounds_toArray, List.set_cons_zero, List.set_cons_succ]
  refine wpAnyH_take (i := 7) (oi := { dst := some 18, op := Op.move (Operand.tmp 17), type := 4, pos := "law.go:52", after := #[{ on := 6, ground := Ground.data }, { on := 5, ground := Ground.chain }], guard := none }) (v := ?_) rfl (by kernel_rfl) (by kernel_rfl) (by kernel_rfl) (fun _ _ _ h => h) (Or.inl ⟨by kernel_rfl, ?_⟩) (by assumption) ?_
  rotate_left
  · intro wS hSw; (try dsimp only at hSw); go_simp; (try with_reducible rfl)
  try simp only [Act.put, List.setIfInBounds_toArray, List.set_cons_zero, List.set_cons_succ]
  refine wpAnyH_take (i := 8) (oi := { dst := some 19, op := Op.load 24 (Operand.tmp 7), type := 24, pos := "law.go:52", after := #[{ on := 7, ground := Ground.guard }], guard := some (7, true) }) (v := ?_) rfl (by kernel_rfl) (by kernel_rfl) (by kernel_rfl) (fun _ _ _ h => h) (Or.inl ⟨by kernel_rfl, ?_⟩) (by assumption) ?_
  rotate_left
  · intro wS hSw; (try dsimp only at hSw); have q0 := hSw.2.2.c0; have q1 := hSw.2.2.c1; have q2 := hSw.2.2.c2; have q3 := hSw.2.2.c3; have q4 := hSw.2.2.c4; go_simp; (try with_reducible rfl)
  try simp only [Act.put, List.setIfInBounds_toArray, List.set_cons_zero, List.set_cons_succ]
  refine wpAnyH_take (i := 9) (oi := { dst := some 20, op := Op.load 24 (Operand.tmp 3), type := 24, pos := "law.go:52", after := #[{ on := 7, ground := Ground.guard }], guard := some (7, true) }) (v := ?_) rfl (by kernel_rfl) (by kernel_rfl) (by kernel_rfl) (fun _ _ _ h => h) (Or.inl ⟨by kernel_rfl, ?_⟩) (by assumption) ?_
  rotate_left
  · intro wS hSw; (try dsimp only at hSw); have q0 := hSw.1.c0; have q1 := hSw.1.c1; have q2 := hSw.1.c2; have q3 := hSw.1.c3; have q4 := hSw.1.c4; go_simp; (try with_reducible rfl)
  try simp only [Act.put, List.setIfInBounds_toArray, List.set_cons_zero, List.set_cons_succ]
  refine wpAnyH_ready (rs := [10]) (by kernel_rfl) (by simp) ?_
  refine AllReadyH.cons (o := { dst := some 21, op := Op.call { callee := Callee.value (Operand.func 18), args := #[Operand.tmp 19, Operand.tmp 20], argTypes := #[24, 24] }, type := 4, pos := "law.go:52", after := #[{ on := 8, ground := Ground.data }, { on := 9, ground := Ground.data }, { on := 7, ground := Ground.chain }, { on := 7, ground := Ground.guard }], guard := some (7, true) }) rfl (fun K hK => ?_) AllReadyH.nil
  go_simp
  go_at_call 18
  refine (HS3.out _ HX.out).mono ?_
  rintro e v3 ⟨rfl, hb3⟩
  have HX : Hid _ := NdAt.below hb3 HX.out
  have HY : Hid _ := NdAt.below hb3 HY.out
  have HBA : Hid _ := Box5.below HBA.out hb3
  have HBB : Hid _ := Box5.below HBB.out hb3
  have HBC : Hid _ := Box5.below HBC.out hb3
  have hB := hB.trans (hb3.mono hB.size)
  refine hK.out _ _ ?_ (fun hH10 => ?_)
  · (try dsimp only); exact ⟨HBA.out, HBB.out, HBC.out⟩
  clear hK K
  try simp only [Act.put, List.setIfInBounds_toArray, List.set_cons_zero, List.set_cons_succ]
  refine wpAnyH_take (i := 11) (oi := { dst := some 22, op := Op.pick (Operand.tmp 18) (Operand.tmp 21) (Operand.const (Value.bool false)), type := 4, pos := "law.go:52", after := #[{ on := 7, ground := Ground.data }, { on := 10, ground := Ground.data }], guard := none }) (v := ?_) rfl (by kernel_rfl) (by kernel_rfl) (by kernel_rfl) (fun _ _ _ h => h) (Or.inl ⟨by kernel_rfl, ?_⟩) (by assumption) ?_
  rotate_left
  · intro wS hSw; (try dsimp only at hSw); go_simp; (try with_reducible rfl)
  try simp only [Act.put, List.setIfInBounds_toArray, List.set_cons_zero, List.set_cons_succ]
  refine wpAnyH_take (i := 12) (oi := { dst := some 23, op := Op.move (Operand.tmp 22), type := 4, pos := "law.go:52", after := #[{ on := 11, ground := Ground.data }, { on := 10, ground := Ground.chain }], guard := none }) (v := ?_) rfl (by kernel_rfl) (by kernel_rfl) (by kernel_rfl) (fun _ _ _ h => h) (Or.inl ⟨by kernel_rfl, ?_⟩) (by assumption) ?_
  rotate_left
  · intro wS hSw; (try dsimp only at hSw); go_simp; (try with_reducible rfl)
  try simp only [Act.put, List.setIfInBounds_toArray, List.set_cons_zero, List.set_cons_succ]
  refine wpAnyH_take (i := 13) (oi := { dst := some 24, op := Op.load 24 (Operand.tmp 3), type := 24, pos := "law.go:52", after := #[{ on := 12, ground := Ground.guard }], guard := some (12, true) }) (v := ?_) rfl (by kernel_rfl) (by kernel_rfl) (by kernel_rfl) (fun _ _ _ h => h) (Or.inl ⟨by kernel_rfl, ?_⟩) (by assumption) ?_
  rotate_left
  · intro wS hSw; (try dsimp only at hSw); have q0 := hSw.1.c0; have q1 := hSw.1.c1; have q2 := hSw.1.c2; have q3 := hSw.1.c3; have q4 := hSw.1.c4; go_simp; (try with_reducible rfl)
  try simp only [Act.put, List.setIfInBounds_toArray, List.set_cons_zero, List.set_cons_succ]
  refine wpAnyH_take (i := 14) (oi := { dst := some 25, op := Op.load 24 (Operand.tmp 4), type := 24, pos := "law.go:52", after := #[{ on := 12, ground := Ground.guard }], guard := some (12, true) }) (v := ?_) rfl (by kernel_rfl) (by kernel_rfl) (by kernel_rfl) (fun _ _ _ h => h) (Or.inl ⟨by kernel_rfl, ?_⟩) (by assumption) ?_
  rotate_left
  · intro wS hSw; (try dsimp only at hSw); have q0 := hSw.2.1.c0; have q1 := hSw.2.1.c1; have q2 := hSw.2.1.c2; have q3 := hSw.2.1.c3; have q4 := hSw.2.1.c4; go_simp; (try with_reducible rfl)
  try simp only [Act.put, List.setIfInBounds_toArray, List.set_cons_zero, List.set_cons_succ]
  refine wpAnyH_take (i := 16) (oi := { dst := some 27, op := Op.load 24 (Operand.tmp 4), type := 24, pos := "law.go:52", after := #[{ on := 12, ground := Ground.guard }], guard := some (12, true) }) (v := ?_) rfl (by kernel_rfl) (by kernel_rfl) (by kernel_rfl) (fun _ _ _ h => h) (Or.inl ⟨by kernel_rfl, ?_⟩) (by assumption) ?_
  rotate_left
  · intro wS hSw; (try dsimp only at hSw); have q0 := hSw.2.1.c0; have q1 := hSw.2.1.c1; have q2 := hSw.2.1.c2; have q3 := hSw.2.1.c3; have q4 := hSw.2.1.c4; go_simp; (try with_reducible rfl)
  try simp only [Act.put, List.setIfInBounds_toArray, List.set_cons_zero, List.set_cons_succ]
  refine wpAnyH_take (i := 17) (oi := { dst := some 28, op := Op.load 24 (Operand.tmp 7), type := 24, pos := "law.go:52", after := #[{ on := 12, ground := Ground.guard }], guard := some (12, true) }) (v := ?_) rfl (by kernel_rfl) (by kernel_rfl) (by kernel_rfl) (fun _ _ _ h => h) (Or.inl ⟨by kernel_rfl, ?_⟩) (by assumption) ?_
  rotate_left
  · intro wS hSw; (try dsimp only at hSw); have q0 := hSw.2.2.c0; have q1 := hSw.2.2.c1; have q2 := hSw.2.2.c2; have q3 := hSw.2.2.c3; have q4 := hSw.2.2.c4; go_simp; (try with_reducible rfl)
  try simp only [Act.put, List.setIfInBounds_toArray, List.set_cons_zero, List.set_cons_succ]
  refine wpAnyH_ready (rs := [15]) (by kernel_rfl) (by simp) ?_
  refine AllReadyH.cons (o := { dst := some 26, op := Op.call { callee := Callee.value (Operand.func 18), args := #[Operand.tmp 24, Operand.tmp 25], argTypes := #[24, 24] }, type := 4, pos := "law.go:52", after := #[{ on := 13, ground := Ground.data }, { on := 14, ground := Ground.data }, { on := 12, ground := Ground.chain }, { on := 12, ground := Ground.guard }], guard := some (12, true) }) rfl (fun K hK => ?_) AllReadyH.nil
  go_simp
  go_at_call 18
  refine (HS1.out _ HX.out HY.out).mono ?_
  rintro e v4 ⟨rfl, hb4⟩
  have HX : Hid _ := NdAt.below hb4 HX.out
  have HY : Hid _ := NdAt.below hb4 HY.out
  have HBA : Hid _ := Box5.below HBA.out hb4
  have HBB : Hid _ := Box5.below HBB.out hb4
  have HBC : Hid _ := Box5.below HBC.out hb4
  have hB := hB.trans (hb4.mono hB.size)
  refine hK.out _ _ ?_ (fun hH15 => ?_)
  · (try dsimp only); exact ⟨HBA.out, HBB.out, HBC.out⟩
  clear hK K
  try simp only [Act.put, List.setIfInBounds_toArray, List.set_cons_zero, List.set_cons_succ]
  refine wpAnyH_ready (rs := [18]) (by kernel_rfl) (by simp) ?_
  refine AllReadyH.cons (o := { dst := some 29, op := Op.call { callee := Callee.value (Operand.func 18), args := #[Operand.tmp 27, Operand.tmp 28], argTypes := #[24, 24] }, type := 4, pos := "law.go:52", after := #[{ on := 16, ground := Ground.data }, { on := 17, ground := Ground.data }, { on := 15, ground := Ground.chain }, { on := 12, ground := Ground.guard }], guard := some (12, true) }) rfl (fun K hK => ?_) AllReadyH.nil
  go_simp
  go_at_call 18
  refine (HS4.out _ HX.out HY.out).mono ?_
  rintro e v5 ⟨rfl, hb5⟩
  have HX : Hid _ := NdAt.below hb5 HX.out
  have HY : Hid _ := NdAt.below hb5 HY.out
  have HBA : Hid _ := Box5.below HBA.out hb5
  have HBB : Hid _ := Box5.below HBB.out hb5
  have HBC : Hid _ := Box5.below HBC.out hb5
  have hB := hB.trans (hb5.mono hB.size)
  refine hK.out _ _ ?_ (fun hH18 => ?_)
  · (try dsimp only); exact ⟨HBA.out, HBB.out, HBC.out⟩
  clear hK K
  try simp only [Act.put, List.setIfInBounds_toArray, List.set_cons_zero, List.set_cons_succ]
  refine wpAnyH_take (i := 19) (oi := { dst := some 30, op := Op.binOp BinOp.eql 4 (Operand.tmp 26) (Operand.tmp 29) 4, type := 4, pos := "law.go:52", after := #[{ on := 15, ground := Ground.data }, { on := 18, ground := Ground.data }, { on := 12, ground := Ground.guard }], guard := some (12, true) }) (v := ?_) rfl (by kernel_rfl) (by kernel_rfl) (by kernel_rfl) (fun _ _ _ h => h) (Or.inl ⟨by kernel_rfl, ?_⟩) (by assumption) ?_
  rotate_left
  · intro wS hSw; (try dsimp only at hSw); go_simp; (try with_reducible rfl)
  try simp only [Act.put, List.setIfInBounds_toArray, List.set_cons_zero, List.set_cons_succ]
  refine wpAnyH_take (i := 20) (oi := { dst := some 31, op := Op.pick (Operand.tmp 23) (Operand.tmp 30) (Operand.const (Value.bool false)), type := 4, pos := "law.go:52", after := #[{ on := 12, ground := Ground.data }, { on := 19, ground := Ground.data }], guard := none }) (v := ?_) rfl (by kernel_rfl) (by kernel_rfl) (by kernel_rfl) (fun _ _ _ h => h) (Or.inl ⟨by kernel_rfl, ?_⟩) (by assumption) ?_
  rotate_left
  · intro wS hSw; (try dsimp only at hSw); go_simp; (try with_reducible rfl)
  try simp only [Act.put, List.setIfInBounds_toArray, List.set_cons_zero, List.set_cons_succ]
  refine wpAnyH_take (i := 21) (oi := { dst := some 32, op := Op.move (Operand.tmp 31), type := 4, pos := "law.go:52", after := #[{ on := 20, ground := Ground.data }, { on := 18, ground := Ground.chain }], guard := none }) (v := ?_) rfl (by kernel_rfl) (by kernel_rfl) (by kernel_rfl) (fun _ _ _ h => h) (Or.inl ⟨by kernel_rfl, ?_⟩) (by assumption) ?_
  rotate_left
  · intro wS hSw; (try dsimp only at hSw); go_simp; (try with_reducible rfl)
  try simp only [Act.put, List.setIfInBounds_toArray, List.set_cons_zero, List.set_cons_succ]
  refine wpAnyH_ready (rs := [22]) (by kernel_rfl) (by simp) ?_
  refine AllReadyH.cons (o := { dst := some 33, op := Op.call { callee := Callee.value (Operand.func 17), args := #[], argTypes := #[] }, type := 4, pos := "law.go:52", after := #[{ on := 21, ground := Ground.chain }, { on := 21, ground := Ground.guard }], guard := some (21, true) }) rfl (fun K hK => ?_) AllReadyH.nil
  go_simp
  go_at_call 17
  refine (sure_any _ (hR.below hB)).mono ?_
  rintro e v6 ⟨rfl, hb6⟩
  have HX : Hid _ := NdAt.below hb6 HX.out
  have HY : Hid _ := NdAt.below hb6 HY.out
  have HBA : Hid _ := Box5.below HBA.out hb6
  have HBB : Hid _ := Box5.below HBB.out hb6
  have HBC : Hid _ := Box5.below HBC.out hb6
  have hB := hB.trans (hb6.mono hB.size)
  refine hK.out _ _ ?_ (fun hH22 => ?_)
  · (try dsimp only); exact ⟨HBA.out, HBB.out, HBC.out⟩
  clear hK K
  try simp only [Act.put, List.setIfInBounds_toArray, List.set_cons_zero, List.set_cons_succ]
  refine wpAnyH_take (i := 23) (oi := { dst := some 34, op := Op.pick (Operand.tmp 32) (Operand.tmp 33) (Operand.const (Value.bool false)), type := 4, pos := "law.go:52", after := #[{ on := 21, ground := Ground.data }, { on := 22, ground := Ground.data }], guard := none }) (v := ?_) rfl (by kernel_rfl) (by kernel_rfl) (by kernel_rfl) (fun _ _ _ h => h) (Or.inl ⟨by kernel_rfl, ?_⟩) (by assumption) ?_
  rotate_left
  · intro wS hSw; (try dsimp only at hSw); go_simp; (try with_reducible rfl)
  try simp only [Act.put, List.setIfInBounds_toArray, List.set_cons_zero, List.set_cons_succ]
  refine wpAnyH_take (i := 24) (oi := { dst := some 6, op := Op.assign (Operand.tmp 34), type := 4, pos := "law.go:52", after := #[{ on := 23, ground := Ground.data }, { on := 22, ground := Ground.chain }, { on := 0, ground := Ground.phase }, { on := 1, ground := Ground.phase }, { on := 2, ground := Ground.phase }, { on := 3, ground := Ground.phase }, { on := 4, ground := Ground.phase }, { on := 5, ground := Ground.phase }, { on := 6, ground := Ground.phase }, { on := 7, ground := Ground.phase }, { on := 8, ground := Ground.phase }, { on := 9, ground := Ground.phase }, { on := 10, ground := Ground.phase }, { on := 11, ground := Ground.phase }, { on := 12, ground := Ground.phase }, { on := 13, ground := Ground.phase }, { on := 14, ground := Ground.phase }, { on := 15, ground := Ground.phase }, { on := 16, ground := Ground.phase }, { on := 17, ground := Ground.phase }, { on := 18, ground := Ground.phase }, { on := 19, ground := Ground.phase }, { on := 20, ground := Ground.phase }, { on := 21, ground := Ground.phase }, { on := 22, ground := Ground.phase }, { on := 23, ground := Ground.phase }], guard := none }) (v := ?_) rfl (by kernel_rfl) (by kernel_rfl) (by kernel_rfl) (fun _ _ _ h => h) (Or.inl ⟨by kernel_rfl, ?_⟩) (by assumption) ?_
  rotate_left
  · intro wS hSw; (try dsimp only at hSw); go_simp; (try with_reducible rfl)
  try simp only [Act.put, List.setIfInBounds_toArray, List.set_cons_zero, List.set_cons_succ]
  refine wpAnyH_done (by kernel_rfl) ?_ _
  go_wp2
  go_ret
  exact ⟨rfl, hB⟩
end Go.Proofs.YtcemogaacicnfaaGreatDoor
