/- The walk of SchemaSames. -/
import Derived.Test.YtjncoihppmbijaaDoorAwake
import Derived.Test.YtjncoihppmbijaaDoorSame
namespace Go.Proofs.YtjncoihppmbijaaDoor
open Go.ChangeShapes Go.WideShapes Go.ChangeAt Go.RowKit
attribute [local go_sem ↓] Go.wp_at_zero Go.wp_at_succ

set_option maxHeartbeats 16000000 in
theorem schemaSames_walk (sn : ByteArray) (a : Option Addr) (len cap : Nat) (nm : Nat → ByteArray) (kd : Nat → Int) (sn' : ByteArray) (a' : Option Addr) (len' cap' : Nat) (nm' : Nat → ByteArray) (kd' : Nat → Int)
    (b1 : Option Addr) (m1 q1 : Nat) (k1 n1 : Nat → Int) (t1 : Nat → ByteArray) (b2 : Option Addr) (m2 q2 : Nat) (k2 n2 : Nat → Int) (t2 : Nat → ByteArray) (w : World) (hR : Ready w)
    (hn : len ≤ 9223372036854775807) (_hn' : len' ≤ 9223372036854775807) (hm1 : m1 ≤ 9223372036854775807) (_hm2 : m2 ≤ 9223372036854775807)
    (hc : ColsAt w a len nm kd) (hc' : ColsAt w a' len' nm' kd') (hv1 : ValsAt w b1 m1 k1 n1 t1) (hv2 : ValsAt w b2 m2 k2 n2 t2) :
    Calls Tryd.prog 6 #[.agg #[.string sn, .slice a len cap], .agg #[.string sn', .slice a' len' cap'], .agg #[.slice b1 m1 q1, .slice b2 m2 q2]] w fun e w' => e = .returned (.bool true) ∧ Below w.heap.size w w' := by
  have hR1 : Ready (((w.alloc (.cells #[.string sn, .slice a len cap] 24)).alloc (.cells #[.string sn', .slice a' len' cap'] 24)).alloc (.cells #[.slice b1 m1 q1, .slice b2 m2 q2] 46)) := ((hR.alloc _).alloc _).alloc _
  have g1 : ColsAt (((w.alloc (.cells #[.string sn, .slice a len cap] 24)).alloc (.cells #[.string sn', .slice a' len' cap'] 24)).alloc (.cells #[.slice b1 m1 q1, .slice b2 m2 q2] 46)) a len nm kd := ((hc.alloc _).alloc _).alloc _
  have g2 : ColsAt (((w.alloc (.cells #[.string sn, .slice a len cap] 24)).alloc (.cells #[.string sn', .slice a' len' cap'] 24)).alloc (.cells #[.slice b1 m1 q1, .slice b2 m2 q2] 46)) a' len' nm' kd' := ((hc'.alloc _).alloc _).alloc _
  have g3 : ValsAt (((w.alloc (.cells #[.string sn, .slice a len cap] 24)).alloc (.cells #[.string sn', .slice a' len' cap'] 24)).alloc (.cells #[.slice b1 m1 q1, .slice b2 m2 q2] 46)) b1 m1 k1 n1 t1 := ((hv1.alloc _).alloc _).alloc _
  have g4 : ValsAt (((w.alloc (.cells #[.string sn, .slice a len cap] 24)).alloc (.cells #[.string sn', .slice a' len' cap'] 24)).alloc (.cells #[.slice b1 m1 q1, .slice b2 m2 q2] 46)) b2 m2 k2 n2 t2 := ((hv2.alloc _).alloc _).alloc _
  have hB1 : Below w.heap.size w (((w.alloc (.cells #[.string sn, .slice a len cap] 24)).alloc (.cells #[.string sn', .slice a' len' cap'] 24)).alloc (.cells #[.slice b1 m1 q1, .slice b2 m2 q2] 46)) := (Bel.out (by repeat (first | exact Bel.refl _ | assumption | refine Bel.drew ?_ | refine Bel.drewN ?_ _ | refine Bel.alloc ?_ _ | refine Bel.setCell ?_ (by simp <;> omega) _ | refine Bel.step ?_ (by assumption))))
  clear hc hc' hv1 hv2
  have S0 : (((w.alloc (.cells #[.string sn, .slice a len cap] 24)).alloc (.cells #[.string sn', .slice a' len' cap'] 24)).alloc (.cells #[.slice b1 m1 q1, .slice b2 m2 q2] 46)).cell? ⟨w.heap.size, 0, none⟩ = some (.string sn) ∧ (((w.alloc (.cells #[.string sn, .slice a len cap] 24)).alloc (.cells #[.string sn', .slice a' len' cap'] 24)).alloc (.cells #[.slice b1 m1 q1, .slice b2 m2 q2] 46)).cell? ⟨w.heap.size, 1, none⟩ = some (.slice a len cap) ∧ (((w.alloc (.cells #[.string sn, .slice a len cap] 24)).alloc (.cells #[.string sn', .slice a' len' cap'] 24)).alloc (.cells #[.slice b1 m1 q1, .slice b2 m2 q2] 46)).cell? ⟨w.heap.size + 1, 0, none⟩ = some (.string sn') ∧ (((w.alloc (.cells #[.string sn, .slice a len cap] 24)).alloc (.cells #[.string sn', .slice a' len' cap'] 24)).alloc (.cells #[.slice b1 m1 q1, .slice b2 m2 q2] 46)).cell? ⟨w.heap.size + 1, 1, none⟩ = some (.slice a' len' cap') ∧ (((w.alloc (.cells #[.string sn, .slice a len cap] 24)).alloc (.cells #[.string sn', .slice a' len' cap'] 24)).alloc (.cells #[.slice b1 m1 q1, .slice b2 m2 q2] 46)).cell? ⟨w.heap.size + 2, 0, none⟩ = some (.slice b1 m1 q1) ∧ (((w.alloc (.cells #[.string sn, .slice a len cap] 24)).alloc (.cells #[.string sn', .slice a' len' cap'] 24)).alloc (.cells #[.slice b1 m1 q1, .slice b2 m2 q2] 46)).cell? ⟨w.heap.size + 2, 1, none⟩ = some (.slice b2 m2 q2) ∧ Below (((w.alloc (.cells #[.string sn, .slice a len cap] 24)).alloc (.cells #[.string sn', .slice a' len' cap'] 24)).alloc (.cells #[.slice b1 m1 q1, .slice b2 m2 q2] 46)).heap.size (((w.alloc (.cells #[.string sn, .slice a len cap] 24)).alloc (.cells #[.string sn', .slice a' len' cap'] 24)).alloc (.cells #[.slice b1 m1 q1, .slice b2 m2 q2] 46)) (((w.alloc (.cells #[.string sn, .slice a len cap] 24)).alloc (.cells #[.string sn', .slice a' len' cap'] 24)).alloc (.cells #[.slice b1 m1 q1, .slice b2 m2 q2] 46)) := ⟨by go_simp, by go_simp, by go_simp, by go_simp, by go_simp, by go_simp, Below.refl _ _⟩
  have y1 := sameS_self sn len nm kd
  have y2 := vlS_self m1 k1 n1 t1
  generalize hE1 : sameS sn len nm kd sn' len' nm' kd' = E1
  generalize hE2 : vlS m1 k1 n1 t1 m2 k2 n2 t2 = E2
  go_enter Tryd.func6, Tryd.ntmps6
  go_wp2
  refine wp_region_held_drew (S := (fun wS => wS.cell? ⟨w.heap.size, 0, none⟩ = some (.string sn) ∧ wS.cell? ⟨w.heap.size, 1, none⟩ = some (.slice a len cap) ∧ wS.cell? ⟨w.heap.size + 1, 0, none⟩ = some (.string sn') ∧ wS.cell? ⟨w.heap.size + 1, 1, none⟩ = some (.slice a' len' cap') ∧ wS.cell? ⟨w.heap.size + 2, 0, none⟩ = some (.slice b1 m1 q1) ∧ wS.cell? ⟨w.heap.size + 2, 1, none⟩ = some (.slice b2 m2 q2) ∧ Below (((w.alloc (.cells #[.string sn, .slice a len cap] 24)).alloc (.cells #[.string sn', .slice a' len' cap'] 24)).alloc (.cells #[.slice b1 m1 q1, .slice b2 m2 q2] 46)).heap.size (((w.alloc (.cells #[.string sn, .slice a len cap] 24)).alloc (.cells #[.string sn', .slice a' len' cap'] 24)).alloc (.cells #[.slice b1 m1 q1, .slice b2 m2 q2] 46)) wS)) (by kernel_rfl) ?_ (fun hHeld => ?_)
  · (try dsimp only); exact kp6d S0
  refine wpAnyH_take (i := 0) (oi := { dst := some 7, op := Op.load 24 (Operand.tmp 3), type := 24, pos := "law.go:42", after := #[], guard := none }) (v := ?_) rfl (by kernel_rfl) (by kernel_rfl) (by kernel_rfl) (fun _ _ _ h => h) (Or.inl ⟨by kernel_rfl, ?_⟩) (by assumption) ?_
  rotate_left
  · intro wS hSw; (try dsimp only at hSw); go_simp; (try with_reducible rfl)
  try simp only [Act.put, List.setIfInBounds_toArray, List.set_cons_zero, List.set_cons_succ]
  refine wpAnyH_take (i := 1) (oi := { dst := some 8, op := Op.load 24 (Operand.tmp 4), type := 24, pos := "law.go:42", after := #[], guard := none }) (v := ?_) rfl (by kernel_rfl) (by kernel_rfl) (by kernel_rfl) (fun _ _ _ h => h) (Or.inl ⟨by kernel_rfl, ?_⟩) (by assumption) ?_
  rotate_left
  · intro wS hSw; (try dsimp only at hSw); go_simp; (try with_reducible rfl)
  try simp only [Act.put, List.setIfInBounds_toArray, List.set_cons_zero, List.set_cons_succ]
  refine wpAnyH_take (i := 3) (oi := { dst := some 10, op := Op.load 24 (Operand.tmp 3), type := 24, pos := "law.go:42", after := #[], guard := none }) (v := ?_) rfl (by kernel_rfl) (by kernel_rfl) (by kernel_rfl) (fun _ _ _ h => h) (Or.inl ⟨by kernel_rfl, ?_⟩) (by assumption) ?_
  rotate_left
  · intro wS hSw; (try dsimp only at hSw); go_simp; (try with_reducible rfl)
  try simp only [Act.put, List.setIfInBounds_toArray, List.set_cons_zero, List.set_cons_succ]
  refine wpAnyH_take (i := 4) (oi := { dst := some 11, op := Op.load 24 (Operand.tmp 4), type := 24, pos := "law.go:42", after := #[], guard := none }) (v := ?_) rfl (by kernel_rfl) (by kernel_rfl) (by kernel_rfl) (fun _ _ _ h => h) (Or.inl ⟨by kernel_rfl, ?_⟩) (by assumption) ?_
  rotate_left
  · intro wS hSw; (try dsimp only at hSw); go_simp; (try with_reducible rfl)
  try simp only [Act.put, List.setIfInBounds_toArray, List.set_cons_zero, List.set_cons_succ]
  refine wpAnyH_ready (rs := [2]) (by kernel_rfl) (by simp) ?_
  refine AllReadyH.cons (o := { dst := some 9, op := Op.call { callee := Callee.value (Operand.func 22), args := #[Operand.tmp 7, Operand.tmp 8], argTypes := #[24, 24] }, type := 4, pos := "law.go:42", after := #[{ on := 0, ground := Ground.data }, { on := 1, ground := Ground.data }], guard := none }) rfl (fun K hK => ?_) AllReadyH.nil
  go_simp
  go_at_call 22
  refine (Same_any sn a len cap nm kd sn' a' len' cap' nm' kd' _ hn (g1.below (kp6l (by assumption))) (g2.below (kp6l (by assumption)))).mono ?_
  rintro e w' ⟨rfl, hb⟩
  rw [hE1]
  refine hK.out _ _ ?_ (fun hH2 => ?_)
  · (try dsimp only); exact kp6 (by assumption) hb
  clear hK K
  try simp only [Act.put, List.setIfInBounds_toArray, List.set_cons_zero, List.set_cons_succ]
  refine wpAnyH_ready (rs := [5]) (by kernel_rfl) (by simp) ?_
  refine AllReadyH.cons (o := { dst := some 12, op := Op.call { callee := Callee.value (Operand.func 21), args := #[Operand.tmp 10, Operand.tmp 11], argTypes := #[24, 24] }, type := 4, pos := "law.go:42", after := #[{ on := 3, ground := Ground.data }, { on := 4, ground := Ground.data }, { on := 2, ground := Ground.chain }], guard := none }) rfl (fun K hK => ?_) AllReadyH.nil
  go_simp
  go_at_call 21
  refine (rSame_any sn a len cap nm kd sn' a' len' cap' nm' kd' _ hn (g1.below (kp6l (by assumption))) (g2.below (kp6l (by assumption)))).mono ?_
  rintro e w' ⟨rfl, hb⟩
  rw [hE1]
  refine hK.out _ _ ?_ (fun hH5 => ?_)
  · (try dsimp only); exact kp6 (by assumption) hb
  clear hK K
  try simp only [Act.put, List.setIfInBounds_toArray, List.set_cons_zero, List.set_cons_succ]
  refine wpAnyH_take (i := 6) (oi := { dst := some 13, op := Op.binOp BinOp.eql 4 (Operand.tmp 9) (Operand.tmp 12) 4, type := 4, pos := "law.go:42", after := #[{ on := 2, ground := Ground.data }, { on := 5, ground := Ground.data }], guard := none }) (v := ?_) rfl (by kernel_rfl) (by kernel_rfl) (by kernel_rfl) (fun _ _ _ h => h) (Or.inl ⟨by kernel_rfl, ?_⟩) (by assumption) ?_
  rotate_left
  · intro wS hSw; (try dsimp only at hSw); go_simp; (try with_reducible rfl)
  try simp only [Act.put, List.setIfInBounds_toArray, List.set_cons_zero, List.set_cons_succ]
  refine wpAnyH_take (i := 7) (oi := { dst := some 14, op := Op.move (Operand.tmp 13), type := 4, pos := "law.go:42", after := #[{ on := 6, ground := Ground.data }, { on := 5, ground := Ground.chain }], guard := none }) (v := ?_) rfl (by kernel_rfl) (by kernel_rfl) (by kernel_rfl) (fun _ _ _ h => h) (Or.inl ⟨by kernel_rfl, ?_⟩) (by assumption) ?_
  rotate_left
  · intro wS hSw; (try dsimp only at hSw); go_simp; (try with_reducible rfl)
  try simp only [Act.put, List.setIfInBounds_toArray, List.set_cons_zero, List.set_cons_succ]
  refine wpAnyH_take (i := 8) (oi := { dst := some 15, op := Op.load 24 (Operand.tmp 3), type := 24, pos := "law.go:42", after := #[{ on := 7, ground := Ground.guard }], guard := some (7, true) }) (v := ?_) rfl (by kernel_rfl) (by kernel_rfl) (by kernel_rfl) (fun _ _ _ h => h) (Or.inl ⟨by kernel_rfl, ?_⟩) (by assumption) ?_
  rotate_left
  · intro wS hSw; (try dsimp only at hSw); go_simp; (try with_reducible rfl)
  try simp only [Act.put, List.setIfInBounds_toArray, List.set_cons_zero, List.set_cons_succ]
  refine wpAnyH_take (i := 9) (oi := { dst := some 16, op := Op.load 24 (Operand.tmp 3), type := 24, pos := "law.go:42", after := #[{ on := 7, ground := Ground.guard }], guard := some (7, true) }) (v := ?_) rfl (by kernel_rfl) (by kernel_rfl) (by kernel_rfl) (fun _ _ _ h => h) (Or.inl ⟨by kernel_rfl, ?_⟩) (by assumption) ?_
  rotate_left
  · intro wS hSw; (try dsimp only at hSw); go_simp; (try with_reducible rfl)
  try simp only [Act.put, List.setIfInBounds_toArray, List.set_cons_zero, List.set_cons_succ]
  refine wpAnyH_ready (rs := [10]) (by kernel_rfl) (by simp) ?_
  refine AllReadyH.cons (o := { dst := some 17, op := Op.call { callee := Callee.value (Operand.func 22), args := #[Operand.tmp 15, Operand.tmp 16], argTypes := #[24, 24] }, type := 4, pos := "law.go:42", after := #[{ on := 8, ground := Ground.data }, { on := 9, ground := Ground.data }, { on := 7, ground := Ground.chain }, { on := 7, ground := Ground.guard }], guard := some (7, true) }) rfl (fun K hK => ?_) AllReadyH.nil
  go_simp
  go_at_call 22
  refine (Same_any sn a len cap nm kd sn a len cap nm kd _ hn (g1.below (kp6l (by assumption))) (g1.below (kp6l (by assumption)))).mono ?_
  rintro e w' ⟨rfl, hb⟩
  rw [y1]
  refine hK.out _ _ ?_ (fun hH10 => ?_)
  · (try dsimp only); exact kp6 (by assumption) hb
  clear hK K
  try simp only [Act.put, List.setIfInBounds_toArray, List.set_cons_zero, List.set_cons_succ]
  refine wpAnyH_take (i := 11) (oi := { dst := some 18, op := Op.pick (Operand.tmp 14) (Operand.tmp 17) (Operand.const (Value.bool false)), type := 4, pos := "law.go:42", after := #[{ on := 7, ground := Ground.data }, { on := 10, ground := Ground.data }], guard := none }) (v := ?_) rfl (by kernel_rfl) (by kernel_rfl) (by kernel_rfl) (fun _ _ _ h => h) (Or.inl ⟨by kernel_rfl, ?_⟩) (by assumption) ?_
  rotate_left
  · intro wS hSw; (try dsimp only at hSw); go_simp; (try with_reducible rfl)
  try simp only [Act.put, List.setIfInBounds_toArray, List.set_cons_zero, List.set_cons_succ]
  refine wpAnyH_take (i := 12) (oi := { dst := some 19, op := Op.move (Operand.tmp 18), type := 4, pos := "law.go:42", after := #[{ on := 11, ground := Ground.data }, { on := 10, ground := Ground.chain }], guard := none }) (v := ?_) rfl (by kernel_rfl) (by kernel_rfl) (by kernel_rfl) (fun _ _ _ h => h) (Or.inl ⟨by kernel_rfl, ?_⟩) (by assumption) ?_
  rotate_left
  · intro wS hSw; (try dsimp only at hSw); go_simp; (try with_reducible rfl)
  try simp only [Act.put, List.setIfInBounds_toArray, List.set_cons_zero, List.set_cons_succ]
  refine wpAnyH_take (i := 13) (oi := { dst := some 20, op := Op.indexAddr 46 (Operand.tmp 5) (Operand.const (Value.int IntKind.i64 0)), type := 0, pos := "law.go:42", after := #[{ on := 12, ground := Ground.guard }], guard := some (12, true) }) (v := ?_) rfl (by kernel_rfl) (by kernel_rfl) (by kernel_rfl) (fun _ _ _ h => h) (Or.inl ⟨by kernel_rfl, ?_⟩) (by assumption) ?_
  rotate_left
  · intro wS hSw; (try dsimp only at hSw); go_simp; (try with_reducible rfl)
  try simp only [Act.put, List.setIfInBounds_toArray, List.set_cons_zero, List.set_cons_succ]
  refine wpAnyH_take (i := 14) (oi := { dst := some 21, op := Op.load 33 (Operand.tmp 20), type := 33, pos := "law.go:42", after := #[{ on := 13, ground := Ground.data }, { on := 12, ground := Ground.guard }], guard := some (12, true) }) (v := ?_) rfl (by kernel_rfl) (by kernel_rfl) (by kernel_rfl) (fun _ _ _ h => h) (Or.inl ⟨by kernel_rfl, ?_⟩) (by assumption) ?_
  rotate_left
  · intro wS hSw; (try dsimp only at hSw); go_simp; (try with_reducible rfl)
  try simp only [Act.put, List.setIfInBounds_toArray, List.set_cons_zero, List.set_cons_succ]
  refine wpAnyH_take (i := 15) (oi := { dst := some 22, op := Op.indexAddr 46 (Operand.tmp 5) (Operand.const (Value.int IntKind.i64 1)), type := 0, pos := "law.go:42", after := #[{ on := 12, ground := Ground.guard }], guard := some (12, true) }) (v := ?_) rfl (by kernel_rfl) (by kernel_rfl) (by kernel_rfl) (fun _ _ _ h => h) (Or.inl ⟨by kernel_rfl, ?_⟩) (by assumption) ?_
  rotate_left
  · intro wS hSw; (try dsimp only at hSw); go_simp; (try with_reducible rfl)
  try simp only [Act.put, List.setIfInBounds_toArray, List.set_cons_zero, List.set_cons_succ]
  refine wpAnyH_take (i := 16) (oi := { dst := some 23, op := Op.load 33 (Operand.tmp 22), type := 33, pos := "law.go:42", after := #[{ on := 15, ground := Ground.data }, { on := 12, ground := Ground.guard }], guard := some (12, true) }) (v := ?_) rfl (by kernel_rfl) (by kernel_rfl) (by kernel_rfl) (fun _ _ _ h => h) (Or.inl ⟨by kernel_rfl, ?_⟩) (by assumption) ?_
  rotate_left
  · intro wS hSw; (try dsimp only at hSw); go_simp; (try with_reducible rfl)
  try simp only [Act.put, List.setIfInBounds_toArray, List.set_cons_zero, List.set_cons_succ]
  refine wpAnyH_take (i := 18) (oi := { dst := some 25, op := Op.indexAddr 46 (Operand.tmp 5) (Operand.const (Value.int IntKind.i64 0)), type := 0, pos := "law.go:42", after := #[{ on := 12, ground := Ground.guard }], guard := some (12, true) }) (v := ?_) rfl (by kernel_rfl) (by kernel_rfl) (by kernel_rfl) (fun _ _ _ h => h) (Or.inl ⟨by kernel_rfl, ?_⟩) (by assumption) ?_
  rotate_left
  · intro wS hSw; (try dsimp only at hSw); go_simp; (try with_reducible rfl)
  try simp only [Act.put, List.setIfInBounds_toArray, List.set_cons_zero, List.set_cons_succ]
  refine wpAnyH_take (i := 19) (oi := { dst := some 26, op := Op.load 33 (Operand.tmp 25), type := 33, pos := "law.go:42", after := #[{ on := 18, ground := Ground.data }, { on := 12, ground := Ground.guard }], guard := some (12, true) }) (v := ?_) rfl (by kernel_rfl) (by kernel_rfl) (by kernel_rfl) (fun _ _ _ h => h) (Or.inl ⟨by kernel_rfl, ?_⟩) (by assumption) ?_
  rotate_left
  · intro wS hSw; (try dsimp only at hSw); go_simp; (try with_reducible rfl)
  try simp only [Act.put, List.setIfInBounds_toArray, List.set_cons_zero, List.set_cons_succ]
  refine wpAnyH_take (i := 20) (oi := { dst := some 27, op := Op.indexAddr 46 (Operand.tmp 5) (Operand.const (Value.int IntKind.i64 1)), type := 0, pos := "law.go:42", after := #[{ on := 12, ground := Ground.guard }], guard := some (12, true) }) (v := ?_) rfl (by kernel_rfl) (by kernel_rfl) (by kernel_rfl) (fun _ _ _ h => h) (Or.inl ⟨by kernel_rfl, ?_⟩) (by assumption) ?_
  rotate_left
  · intro wS hSw; (try dsimp only at hSw); go_simp; (try with_reducible rfl)
  try simp only [Act.put, List.setIfInBounds_toArray, List.set_cons_zero, List.set_cons_succ]
  refine wpAnyH_take (i := 21) (oi := { dst := some 28, op := Op.load 33 (Operand.tmp 27), type := 33, pos := "law.go:42", after := #[{ on := 20, ground := Ground.data }, { on := 12, ground := Ground.guard }], guard := some (12, true) }) (v := ?_) rfl (by kernel_rfl) (by kernel_rfl) (by kernel_rfl) (fun _ _ _ h => h) (Or.inl ⟨by kernel_rfl, ?_⟩) (by assumption) ?_
  rotate_left
  · intro wS hSw; (try dsimp only at hSw); go_simp; (try with_reducible rfl)
  try simp only [Act.put, List.setIfInBounds_toArray, List.set_cons_zero, List.set_cons_succ]
  refine wpAnyH_ready (rs := [17]) (by kernel_rfl) (by simp) ?_
  refine AllReadyH.cons (o := { dst := some 24, op := Op.call { callee := Callee.value (Operand.func 23), args := #[Operand.tmp 21, Operand.tmp 23], argTypes := #[33, 33] }, type := 4, pos := "law.go:42", after := #[{ on := 14, ground := Ground.data }, { on := 16, ground := Ground.data }, { on := 12, ground := Ground.chain }, { on := 12, ground := Ground.guard }], guard := some (12, true) }) rfl (fun K hK => ?_) AllReadyH.nil
  go_simp
  go_at_call 23
  refine (SameRow_any b1 b2 m1 q1 m2 q2 k1 n1 t1 k2 n2 t2 _ hm1 (g3.below (kp6l (by assumption))) (g4.below (kp6l (by assumption)))).mono ?_
  rintro e w' ⟨rfl, hb⟩
  rw [hE2]
  refine hK.out _ _ ?_ (fun hH17 => ?_)
  · (try dsimp only); exact kp6 (by assumption) hb
  clear hK K
  try simp only [Act.put, List.setIfInBounds_toArray, List.set_cons_zero, List.set_cons_succ]
  refine wpAnyH_ready (rs := [22]) (by kernel_rfl) (by simp) ?_
  refine AllReadyH.cons (o := { dst := some 29, op := Op.call { callee := Callee.value (Operand.func 24), args := #[Operand.tmp 26, Operand.tmp 28], argTypes := #[33, 33] }, type := 4, pos := "law.go:42", after := #[{ on := 19, ground := Ground.data }, { on := 21, ground := Ground.data }, { on := 17, ground := Ground.chain }, { on := 12, ground := Ground.guard }], guard := some (12, true) }) rfl (fun K hK => ?_) AllReadyH.nil
  go_simp
  go_at_call 24
  refine (rRow_any b1 b2 m1 q1 m2 q2 k1 n1 t1 k2 n2 t2 _ hm1 (g3.below (kp6l (by assumption))) (g4.below (kp6l (by assumption)))).mono ?_
  rintro e w' ⟨rfl, hb⟩
  rw [hE2]
  refine hK.out _ _ ?_ (fun hH22 => ?_)
  · (try dsimp only); exact kp6 (by assumption) hb
  clear hK K
  try simp only [Act.put, List.setIfInBounds_toArray, List.set_cons_zero, List.set_cons_succ]
  refine wpAnyH_take (i := 23) (oi := { dst := some 30, op := Op.binOp BinOp.eql 4 (Operand.tmp 24) (Operand.tmp 29) 4, type := 4, pos := "law.go:42", after := #[{ on := 17, ground := Ground.data }, { on := 22, ground := Ground.data }, { on := 12, ground := Ground.guard }], guard := some (12, true) }) (v := ?_) rfl (by kernel_rfl) (by kernel_rfl) (by kernel_rfl) (fun _ _ _ h => h) (Or.inl ⟨by kernel_rfl, ?_⟩) (by assumption) ?_
  rotate_left
  · intro wS hSw; (try dsimp only at hSw); go_simp; (try with_reducible rfl)
  try simp only [Act.put, List.setIfInBounds_toArray, List.set_cons_zero, List.set_cons_succ]
  refine wpAnyH_take (i := 24) (oi := { dst := some 31, op := Op.pick (Operand.tmp 19) (Operand.tmp 30) (Operand.const (Value.bool false)), type := 4, pos := "law.go:42", after := #[{ on := 12, ground := Ground.data }, { on := 23, ground := Ground.data }], guard := none }) (v := ?_) rfl (by kernel_rfl) (by kernel_rfl) (by kernel_rfl) (fun _ _ _ h => h) (Or.inl ⟨by kernel_rfl, ?_⟩) (by assumption) ?_
  rotate_left
  · intro wS hSw; (try dsimp only at hSw); go_simp; (try with_reducible rfl)
  try simp only [Act.put, List.setIfInBounds_toArray, List.set_cons_zero, List.set_cons_succ]
  refine wpAnyH_take (i := 25) (oi := { dst := some 32, op := Op.move (Operand.tmp 31), type := 4, pos := "law.go:42", after := #[{ on := 24, ground := Ground.data }, { on := 22, ground := Ground.chain }], guard := none }) (v := ?_) rfl (by kernel_rfl) (by kernel_rfl) (by kernel_rfl) (fun _ _ _ h => h) (Or.inl ⟨by kernel_rfl, ?_⟩) (by assumption) ?_
  rotate_left
  · intro wS hSw; (try dsimp only at hSw); go_simp; (try with_reducible rfl)
  try simp only [Act.put, List.setIfInBounds_toArray, List.set_cons_zero, List.set_cons_succ]
  refine wpAnyH_take (i := 26) (oi := { dst := some 33, op := Op.indexAddr 46 (Operand.tmp 5) (Operand.const (Value.int IntKind.i64 0)), type := 0, pos := "law.go:42", after := #[{ on := 25, ground := Ground.guard }], guard := some (25, true) }) (v := ?_) rfl (by kernel_rfl) (by kernel_rfl) (by kernel_rfl) (fun _ _ _ h => h) (Or.inl ⟨by kernel_rfl, ?_⟩) (by assumption) ?_
  rotate_left
  · intro wS hSw; (try dsimp only at hSw); go_simp; (try with_reducible rfl)
  try simp only [Act.put, List.setIfInBounds_toArray, List.set_cons_zero, List.set_cons_succ]
  refine wpAnyH_take (i := 27) (oi := { dst := some 34, op := Op.load 33 (Operand.tmp 33), type := 33, pos := "law.go:42", after := #[{ on := 26, ground := Ground.data }, { on := 25, ground := Ground.guard }], guard := some (25, true) }) (v := ?_) rfl (by kernel_rfl) (by kernel_rfl) (by kernel_rfl) (fun _ _ _ h => h) (Or.inl ⟨by kernel_rfl, ?_⟩) (by assumption) ?_
  rotate_left
  · intro wS hSw; (try dsimp only at hSw); go_simp; (try with_reducible rfl)
  try simp only [Act.put, List.setIfInBounds_toArray, List.set_cons_zero, List.set_cons_succ]
  refine wpAnyH_take (i := 28) (oi := { dst := some 35, op := Op.indexAddr 46 (Operand.tmp 5) (Operand.const (Value.int IntKind.i64 0)), type := 0, pos := "law.go:42", after := #[{ on := 25, ground := Ground.guard }], guard := some (25, true) }) (v := ?_) rfl (by kernel_rfl) (by kernel_rfl) (by kernel_rfl) (fun _ _ _ h => h) (Or.inl ⟨by kernel_rfl, ?_⟩) (by assumption) ?_
  rotate_left
  · intro wS hSw; (try dsimp only at hSw); go_simp; (try with_reducible rfl)
  try simp only [Act.put, List.setIfInBounds_toArray, List.set_cons_zero, List.set_cons_succ]
  refine wpAnyH_take (i := 29) (oi := { dst := some 36, op := Op.load 33 (Operand.tmp 35), type := 33, pos := "law.go:42", after := #[{ on := 28, ground := Ground.data }, { on := 25, ground := Ground.guard }], guard := some (25, true) }) (v := ?_) rfl (by kernel_rfl) (by kernel_rfl) (by kernel_rfl) (fun _ _ _ h => h) (Or.inl ⟨by kernel_rfl, ?_⟩) (by assumption) ?_
  rotate_left
  · intro wS hSw; (try dsimp only at hSw); go_simp; (try with_reducible rfl)
  try simp only [Act.put, List.setIfInBounds_toArray, List.set_cons_zero, List.set_cons_succ]
  refine wpAnyH_ready (rs := [30]) (by kernel_rfl) (by simp) ?_
  refine AllReadyH.cons (o := { dst := some 37, op := Op.call { callee := Callee.value (Operand.func 23), args := #[Operand.tmp 34, Operand.tmp 36], argTypes := #[33, 33] }, type := 4, pos := "law.go:42", after := #[{ on := 27, ground := Ground.data }, { on := 29, ground := Ground.data }, { on := 25, ground := Ground.chain }, { on := 25, ground := Ground.guard }], guard := some (25, true) }) rfl (fun K hK => ?_) AllReadyH.nil
  go_simp
  go_at_call 23
  refine (SameRow_any b1 b1 m1 q1 m1 q1 k1 n1 t1 k1 n1 t1 _ hm1 (g3.below (kp6l (by assumption))) (g3.below (kp6l (by assumption)))).mono ?_
  rintro e w' ⟨rfl, hb⟩
  rw [y2]
  refine hK.out _ _ ?_ (fun hH30 => ?_)
  · (try dsimp only); exact kp6 (by assumption) hb
  clear hK K
  try simp only [Act.put, List.setIfInBounds_toArray, List.set_cons_zero, List.set_cons_succ]
  refine wpAnyH_take (i := 31) (oi := { dst := some 38, op := Op.pick (Operand.tmp 32) (Operand.tmp 37) (Operand.const (Value.bool false)), type := 4, pos := "law.go:42", after := #[{ on := 25, ground := Ground.data }, { on := 30, ground := Ground.data }], guard := none }) (v := ?_) rfl (by kernel_rfl) (by kernel_rfl) (by kernel_rfl) (fun _ _ _ h => h) (Or.inl ⟨by kernel_rfl, ?_⟩) (by assumption) ?_
  rotate_left
  · intro wS hSw; (try dsimp only at hSw); go_simp; (try with_reducible rfl)
  try simp only [Act.put, List.setIfInBounds_toArray, List.set_cons_zero, List.set_cons_succ]
  refine wpAnyH_take (i := 32) (oi := { dst := some 39, op := Op.move (Operand.tmp 38), type := 4, pos := "law.go:42", after := #[{ on := 31, ground := Ground.data }, { on := 30, ground := Ground.chain }], guard := none }) (v := ?_) rfl (by kernel_rfl) (by kernel_rfl) (by kernel_rfl) (fun _ _ _ h => h) (Or.inl ⟨by kernel_rfl, ?_⟩) (by assumption) ?_
  rotate_left
  · intro wS hSw; (try dsimp only at hSw); go_simp; (try with_reducible rfl)
  try simp only [Act.put, List.setIfInBounds_toArray, List.set_cons_zero, List.set_cons_succ]
  refine wpAnyH_ready (rs := [33]) (by kernel_rfl) (by simp) ?_
  refine AllReadyH.cons (o := { dst := some 40, op := Op.call { callee := Callee.value (Operand.func 14), args := #[], argTypes := #[] }, type := 4, pos := "law.go:42", after := #[{ on := 32, ground := Ground.chain }, { on := 32, ground := Ground.guard }], guard := some (32, true) }) rfl (fun K hK => ?_) AllReadyH.nil
  go_simp
  go_at_call 14
  refine (awake_any _ (kp6r hR1 (by assumption))).mono ?_
  rintro e w' ⟨rfl, hb⟩
  refine hK.out _ _ ?_ (fun hH33 => ?_)
  · (try dsimp only); exact kp6 (by assumption) hb
  clear hK K
  try simp only [Act.put, List.setIfInBounds_toArray, List.set_cons_zero, List.set_cons_succ]
  refine wpAnyH_take (i := 34) (oi := { dst := some 41, op := Op.pick (Operand.tmp 39) (Operand.tmp 40) (Operand.const (Value.bool false)), type := 4, pos := "law.go:42", after := #[{ on := 32, ground := Ground.data }, { on := 33, ground := Ground.data }], guard := none }) (v := ?_) rfl (by kernel_rfl) (by kernel_rfl) (by kernel_rfl) (fun _ _ _ h => h) (Or.inl ⟨by kernel_rfl, ?_⟩) (by assumption) ?_
  rotate_left
  · intro wS hSw; (try dsimp only at hSw); go_simp; (try with_reducible rfl)
  try simp only [Act.put, List.setIfInBounds_toArray, List.set_cons_zero, List.set_cons_succ]
  refine wpAnyH_take (i := 35) (oi := { dst := some 6, op := Op.assign (Operand.tmp 41), type := 4, pos := "law.go:42", after := #[{ on := 34, ground := Ground.data }, { on := 33, ground := Ground.chain }, { on := 0, ground := Ground.phase }, { on := 1, ground := Ground.phase }, { on := 2, ground := Ground.phase }, { on := 3, ground := Ground.phase }, { on := 4, ground := Ground.phase }, { on := 5, ground := Ground.phase }, { on := 6, ground := Ground.phase }, { on := 7, ground := Ground.phase }, { on := 8, ground := Ground.phase }, { on := 9, ground := Ground.phase }, { on := 10, ground := Ground.phase }, { on := 11, ground := Ground.phase }, { on := 12, ground := Ground.phase }, { on := 13, ground := Ground.phase }, { on := 14, ground := Ground.phase }, { on := 15, ground := Ground.phase }, { on := 16, ground := Ground.phase }, { on := 17, ground := Ground.phase }, { on := 18, ground := Ground.phase }, { on := 19, ground := Ground.phase }, { on := 20, ground := Ground.phase }, { on := 21, ground := Ground.phase }, { on := 22, ground := Ground.phase }, { on := 23, ground := Ground.phase }, { on := 24, ground := Ground.phase }, { on := 25, ground := Ground.phase }, { on := 26, ground := Ground.phase }, { on := 27, ground := Ground.phase }, { on := 28, ground := Ground.phase }, { on := 29, ground := Ground.phase }, { on := 30, ground := Ground.phase }, { on := 31, ground := Ground.phase }, { on := 32, ground := Ground.phase }, { on := 33, ground := Ground.phase }, { on := 34, ground := Ground.phase }], guard := none }) (v := ?_) rfl (by kernel_rfl) (by kernel_rfl) (by kernel_rfl) (fun _ _ _ h => h) (Or.inl ⟨by kernel_rfl, ?_⟩) (by assumption) ?_
  rotate_left
  · intro wS hSw; (try dsimp only at hSw); go_simp; (try with_reducible rfl)
  try simp only [Act.put, List.setIfInBounds_toArray, List.set_cons_zero, List.set_cons_succ]
  refine wpAnyH_done (by kernel_rfl) ?_ _
  have hBS := kp6l hH33
  go_wp2
  go_ret
  exact ⟨rfl, (Bel.out (by repeat (first | exact Bel.refl _ | assumption | refine Bel.drew ?_ | refine Bel.drewN ?_ _ | refine Bel.alloc ?_ _ | refine Bel.setCell ?_ (by simp <;> omega) _ | refine Bel.step ?_ (by assumption))))⟩
end Go.Proofs.YtjncoihppmbijaaDoor
