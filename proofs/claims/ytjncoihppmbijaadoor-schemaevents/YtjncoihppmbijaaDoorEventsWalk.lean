/- The walk of SchemaEvents. -/
import Derived.Test.YtjncoihppmbijaaDoorFind3
import Derived.Test.YtjncoihppmbijaaDoorSame
import Derived.Test.YtjncoihppmbijaaDoorAwake
import Derived.Test.YtjncoihppmbijaaDoorRunes
namespace Go.Proofs.YtjncoihppmbijaaDoor
open Go.ChangeShapes Go.WideShapes Go.ChangeAt Go.RowKit
attribute [local go_sem ↓] Go.wp_at_zero Go.wp_at_succ

set_option maxHeartbeats 16000000 in
theorem events_none (a : Option Addr) (n cap : Nat) (S : Nat → Sch) (en : ByteArray) (a2 : Option Addr) (m cap2 : Nat) (k v : Nat → Int) (t : Nat → ByteArray) (w : World) (hR : Ready w) (hlen : n ≤ 9223372036854775807) (_hm : m ≤ 9223372036854775807) (hs : SchsAt w a n S) (hv : ValsAt w a2 m k v t) (ho : plF (nmS S) en n = none) :
    Calls Tryd.prog 5 #[.slice a n cap, .agg #[.string en, .slice a2 m cap2]] w fun e w' => e = .returned (.bool true) ∧ Below w.heap.size w w' := by
  have hRu : RunesSaid := fun s w h => runes_any s w h
  have hB1 : Below w.heap.size w (w.alloc (.cells #[.string en, .slice a2 m cap2] 39)) := (Below.refl _ _).alloc (Nat.le_refl _) _
  go_enter Tryd.func5, Tryd.ntmps5
  go_wp2_with fail
  refine (Find_none en a n cap S _ hlen (hs.alloc _) ho).mono ?_
  rintro e w1 ⟨rfl, hb1⟩
  have e0 : fdV S none = .tuple #[.agg #[.string ⟨#[]⟩, .slice none 0 0], .bool false] := rfl
  rw [e0]
  have hWA : Below (w.alloc (.cells #[.string en, .slice a2 m cap2] 39)).heap.size (w.alloc (.cells #[.string en, .slice a2 m cap2] 39)) (w1.alloc (.cells #[.string ⟨#[]⟩, .slice none 0 0] 24)) := (Bel.out (by repeat (first | exact Bel.refl _ | assumption | refine Bel.drew ?_ | refine Bel.drewN ?_ _ | refine Bel.alloc ?_ _ | refine Bel.setCell ?_ (by simp <;> omega) _ | refine Bel.step ?_ (by assumption))))
  have x0 : (w1.alloc (.cells #[.string ⟨#[]⟩, .slice none 0 0] 24)).cell? ⟨w.heap.size, 0, none⟩ = some (.string en) := cell_below hWA (by go_simp)
  have x1 : (w1.alloc (.cells #[.string ⟨#[]⟩, .slice none 0 0] 24)).cell? ⟨w.heap.size, 1, none⟩ = some (.slice a2 m cap2) := cell_below hWA (by go_simp)
  have x0' : w1.cell? ⟨w.heap.size, 0, none⟩ = some (.string en) := cell_below hb1 (by go_simp)
  have hz1 : w.heap.size < w1.heap.size := cell_lt x0'
  go_wp2_with fail
  refine (rFind_any en a n cap S _ hlen (hs.below (Bel.out (by repeat (first | exact Bel.refl _ | assumption | refine Bel.drew ?_ | refine Bel.drewN ?_ _ | refine Bel.alloc ?_ _ | refine Bel.setCell ?_ (by simp <;> omega) _ | refine Bel.step ?_ (by assumption)))))).mono ?_
  rintro e w2 ⟨rfl, hb2⟩
  have e2 : fdV S (none) = .tuple #[.agg #[.string ⟨#[]⟩, .slice none 0 0], .bool false] := rfl
  rw [ho, e2]
  have hW2 : Below (w.alloc (.cells #[.string en, .slice a2 m cap2] 39)).heap.size (w.alloc (.cells #[.string en, .slice a2 m cap2] 39)) w2 := (Bel.out (by repeat (first | exact Bel.refl _ | assumption | refine Bel.drew ?_ | refine Bel.drewN ?_ _ | refine Bel.alloc ?_ _ | refine Bel.setCell ?_ (by simp <;> omega) _ | refine Bel.step ?_ (by assumption))))
  have hWB : Below w.heap.size w (w2.alloc (.cells #[.string ⟨#[]⟩, .slice none 0 0] 24)) := (Bel.out (by repeat (first | exact Bel.refl _ | assumption | refine Bel.drew ?_ | refine Bel.drewN ?_ _ | refine Bel.alloc ?_ _ | refine Bel.setCell ?_ (by simp <;> omega) _ | refine Bel.step ?_ (by assumption))))
  have hB2 : Below w2.heap.size w2 (w2.alloc (.cells #[.string ⟨#[]⟩, .slice none 0 0] 24)) := (Below.refl _ _).alloc (Nat.le_refl _) _
  have hRB : Ready (w2.alloc (.cells #[.string ⟨#[]⟩, .slice none 0 0] 24)) := hR.below hWB
  have gs : SchsAt (w2.alloc (.cells #[.string ⟨#[]⟩, .slice none 0 0] 24)) a n S := hs.below hWB
  have gv : ValsAt (w2.alloc (.cells #[.string ⟨#[]⟩, .slice none 0 0] 24)) a2 m k v t := hv.below hWB
  have y1 : sameS ⟨#[]⟩ 0 (fun _ => ⟨#[]⟩) (fun _ => 0) ⟨#[]⟩ 0 (fun _ => ⟨#[]⟩) (fun _ => 0) = true := sameS_self _ _ _ _
  have z0 : w2.cell? ⟨w.heap.size, 0, none⟩ = some (.string en) := cell_below hW2 (by go_simp)
  have z1 : w2.cell? ⟨w.heap.size, 1, none⟩ = some (.slice a2 m cap2) := cell_below hW2 (by go_simp)
  have z2 : w2.cell? ⟨w1.heap.size, 0, none⟩ = some (.string ⟨#[]⟩) := cell_below hb2 (by go_simp)
  have z3 : w2.cell? ⟨w1.heap.size, 1, none⟩ = some (.slice none 0 0) := cell_below hb2 (by go_simp)
  have S0 : (w2.alloc (.cells #[.string ⟨#[]⟩, .slice none 0 0] 24)).cell? ⟨w.heap.size, 0, none⟩ = some (.string en) ∧ (w2.alloc (.cells #[.string ⟨#[]⟩, .slice none 0 0] 24)).cell? ⟨w.heap.size, 1, none⟩ = some (.slice a2 m cap2) ∧ (w2.alloc (.cells #[.string ⟨#[]⟩, .slice none 0 0] 24)).cell? ⟨w1.heap.size, 0, none⟩ = some (.string ⟨#[]⟩) ∧ (w2.alloc (.cells #[.string ⟨#[]⟩, .slice none 0 0] 24)).cell? ⟨w1.heap.size, 1, none⟩ = some (.slice none 0 0) ∧ (w2.alloc (.cells #[.string ⟨#[]⟩, .slice none 0 0] 24)).cell? ⟨w2.heap.size, 0, none⟩ = some (.string ⟨#[]⟩) ∧ (w2.alloc (.cells #[.string ⟨#[]⟩, .slice none 0 0] 24)).cell? ⟨w2.heap.size, 1, none⟩ = some (.slice none 0 0) ∧ Below (w2.alloc (.cells #[.string ⟨#[]⟩, .slice none 0 0] 24)).heap.size (w2.alloc (.cells #[.string ⟨#[]⟩, .slice none 0 0] 24)) (w2.alloc (.cells #[.string ⟨#[]⟩, .slice none 0 0] 24)) := ⟨cell_below hB2 z0, cell_below hB2 z1, cell_below hB2 z2, cell_below hB2 z3, by go_simp, by go_simp, Below.refl _ _⟩
  generalize hE : (evI S m k v t none) = E
  have hz2 : w1.heap.size < w2.heap.size := cell_lt z2
  have hz3 : w.heap.size < w2.heap.size := by omega
  clear hs hv x0 x1 x0' e2 z0 z1 z2 z3
  go_wp2
  refine wp_region_held_drew (S := (fun wS => wS.cell? ⟨w.heap.size, 0, none⟩ = some (.string en) ∧ wS.cell? ⟨w.heap.size, 1, none⟩ = some (.slice a2 m cap2) ∧ wS.cell? ⟨w1.heap.size, 0, none⟩ = some (.string ⟨#[]⟩) ∧ wS.cell? ⟨w1.heap.size, 1, none⟩ = some (.slice none 0 0) ∧ wS.cell? ⟨w2.heap.size, 0, none⟩ = some (.string ⟨#[]⟩) ∧ wS.cell? ⟨w2.heap.size, 1, none⟩ = some (.slice none 0 0) ∧ Below (w2.alloc (.cells #[.string ⟨#[]⟩, .slice none 0 0] 24)).heap.size (w2.alloc (.cells #[.string ⟨#[]⟩, .slice none 0 0] 24)) wS)) (by kernel_rfl) ?_ (fun hHeld => ?_)
  · (try dsimp only); exact kp6d S0
  refine wpAnyH_take (i := 0) (oi := { dst := some 23, op := Op.move (Operand.tmp 0), type := 37, pos := "law.go:37", after := #[], guard := none }) (v := ?_) rfl (by kernel_rfl) (by kernel_rfl) (by kernel_rfl) (fun _ _ _ h => h) (Or.inl ⟨by kernel_rfl, ?_⟩) (by assumption) ?_
  rotate_left
  · intro wS hSw; (try dsimp only at hSw); go_simp; (try with_reducible rfl)
  try simp only [Act.put, List.setIfInBounds_toArray, List.set_cons_zero, List.set_cons_succ]
  refine wpAnyH_take (i := 1) (oi := { dst := some 24, op := Op.load 39 (Operand.tmp 3), type := 39, pos := "law.go:37", after := #[], guard := none }) (v := ?_) rfl (by kernel_rfl) (by kernel_rfl) (by kernel_rfl) (fun _ _ _ h => h) (Or.inl ⟨by kernel_rfl, ?_⟩) (by assumption) ?_
  rotate_left
  · intro wS hSw; (try dsimp only at hSw); go_simp; (try with_reducible rfl)
  try simp only [Act.put, List.setIfInBounds_toArray, List.set_cons_zero, List.set_cons_succ]
  refine wpAnyH_take (i := 3) (oi := { dst := some 26, op := Op.move (Operand.tmp 0), type := 37, pos := "law.go:37", after := #[], guard := none }) (v := ?_) rfl (by kernel_rfl) (by kernel_rfl) (by kernel_rfl) (fun _ _ _ h => h) (Or.inl ⟨by kernel_rfl, ?_⟩) (by assumption) ?_
  rotate_left
  · intro wS hSw; (try dsimp only at hSw); go_simp; (try with_reducible rfl)
  try simp only [Act.put, List.setIfInBounds_toArray, List.set_cons_zero, List.set_cons_succ]
  refine wpAnyH_take (i := 4) (oi := { dst := some 27, op := Op.load 39 (Operand.tmp 3), type := 39, pos := "law.go:37", after := #[], guard := none }) (v := ?_) rfl (by kernel_rfl) (by kernel_rfl) (by kernel_rfl) (fun _ _ _ h => h) (Or.inl ⟨by kernel_rfl, ?_⟩) (by assumption) ?_
  rotate_left
  · intro wS hSw; (try dsimp only at hSw); go_simp; (try with_reducible rfl)
  try simp only [Act.put, List.setIfInBounds_toArray, List.set_cons_zero, List.set_cons_succ]
  refine wpAnyH_ready (rs := [2]) (by kernel_rfl) (by simp) ?_
  refine AllReadyH.cons (o := { dst := some 25, op := Op.call { callee := Callee.value (Operand.func 19), args := #[Operand.tmp 23, Operand.tmp 24], argTypes := #[37, 39] }, type := 27, pos := "law.go:37", after := #[{ on := 0, ground := Ground.data }, { on := 1, ground := Ground.data }], guard := none }) rfl (fun K hK => ?_) AllReadyH.nil
  go_simp
  go_at_call 19
  refine (Event_none a n cap S en a2 m cap2 k v t _ hlen (gs.below (kp6l (by assumption))) ho).mono ?_
  rintro e w' ⟨rfl, hb⟩
  rw [hE]
  refine hK.out _ _ ?_ (fun hH2 => ?_)
  · (try dsimp only); exact kp6 (by assumption) hb
  clear hK K
  try simp only [Act.put, List.setIfInBounds_toArray, List.set_cons_zero, List.set_cons_succ]
  refine wpAnyH_ready (rs := [5]) (by kernel_rfl) (by simp) ?_
  refine AllReadyH.cons (o := { dst := some 28, op := Op.call { callee := Callee.value (Operand.func 20), args := #[Operand.tmp 26, Operand.tmp 27], argTypes := #[37, 39] }, type := 3, pos := "law.go:37", after := #[{ on := 3, ground := Ground.data }, { on := 4, ground := Ground.data }, { on := 2, ground := Ground.chain }], guard := none }) rfl (fun K hK => ?_) AllReadyH.nil
  go_simp
  go_at_call 20
  refine (rEvent_none a n cap S en a2 m cap2 k v t _ hlen (gs.below (kp6l (by assumption))) ho).mono ?_
  rintro e w' ⟨rfl, hb⟩
  rw [hE]
  refine hK.out _ _ ?_ (fun hH5 => ?_)
  · (try dsimp only); exact kp6 (by assumption) hb
  clear hK K
  try simp only [Act.put, List.setIfInBounds_toArray, List.set_cons_zero, List.set_cons_succ]
  refine wpAnyH_take (i := 6) (oi := { dst := some 29, op := Op.binOp BinOp.eql 3 (Operand.tmp 25) (Operand.tmp 28) 3, type := 4, pos := "law.go:37", after := #[{ on := 2, ground := Ground.data }, { on := 5, ground := Ground.data }], guard := none }) (v := ?_) rfl (by kernel_rfl) (by kernel_rfl) (by kernel_rfl) (fun _ _ _ h => h) (Or.inl ⟨by kernel_rfl, ?_⟩) (by assumption) ?_
  rotate_left
  · intro wS hSw; (try dsimp only at hSw); go_simp; (try with_reducible rfl)
  try simp only [Act.put, List.setIfInBounds_toArray, List.set_cons_zero, List.set_cons_succ]
  refine wpAnyH_take (i := 7) (oi := { dst := some 30, op := Op.move (Operand.tmp 29), type := 4, pos := "law.go:37", after := #[{ on := 6, ground := Ground.data }, { on := 5, ground := Ground.chain }], guard := none }) (v := ?_) rfl (by kernel_rfl) (by kernel_rfl) (by kernel_rfl) (fun _ _ _ h => h) (Or.inl ⟨by kernel_rfl, ?_⟩) (by assumption) ?_
  rotate_left
  · intro wS hSw; (try dsimp only at hSw); go_simp; (try with_reducible rfl)
  try simp only [Act.put, List.setIfInBounds_toArray, List.set_cons_zero, List.set_cons_succ]
  refine wpAnyH_take (i := 8) (oi := { dst := some 31, op := Op.load 24 (Operand.tmp 5), type := 24, pos := "law.go:37", after := #[{ on := 7, ground := Ground.guard }], guard := some (7, true) }) (v := ?_) rfl (by kernel_rfl) (by kernel_rfl) (by kernel_rfl) (fun _ _ _ h => h) (Or.inl ⟨by kernel_rfl, ?_⟩) (by assumption) ?_
  rotate_left
  · intro wS hSw; (try dsimp only at hSw); go_simp; (try with_reducible rfl)
  try simp only [Act.put, List.setIfInBounds_toArray, List.set_cons_zero, List.set_cons_succ]
  refine wpAnyH_take (i := 9) (oi := { dst := some 32, op := Op.load 24 (Operand.tmp 7), type := 24, pos := "law.go:37", after := #[{ on := 7, ground := Ground.guard }], guard := some (7, true) }) (v := ?_) rfl (by kernel_rfl) (by kernel_rfl) (by kernel_rfl) (fun _ _ _ h => h) (Or.inl ⟨by kernel_rfl, ?_⟩) (by assumption) ?_
  rotate_left
  · intro wS hSw; (try dsimp only at hSw); go_simp; (try with_reducible rfl)
  try simp only [Act.put, List.setIfInBounds_toArray, List.set_cons_zero, List.set_cons_succ]
  refine wpAnyH_ready (rs := [10]) (by kernel_rfl) (by simp) ?_
  refine AllReadyH.cons (o := { dst := some 33, op := Op.call { callee := Callee.value (Operand.func 21), args := #[Operand.tmp 31, Operand.tmp 32], argTypes := #[24, 24] }, type := 4, pos := "law.go:37", after := #[{ on := 8, ground := Ground.data }, { on := 9, ground := Ground.data }, { on := 7, ground := Ground.chain }, { on := 7, ground := Ground.guard }], guard := some (7, true) }) rfl (fun K hK => ?_) AllReadyH.nil
  go_simp
  go_at_call 21
  refine (rSame_any ⟨#[]⟩ none 0 0 (fun _ => ⟨#[]⟩) (fun _ => 0) ⟨#[]⟩ none 0 0 (fun _ => ⟨#[]⟩) (fun _ => 0) _ (by omega) (Or.inl rfl) (Or.inl rfl)).mono ?_
  rintro e w' ⟨rfl, hb⟩
  rw [y1]
  refine hK.out _ _ ?_ (fun hH10 => ?_)
  · (try dsimp only); exact kp6 (by assumption) hb
  clear hK K
  try simp only [Act.put, List.setIfInBounds_toArray, List.set_cons_zero, List.set_cons_succ]
  refine wpAnyH_take (i := 11) (oi := { dst := some 34, op := Op.pick (Operand.tmp 30) (Operand.tmp 33) (Operand.const (Value.bool false)), type := 4, pos := "law.go:37", after := #[{ on := 7, ground := Ground.data }, { on := 10, ground := Ground.data }], guard := none }) (v := ?_) rfl (by kernel_rfl) (by kernel_rfl) (by kernel_rfl) (fun _ _ _ h => h) (Or.inl ⟨by kernel_rfl, ?_⟩) (by assumption) ?_
  rotate_left
  · intro wS hSw; (try dsimp only at hSw); go_simp; (try with_reducible rfl)
  try simp only [Act.put, List.setIfInBounds_toArray, List.set_cons_zero, List.set_cons_succ]
  refine wpAnyH_take (i := 12) (oi := { dst := some 35, op := Op.move (Operand.tmp 34), type := 4, pos := "law.go:37", after := #[{ on := 11, ground := Ground.data }, { on := 10, ground := Ground.chain }], guard := none }) (v := ?_) rfl (by kernel_rfl) (by kernel_rfl) (by kernel_rfl) (fun _ _ _ h => h) (Or.inl ⟨by kernel_rfl, ?_⟩) (by assumption) ?_
  rotate_left
  · intro wS hSw; (try dsimp only at hSw); go_simp; (try with_reducible rfl)
  try simp only [Act.put, List.setIfInBounds_toArray, List.set_cons_zero, List.set_cons_succ]
  refine wpAnyH_take (i := 13) (oi := { dst := some 36, op := Op.move (Operand.tmp 6), type := 4, pos := "law.go:37", after := #[{ on := 12, ground := Ground.guard }], guard := some (12, true) }) (v := ?_) rfl (by kernel_rfl) (by kernel_rfl) (by kernel_rfl) (fun _ _ _ h => h) (Or.inl ⟨by kernel_rfl, ?_⟩) (by assumption) ?_
  rotate_left
  · intro wS hSw; (try dsimp only at hSw); go_simp; (try with_reducible rfl)
  try simp only [Act.put, List.setIfInBounds_toArray, List.set_cons_zero, List.set_cons_succ]
  refine wpAnyH_take (i := 14) (oi := { dst := some 37, op := Op.move (Operand.tmp 8), type := 4, pos := "law.go:37", after := #[{ on := 12, ground := Ground.guard }], guard := some (12, true) }) (v := ?_) rfl (by kernel_rfl) (by kernel_rfl) (by kernel_rfl) (fun _ _ _ h => h) (Or.inl ⟨by kernel_rfl, ?_⟩) (by assumption) ?_
  rotate_left
  · intro wS hSw; (try dsimp only at hSw); go_simp; (try with_reducible rfl)
  try simp only [Act.put, List.setIfInBounds_toArray, List.set_cons_zero, List.set_cons_succ]
  refine wpAnyH_take (i := 15) (oi := { dst := some 38, op := Op.binOp BinOp.eql 4 (Operand.tmp 36) (Operand.tmp 37) 4, type := 4, pos := "law.go:37", after := #[{ on := 13, ground := Ground.data }, { on := 14, ground := Ground.data }, { on := 12, ground := Ground.guard }], guard := some (12, true) }) (v := ?_) rfl (by kernel_rfl) (by kernel_rfl) (by kernel_rfl) (fun _ _ _ h => h) (Or.inl ⟨by kernel_rfl, ?_⟩) (by assumption) ?_
  rotate_left
  · intro wS hSw; (try dsimp only at hSw); go_simp; (try with_reducible rfl)
  try simp only [Act.put, List.setIfInBounds_toArray, List.set_cons_zero, List.set_cons_succ]
  refine wpAnyH_take (i := 16) (oi := { dst := some 39, op := Op.pick (Operand.tmp 35) (Operand.tmp 38) (Operand.const (Value.bool false)), type := 4, pos := "law.go:37", after := #[{ on := 12, ground := Ground.data }, { on := 15, ground := Ground.data }], guard := none }) (v := ?_) rfl (by kernel_rfl) (by kernel_rfl) (by kernel_rfl) (fun _ _ _ h => h) (Or.inl ⟨by kernel_rfl, ?_⟩) (by assumption) ?_
  rotate_left
  · intro wS hSw; (try dsimp only at hSw); go_simp; (try with_reducible rfl)
  try simp only [Act.put, List.setIfInBounds_toArray, List.set_cons_zero, List.set_cons_succ]
  refine wpAnyH_take (i := 17) (oi := { dst := some 40, op := Op.move (Operand.tmp 39), type := 4, pos := "law.go:37", after := #[{ on := 16, ground := Ground.data }, { on := 12, ground := Ground.chain }], guard := none }) (v := ?_) rfl (by kernel_rfl) (by kernel_rfl) (by kernel_rfl) (fun _ _ _ h => h) (Or.inl ⟨by kernel_rfl, ?_⟩) (by assumption) ?_
  rotate_left
  · intro wS hSw; (try dsimp only at hSw); go_simp; (try with_reducible rfl)
  try simp only [Act.put, List.setIfInBounds_toArray, List.set_cons_zero, List.set_cons_succ]
  refine wpAnyH_ready (rs := [18]) (by kernel_rfl) (by simp) ?_
  refine AllReadyH.cons (o := { dst := some 41, op := Op.call { callee := Callee.value (Operand.func 14), args := #[], argTypes := #[] }, type := 4, pos := "law.go:37", after := #[{ on := 17, ground := Ground.chain }, { on := 17, ground := Ground.guard }], guard := some (17, true) }) rfl (fun K hK => ?_) AllReadyH.nil
  go_simp
  go_at_call 14
  refine (awake_any _ (kp6r hRB (by assumption))).mono ?_
  rintro e w' ⟨rfl, hb⟩
  refine hK.out _ _ ?_ (fun hH18 => ?_)
  · (try dsimp only); exact kp6 (by assumption) hb
  clear hK K
  try simp only [Act.put, List.setIfInBounds_toArray, List.set_cons_zero, List.set_cons_succ]
  refine wpAnyH_take (i := 19) (oi := { dst := some 42, op := Op.pick (Operand.tmp 40) (Operand.tmp 41) (Operand.const (Value.bool false)), type := 4, pos := "law.go:37", after := #[{ on := 17, ground := Ground.data }, { on := 18, ground := Ground.data }], guard := none }) (v := ?_) rfl (by kernel_rfl) (by kernel_rfl) (by kernel_rfl) (fun _ _ _ h => h) (Or.inl ⟨by kernel_rfl, ?_⟩) (by assumption) ?_
  rotate_left
  · intro wS hSw; (try dsimp only at hSw); go_simp; (try with_reducible rfl)
  try simp only [Act.put, List.setIfInBounds_toArray, List.set_cons_zero, List.set_cons_succ]
  refine wpAnyH_take (i := 20) (oi := { dst := some 4, op := Op.assign (Operand.tmp 42), type := 4, pos := "law.go:37", after := #[{ on := 19, ground := Ground.data }, { on := 18, ground := Ground.chain }, { on := 0, ground := Ground.phase }, { on := 1, ground := Ground.phase }, { on := 2, ground := Ground.phase }, { on := 3, ground := Ground.phase }, { on := 4, ground := Ground.phase }, { on := 5, ground := Ground.phase }, { on := 6, ground := Ground.phase }, { on := 7, ground := Ground.phase }, { on := 8, ground := Ground.phase }, { on := 9, ground := Ground.phase }, { on := 10, ground := Ground.phase }, { on := 11, ground := Ground.phase }, { on := 12, ground := Ground.phase }, { on := 13, ground := Ground.phase }, { on := 14, ground := Ground.phase }, { on := 15, ground := Ground.phase }, { on := 16, ground := Ground.phase }, { on := 17, ground := Ground.phase }, { on := 18, ground := Ground.phase }, { on := 19, ground := Ground.phase }], guard := none }) (v := ?_) rfl (by kernel_rfl) (by kernel_rfl) (by kernel_rfl) (fun _ _ _ h => h) (Or.inl ⟨by kernel_rfl, ?_⟩) (by assumption) ?_
  rotate_left
  · intro wS hSw; (try dsimp only at hSw); go_simp; (try with_reducible rfl)
  try simp only [Act.put, List.setIfInBounds_toArray, List.set_cons_zero, List.set_cons_succ]
  refine wpAnyH_done (by kernel_rfl) ?_ _
  have hBS := kp6l hH18
  go_wp2
  go_ret
  exact ⟨rfl, (Bel.out (by repeat (first | exact Bel.refl _ | assumption | refine Bel.drew ?_ | refine Bel.drewN ?_ _ | refine Bel.alloc ?_ _ | refine Bel.setCell ?_ (by simp <;> omega) _ | refine Bel.step ?_ (by assumption))))⟩
set_option maxHeartbeats 16000000 in
theorem events_some (b off n cap : Nat) (S : Nat → Sch) (en : ByteArray) (a2 : Option Addr) (m cap2 : Nat) (k v : Nat → Int) (t : Nat → ByteArray) (w : World) (hR : Ready w) (hlen : n ≤ 9223372036854775807) (hm : m ≤ 9223372036854775807) (hs : SchsAt w (some ⟨b, off, none⟩) n S) (hv : ValsAt w a2 m k v t) (j : Nat) (hj : j < n) (hcell : w.cell? ⟨b, off + j * 2, none⟩ = some (.string (S j).sn) ∧ w.cell? ⟨b, off + j * 2 + 1, none⟩ = some (.slice (S j).a (S j).len (S j).cap)) (hby : (S j).len * 24 ≤ 140737488355328) (hc : ColsAt w (S j).a (S j).len (S j).nm (S j).kd) (ho : plF (nmS S) en n = some j) :
    Calls Tryd.prog 5 #[.slice (some ⟨b, off, none⟩) n cap, .agg #[.string en, .slice a2 m cap2]] w fun e w' => e = .returned (.bool true) ∧ Below w.heap.size w w' := by
  have hRu : RunesSaid := fun s w h => runes_any s w h
  have hB1 : Below w.heap.size w (w.alloc (.cells #[.string en, .slice a2 m cap2] 39)) := (Below.refl _ _).alloc (Nat.le_refl _) _
  go_enter Tryd.func5, Tryd.ntmps5
  go_wp2_with fail
  refine (Find_some en b off n cap S _ hlen j hj (hs.alloc _) ⟨cell_below hB1 hcell.1, cell_below hB1 hcell.2⟩ hby (hc.alloc _) ho).mono ?_
  rintro e w1 ⟨a', cap', rfl, hca, hb1⟩
  have hWA : Below (w.alloc (.cells #[.string en, .slice a2 m cap2] 39)).heap.size (w.alloc (.cells #[.string en, .slice a2 m cap2] 39)) (w1.alloc (.cells #[.string (S j).sn, .slice a' (S j).len cap'] 24)) := (Bel.out (by repeat (first | exact Bel.refl _ | assumption | refine Bel.drew ?_ | refine Bel.drewN ?_ _ | refine Bel.alloc ?_ _ | refine Bel.setCell ?_ (by simp <;> omega) _ | refine Bel.step ?_ (by assumption))))
  have x0 : (w1.alloc (.cells #[.string (S j).sn, .slice a' (S j).len cap'] 24)).cell? ⟨w.heap.size, 0, none⟩ = some (.string en) := cell_below hWA (by go_simp)
  have x1 : (w1.alloc (.cells #[.string (S j).sn, .slice a' (S j).len cap'] 24)).cell? ⟨w.heap.size, 1, none⟩ = some (.slice a2 m cap2) := cell_below hWA (by go_simp)
  have x0' : w1.cell? ⟨w.heap.size, 0, none⟩ = some (.string en) := cell_below hb1 (by go_simp)
  have hz1 : w.heap.size < w1.heap.size := cell_lt x0'
  go_wp2_with fail
  refine (rFind_any en (some ⟨b, off, none⟩) n cap S _ hlen (hs.below (Bel.out (by repeat (first | exact Bel.refl _ | assumption | refine Bel.drew ?_ | refine Bel.drewN ?_ _ | refine Bel.alloc ?_ _ | refine Bel.setCell ?_ (by simp <;> omega) _ | refine Bel.step ?_ (by assumption)))))).mono ?_
  rintro e w2 ⟨rfl, hb2⟩
  have e2 : fdV S (some j) = .tuple #[.agg #[.string (S j).sn, .slice (S j).a (S j).len (S j).cap], .bool true] := rfl
  rw [ho, e2]
  have hW2 : Below (w.alloc (.cells #[.string en, .slice a2 m cap2] 39)).heap.size (w.alloc (.cells #[.string en, .slice a2 m cap2] 39)) w2 := (Bel.out (by repeat (first | exact Bel.refl _ | assumption | refine Bel.drew ?_ | refine Bel.drewN ?_ _ | refine Bel.alloc ?_ _ | refine Bel.setCell ?_ (by simp <;> omega) _ | refine Bel.step ?_ (by assumption))))
  have hWB : Below w.heap.size w (w2.alloc (.cells #[.string (S j).sn, .slice (S j).a (S j).len (S j).cap] 24)) := (Bel.out (by repeat (first | exact Bel.refl _ | assumption | refine Bel.drew ?_ | refine Bel.drewN ?_ _ | refine Bel.alloc ?_ _ | refine Bel.setCell ?_ (by simp <;> omega) _ | refine Bel.step ?_ (by assumption))))
  have hB2 : Below w2.heap.size w2 (w2.alloc (.cells #[.string (S j).sn, .slice (S j).a (S j).len (S j).cap] 24)) := (Below.refl _ _).alloc (Nat.le_refl _) _
  have hRB : Ready (w2.alloc (.cells #[.string (S j).sn, .slice (S j).a (S j).len (S j).cap] 24)) := hR.below hWB
  have gs : SchsAt (w2.alloc (.cells #[.string (S j).sn, .slice (S j).a (S j).len (S j).cap] 24)) (some ⟨b, off, none⟩) n S := hs.below hWB
  have gv : ValsAt (w2.alloc (.cells #[.string (S j).sn, .slice (S j).a (S j).len (S j).cap] 24)) a2 m k v t := hv.below hWB
  have gc : ColsAt (w2.alloc (.cells #[.string (S j).sn, .slice (S j).a (S j).len (S j).cap] 24)) (S j).a (S j).len (S j).nm (S j).kd := hc.below hWB
  have gc0 := cell_below hWB hcell.1
  have gc1 := cell_below hWB hcell.2
  have gca : ColsAt (w2.alloc (.cells #[.string (S j).sn, .slice (S j).a (S j).len (S j).cap] 24)) a' (S j).len (S j).nm (S j).kd := ((hca.alloc _).below hb2).alloc _
  have y1 : sameS (S j).sn (S j).len (S j).nm (S j).kd (S j).sn (S j).len (S j).nm (S j).kd = true := sameS_self _ _ _ _
  have z0 : w2.cell? ⟨w.heap.size, 0, none⟩ = some (.string en) := cell_below hW2 (by go_simp)
  have z1 : w2.cell? ⟨w.heap.size, 1, none⟩ = some (.slice a2 m cap2) := cell_below hW2 (by go_simp)
  have z2 : w2.cell? ⟨w1.heap.size, 0, none⟩ = some (.string (S j).sn) := cell_below hb2 (by go_simp)
  have z3 : w2.cell? ⟨w1.heap.size, 1, none⟩ = some (.slice a' (S j).len cap') := cell_below hb2 (by go_simp)
  have S0 : (w2.alloc (.cells #[.string (S j).sn, .slice (S j).a (S j).len (S j).cap] 24)).cell? ⟨w.heap.size, 0, none⟩ = some (.string en) ∧ (w2.alloc (.cells #[.string (S j).sn, .slice (S j).a (S j).len (S j).cap] 24)).cell? ⟨w.heap.size, 1, none⟩ = some (.slice a2 m cap2) ∧ (w2.alloc (.cells #[.string (S j).sn, .slice (S j).a (S j).len (S j).cap] 24)).cell? ⟨w1.heap.size, 0, none⟩ = some (.string (S j).sn) ∧ (w2.alloc (.cells #[.string (S j).sn, .slice (S j).a (S j).len (S j).cap] 24)).cell? ⟨w1.heap.size, 1, none⟩ = some (.slice a' (S j).len cap') ∧ (w2.alloc (.cells #[.string (S j).sn, .slice (S j).a (S j).len (S j).cap] 24)).cell? ⟨w2.heap.size, 0, none⟩ = some (.string (S j).sn) ∧ (w2.alloc (.cells #[.string (S j).sn, .slice (S j).a (S j).len (S j).cap] 24)).cell? ⟨w2.heap.size, 1, none⟩ = some (.slice (S j).a (S j).len (S j).cap) ∧ Below (w2.alloc (.cells #[.string (S j).sn, .slice (S j).a (S j).len (S j).cap] 24)).heap.size (w2.alloc (.cells #[.string (S j).sn, .slice (S j).a (S j).len (S j).cap] 24)) (w2.alloc (.cells #[.string (S j).sn, .slice (S j).a (S j).len (S j).cap] 24)) := ⟨cell_below hB2 z0, cell_below hB2 z1, cell_below hB2 z2, cell_below hB2 z3, by go_simp, by go_simp, Below.refl _ _⟩
  generalize hE : (evI S m k v t (some j)) = E
  have hz2 : w1.heap.size < w2.heap.size := cell_lt z2
  have hz3 : w.heap.size < w2.heap.size := by omega
  clear hs hv hc hcell hca x0 x1 x0' e2 z0 z1 z2 z3
  go_wp2
  refine wp_region_held_drew (S := (fun wS => wS.cell? ⟨w.heap.size, 0, none⟩ = some (.string en) ∧ wS.cell? ⟨w.heap.size, 1, none⟩ = some (.slice a2 m cap2) ∧ wS.cell? ⟨w1.heap.size, 0, none⟩ = some (.string (S j).sn) ∧ wS.cell? ⟨w1.heap.size, 1, none⟩ = some (.slice a' (S j).len cap') ∧ wS.cell? ⟨w2.heap.size, 0, none⟩ = some (.string (S j).sn) ∧ wS.cell? ⟨w2.heap.size, 1, none⟩ = some (.slice (S j).a (S j).len (S j).cap) ∧ Below (w2.alloc (.cells #[.string (S j).sn, .slice (S j).a (S j).len (S j).cap] 24)).heap.size (w2.alloc (.cells #[.string (S j).sn, .slice (S j).a (S j).len (S j).cap] 24)) wS)) (by kernel_rfl) ?_ (fun hHeld => ?_)
  · (try dsimp only); exact kp6d S0
  refine wpAnyH_take (i := 0) (oi := { dst := some 23, op := Op.move (Operand.tmp 0), type := 37, pos := "law.go:37", after := #[], guard := none }) (v := ?_) rfl (by kernel_rfl) (by kernel_rfl) (by kernel_rfl) (fun _ _ _ h => h) (Or.inl ⟨by kernel_rfl, ?_⟩) (by assumption) ?_
  rotate_left
  · intro wS hSw; (try dsimp only at hSw); go_simp; (try with_reducible rfl)
  try simp only [Act.put, List.setIfInBounds_toArray, List.set_cons_zero, List.set_cons_succ]
  refine wpAnyH_take (i := 1) (oi := { dst := some 24, op := Op.load 39 (Operand.tmp 3), type := 39, pos := "law.go:37", after := #[], guard := none }) (v := ?_) rfl (by kernel_rfl) (by kernel_rfl) (by kernel_rfl) (fun _ _ _ h => h) (Or.inl ⟨by kernel_rfl, ?_⟩) (by assumption) ?_
  rotate_left
  · intro wS hSw; (try dsimp only at hSw); go_simp; (try with_reducible rfl)
  try simp only [Act.put, List.setIfInBounds_toArray, List.set_cons_zero, List.set_cons_succ]
  refine wpAnyH_take (i := 3) (oi := { dst := some 26, op := Op.move (Operand.tmp 0), type := 37, pos := "law.go:37", after := #[], guard := none }) (v := ?_) rfl (by kernel_rfl) (by kernel_rfl) (by kernel_rfl) (fun _ _ _ h => h) (Or.inl ⟨by kernel_rfl, ?_⟩) (by assumption) ?_
  rotate_left
  · intro wS hSw; (try dsimp only at hSw); go_simp; (try with_reducible rfl)
  try simp only [Act.put, List.setIfInBounds_toArray, List.set_cons_zero, List.set_cons_succ]
  refine wpAnyH_take (i := 4) (oi := { dst := some 27, op := Op.load 39 (Operand.tmp 3), type := 39, pos := "law.go:37", after := #[], guard := none }) (v := ?_) rfl (by kernel_rfl) (by kernel_rfl) (by kernel_rfl) (fun _ _ _ h => h) (Or.inl ⟨by kernel_rfl, ?_⟩) (by assumption) ?_
  rotate_left
  · intro wS hSw; (try dsimp only at hSw); go_simp; (try with_reducible rfl)
  try simp only [Act.put, List.setIfInBounds_toArray, List.set_cons_zero, List.set_cons_succ]
  refine wpAnyH_ready (rs := [2]) (by kernel_rfl) (by simp) ?_
  refine AllReadyH.cons (o := { dst := some 25, op := Op.call { callee := Callee.value (Operand.func 19), args := #[Operand.tmp 23, Operand.tmp 24], argTypes := #[37, 39] }, type := 27, pos := "law.go:37", after := #[{ on := 0, ground := Ground.data }, { on := 1, ground := Ground.data }], guard := none }) rfl (fun K hK => ?_) AllReadyH.nil
  go_simp
  go_at_call 19
  refine (Event_some b off n cap S en a2 m cap2 k v t _ (kp6r hRB (by assumption)) hlen hm (gs.below (kp6l (by assumption))) j hj ⟨cell_below (kp6l (by assumption)) gc0, cell_below (kp6l (by assumption)) gc1⟩ (gc.below (kp6l (by assumption))) (gv.below (kp6l (by assumption))) ho).mono ?_
  rintro e w' ⟨rfl, hb⟩
  rw [hE]
  refine hK.out _ _ ?_ (fun hH2 => ?_)
  · (try dsimp only); exact kp6 (by assumption) hb
  clear hK K
  try simp only [Act.put, List.setIfInBounds_toArray, List.set_cons_zero, List.set_cons_succ]
  refine wpAnyH_ready (rs := [5]) (by kernel_rfl) (by simp) ?_
  refine AllReadyH.cons (o := { dst := some 28, op := Op.call { callee := Callee.value (Operand.func 20), args := #[Operand.tmp 26, Operand.tmp 27], argTypes := #[37, 39] }, type := 3, pos := "law.go:37", after := #[{ on := 3, ground := Ground.data }, { on := 4, ground := Ground.data }, { on := 2, ground := Ground.chain }], guard := none }) rfl (fun K hK => ?_) AllReadyH.nil
  go_simp
  go_at_call 20
  refine (rEvent_some hRu (some ⟨b, off, none⟩) n cap S en a2 m cap2 k v t _ hlen hm (gs.below (kp6l (by assumption))) j (gc.below (kp6l (by assumption))) (gv.below (kp6l (by assumption))) ho).mono ?_
  rintro e w' ⟨rfl, hb⟩
  rw [hE]
  refine hK.out _ _ ?_ (fun hH5 => ?_)
  · (try dsimp only); exact kp6 (by assumption) hb
  clear hK K
  try simp only [Act.put, List.setIfInBounds_toArray, List.set_cons_zero, List.set_cons_succ]
  refine wpAnyH_take (i := 6) (oi := { dst := some 29, op := Op.binOp BinOp.eql 3 (Operand.tmp 25) (Operand.tmp 28) 3, type := 4, pos := "law.go:37", after := #[{ on := 2, ground := Ground.data }, { on := 5, ground := Ground.data }], guard := none }) (v := ?_) rfl (by kernel_rfl) (by kernel_rfl) (by kernel_rfl) (fun _ _ _ h => h) (Or.inl ⟨by kernel_rfl, ?_⟩) (by assumption) ?_
  rotate_left
  · intro wS hSw; (try dsimp only at hSw); go_simp; (try with_reducible rfl)
  try simp only [Act.put, List.setIfInBounds_toArray, List.set_cons_zero, List.set_cons_succ]
  refine wpAnyH_take (i := 7) (oi := { dst := some 30, op := Op.move (Operand.tmp 29), type := 4, pos := "law.go:37", after := #[{ on := 6, ground := Ground.data }, { on := 5, ground := Ground.chain }], guard := none }) (v := ?_) rfl (by kernel_rfl) (by kernel_rfl) (by kernel_rfl) (fun _ _ _ h => h) (Or.inl ⟨by kernel_rfl, ?_⟩) (by assumption) ?_
  rotate_left
  · intro wS hSw; (try dsimp only at hSw); go_simp; (try with_reducible rfl)
  try simp only [Act.put, List.setIfInBounds_toArray, List.set_cons_zero, List.set_cons_succ]
  refine wpAnyH_take (i := 8) (oi := { dst := some 31, op := Op.load 24 (Operand.tmp 5), type := 24, pos := "law.go:37", after := #[{ on := 7, ground := Ground.guard }], guard := some (7, true) }) (v := ?_) rfl (by kernel_rfl) (by kernel_rfl) (by kernel_rfl) (fun _ _ _ h => h) (Or.inl ⟨by kernel_rfl, ?_⟩) (by assumption) ?_
  rotate_left
  · intro wS hSw; (try dsimp only at hSw); go_simp; (try with_reducible rfl)
  try simp only [Act.put, List.setIfInBounds_toArray, List.set_cons_zero, List.set_cons_succ]
  refine wpAnyH_take (i := 9) (oi := { dst := some 32, op := Op.load 24 (Operand.tmp 7), type := 24, pos := "law.go:37", after := #[{ on := 7, ground := Ground.guard }], guard := some (7, true) }) (v := ?_) rfl (by kernel_rfl) (by kernel_rfl) (by kernel_rfl) (fun _ _ _ h => h) (Or.inl ⟨by kernel_rfl, ?_⟩) (by assumption) ?_
  rotate_left
  · intro wS hSw; (try dsimp only at hSw); go_simp; (try with_reducible rfl)
  try simp only [Act.put, List.setIfInBounds_toArray, List.set_cons_zero, List.set_cons_succ]
  refine wpAnyH_ready (rs := [10]) (by kernel_rfl) (by simp) ?_
  refine AllReadyH.cons (o := { dst := some 33, op := Op.call { callee := Callee.value (Operand.func 21), args := #[Operand.tmp 31, Operand.tmp 32], argTypes := #[24, 24] }, type := 4, pos := "law.go:37", after := #[{ on := 8, ground := Ground.data }, { on := 9, ground := Ground.data }, { on := 7, ground := Ground.chain }, { on := 7, ground := Ground.guard }], guard := some (7, true) }) rfl (fun K hK => ?_) AllReadyH.nil
  go_simp
  go_at_call 21
  refine (rSame_any (S j).sn a' (S j).len cap' (S j).nm (S j).kd (S j).sn (S j).a (S j).len (S j).cap (S j).nm (S j).kd _ (by omega) (gca.below (kp6l (by assumption))) (gc.below (kp6l (by assumption)))).mono ?_
  rintro e w' ⟨rfl, hb⟩
  rw [y1]
  refine hK.out _ _ ?_ (fun hH10 => ?_)
  · (try dsimp only); exact kp6 (by assumption) hb
  clear hK K
  try simp only [Act.put, List.setIfInBounds_toArray, List.set_cons_zero, List.set_cons_succ]
  refine wpAnyH_take (i := 11) (oi := { dst := some 34, op := Op.pick (Operand.tmp 30) (Operand.tmp 33) (Operand.const (Value.bool false)), type := 4, pos := "law.go:37", after := #[{ on := 7, ground := Ground.data }, { on := 10, ground := Ground.data }], guard := none }) (v := ?_) rfl (by kernel_rfl) (by kernel_rfl) (by kernel_rfl) (fun _ _ _ h => h) (Or.inl ⟨by kernel_rfl, ?_⟩) (by assumption) ?_
  rotate_left
  · intro wS hSw; (try dsimp only at hSw); go_simp; (try with_reducible rfl)
  try simp only [Act.put, List.setIfInBounds_toArray, List.set_cons_zero, List.set_cons_succ]
  refine wpAnyH_take (i := 12) (oi := { dst := some 35, op := Op.move (Operand.tmp 34), type := 4, pos := "law.go:37", after := #[{ on := 11, ground := Ground.data }, { on := 10, ground := Ground.chain }], guard := none }) (v := ?_) rfl (by kernel_rfl) (by kernel_rfl) (by kernel_rfl) (fun _ _ _ h => h) (Or.inl ⟨by kernel_rfl, ?_⟩) (by assumption) ?_
  rotate_left
  · intro wS hSw; (try dsimp only at hSw); go_simp; (try with_reducible rfl)
  try simp only [Act.put, List.setIfInBounds_toArray, List.set_cons_zero, List.set_cons_succ]
  refine wpAnyH_take (i := 13) (oi := { dst := some 36, op := Op.move (Operand.tmp 6), type := 4, pos := "law.go:37", after := #[{ on := 12, ground := Ground.guard }], guard := some (12, true) }) (v := ?_) rfl (by kernel_rfl) (by kernel_rfl) (by kernel_rfl) (fun _ _ _ h => h) (Or.inl ⟨by kernel_rfl, ?_⟩) (by assumption) ?_
  rotate_left
  · intro wS hSw; (try dsimp only at hSw); go_simp; (try with_reducible rfl)
  try simp only [Act.put, List.setIfInBounds_toArray, List.set_cons_zero, List.set_cons_succ]
  refine wpAnyH_take (i := 14) (oi := { dst := some 37, op := Op.move (Operand.tmp 8), type := 4, pos := "law.go:37", after := #[{ on := 12, ground := Ground.guard }], guard := some (12, true) }) (v := ?_) rfl (by kernel_rfl) (by kernel_rfl) (by kernel_rfl) (fun _ _ _ h => h) (Or.inl ⟨by kernel_rfl, ?_⟩) (by assumption) ?_
  rotate_left
  · intro wS hSw; (try dsimp only at hSw); go_simp; (try with_reducible rfl)
  try simp only [Act.put, List.setIfInBounds_toArray, List.set_cons_zero, List.set_cons_succ]
  refine wpAnyH_take (i := 15) (oi := { dst := some 38, op := Op.binOp BinOp.eql 4 (Operand.tmp 36) (Operand.tmp 37) 4, type := 4, pos := "law.go:37", after := #[{ on := 13, ground := Ground.data }, { on := 14, ground := Ground.data }, { on := 12, ground := Ground.guard }], guard := some (12, true) }) (v := ?_) rfl (by kernel_rfl) (by kernel_rfl) (by kernel_rfl) (fun _ _ _ h => h) (Or.inl ⟨by kernel_rfl, ?_⟩) (by assumption) ?_
  rotate_left
  · intro wS hSw; (try dsimp only at hSw); go_simp; (try with_reducible rfl)
  try simp only [Act.put, List.setIfInBounds_toArray, List.set_cons_zero, List.set_cons_succ]
  refine wpAnyH_take (i := 16) (oi := { dst := some 39, op := Op.pick (Operand.tmp 35) (Operand.tmp 38) (Operand.const (Value.bool false)), type := 4, pos := "law.go:37", after := #[{ on := 12, ground := Ground.data }, { on := 15, ground := Ground.data }], guard := none }) (v := ?_) rfl (by kernel_rfl) (by kernel_rfl) (by kernel_rfl) (fun _ _ _ h => h) (Or.inl ⟨by kernel_rfl, ?_⟩) (by assumption) ?_
  rotate_left
  · intro wS hSw; (try dsimp only at hSw); go_simp; (try with_reducible rfl)
  try simp only [Act.put, List.setIfInBounds_toArray, List.set_cons_zero, List.set_cons_succ]
  refine wpAnyH_take (i := 17) (oi := { dst := some 40, op := Op.move (Operand.tmp 39), type := 4, pos := "law.go:37", after := #[{ on := 16, ground := Ground.data }, { on := 12, ground := Ground.chain }], guard := none }) (v := ?_) rfl (by kernel_rfl) (by kernel_rfl) (by kernel_rfl) (fun _ _ _ h => h) (Or.inl ⟨by kernel_rfl, ?_⟩) (by assumption) ?_
  rotate_left
  · intro wS hSw; (try dsimp only at hSw); go_simp; (try with_reducible rfl)
  try simp only [Act.put, List.setIfInBounds_toArray, List.set_cons_zero, List.set_cons_succ]
  refine wpAnyH_ready (rs := [18]) (by kernel_rfl) (by simp) ?_
  refine AllReadyH.cons (o := { dst := some 41, op := Op.call { callee := Callee.value (Operand.func 14), args := #[], argTypes := #[] }, type := 4, pos := "law.go:37", after := #[{ on := 17, ground := Ground.chain }, { on := 17, ground := Ground.guard }], guard := some (17, true) }) rfl (fun K hK => ?_) AllReadyH.nil
  go_simp
  go_at_call 14
  refine (awake_any _ (kp6r hRB (by assumption))).mono ?_
  rintro e w' ⟨rfl, hb⟩
  refine hK.out _ _ ?_ (fun hH18 => ?_)
  · (try dsimp only); exact kp6 (by assumption) hb
  clear hK K
  try simp only [Act.put, List.setIfInBounds_toArray, List.set_cons_zero, List.set_cons_succ]
  refine wpAnyH_take (i := 19) (oi := { dst := some 42, op := Op.pick (Operand.tmp 40) (Operand.tmp 41) (Operand.const (Value.bool false)), type := 4, pos := "law.go:37", after := #[{ on := 17, ground := Ground.data }, { on := 18, ground := Ground.data }], guard := none }) (v := ?_) rfl (by kernel_rfl) (by kernel_rfl) (by kernel_rfl) (fun _ _ _ h => h) (Or.inl ⟨by kernel_rfl, ?_⟩) (by assumption) ?_
  rotate_left
  · intro wS hSw; (try dsimp only at hSw); go_simp; (try with_reducible rfl)
  try simp only [Act.put, List.setIfInBounds_toArray, List.set_cons_zero, List.set_cons_succ]
  refine wpAnyH_take (i := 20) (oi := { dst := some 4, op := Op.assign (Operand.tmp 42), type := 4, pos := "law.go:37", after := #[{ on := 19, ground := Ground.data }, { on := 18, ground := Ground.chain }, { on := 0, ground := Ground.phase }, { on := 1, ground := Ground.phase }, { on := 2, ground := Ground.phase }, { on := 3, ground := Ground.phase }, { on := 4, ground := Ground.phase }, { on := 5, ground := Ground.phase }, { on := 6, ground := Ground.phase }, { on := 7, ground := Ground.phase }, { on := 8, ground := Ground.phase }, { on := 9, ground := Ground.phase }, { on := 10, ground := Ground.phase }, { on := 11, ground := Ground.phase }, { on := 12, ground := Ground.phase }, { on := 13, ground := Ground.phase }, { on := 14, ground := Ground.phase }, { on := 15, ground := Ground.phase }, { on := 16, ground := Ground.phase }, { on := 17, ground := Ground.phase }, { on := 18, ground := Ground.phase }, { on := 19, ground := Ground.phase }], guard := none }) (v := ?_) rfl (by kernel_rfl) (by kernel_rfl) (by kernel_rfl) (fun _ _ _ h => h) (Or.inl ⟨by kernel_rfl, ?_⟩) (by assumption) ?_
  rotate_left
  · intro wS hSw; (try dsimp only at hSw); go_simp; (try with_reducible rfl)
  try simp only [Act.put, List.setIfInBounds_toArray, List.set_cons_zero, List.set_cons_succ]
  refine wpAnyH_done (by kernel_rfl) ?_ _
  have hBS := kp6l hH18
  go_wp2
  go_ret
  exact ⟨rfl, (Bel.out (by repeat (first | exact Bel.refl _ | assumption | refine Bel.drew ?_ | refine Bel.drewN ?_ _ | refine Bel.alloc ?_ _ | refine Bel.setCell ?_ (by simp <;> omega) _ | refine Bel.step ?_ (by assumption))))⟩
theorem schemaEvents_walk (a : Option Addr) (n cap : Nat) (S : Nat → Sch) (en : ByteArray) (a2 : Option Addr) (m cap2 : Nat) (k v : Nat → Int) (t : Nat → ByteArray) (w : World) (hR : Ready w) (hlen : n ≤ 9223372036854775807) (hm : m ≤ 9223372036854775807) (hs : SchsAt w a n S) (hv : ValsAt w a2 m k v t) :
    Calls Tryd.prog 5 #[.slice a n cap, .agg #[.string en, .slice a2 m cap2]] w fun e w' => e = .returned (.bool true) ∧ Below w.heap.size w w' := by
  cases ho : plF (nmS S) en n with
  | none => exact events_none a n cap S en a2 m cap2 k v t w hR hlen hm hs hv ho
  | some j =>
    have hj := (fnd_lt ho).2.1
    have hs' := hs
    rcases hs' with h0 | ⟨b, off, rfl, hx⟩
    · omega
    · exact events_some b off n cap S en a2 m cap2 k v t w hR hlen hm hs hv j hj ⟨(hx j hj).1, (hx j hj).2.1⟩ (hx j hj).2.2.1 (hx j hj).2.2.2 ho
end Go.Proofs.YtjncoihppmbijaaDoor
