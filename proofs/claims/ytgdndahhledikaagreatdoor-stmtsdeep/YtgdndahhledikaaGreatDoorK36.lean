/- YPer. -/
import Derived.Test.YtgdndahhledikaaGreatDoorK34
import Derived.Test.YtgdndahhledikaaGreatDoorK35
namespace Go.Proofs.YtgdndahhledikaaGreatDoor
open Go.ChangeShapes Go.WideShapes Go.ChangeAt Go.RowKit
set_option maxRecDepth 20000 in
set_option maxHeartbeats 4000000 in
theorem period_any (d : List UInt8) (u : Int) (w : World) (hR : Rdv w) (hl : d.length ≤ 1048576000) (hu : 1 ≤ u) (hu2 : u ≤ 86400000) (hv : 0 ≤ (whlP 7 d).1.2.2) : Calls Tryz.prog 140 #[.string (bsA d), .int .i64 u] w fun e w' => e = .returned (.tuple #[tkV (perP d u).1 0, .int .i64 (perP d u).2]) ∧ Below w.heap.size w w' := by
 have h1 := whole_any 7 d (w.alloc tokO) (hR.alloc _) hl
 have hk : (whlP 7 d).2 = 0 → (whlP 7 d).1.1 = 7 ∧ (whlP 7 d).1.2.1 = [] := fun h => whlP_ok (t := (whlP 7 d).1) (by rw [← h])
 have hP1 : (whlP 7 d).2 ≠ 0 ∨ (whlP 7 d).1.2.2 > 1099511627776 / u → perP d u = (tk0, 51) := fun h => by unfold perP; rw [if_pos h]
 have hP2 : ¬ ((whlP 7 d).2 ≠ 0 ∨ (whlP 7 d).1.2.2 > 1099511627776 / u) → perP d u = ((7, [], (whlP 7 d).1.2.2 * u), 0) := fun h => by unfold perP; rw [if_neg h]
 generalize hq : whlP 7 d = q at h1 hv hk hP1 hP2
 obtain ⟨⟨q1, q2, q3⟩, q4⟩ := q
 dsimp only at hv hk hP1 hP2
 have hu0 : ¬ u = 0 := by omega
 have hdv : Int.tdiv 1099511627776 u = 1099511627776 / u := Int.tdiv_eq_ediv_of_nonneg (by omega)
 obtain ⟨D, hDe⟩ : ∃ D, (1099511627776 : Int) / u = D := ⟨_, rfl⟩
 have hD0 : 0 ≤ D := by rw [← hDe]; exact Int.ediv_nonneg (by omega) (by omega)
 have hD1 : D ≤ 1099511627776 := by rw [← hDe]; exact Int.ediv_le_self _ (by omega)
 have hle : q3 ≤ D → q3 * u ≤ 1099511627776 := fun h => by rw [← hDe] at h; exact (Int.le_ediv_iff_mul_le (by omega)).1 h
 have hpos : 0 ≤ q3 * u := Int.mul_nonneg hv (by omega)
 have hw6 : IntKind.i64.wrap (Int.tdiv 1099511627776 u) = D := by rw [hdv, hDe, IntKind.wrap_i64]; omega
 rw [hDe] at hP1 hP2
 have HP1 : Hid _ := hP1
 have HP2 : Hid _ := hP2
 have HLE : Hid _ := hle
 have HPO : Hid _ := hpos
 clear hdv hDe hP1 hP2 hle hpos
 unfold tkV at h1 ⊢
 dsimp only at h1
 go_enter Tryz.func140, Tryz.ntmps140
 go_wp2_with fail
 refine h1.mono ?_
 rintro e w2 ⟨rfl, hb⟩
 clear h1 hR
 go_wp2
 have bo := (Box.new w (.int .i64 0) (.string ⟨#[]⟩) (.int .i64 0) (.int .i64 0)).below hb
 have hB : Below w.heap.size w w2 := ((Below.refl _ _).alloc (Nat.le_refl _) _).trans (hb.mono (by simp))
 have hB2 := below_new hB (Obj.cells #[Value.int IntKind.i64 q1, Value.string (bsA q2), Value.int IntKind.i64 q3, Value.int IntKind.i64 0] 26)
 have bo2 := bo.below ((Below.refl _ _).alloc (Nat.le_refl _) (Obj.cells #[Value.int IntKind.i64 q1, Value.string (bsA q2), Value.int IntKind.i64 q3, Value.int IntKind.i64 0] 26))
 have bt := Box.new w2 (.int .i64 q1) (.string (bsA q2)) (.int .i64 q3) (.int .i64 0)
 have hsz : w.heap.size < w2.heap.size := cell_lt bo.c0
 clear bo hb hB
 generalize w2.alloc (Obj.cells #[Value.int IntKind.i64 q1, Value.string (bsA q2), Value.int IntKind.i64 q3, Value.int IntKind.i64 0] 26) = W0 at hB2 bo2 bt ⊢
 have hD : Below W0.heap.size W0 W0.drew := (Below.refl _ _).drew
 have c2 := bt.c2
 obtain ⟨x0, x1, x2, x3, k0, k1, k2, k3⟩ := bt.below hD
 obtain ⟨z0, z1, z2, z3, m0, m1, m2, m3⟩ := bo2.below hD
 have hB3 : Below w.heap.size w W0.drew := hB2.trans (hD.mono hB2.size)
 clear bt bo2
 by_cases h4 : q4 = 0
 ·
  subst h4
  obtain ⟨rfl, rfl⟩ := hk rfl
  by_cases h5 : D < q3
  ·
   have HE : Hid (perP d u = (tk0, 51)) := HP1.out (Or.inr h5)
   refine wp_region_held_drew (S := (fun wS => Bel W0.heap.size W0 wS)) (by kernel_rfl) ?_ (fun hHeld => ?_)
   · (try dsimp only); exact (Bel.refl _).drew
   refine wpAnyH_take (i := 0) (oi := { dst := some 13, op := Op.move (Operand.tmp 7), type := 28, pos := "lex.go:202", after := #[], guard := none }) (v := ?_) rfl (by kernel_rfl) (by kernel_rfl) (by kernel_rfl) (fun _ _ _ h => h) (Or.inl ⟨by kernel_rfl, ?_⟩) (by assumption) ?_
   rotate_left
   · intro wS hSw; (try dsimp only at hSw); go_simp; (try with_reducible rfl)
   try simp only [Act.put, List.setIfInBounds_toArray, List.set_cons_zero, List.set_cons_succ]
   refine wpAnyH_take (i := 1) (oi := { dst := some 14, op := Op.binOp BinOp.neq 28 (Operand.tmp 13) (Operand.const (Value.int IntKind.i64 0)) 28, type := 4, pos := "lex.go:202", after := #[{ on := 0, ground := Ground.data }], guard := none }) (v := ?_) rfl (by kernel_rfl) (by kernel_rfl) (by kernel_rfl) (fun _ _ _ h => h) (Or.inl ⟨by kernel_rfl, ?_⟩) (by assumption) ?_
   rotate_left
   · intro wS hSw; (try dsimp only at hSw); go_simp; (try with_reducible rfl)
   try simp only [Act.put, List.setIfInBounds_toArray, List.set_cons_zero, List.set_cons_succ]
   refine wpAnyH_take (i := 2) (oi := { dst := some 15, op := Op.move (Operand.tmp 14), type := 4, pos := "lex.go:202", after := #[{ on := 1, ground := Ground.data }], guard := none }) (v := ?_) rfl (by kernel_rfl) (by kernel_rfl) (by kernel_rfl) (fun _ _ _ h => h) (Or.inl ⟨by kernel_rfl, ?_⟩) (by assumption) ?_
   rotate_left
   · intro wS hSw; (try dsimp only at hSw); go_simp; (try with_reducible rfl)
   try simp only [Act.put, List.setIfInBounds_toArray, List.set_cons_zero, List.set_cons_succ]
   refine wpAnyH_take (i := 3) (oi := { dst := some 16, op := Op.fieldAddr 26 (Operand.tmp 6) 2, type := 0, pos := "lex.go:202", after := #[{ on := 2, ground := Ground.guard }], guard := some (2, false) }) (v := ?_) rfl (by kernel_rfl) (by kernel_rfl) (by kernel_rfl) (fun _ _ _ h => h) (Or.inl ⟨by kernel_rfl, ?_⟩) (by assumption) ?_
   rotate_left
   · intro wS hSw; (try dsimp only at hSw); go_simp; (try with_reducible rfl)
   try simp only [Act.put, List.setIfInBounds_toArray, List.set_cons_zero, List.set_cons_succ]
   refine wpAnyH_take (i := 4) (oi := { dst := some 17, op := Op.load 3 (Operand.tmp 16), type := 3, pos := "lex.go:202", after := #[{ on := 3, ground := Ground.data }, { on := 2, ground := Ground.guard }], guard := some (2, false) }) (v := ?_) rfl (by kernel_rfl) (by kernel_rfl) (by kernel_rfl) (fun _ _ _ h => h) (Or.inl ⟨by kernel_rfl, ?_⟩) (by assumption) ?_
   rotate_left
   · intro wS hSw; (try dsimp only at hSw); have xm := cell_below hSw.out c2; go_simp; (try with_reducible rfl)
   try simp only [Act.put, List.setIfInBounds_toArray, List.set_cons_zero, List.set_cons_succ]
   refine wpAnyH_take (i := 5) (oi := { dst := some 18, op := Op.move (Operand.tmp 1), type := 3, pos := "lex.go:202", after := #[{ on := 2, ground := Ground.guard }], guard := some (2, false) }) (v := ?_) rfl (by kernel_rfl) (by kernel_rfl) (by kernel_rfl) (fun _ _ _ h => h) (Or.inl ⟨by kernel_rfl, ?_⟩) (by assumption) ?_
   rotate_left
   · intro wS hSw; (try dsimp only at hSw); go_simp; (try with_reducible rfl)
   try simp only [Act.put, List.setIfInBounds_toArray, List.set_cons_zero, List.set_cons_succ]
   refine wpAnyH_take (i := 6) (oi := { dst := some 19, op := Op.binOp BinOp.quo 3 (Operand.const (Value.int IntKind.i64 1099511627776)) (Operand.tmp 18) 3, type := 3, pos := "lex.go:202", after := #[{ on := 5, ground := Ground.data }, { on := 2, ground := Ground.guard }], guard := some (2, false) }) (v := ?_) rfl (by kernel_rfl) (by kernel_rfl) (by kernel_rfl) (fun _ _ _ h => h) (Or.inl ⟨by kernel_rfl, ?_⟩) (by assumption) ?_
   rotate_left
   · intro wS hSw; (try dsimp only at hSw); go_simp; (try with_reducible rfl)
   try simp only [Act.put, List.setIfInBounds_toArray, List.set_cons_zero, List.set_cons_succ]
   refine wpAnyH_take (i := 7) (oi := { dst := some 20, op := Op.binOp BinOp.gtr 3 (Operand.tmp 17) (Operand.tmp 19) 3, type := 4, pos := "lex.go:202", after := #[{ on := 4, ground := Ground.data }, { on := 6, ground := Ground.data }, { on := 2, ground := Ground.guard }], guard := some (2, false) }) (v := ?_) rfl (by kernel_rfl) (by kernel_rfl) (by kernel_rfl) (fun _ _ _ h => h) (Or.inl ⟨by kernel_rfl, ?_⟩) (by assumption) ?_
   rotate_left
   · intro wS hSw; (try dsimp only at hSw); go_simp; (try with_reducible rfl)
   try simp only [Act.put, List.setIfInBounds_toArray, List.set_cons_zero, List.set_cons_succ]
   refine wpAnyH_take (i := 8) (oi := { dst := some 21, op := Op.pick (Operand.tmp 15) (Operand.const (Value.bool true)) (Operand.tmp 20), type := 4, pos := "lex.go:202", after := #[{ on := 2, ground := Ground.data }, { on := 7, ground := Ground.data }], guard := none }) (v := ?_) rfl (by kernel_rfl) (by kernel_rfl) (by kernel_rfl) (fun _ _ _ h => h) (Or.inl ⟨by kernel_rfl, ?_⟩) (by assumption) ?_
   rotate_left
   · intro wS hSw; (try dsimp only at hSw); go_simp; (try with_reducible rfl)
   try simp only [Act.put, List.setIfInBounds_toArray, List.set_cons_zero, List.set_cons_succ]
   refine wpAnyH_done (by kernel_rfl) ?_ _
   clear c2 hD
   generalize W0.drew = W1 at x0 x1 x2 x3 k0 k1 k2 k3 z0 z1 z2 z3 m0 m1 m2 m3 hB3 ⊢
   go_wp2
   refine bodyPost_ret (v := .tuple #[.agg #[.int .i64 0, .string ⟨#[]⟩, .int .i64 0, .int .i64 0], .int .i64 51]) (by simp [results, Tryz.results140, go_sem, z0, z1, z2, z3]) rfl ⟨by rw [HE.out]; rfl, by repeat (first | exact hB3 | refine Below.setCell ?_ (by first | exact Nat.le_refl _ | exact Nat.le_of_lt hsz) _)⟩
  ·
   have HE : Hid _ := HP2.out (by omega)
   have hm1 := HPO.out
   have hm2 := HLE.out (by omega)
   have hmw : IntKind.i64.wrap (q3 * u) = q3 * u := by rw [IntKind.wrap_i64]; omega
   refine wp_region_held_drew (S := (fun wS => Bel W0.heap.size W0 wS)) (by kernel_rfl) ?_ (fun hHeld => ?_)
   · (try dsimp only); exact (Bel.refl _).drew
   refine wpAnyH_take (i := 0) (oi := { dst := some 13, op := Op.move (Operand.tmp 7), type := 28, pos := "lex.go:202", after := #[], guard := none }) (v := ?_) rfl (by kernel_rfl) (by kernel_rfl) (by kernel_rfl) (fun _ _ _ h => h) (Or.inl ⟨by kernel_rfl, ?_⟩) (by assumption) ?_
   rotate_left
   · intro wS hSw; (try dsimp only at hSw); go_simp; (try with_reducible rfl)
   try simp only [Act.put, List.setIfInBounds_toArray, List.set_cons_zero, List.set_cons_succ]
   refine wpAnyH_take (i := 1) (oi := { dst := some 14, op := Op.binOp BinOp.neq 28 (Operand.tmp 13) (Operand.const (Value.int IntKind.i64 0)) 28, type := 4, pos := "lex.go:202", after := #[{ on := 0, ground := Ground.data }], guard := none }) (v := ?_) rfl (by kernel_rfl) (by kernel_rfl) (by kernel_rfl) (fun _ _ _ h => h) (Or.inl ⟨by kernel_rfl, ?_⟩) (by assumption) ?_
   rotate_left
   · intro wS hSw; (try dsimp only at hSw); go_simp; (try with_reducible rfl)
   try simp only [Act.put, List.setIfInBounds_toArray, List.set_cons_zero, List.set_cons_succ]
   refine wpAnyH_take (i := 2) (oi := { dst := some 15, op := Op.move (Operand.tmp 14), type := 4, pos := "lex.go:202", after := #[{ on := 1, ground := Ground.data }], guard := none }) (v := ?_) rfl (by kernel_rfl) (by kernel_rfl) (by kernel_rfl) (fun _ _ _ h => h) (Or.inl ⟨by kernel_rfl, ?_⟩) (by assumption) ?_
   rotate_left
   · intro wS hSw; (try dsimp only at hSw); go_simp; (try with_reducible rfl)
   try simp only [Act.put, List.setIfInBounds_toArray, List.set_cons_zero, List.set_cons_succ]
   refine wpAnyH_take (i := 3) (oi := { dst := some 16, op := Op.fieldAddr 26 (Operand.tmp 6) 2, type := 0, pos := "lex.go:202", after := #[{ on := 2, ground := Ground.guard }], guard := some (2, false) }) (v := ?_) rfl (by kernel_rfl) (by kernel_rfl) (by kernel_rfl) (fun _ _ _ h => h) (Or.inl ⟨by kernel_rfl, ?_⟩) (by assumption) ?_
   rotate_left
   · intro wS hSw; (try dsimp only at hSw); go_simp; (try with_reducible rfl)
   try simp only [Act.put, List.setIfInBounds_toArray, List.set_cons_zero, List.set_cons_succ]
   refine wpAnyH_take (i := 4) (oi := { dst := some 17, op := Op.load 3 (Operand.tmp 16), type := 3, pos := "lex.go:202", after := #[{ on := 3, ground := Ground.data }, { on := 2, ground := Ground.guard }], guard := some (2, false) }) (v := ?_) rfl (by kernel_rfl) (by kernel_rfl) (by kernel_rfl) (fun _ _ _ h => h) (Or.inl ⟨by kernel_rfl, ?_⟩) (by assumption) ?_
   rotate_left
   · intro wS hSw; (try dsimp only at hSw); have xm := cell_below hSw.out c2; go_simp; (try with_reducible rfl)
   try simp only [Act.put, List.setIfInBounds_toArray, List.set_cons_zero, List.set_cons_succ]
   refine wpAnyH_take (i := 5) (oi := { dst := some 18, op := Op.move (Operand.tmp 1), type := 3, pos := "lex.go:202", after := #[{ on := 2, ground := Ground.guard }], guard := some (2, false) }) (v := ?_) rfl (by kernel_rfl) (by kernel_rfl) (by kernel_rfl) (fun _ _ _ h => h) (Or.inl ⟨by kernel_rfl, ?_⟩) (by assumption) ?_
   rotate_left
   · intro wS hSw; (try dsimp only at hSw); go_simp; (try with_reducible rfl)
   try simp only [Act.put, List.setIfInBounds_toArray, List.set_cons_zero, List.set_cons_succ]
   refine wpAnyH_take (i := 6) (oi := { dst := some 19, op := Op.binOp BinOp.quo 3 (Operand.const (Value.int IntKind.i64 1099511627776)) (Operand.tmp 18) 3, type := 3, pos := "lex.go:202", after := #[{ on := 5, ground := Ground.data }, { on := 2, ground := Ground.guard }], guard := some (2, false) }) (v := ?_) rfl (by kernel_rfl) (by kernel_rfl) (by kernel_rfl) (fun _ _ _ h => h) (Or.inl ⟨by kernel_rfl, ?_⟩) (by assumption) ?_
   rotate_left
   · intro wS hSw; (try dsimp only at hSw); go_simp; (try with_reducible rfl)
   try simp only [Act.put, List.setIfInBounds_toArray, List.set_cons_zero, List.set_cons_succ]
   refine wpAnyH_take (i := 7) (oi := { dst := some 20, op := Op.binOp BinOp.gtr 3 (Operand.tmp 17) (Operand.tmp 19) 3, type := 4, pos := "lex.go:202", after := #[{ on := 4, ground := Ground.data }, { on := 6, ground := Ground.data }, { on := 2, ground := Ground.guard }], guard := some (2, false) }) (v := ?_) rfl (by kernel_rfl) (by kernel_rfl) (by kernel_rfl) (fun _ _ _ h => h) (Or.inl ⟨by kernel_rfl, ?_⟩) (by assumption) ?_
   rotate_left
   · intro wS hSw; (try dsimp only at hSw); go_simp; (try with_reducible rfl)
   try simp only [Act.put, List.setIfInBounds_toArray, List.set_cons_zero, List.set_cons_succ]
   refine wpAnyH_take (i := 8) (oi := { dst := some 21, op := Op.pick (Operand.tmp 15) (Operand.const (Value.bool true)) (Operand.tmp 20), type := 4, pos := "lex.go:202", after := #[{ on := 2, ground := Ground.data }, { on := 7, ground := Ground.data }], guard := none }) (v := ?_) rfl (by kernel_rfl) (by kernel_rfl) (by kernel_rfl) (fun _ _ _ h => h) (Or.inl ⟨by kernel_rfl, ?_⟩) (by assumption) ?_
   rotate_left
   · intro wS hSw; (try dsimp only at hSw); go_simp; (try with_reducible rfl)
   try simp only [Act.put, List.setIfInBounds_toArray, List.set_cons_zero, List.set_cons_succ]
   refine wpAnyH_done (by kernel_rfl) ?_ _
   clear c2 hD
   generalize W0.drew = W1 at x0 x1 x2 x3 k0 k1 k2 k3 z0 z1 z2 z3 m0 m1 m2 m3 hB3 ⊢
   go_wp2
   refine bodyPost_ret (v := .tuple #[.agg #[.int .i64 7, .string (bsA []), .int .i64 (q3 * u), .int .i64 0], .int .i64 0]) (by simp [results, Tryz.results140, go_sem, z0, z1, z2, z3]) rfl ⟨by rw [HE.out], by repeat (first | exact hB3 | refine Below.setCell ?_ (by first | exact Nat.le_refl _ | exact Nat.le_of_lt hsz) _)⟩
 ·
  have HE : Hid (perP d u = (tk0, 51)) := HP1.out (Or.inl h4)
  have h4' : (q4 != 0) = true := by simpa using h4
  refine wp_region_held_drew (S := (fun wS => Bel W0.heap.size W0 wS)) (by kernel_rfl) ?_ (fun hHeld => ?_)
  · (try dsimp only); exact (Bel.refl _).drew
  refine wpAnyH_take (i := 0) (oi := { dst := some 13, op := Op.move (Operand.tmp 7), type := 28, pos := "lex.go:202", after := #[], guard := none }) (v := ?_) rfl (by kernel_rfl) (by kernel_rfl) (by kernel_rfl) (fun _ _ _ h => h) (Or.inl ⟨by kernel_rfl, ?_⟩) (by assumption) ?_
  rotate_left
  · intro wS hSw; (try dsimp only at hSw); go_simp; (try with_reducible rfl)
  try simp only [Act.put, List.setIfInBounds_toArray, List.set_cons_zero, List.set_cons_succ]
  refine wpAnyH_take (i := 1) (oi := { dst := some 14, op := Op.binOp BinOp.neq 28 (Operand.tmp 13) (Operand.const (Value.int IntKind.i64 0)) 28, type := 4, pos := "lex.go:202", after := #[{ on := 0, ground := Ground.data }], guard := none }) (v := ?_) rfl (by kernel_rfl) (by kernel_rfl) (by kernel_rfl) (fun _ _ _ h => h) (Or.inl ⟨by kernel_rfl, ?_⟩) (by assumption) ?_
  rotate_left
  · intro wS hSw; (try dsimp only at hSw); go_simp; (try with_reducible rfl)
  try simp only [Act.put, List.setIfInBounds_toArray, List.set_cons_zero, List.set_cons_succ]
  refine wpAnyH_take (i := 2) (oi := { dst := some 15, op := Op.move (Operand.tmp 14), type := 4, pos := "lex.go:202", after := #[{ on := 1, ground := Ground.data }], guard := none }) (v := ?_) rfl (by kernel_rfl) (by kernel_rfl) (by kernel_rfl) (fun _ _ _ h => h) (Or.inl ⟨by kernel_rfl, ?_⟩) (by assumption) ?_
  rotate_left
  · intro wS hSw; (try dsimp only at hSw); go_simp; (try with_reducible rfl)
  try simp only [Act.put, List.setIfInBounds_toArray, List.set_cons_zero, List.set_cons_succ]
  refine wpAnyH_take (i := 3) (oi := { dst := some 16, op := Op.fieldAddr 26 (Operand.tmp 6) 2, type := 0, pos := "lex.go:202", after := #[{ on := 2, ground := Ground.guard }], guard := some (2, false) }) (v := undef) rfl (by kernel_rfl) (by kernel_rfl) (by kernel_rfl) (fun _ _ _ h => h) (Or.inr ⟨by kernel_rfl, rfl⟩) (by assumption) ?_
  try simp only [Act.put, List.setIfInBounds_toArray, List.set_cons_zero, List.set_cons_succ]
  refine wpAnyH_take (i := 4) (oi := { dst := some 17, op := Op.load 3 (Operand.tmp 16), type := 3, pos := "lex.go:202", after := #[{ on := 3, ground := Ground.data }, { on := 2, ground := Ground.guard }], guard := some (2, false) }) (v := undef) rfl (by kernel_rfl) (by kernel_rfl) (by kernel_rfl) (fun _ _ _ h => h) (Or.inr ⟨by kernel_rfl, rfl⟩) (by assumption) ?_
  try simp only [Act.put, List.setIfInBounds_toArray, List.set_cons_zero, List.set_cons_succ]
  refine wpAnyH_take (i := 5) (oi := { dst := some 18, op := Op.move (Operand.tmp 1), type := 3, pos := "lex.go:202", after := #[{ on := 2, ground := Ground.guard }], guard := some (2, false) }) (v := undef) rfl (by kernel_rfl) (by kernel_rfl) (by kernel_rfl) (fun _ _ _ h => h) (Or.inr ⟨by kernel_rfl, rfl⟩) (by assumption) ?_
  try simp only [Act.put, List.setIfInBounds_toArray, List.set_cons_zero, List.set_cons_succ]
  refine wpAnyH_take (i := 6) (oi := { dst := some 19, op := Op.binOp BinOp.quo 3 (Operand.const (Value.int IntKind.i64 1099511627776)) (Operand.tmp 18) 3, type := 3, pos := "lex.go:202", after := #[{ on := 5, ground := Ground.data }, { on := 2, ground := Ground.guard }], guard := some (2, false) }) (v := undef) rfl (by kernel_rfl) (by kernel_rfl) (by kernel_rfl) (fun _ _ _ h => h) (Or.inr ⟨by kernel_rfl, rfl⟩) (by assumption) ?_
  try simp only [Act.put, List.setIfInBounds_toArray, List.set_cons_zero, List.set_cons_succ]
  refine wpAnyH_take (i := 7) (oi := { dst := some 20, op := Op.binOp BinOp.gtr 3 (Operand.tmp 17) (Operand.tmp 19) 3, type := 4, pos := "lex.go:202", after := #[{ on := 4, ground := Ground.data }, { on := 6, ground := Ground.data }, { on := 2, ground := Ground.guard }], guard := some (2, false) }) (v := undef) rfl (by kernel_rfl) (by kernel_rfl) (by kernel_rfl) (fun _ _ _ h => h) (Or.inr ⟨by kernel_rfl, rfl⟩) (by assumption) ?_
  try simp only [Act.put, List.setIfInBounds_toArray, List.set_cons_zero, List.set_cons_succ]
  refine wpAnyH_take (i := 8) (oi := { dst := some 21, op := Op.pick (Operand.tmp 15) (Operand.const (Value.bool true)) (Operand.tmp 20), type := 4, pos := "lex.go:202", after := #[{ on := 2, ground := Ground.data }, { on := 7, ground := Ground.data }], guard := none }) (v := ?_) rfl (by kernel_rfl) (by kernel_rfl) (by kernel_rfl) (fun _ _ _ h => h) (Or.inl ⟨by kernel_rfl, ?_⟩) (by assumption) ?_
  rotate_left
  · intro wS hSw; (try dsimp only at hSw); go_simp; (try with_reducible rfl)
  try simp only [Act.put, List.setIfInBounds_toArray, List.set_cons_zero, List.set_cons_succ]
  refine wpAnyH_done (by kernel_rfl) ?_ _
  clear c2 hD
  generalize W0.drew = W1 at x0 x1 x2 x3 k0 k1 k2 k3 z0 z1 z2 z3 m0 m1 m2 m3 hB3 ⊢
  go_wp2
  refine bodyPost_ret (v := .tuple #[.agg #[.int .i64 0, .string ⟨#[]⟩, .int .i64 0, .int .i64 0], .int .i64 51]) (by simp [results, Tryz.results140, go_sem, z0, z1, z2, z3]) rfl ⟨by rw [HE.out]; rfl, by repeat (first | exact hB3 | refine Below.setCell ?_ (by first | exact Nat.le_refl _ | exact Nat.le_of_lt hsz) _)⟩
theorem dgs_nonneg {l : List UInt8} (hl : l ≠ []) (hd : dgB (l.headD 0).toNat = true) (k : Int) : 0 ≤ (whlP k (dgs l)).1.2.2 := by
 cases l with
 | nil => exact absurd rfl hl
 | cons c r =>
  have h1 := ldN_pos (p := dgB) hl hd
  obtain ⟨m, hm⟩ : ∃ m, ldN dgB (c :: r) = m + 1 := ⟨_, (Nat.sub_add_cancel h1).symm⟩
  have e : dgs (c :: r) = c :: r.take m := by unfold dgs; rw [hm]; rfl
  have hc : 48 ≤ c.toNat ∧ c.toNat ≤ 57 := by unfold dgB at hd; simpa using hd
  rw [e]
  unfold whlP
  cases ha : Lib.atoiAll (c :: r.take m) with
  | ok v => exact (atoi_nonneg hc ha).1
  | «syntax» => exact Int.le_refl _
  | range => exact Int.le_refl _
set_option maxRecDepth 20000 in
set_option maxHeartbeats 4000000 in
theorem noughtAhead_any (l : List UInt8) (hne : l ≠ []) (w : World) (hl : l.length ≤ 1048576000) : Calls Tryz.prog 99 #[.string (bsA l)] w fun e w' => e = .returned (.bool (nghB l)) ∧ w' = w := by
 have hz := bsA_size l
 match l, hne with
 | [c], _ =>
  have hc : (bsA [c])[0]'(by rw [hz]; simp) = c := rfl
  go_enter Tryz.func99, Tryz.ntmps99
  go_wp2
  all_goals
   go_ret
   exact ⟨rfl, rfl⟩
 | c :: d :: r, _ =>
  have hc : (bsA (c :: d :: r))[0]'(by rw [hz]; simp) = c := rfl
  have hd : (bsA (c :: d :: r))[1]'(by rw [hz]; simp) = d := rfl
  have h1 := isDigit_any d.toNat w
  by_cases h48 : (c.toNat : Int) = 48
  ·
   have HE : Hid (dgB d.toNat = nghB (c :: d :: r)) := by
    show dgB d.toNat = (c == 48 && dgB d.toNat)
    rw [b48.1 h48]; rfl
   go_enter Tryz.func99, Tryz.ntmps99
   go_wp2_with (go_at_call 62; refine h1.mono ?_; rintro e w' ⟨rfl, rfl⟩)
   go_ret
   exact ⟨ret_bool HE.out, rfl⟩
  ·
   have HE : Hid (false = nghB (c :: d :: r)) := by
    show false = (c == 48 && dgB d.toNat)
    rw [show (c == 48) = false from by simpa using fun e => h48 (b48.2 e)]; rfl
   go_enter Tryz.func99, Tryz.ntmps99
   go_wp2_with (go_at_call 62; refine h1.mono ?_; rintro e w' ⟨rfl, rfl⟩)
   go_ret
   exact ⟨ret_bool HE.out, rfl⟩
set_option maxRecDepth 20000 in
set_option maxHeartbeats 4000000 in
theorem amount_any (l : List UInt8) (w : World) (hR : Rdv w) (hne : l ≠ []) (hd0 : dgB (l.headD 0).toNat = true) (hl : l.length ≤ 104857600) : Calls Tryz.prog 98 #[.string (bsA l)] w fun e w' => e = .returned (.tuple #[tkV (amtP l).1 0, .int .i64 (amtP l).2.1, .int .i64 (amtP l).2.2]) ∧ Below w.heap.size w w' := by
 have hz := bsA_size l
 have hdl : (dgs l).length = ldN dgB l := by unfold dgs; rw [List.length_take]; have := ldN_le dgB l; omega
 have hdl2 : (dgs l).length ≤ l.length := by rw [hdl]; exact ldN_le dgB l
 have hx : (bsA l).extract (dgs l).length l.length = bsA (rst l) := by rw [hdl, ext_drop']; rfl
 have hrl : (rst l).length ≤ l.length := by unfold rst; rw [List.length_drop]; omega
 have hul : (unt l).length ≤ (rst l).length := by unfold unt; rw [List.length_take]; omega
 have hfl : (frcL (rst l)).length ≤ (rst l).length := by
  unfold frcL
  split
  · rw [List.length_take, List.length_tail]; omega
  · simp
 have h1 := leading_isDigit l (w.alloc tokO) (by omega)
 change Calls Tryz.prog 94 _ _ (fun e w' => e = .returned (.string (bsA (dgs l))) ∧ w' = w.alloc tokO) at h1
 have h2 := leading_isPart (rst l) (w.alloc tokO) (by omega)
 change Calls Tryz.prog 94 _ _ (fun e w' => e = .returned (.string (bsA (unt l))) ∧ w' = w.alloc tokO) at h2
 have h3 := milliseconds_any (unt l) (w.alloc tokO)
 have h4 := fraction_any (rst l) (w.alloc tokO) (by omega)
 have hm := msN_range (unt l)
 have h5 := fun h => period_any (dgs l) (msN (unt l)) (w.alloc tokO) (hR.alloc _) (by omega) h hm.2 (dgs_nonneg hne hd0 7)
 have h6 := fun h => decimal_no (dgs l) (frcL (rst l)) (w.alloc tokO) h (by omega)
 have h7 := fun h => decimal_yes (dgs l) (frcL (rst l)) (w.alloc tokO) (hR.alloc _) h (by omega)
 have h8 := whole_any 3 (dgs l) (w.alloc tokO) (hR.alloc _) (by omega)
 unfold amtP
 generalize dgs l = D at hx h1 h5 h6 h7 h8 hdl2 ⊢
 generalize hU : unt l = U at h2 h3 h5 hm hul ⊢
 generalize hF : frcL (rst l) = F at h4 h6 h7 hfl ⊢
 generalize rst l = R0 at hx h2 h4 hul hfl hrl
 generalize msN U = M at h3 h5 hm ⊢
 clear hR hdl hd0 hne hU hF
 have hzD := bsA_size D
 have hzU := bsA_size U
 have hzF := bsA_size F
 have hzR := bsA_size R0
 by_cases hM : 0 < M
 ·
  have h5' := h5 (by omega)
  rw [if_pos hM]
  generalize perP D M = q at h5' ⊢
  obtain ⟨⟨q1, q2, q3⟩, q4⟩ := q
  unfold tkV at h5' ⊢
  dsimp only at h5' ⊢
  clear h4 h5 h6 h7 h8
  go_enter Tryz.func98, Tryz.ntmps98
  go_wp2_with fail
  refine h1.mono ?_
  rintro e w' ⟨rfl, rfl⟩
  go_wp2_with fail
  refine h2.mono ?_
  rintro e w' ⟨rfl, rfl⟩
  go_wp2_with fail
  refine h3.mono ?_
  rintro e w' ⟨rfl, rfl⟩
  go_wp2_with fail
  refine h3.mono ?_
  rintro e w' ⟨rfl, rfl⟩
  clear h1 h2 h3
  go_wp2_with fail
  refine h5'.mono ?_
  rintro e w2 ⟨rfl, hb⟩
  have bo := (Box.new w (.int .i64 0) (.string ⟨#[]⟩) (.int .i64 0) (.int .i64 0)).below hb
  have hB : Below w.heap.size w w2 := ((Below.refl _ _).alloc (Nat.le_refl _) _).trans (hb.mono (by simp))
  have hB3 : Below w.heap.size w (((((w2.setCell ⟨w.heap.size, 0, none⟩ (Value.int IntKind.i64 q1)).setCell ⟨w.heap.size, 1, none⟩ (Value.string (bsA q2))).setCell ⟨w.heap.size, 2, none⟩ (Value.int IntKind.i64 q3)).setCell ⟨w.heap.size, 3, none⟩ (Value.int IntKind.i64 0)).alloc (Obj.cells #[Value.int IntKind.i64 q1, Value.string (bsA q2), Value.int IntKind.i64 q3, Value.int IntKind.i64 0] 26)) := Below.alloc ((((hB.setCell (p := ⟨w.heap.size, 0, none⟩) (Nat.le_refl _) _).setCell (p := ⟨w.heap.size, 1, none⟩) (Nat.le_refl _) _).setCell (p := ⟨w.heap.size, 2, none⟩) (Nat.le_refl _) _).setCell (p := ⟨w.heap.size, 3, none⟩) (Nat.le_refl _) _) (by have := hB.size; simpa [World.setCell] using this) _
  obtain ⟨z0, z1, z2, z3, m0, m1, m2, m3⟩ := (bo.set (.int .i64 q1) (.string (bsA q2)) (.int .i64 q3) (.int .i64 0)).below ((Below.refl _ _).alloc (Nat.le_refl _) (Obj.cells #[Value.int IntKind.i64 q1, Value.string (bsA q2), Value.int IntKind.i64 q3, Value.int IntKind.i64 0] 26))
  have hsz : w.heap.size < w2.heap.size := cell_lt bo.c0
  obtain ⟨y0, y1, y2, y3, f0, f1, f2, f3⟩ := bo
  clear m0 m1 m2 m3 hb hB h5'
  go_wp2
  generalize ((((w2.setCell ⟨w.heap.size, 0, none⟩ (Value.int IntKind.i64 q1)).setCell ⟨w.heap.size, 1, none⟩ (Value.string (bsA q2))).setCell ⟨w.heap.size, 2, none⟩ (Value.int IntKind.i64 q3)).setCell ⟨w.heap.size, 3, none⟩ (Value.int IntKind.i64 0)).alloc (Obj.cells #[Value.int IntKind.i64 q1, Value.string (bsA q2), Value.int IntKind.i64 q3, Value.int IntKind.i64 0] 26) = W3 at hB3 z0 z1 z2 z3 ⊢
  refine bodyPost_ret (v := .tuple #[.agg #[.int .i64 q1, .string (bsA q2), .int .i64 q3, .int .i64 0], .int .i64 (D.length + U.length : Nat), .int .i64 q4]) (by simp [results, Tryz.results98, go_sem, z0, z1, z2, z3]) rfl ⟨rfl, hB3⟩
 ·
  rw [if_neg hM]
  by_cases hF : F = []
  ·
   rw [if_neg (by simpa using hF)]
   subst hF
   have htl : (bsA ([] : List UInt8)).toList = [] := bsA_tl []
   generalize whlP 3 D = q at h8 ⊢
   obtain ⟨⟨q1, q2, q3⟩, q4⟩ := q
   unfold tkV at h8 ⊢
   dsimp only at h8 ⊢
   clear h5 h6 h7
   go_enter Tryz.func98, Tryz.ntmps98
   go_wp2_with fail
   refine h1.mono ?_
   rintro e w' ⟨rfl, rfl⟩
   go_wp2_with fail
   refine h2.mono ?_
   rintro e w' ⟨rfl, rfl⟩
   go_wp2_with fail
   refine h3.mono ?_
   rintro e w' ⟨rfl, rfl⟩
   go_wp2_with fail
   refine h4.mono ?_
   rintro e w' ⟨rfl, rfl⟩
   clear h1 h2 h3 h4
   go_wp2_with fail
   refine h8.mono ?_
   rintro e w2 ⟨rfl, hb⟩
   have bo := (Box.new w (.int .i64 0) (.string ⟨#[]⟩) (.int .i64 0) (.int .i64 0)).below hb
   have hB : Below w.heap.size w w2 := ((Below.refl _ _).alloc (Nat.le_refl _) _).trans (hb.mono (by simp))
   have hB3 : Below w.heap.size w (((((w2.setCell ⟨w.heap.size, 0, none⟩ (Value.int IntKind.i64 q1)).setCell ⟨w.heap.size, 1, none⟩ (Value.string (bsA q2))).setCell ⟨w.heap.size, 2, none⟩ (Value.int IntKind.i64 q3)).setCell ⟨w.heap.size, 3, none⟩ (Value.int IntKind.i64 0)).alloc (Obj.cells #[Value.int IntKind.i64 q1, Value.string (bsA q2), Value.int IntKind.i64 q3, Value.int IntKind.i64 0] 26)) := Below.alloc ((((hB.setCell (p := ⟨w.heap.size, 0, none⟩) (Nat.le_refl _) _).setCell (p := ⟨w.heap.size, 1, none⟩) (Nat.le_refl _) _).setCell (p := ⟨w.heap.size, 2, none⟩) (Nat.le_refl _) _).setCell (p := ⟨w.heap.size, 3, none⟩) (Nat.le_refl _) _) (by have := hB.size; simpa [World.setCell] using this) _
   obtain ⟨z0, z1, z2, z3, m0, m1, m2, m3⟩ := (bo.set (.int .i64 q1) (.string (bsA q2)) (.int .i64 q3) (.int .i64 0)).below ((Below.refl _ _).alloc (Nat.le_refl _) (Obj.cells #[Value.int IntKind.i64 q1, Value.string (bsA q2), Value.int IntKind.i64 q3, Value.int IntKind.i64 0] 26))
   have hsz : w.heap.size < w2.heap.size := cell_lt bo.c0
   obtain ⟨y0, y1, y2, y3, f0, f1, f2, f3⟩ := bo
   clear m0 m1 m2 m3 hb hB h8
   go_wp2
   generalize ((((w2.setCell ⟨w.heap.size, 0, none⟩ (Value.int IntKind.i64 q1)).setCell ⟨w.heap.size, 1, none⟩ (Value.string (bsA q2))).setCell ⟨w.heap.size, 2, none⟩ (Value.int IntKind.i64 q3)).setCell ⟨w.heap.size, 3, none⟩ (Value.int IntKind.i64 0)).alloc (Obj.cells #[Value.int IntKind.i64 q1, Value.string (bsA q2), Value.int IntKind.i64 q3, Value.int IntKind.i64 0] 26) = W3 at hB3 z0 z1 z2 z3 ⊢
   refine bodyPost_ret (v := .tuple #[.agg #[.int .i64 q1, .string (bsA q2), .int .i64 q3, .int .i64 0], .int .i64 D.length, .int .i64 q4]) (by simp [results, Tryz.results98, go_sem, z0, z1, z2, z3]) rfl ⟨rfl, hB3⟩
  ·
   rw [if_pos (by simpa using hF)]
   have hFb : (F == []) = false := by simpa using hF
   have htl := bsA_tl F
   have hlen : 1 ≤ F.length := by cases F with | nil => exact absurd rfl hF | cons => simp
   have h9 : Calls Tryz.prog 142 #[.string (bsA D), .string (bsA F)] (w.alloc tokO) fun e w' => e = .returned (.tuple #[tkV (decP D F).1 0, .int .i64 (decP D F).2]) ∧ Below (w.alloc tokO).heap.size (w.alloc tokO) w' := by
    rcases Nat.lt_or_ge 4 F.length with h | h
    · exact h6 h
    · exact h7 h
   generalize decP D F = q at h9 ⊢
   obtain ⟨⟨q1, q2, q3⟩, q4⟩ := q
   unfold tkV at h9 ⊢
   dsimp only at h9 ⊢
   clear h5 h6 h7 h8
   go_enter Tryz.func98, Tryz.ntmps98
   go_wp2_with fail
   refine h1.mono ?_
   rintro e w' ⟨rfl, rfl⟩
   go_wp2_with fail
   refine h2.mono ?_
   rintro e w' ⟨rfl, rfl⟩
   go_wp2_with fail
   refine h3.mono ?_
   rintro e w' ⟨rfl, rfl⟩
   go_wp2_with fail
   refine h4.mono ?_
   rintro e w' ⟨rfl, rfl⟩
   clear h1 h2 h3 h4
   go_wp2_with fail
   refine h9.mono ?_
   rintro e w2 ⟨rfl, hb⟩
   have bo := (Box.new w (.int .i64 0) (.string ⟨#[]⟩) (.int .i64 0) (.int .i64 0)).below hb
   have hB : Below w.heap.size w w2 := ((Below.refl _ _).alloc (Nat.le_refl _) _).trans (hb.mono (by simp))
   have hB3 : Below w.heap.size w (((((w2.setCell ⟨w.heap.size, 0, none⟩ (Value.int IntKind.i64 q1)).setCell ⟨w.heap.size, 1, none⟩ (Value.string (bsA q2))).setCell ⟨w.heap.size, 2, none⟩ (Value.int IntKind.i64 q3)).setCell ⟨w.heap.size, 3, none⟩ (Value.int IntKind.i64 0)).alloc (Obj.cells #[Value.int IntKind.i64 q1, Value.string (bsA q2), Value.int IntKind.i64 q3, Value.int IntKind.i64 0] 26)) := Below.alloc ((((hB.setCell (p := ⟨w.heap.size, 0, none⟩) (Nat.le_refl _) _).setCell (p := ⟨w.heap.size, 1, none⟩) (Nat.le_refl _) _).setCell (p := ⟨w.heap.size, 2, none⟩) (Nat.le_refl _) _).setCell (p := ⟨w.heap.size, 3, none⟩) (Nat.le_refl _) _) (by have := hB.size; simpa [World.setCell] using this) _
   obtain ⟨z0, z1, z2, z3, m0, m1, m2, m3⟩ := (bo.set (.int .i64 q1) (.string (bsA q2)) (.int .i64 q3) (.int .i64 0)).below ((Below.refl _ _).alloc (Nat.le_refl _) (Obj.cells #[Value.int IntKind.i64 q1, Value.string (bsA q2), Value.int IntKind.i64 q3, Value.int IntKind.i64 0] 26))
   have hsz : w.heap.size < w2.heap.size := cell_lt bo.c0
   obtain ⟨y0, y1, y2, y3, f0, f1, f2, f3⟩ := bo
   clear m0 m1 m2 m3 hb hB h9
   go_wp2
   generalize ((((w2.setCell ⟨w.heap.size, 0, none⟩ (Value.int IntKind.i64 q1)).setCell ⟨w.heap.size, 1, none⟩ (Value.string (bsA q2))).setCell ⟨w.heap.size, 2, none⟩ (Value.int IntKind.i64 q3)).setCell ⟨w.heap.size, 3, none⟩ (Value.int IntKind.i64 0)).alloc (Obj.cells #[Value.int IntKind.i64 q1, Value.string (bsA q2), Value.int IntKind.i64 q3, Value.int IntKind.i64 0] 26) = W3 at hB3 z0 z1 z2 z3 ⊢
   refine bodyPost_ret (v := .tuple #[.agg #[.int .i64 q1, .string (bsA q2), .int .i64 q3, .int .i64 0], .int .i64 (D.length + 1 + F.length : Nat), .int .i64 q4]) (by simp [results, Tryz.results98, go_sem, z0, z1, z2, z3]) rfl ⟨rfl, hB3⟩
end Go.Proofs.YtgdndahhledikaaGreatDoor
