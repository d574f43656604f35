/- One row leaves a piece's way (leave). -/
import Derived.Test.YtbfodpmlmhkikaaDoorTurn
namespace Go.Proofs.YtbfodpmlmhkikaaDoor
open Go.ChangeShapes Go.WideShapes Go.ChangeAt Go.RowKit
open Go.ChangeMaps (setBlock)

theorem Fr.put {b : Nat} {w w' : World} (h : Fr (fun k => k = b) w w') (o : Obj) : Fr (fun k => k = b) w (Go.ChangeMaps.setBlock w' b o) := Fr.setBlock (S := fun k => k = b) h (show b = b from rfl) o
def wyD (o : Option Way) : Way := o.getD (0, 0)
theorem lk_way (o : Option Way) : (o.map wyE).getD (.agg #[.int .i64 0, .int .i64 0]) = .agg #[.int .i64 (wyD o).1, .int .i64 (wyD o).2] := by cases o <;> rfl
/-- The ways, when one row has left p's. -/
def lvP (WL : List (Pce × Way)) (p : Pce) : List (Pce × Way) := if (wyD (lk WL p)).2 - 1 > 0 then up WL p ((wyD (lk WL p)).1, (wyD (lk WL p)).2 - 1) else rm WL p
theorem new2_0 (w : World) (x y : Value) (t : TypeId) : ((w.alloc (.cells #[x, y] t)).drew).cell? ⟨w.heap.size, 0, none⟩ = some x := by go_simp
theorem new2_1 (w : World) (x y : Value) (t : TypeId) : ((w.alloc (.cells #[x, y] t)).drew).cell? ⟨w.heap.size, 1, none⟩ = some y := by go_simp
theorem new4_0 (w : World) (x y z u : Value) (t : TypeId) : (w.alloc (.cells #[x, y, z, u] t)).cell? ⟨w.heap.size, 0, none⟩ = some x := by go_simp
theorem new4_1 (w : World) (x y z u : Value) (t : TypeId) : (w.alloc (.cells #[x, y, z, u] t)).cell? ⟨w.heap.size, 1, none⟩ = some y := by go_simp
theorem new4_2 (w : World) (x y z u : Value) (t : TypeId) : (w.alloc (.cells #[x, y, z, u] t)).cell? ⟨w.heap.size, 2, none⟩ = some z := by go_simp
theorem new4_3 (w : World) (x y z u : Value) (t : TypeId) : (w.alloc (.cells #[x, y, z, u] t)).cell? ⟨w.heap.size, 3, none⟩ = some u := by go_simp
set_option maxRecDepth 20000 in
set_option maxHeartbeats 8000000 in
theorem leave_any (M : Mb) (WL : List (Pce × Way)) (HL : List (Int × Ent)) (pl bi : Int) (p : Pce) (w : World) (hM : MpAt w M WL HL pl bi) (h0 : 0 ≤ (wyD (lk WL p)).2) (h1 : (wyD (lk WL p)).2 < 4611686018427387904) :
    Calls Tryd.prog 36 #[.pointer (some ⟨M.m, 0, none⟩), .agg #[.int .i64 p.1, .int .i64 p.2.1, .int .i64 p.2.2.1, .string p.2.2.2]] w fun e w' => e = .returned (.int .i64 (wyD (lk WL p)).1) ∧ MpAt w' M (lvP WL p) HL pl bi ∧ Fr M.own w w' := by
  have HP : Hid (lvP WL p = if (wyD (lk WL p)).2 - 1 > 0 then up WL p ((wyD (lk WL p)).1, (wyD (lk WL p)).2 - 1) else rm WL p) := rfl
  generalize hd : wyD (lk WL p) = d at h0 h1 HP ⊢
  obtain ⟨to, rows⟩ := d
  dsimp only at h0 h1 HP ⊢
  go_enter Tryd.func36, Tryd.ntmps36
  go_wp2
  obtain ⟨W0, hW0⟩ : ∃ W0 : World, w.alloc (.cells #[.int .i64 p.1, .int .i64 p.2.1, .int .i64 p.2.2.1, .string p.2.2.2] 85) = W0 := ⟨_, rfl⟩
  have hB0 : Below w.heap.size w W0 := by rw [← hW0]; exact (Below.refl _ _).alloc (Nat.le_refl _) _
  have hsz : w.heap.size < W0.heap.size := by rw [← hW0]; simp
  have p0 : W0.cell? ⟨w.heap.size, 0, none⟩ = some (.int .i64 p.1) := by rw [← hW0]; exact new4_0 _ _ _ _ _ _
  have p1 : W0.cell? ⟨w.heap.size, 1, none⟩ = some (.int .i64 p.2.1) := by rw [← hW0]; exact new4_1 _ _ _ _ _ _
  have p2 : W0.cell? ⟨w.heap.size, 2, none⟩ = some (.int .i64 p.2.2.1) := by rw [← hW0]; exact new4_2 _ _ _ _ _ _
  have p3 : W0.cell? ⟨w.heap.size, 3, none⟩ = some (.string p.2.2.2) := by rw [← hW0]; exact new4_3 _ _ _ _ _ _
  have hM0 := hM.below hB0
  obtain ⟨es, clk, hMW⟩ := hM0.ways
  have m0 := hM0.c0
  rw [hW0]
  clear hW0
  refine wp_region_held_drew (S := (fun wS => Bel W0.heap.size W0 wS)) (by kernel_rfl) ?_ (fun hHeld => ?_)
  · (try dsimp only); exact (Bel.refl _).drew
  refine wpAnyH_take (i := 0) (oi := { dst := some 6, op := Op.move (Operand.tmp 0), type := 37, pos := "key.go:243", after := #[], guard := none }) (v := ?_) rfl (by kernel_rfl) (by kernel_rfl) (by kernel_rfl) (fun _ _ _ h => h) (Or.inl ⟨by kernel_rfl, ?_⟩) (by assumption) ?_
  rotate_left
  · intro wS hSw; (try dsimp only at hSw); go_simp; (try with_reducible rfl)
  try simp only [Act.put, List.setIfInBounds_toArray, List.set_cons_zero, List.set_cons_succ]
  refine wpAnyH_take (i := 1) (oi := { dst := some 7, op := Op.nilCheck (Operand.tmp 6), type := 0, pos := "key.go:243", after := #[{ on := 0, ground := Ground.data }], guard := none }) (v := ?_) rfl (by kernel_rfl) (by kernel_rfl) (by kernel_rfl) (fun _ _ _ h => h) (Or.inl ⟨by kernel_rfl, ?_⟩) (by assumption) ?_
  rotate_left
  · intro wS hSw; (try dsimp only at hSw); go_simp; (try with_reducible rfl)
  try simp only [Act.put, List.setIfInBounds_toArray, List.set_cons_zero, List.set_cons_succ]
  refine wpAnyH_take (i := 2) (oi := { dst := some 8, op := Op.fieldAddr 75 (Operand.tmp 7) 0, type := 0, pos := "key.go:243", after := #[{ on := 1, ground := Ground.data }], guard := none }) (v := ?_) rfl (by kernel_rfl) (by kernel_rfl) (by kernel_rfl) (fun _ _ _ h => h) (Or.inl ⟨by kernel_rfl, ?_⟩) (by assumption) ?_
  rotate_left
  · intro wS hSw; (try dsimp only at hSw); go_simp; (try with_reducible rfl)
  try simp only [Act.put, List.setIfInBounds_toArray, List.set_cons_zero, List.set_cons_succ]
  refine wpAnyH_take (i := 3) (oi := { dst := some 9, op := Op.load 72 (Operand.tmp 8), type := 72, pos := "key.go:243", after := #[{ on := 2, ground := Ground.data }], guard := none }) (v := ?_) rfl (by kernel_rfl) (by kernel_rfl) (by kernel_rfl) (fun _ _ _ h => h) (Or.inl ⟨by kernel_rfl, ?_⟩) (by assumption) ?_
  rotate_left
  · intro wS hSw; (try dsimp only at hSw); have xm := cell_below hSw.out m0; go_simp; (try with_reducible rfl)
  try simp only [Act.put, List.setIfInBounds_toArray, List.set_cons_zero, List.set_cons_succ]
  refine wpAnyH_take (i := 4) (oi := { dst := some 10, op := Op.load 85 (Operand.tmp 3), type := 85, pos := "key.go:243", after := #[], guard := none }) (v := ?_) rfl (by kernel_rfl) (by kernel_rfl) (by kernel_rfl) (fun _ _ _ h => h) (Or.inl ⟨by kernel_rfl, ?_⟩) (by assumption) ?_
  rotate_left
  · intro wS hSw; (try dsimp only at hSw); have x0 := cell_below hSw.out p0; have x1 := cell_below hSw.out p1; have x2 := cell_below hSw.out p2; have x3 := cell_below hSw.out p3; go_simp; (try with_reducible rfl)
  try simp only [Act.put, List.setIfInBounds_toArray, List.set_cons_zero, List.set_cons_succ]
  refine wpAnyH_take (i := 5) (oi := { dst := some 11, op := Op.lookup 72 (Operand.tmp 9) (Operand.tmp 10) false, type := 100, pos := "key.go:243", after := #[{ on := 3, ground := Ground.data }, { on := 4, ground := Ground.data }], guard := none }) (v := ?_) rfl (by kernel_rfl) (by kernel_rfl) (by kernel_rfl) (fun _ _ _ h => h) (Or.inl ⟨by kernel_rfl, ?_⟩) (by assumption) ?_
  rotate_left
  · intro wS hSw; (try dsimp only at hSw); have xl := (hMW.below hSw.out).look under72 keys85 _ zero100 p; rw [lk_way, hd] at xl; dsimp only [pcE] at xl; go_simp; (try with_reducible rfl)
  try simp only [Act.put, List.setIfInBounds_toArray, List.set_cons_zero, List.set_cons_succ]
  refine wpAnyH_ready (rs := [6]) (by kernel_rfl) (by simp) ?_
  refine AllReadyH.cons (o := { dst := some 5, op := Op.alloc 100, type := 0, pos := "key.go:243", after := #[], guard := none }) rfl (fun K hK => ?_) AllReadyH.nil
  go_simp
  refine hK.out _ _ ?_ (fun hH6 => ?_)
  · (try dsimp only); exact (by repeat (first | exact Bel.refl _ | assumption | refine Bel.drew ?_ | refine Bel.drewN ?_ _ | refine Bel.alloc ?_ _ | refine Bel.setCell ?_ (by simp <;> omega) _ | refine Bel.step ?_ (by assumption)))
  clear hK K
  try simp only [Act.put, List.setIfInBounds_toArray, List.set_cons_zero, List.set_cons_succ]
  refine wpAnyH_ready (rs := [7]) (by kernel_rfl) (by simp) ?_
  refine AllReadyH.cons (o := { dst := none, op := Op.store 100 (Operand.tmp 5) (Operand.tmp 11), type := 0, pos := "key.go:243", after := #[{ on := 6, ground := Ground.data }, { on := 5, ground := Ground.data }, { on := 0, ground := Ground.phase }, { on := 1, ground := Ground.phase }, { on := 2, ground := Ground.phase }, { on := 3, ground := Ground.phase }, { on := 4, ground := Ground.phase }, { on := 5, ground := Ground.phase }, { on := 6, ground := Ground.phase }], guard := none }) rfl (fun K hK => ?_) AllReadyH.nil
  go_simp
  refine hK.out _ _ ?_ (fun hH7 => ?_)
  · (try dsimp only); exact (by repeat (first | exact Bel.refl _ | assumption | refine Bel.drew ?_ | refine Bel.drewN ?_ _ | refine Bel.alloc ?_ _ | refine Bel.setCell ?_ (by simp <;> omega) _ | refine Bel.step ?_ (by assumption)))
  clear hK K
  try simp only [Act.put, List.setIfInBounds_toArray, List.set_cons_zero, List.set_cons_succ]
  refine wpAnyH_done (by kernel_rfl) ?_ _
  by_cases hp : 0 < rows - 1
  · have e1 : ((0 : Int) < rows - 1) = True := eq_true hp
    go_wp2
    obtain ⟨W1, hW1⟩ : ∃ W1 : World, ((W0.alloc (.cells #[.int .i64 to, .int .i64 (rows - 1)] 100)).drew) = W1 := ⟨_, rfl⟩
    have hB1 : Below W0.heap.size W0 W1 := by rw [← hW1]; exact ((Below.refl _ _).alloc (Nat.le_refl _) _).drew
    have q0 := cell_below hB1 p0
    have q1 := cell_below hB1 p1
    have q2 := cell_below hB1 p2
    have q3 := cell_below hB1 p3
    have q4 : W1.cell? ⟨W0.heap.size, 0, none⟩ = some (.int .i64 to) := by rw [← hW1]; exact new2_0 _ _ _ _
    have q5 : W1.cell? ⟨W0.heap.size, 1, none⟩ = some (.int .i64 (rows - 1)) := by rw [← hW1]; exact new2_1 _ _ _ _
    have hM1 := hM0.below hB1
    have n0 := hM1.c0
    have hmw := hM1.mw
    obtain ⟨es1, clk1, hMW1⟩ := hM1.ways
    have hn1 : w.heap.size ≠ M.w := cell_not_map q0 hMW1.at_
    have hn2 : W0.heap.size ≠ M.w := cell_not_map q4 hMW1.at_
    have hwl : M.w < W1.heap.size := heap_lt hMW1.at_
    have hMd := hMW1.below (Below.refl W1.heap.size W1).drew
    have hF : Fr M.own w W1 := (Fr.of hB0).step hB1
    rw [hW1]
    clear hW1 p0 p1 p2 p3 hB1 hMW hMW1 hB0 m0 hM hM0 hd
    obtain ⟨es', clk', hup, hMs⟩ := hMd.store under72 keys85 p (to, rows - 1)
    dsimp only [pcE, wyE] at hup
    refine wp_region_held_drew (S := (fun wS => Fr (fun k => k = M.w) W1 wS)) (by kernel_rfl) ?_ (fun hHeld => ?_)
    · (try dsimp only); exact (Fr.refl _ _).drew
    refine wpAnyH_take (i := 0) (oi := { dst := some 19, op := Op.move (Operand.tmp 0), type := 37, pos := "key.go:246", after := #[], guard := none }) (v := ?_) rfl (by kernel_rfl) (by kernel_rfl) (by kernel_rfl) (fun _ _ _ h => h) (Or.inl ⟨by kernel_rfl, ?_⟩) (by assumption) ?_
    rotate_left
    · intro wS hSw; (try dsimp only at hSw); go_simp; (try with_reducible rfl)
    try simp only [Act.put, List.setIfInBounds_toArray, List.set_cons_zero, List.set_cons_succ]
    refine wpAnyH_take (i := 1) (oi := { dst := some 20, op := Op.nilCheck (Operand.tmp 19), type := 0, pos := "key.go:246", after := #[{ on := 0, ground := Ground.data }], guard := none }) (v := ?_) rfl (by kernel_rfl) (by kernel_rfl) (by kernel_rfl) (fun _ _ _ h => h) (Or.inl ⟨by kernel_rfl, ?_⟩) (by assumption) ?_
    rotate_left
    · intro wS hSw; (try dsimp only at hSw); go_simp; (try with_reducible rfl)
    try simp only [Act.put, List.setIfInBounds_toArray, List.set_cons_zero, List.set_cons_succ]
    refine wpAnyH_take (i := 2) (oi := { dst := some 21, op := Op.fieldAddr 75 (Operand.tmp 20) 0, type := 0, pos := "key.go:246", after := #[{ on := 1, ground := Ground.data }], guard := none }) (v := ?_) rfl (by kernel_rfl) (by kernel_rfl) (by kernel_rfl) (fun _ _ _ h => h) (Or.inl ⟨by kernel_rfl, ?_⟩) (by assumption) ?_
    rotate_left
    · intro wS hSw; (try dsimp only at hSw); go_simp; (try with_reducible rfl)
    try simp only [Act.put, List.setIfInBounds_toArray, List.set_cons_zero, List.set_cons_succ]
    refine wpAnyH_take (i := 3) (oi := { dst := some 22, op := Op.load 72 (Operand.tmp 21), type := 72, pos := "key.go:246", after := #[{ on := 2, ground := Ground.data }], guard := none }) (v := ?_) rfl (by kernel_rfl) (by kernel_rfl) (by kernel_rfl) (fun _ _ _ h => h) (Or.inl ⟨by kernel_rfl, ?_⟩) (by assumption) ?_
    rotate_left
    · intro wS hSw; (try dsimp only at hSw); have xm := hSw.cell hmw n0; go_simp; (try with_reducible rfl)
    try simp only [Act.put, List.setIfInBounds_toArray, List.set_cons_zero, List.set_cons_succ]
    refine wpAnyH_take (i := 4) (oi := { dst := some 23, op := Op.load 85 (Operand.tmp 3), type := 85, pos := "key.go:246", after := #[], guard := none }) (v := ?_) rfl (by kernel_rfl) (by kernel_rfl) (by kernel_rfl) (fun _ _ _ h => h) (Or.inl ⟨by kernel_rfl, ?_⟩) (by assumption) ?_
    rotate_left
    · intro wS hSw; (try dsimp only at hSw); have x0 := hSw.cell hn1 q0; have x1 := hSw.cell hn1 q1; have x2 := hSw.cell hn1 q2; have x3 := hSw.cell hn1 q3; go_simp; (try with_reducible rfl)
    try simp only [Act.put, List.setIfInBounds_toArray, List.set_cons_zero, List.set_cons_succ]
    refine wpAnyH_take (i := 5) (oi := { dst := some 24, op := Op.load 100 (Operand.tmp 5), type := 100, pos := "key.go:246", after := #[], guard := none }) (v := ?_) rfl (by kernel_rfl) (by kernel_rfl) (by kernel_rfl) (fun _ _ _ h => h) (Or.inl ⟨by kernel_rfl, ?_⟩) (by assumption) ?_
    rotate_left
    · intro wS hSw; (try dsimp only at hSw); have y0 := hSw.cell hn2 q4; have y1 := hSw.cell hn2 q5; go_simp; (try with_reducible rfl)
    try simp only [Act.put, List.setIfInBounds_toArray, List.set_cons_zero, List.set_cons_succ]
    refine wpAnyH_ready (rs := [6]) (by kernel_rfl) (by simp) ?_
    refine AllReadyH.cons (o := { dst := none, op := Op.mapUpdate 72 (Operand.tmp 22) (Operand.tmp 23) (Operand.tmp 24), type := 0, pos := "key.go:246", after := #[{ on := 3, ground := Ground.data }, { on := 4, ground := Ground.data }, { on := 5, ground := Ground.data }, { on := 0, ground := Ground.phase }, { on := 1, ground := Ground.phase }, { on := 2, ground := Ground.phase }, { on := 3, ground := Ground.phase }, { on := 4, ground := Ground.phase }, { on := 5, ground := Ground.phase }], guard := none }) rfl (fun K hK => ?_) AllReadyH.nil
    go_simp
    refine hK.out _ _ ?_ (fun hH6 => ?_)
    · (try dsimp only); exact Fr.put (by assumption) _
    clear hK K
    try simp only [Act.put, List.setIfInBounds_toArray, List.set_cons_zero, List.set_cons_succ]
    refine wpAnyH_done (by kernel_rfl) ?_ _
    have hat : (setBlock W1.drew M.w (.map es' clk')).heap[M.w]? = some (.map es' clk') := setBlock_at _ hwl
    have hFr : Fr (fun k => k = M.w) W1 (setBlock W1.drew M.w (.map es' clk')) := Fr.put (Fr.refl _ W1).drew _
    have q6 := hFr.cell hn2 q4
    have HM2 : Hid (MpAt (setBlock W1.drew M.w (.map es' clk')) M (up WL p (to, rows - 1)) HL pl bi) := hM1.turnW hFr (hMs _ hat)
    have HF2 : Hid (Fr M.own w (setBlock W1.drew M.w (.map es' clk'))) := hF.trans (hFr.mono fun k e => Or.inr (Or.inl e))
    clear hMs hFr hat hM1 hF
    go_wp2
    go_ret
    exact ⟨rfl, by rw [HP.out, if_pos (by omega)]; exact HM2.out, HF2.out⟩
  · have e1 : ((0 : Int) < rows - 1) = False := eq_false hp
    go_wp2
    obtain ⟨W1, hW1⟩ : ∃ W1 : World, ((W0.alloc (.cells #[.int .i64 to, .int .i64 (rows - 1)] 100)).drew) = W1 := ⟨_, rfl⟩
    have hB1 : Below W0.heap.size W0 W1 := by rw [← hW1]; exact ((Below.refl _ _).alloc (Nat.le_refl _) _).drew
    have q0 := cell_below hB1 p0
    have q1 := cell_below hB1 p1
    have q2 := cell_below hB1 p2
    have q3 := cell_below hB1 p3
    have q4 : W1.cell? ⟨W0.heap.size, 0, none⟩ = some (.int .i64 to) := by rw [← hW1]; exact new2_0 _ _ _ _
    have q5 : W1.cell? ⟨W0.heap.size, 1, none⟩ = some (.int .i64 (rows - 1)) := by rw [← hW1]; exact new2_1 _ _ _ _
    have hM1 := hM0.below hB1
    have n0 := hM1.c0
    have hmw := hM1.mw
    obtain ⟨es1, clk1, hMW1⟩ := hM1.ways
    have hn1 : w.heap.size ≠ M.w := cell_not_map q0 hMW1.at_
    have hn2 : W0.heap.size ≠ M.w := cell_not_map q4 hMW1.at_
    have hwl : M.w < W1.heap.size := heap_lt hMW1.at_
    have hMd := hMW1.below (Below.refl W1.heap.size W1).drew
    have hF : Fr M.own w W1 := (Fr.of hB0).step hB1
    rw [hW1]
    clear hW1 p0 p1 p2 p3 hB1 hMW hMW1 hB0 m0 hM hM0 hd
    obtain ⟨es', clk', hup, hMs⟩ := hMd.erase under72 keys85 p 0
    dsimp only [pcE, wyE] at hup
    refine wp_region_held_drew (S := (fun wS => Fr (fun k => k = M.w) W1 wS)) (by kernel_rfl) ?_ (fun hHeld => ?_)
    · (try dsimp only); exact (Fr.refl _ _).drew
    refine wpAnyH_take (i := 0) (oi := { dst := some 25, op := Op.move (Operand.tmp 0), type := 37, pos := "key.go:248", after := #[], guard := none }) (v := ?_) rfl (by kernel_rfl) (by kernel_rfl) (by kernel_rfl) (fun _ _ _ h => h) (Or.inl ⟨by kernel_rfl, ?_⟩) (by assumption) ?_
    rotate_left
    · intro wS hSw; (try dsimp only at hSw); go_simp; (try with_reducible rfl)
    try simp only [Act.put, List.setIfInBounds_toArray, List.set_cons_zero, List.set_cons_succ]
    refine wpAnyH_take (i := 1) (oi := { dst := some 26, op := Op.nilCheck (Operand.tmp 25), type := 0, pos := "key.go:248", after := #[{ on := 0, ground := Ground.data }], guard := none }) (v := ?_) rfl (by kernel_rfl) (by kernel_rfl) (by kernel_rfl) (fun _ _ _ h => h) (Or.inl ⟨by kernel_rfl, ?_⟩) (by assumption) ?_
    rotate_left
    · intro wS hSw; (try dsimp only at hSw); go_simp; (try with_reducible rfl)
    try simp only [Act.put, List.setIfInBounds_toArray, List.set_cons_zero, List.set_cons_succ]
    refine wpAnyH_take (i := 2) (oi := { dst := some 27, op := Op.fieldAddr 75 (Operand.tmp 26) 0, type := 0, pos := "key.go:248", after := #[{ on := 1, ground := Ground.data }], guard := none }) (v := ?_) rfl (by kernel_rfl) (by kernel_rfl) (by kernel_rfl) (fun _ _ _ h => h) (Or.inl ⟨by kernel_rfl, ?_⟩) (by assumption) ?_
    rotate_left
    · intro wS hSw; (try dsimp only at hSw); go_simp; (try with_reducible rfl)
    try simp only [Act.put, List.setIfInBounds_toArray, List.set_cons_zero, List.set_cons_succ]
    refine wpAnyH_take (i := 3) (oi := { dst := some 28, op := Op.load 72 (Operand.tmp 27), type := 72, pos := "key.go:248", after := #[{ on := 2, ground := Ground.data }], guard := none }) (v := ?_) rfl (by kernel_rfl) (by kernel_rfl) (by kernel_rfl) (fun _ _ _ h => h) (Or.inl ⟨by kernel_rfl, ?_⟩) (by assumption) ?_
    rotate_left
    · intro wS hSw; (try dsimp only at hSw); have xm := hSw.cell hmw n0; go_simp; (try with_reducible rfl)
    try simp only [Act.put, List.setIfInBounds_toArray, List.set_cons_zero, List.set_cons_succ]
    refine wpAnyH_take (i := 4) (oi := { dst := some 29, op := Op.load 85 (Operand.tmp 3), type := 85, pos := "key.go:248", after := #[], guard := none }) (v := ?_) rfl (by kernel_rfl) (by kernel_rfl) (by kernel_rfl) (fun _ _ _ h => h) (Or.inl ⟨by kernel_rfl, ?_⟩) (by assumption) ?_
    rotate_left
    · intro wS hSw; (try dsimp only at hSw); have x0 := hSw.cell hn1 q0; have x1 := hSw.cell hn1 q1; have x2 := hSw.cell hn1 q2; have x3 := hSw.cell hn1 q3; go_simp; (try with_reducible rfl)
    try simp only [Act.put, List.setIfInBounds_toArray, List.set_cons_zero, List.set_cons_succ]
    refine wpAnyH_ready (rs := [5]) (by kernel_rfl) (by simp) ?_
    refine AllReadyH.cons (o := { dst := none, op := Op.call { callee := Callee.builtin Builtin.delete, args := #[Operand.tmp 28, Operand.tmp 29], argTypes := #[72, 85] }, type := 0, pos := "key.go:248", after := #[{ on := 3, ground := Ground.data }, { on := 4, ground := Ground.data }], guard := none }) rfl (fun K hK => ?_) AllReadyH.nil
    go_simp
    refine hK.out _ _ ?_ (fun hH5 => ?_)
    · (try dsimp only); exact Fr.put (by assumption) _
    clear hK K
    try simp only [Act.put, List.setIfInBounds_toArray, List.set_cons_zero, List.set_cons_succ]
    refine wpAnyH_done (by kernel_rfl) ?_ _
    have hat : (setBlock W1.drew M.w (.map es' clk')).heap[M.w]? = some (.map es' clk') := setBlock_at _ hwl
    have hFr : Fr (fun k => k = M.w) W1 (setBlock W1.drew M.w (.map es' clk')) := Fr.put (Fr.refl _ W1).drew _
    have q6 := hFr.cell hn2 q4
    have HM2 : Hid (MpAt (setBlock W1.drew M.w (.map es' clk')) M (rm WL p) HL pl bi) := hM1.turnW hFr (hMs _ hat)
    have HF2 : Hid (Fr M.own w (setBlock W1.drew M.w (.map es' clk'))) := hF.trans (hFr.mono fun k e => Or.inr (Or.inl e))
    clear hMs hFr hat hM1 hF
    go_wp2
    go_ret
    exact ⟨rfl, by rw [HP.out, if_neg (by omega)]; exact HM2.out, HF2.out⟩
end Go.Proofs.YtbfodpmlmhkikaaDoor
