/- Rda, Rdb, Bx5, Rdc. -/
import Derived.Test.YtgdndahhledikaaGreatDoorK01
namespace Go.Proofs.YtgdndahhledikaaGreatDoor
open Go.ChangeShapes Go.WideShapes Go.ChangeAt Go.RowKit
set_option linter.unusedSimpArgs false
set_option maxRecDepth 20000
set_option maxHeartbeats 4000000
theorem end_any (rb : Nat) (ta : Option Addr) (cap : Nat) (T : List Tt) (i op : Nat) (w : World) (hr : Rdr w rb ta cap T i (op + 1)) (ho : op ≤ 100) :
  Calls Tryz.prog 182 #[ptr rb] w fun e w' => e = .returned (.tuple #[]) ∧ Rdr w' rb ta cap T i op ∧ Fx rb w w' := by
 have c2 := hr.c2
 have f2 := hr.f2
 have HR : Hid _ := hr.op op
 have e1 : (((op + 1 : Nat) : Int) - 1) = (op : Int) := by omega
 unfold ptr
 clear hr
 go_enter Tryz.func182, Tryz.ntmps182
 go_wp2
 go_end0
 exact ⟨rfl, HR.out, Fx.set _ _ _⟩
theorem begin_ok (rb : Nat) (ta : Option Addr) (cap : Nat) (T : List Tt) (i op : Nat) (w : World) (hr : Rdr w rb ta cap T i op) (ho : op < 100) :
  Calls Tryz.prog 180 #[ptr rb] w fun e w' => e = .returned (.tuple #[]) ∧ Rdr w' rb ta cap T i (op + 1) ∧ Fx rb w w' := by
 have c2 := hr.c2
 have f2 := hr.f2
 have h := hr.op (op + 1)
 rw [show (((op + 1 : Nat)) : Int) = (op : Int) + 1 by omega] at h
 have HR : Hid _ := h
 have g1 : ((op : Int) == 100) = false := by rw [beq_eq_false_iff_ne]; omega
 unfold ptr
 clear hr h
 go_enter Tryz.func180, Tryz.ntmps180
 go_wp2
 go_end0
 exact ⟨rfl, HR.out, Fx.set _ _ _⟩
theorem stuck_any (rb : Nat) (ta : Option Addr) (cap : Nat) (T : List Tt) (i op : Nat) (er : Int) (w : World) (hr : Rdr w rb ta cap T i op) :
  Calls Tryz.prog 156 #[ptr rb, .int .i64 er] w fun e w' => e = .returned (.agg #[.int .i64 i, .int .i64 er]) ∧ Below w.heap.size w w' := by
 have hA : Below w.heap.size w (w.alloc (Obj.cells #[Value.int IntKind.i64 0, Value.int IntKind.i64 0] 126)) := (Below.refl _ _).alloc (Nat.le_refl _) _
 have c1 := (hr.below hA).c1
 unfold ptr
 clear hr
 go_enter Tryz.func156, Tryz.ntmps156
 go_wp2
 refine bodyPost_ret (v := .agg #[.int .i64 i, .int .i64 er]) (by simp [results, Tryz.results156, go_sem]) rfl ⟨rfl, (Below.refl _ _).alloc (Nat.le_refl _) _⟩
def flV (p : Nat) (er : Int) : Value := .iface 126 (.agg #[.int .i64 p, .int .i64 er])
def GUp (p : Nat) (er : Int) (e : Ending) : Prop := e = .panicked [{ v := flV p er, recovered := false }]
theorem begin_no (rb : Nat) (ta : Option Addr) (cap : Nat) (T : List Tt) (i : Nat) (w : World) (hr : Rdr w rb ta cap T i 100) :
  Calls Tryz.prog 180 #[ptr rb] w fun e w' => GUp i 71 e ∧ Below w.heap.size w w' := by
 have c2 := hr.c2
 have h1 := stuck_any rb ta cap T i 100 71 w hr
 unfold ptr at h1 ⊢
 unfold GUp flV
 clear hr
 go_enter Tryz.func180, Tryz.ntmps180
 go_wp2_with (go_at_call 156; refine h1.mono ?_; rintro e w1 ⟨rfl, hb1⟩; clear h1)
 exact ⟨rfl, rfl, hb1⟩
theorem take_any (rb : Nat) (ta : Option Addr) (cap : Nat) (T : List Tt) (i op : Nat) (w : World) (hr : Rdr w rb ta cap T i op) (hi : i < T.length) :
  Calls Tryz.prog 208 #[ptr rb] w fun e w' => e = .returned (ttV (tkI T i)) ∧ Rdr w' rb ta cap T (i + 1) op ∧ Fx rb w w' := by
 have hA : Below w.heap.size w (w.alloc (Obj.cells #[Value.int IntKind.i64 0, Value.string { data := #[] }, Value.int IntKind.i64 0, Value.int IntKind.i64 0] 26)) := (Below.refl _ _).alloc (Nat.le_refl _) _
 have h1 := token_any rb ta cap T i op 0 _ (hr.below hA) (by omega)
 rw [Nat.add_zero] at h1
 have HR0 : Hid _ := hr.below hA
 have hne : rb ≠ w.heap.size := Nat.ne_of_lt (cell_lt hr.c0)
 have hl := hr.len
 have bo := Box.new w (.int .i64 0) (.string ⟨#[]⟩) (.int .i64 0) (.int .i64 0)
 have HBO : Hid _ := bo
 unfold ttV at h1 ⊢
 generalize tkI T i = q at h1 ⊢
 obtain ⟨⟨q1, q2, q3⟩, q4⟩ := q
 dsimp only at h1 ⊢
 unfold ptr at h1 ⊢
 clear hr bo
 go_enter Tryz.func208, Tryz.ntmps208
 go_wp2_with fail
 refine h1.mono ?_
 rintro e w1 ⟨rfl, hb1⟩
 clear h1
 have hX : Below w1.heap.size w1 (w1.alloc (Obj.cells #[Value.int IntKind.i64 q1, Value.string (bsA q2), Value.int IntKind.i64 q3, Value.int IntKind.i64 q4] 26)) := (Below.refl _ _).alloc (Nat.le_refl _) _
 have HR : Hid _ := (HR0.out.below hb1).below hX
 obtain ⟨z0, z1, z2, z3⟩ := Box4.new w1 (.int .i64 q1) (.string (bsA q2)) (.int .i64 q3) (.int .i64 q4) 26
 obtain ⟨y0, y1, y2, y3, g0, g1, g2, g3⟩ := (HBO.out.below hb1).below hX
 have c1 := HR.out.c1
 have f1 := HR.out.f1
 have hne1 : rb ≠ w1.heap.size := Nat.ne_of_lt (Nat.lt_of_lt_of_le (cell_lt HR0.out.c0) hb1.size)
 have HF : Hid (Fx rb w w1) := (Fx.below hA).trans (Fx.below hb1)
 have hlt : rb < w.heap.size := by have h1 := cell_lt HR0.out.c0; rw [World.size_alloc] at h1; omega
 have hsz : w.heap.size < w1.heap.size := by have h1 := hb1.size; rw [World.size_alloc] at h1; omega
 go_wp2
 have h2 := HR.out.at (i + 1) (by omega)
 rw [show (((i + 1 : Nat)) : Int) = (i : Int) + 1 by omega] at h2
 refine bodyPost_ret (v := .agg #[.int .i64 q1, .string (bsA q2), .int .i64 q3, .int .i64 q4]) (by simp [results, Tryz.results208, go_sem, y0, y1, y2, y3, hne, hne1]) rfl ⟨rfl, ?_, ?_⟩
 · exact (((h2.far _ 0 _ hlt).far _ 1 _ hlt).far _ 2 _ hlt).far _ 3 _ hlt
 · exact (((((HF.out.trans (Fx.below hX)).trans (Fx.set _ 1 _)).new _ 0 _ (Nat.le_refl _)).new _ 1 _ (Nat.le_refl _)).new _ 2 _ (Nat.le_refl _)).new _ 3 _ (Nat.le_refl _)
end Go.Proofs.YtgdndahhledikaaGreatDoor
namespace Go.Proofs.YtgdndahhledikaaGreatDoor
open Go.ChangeShapes Go.WideShapes Go.ChangeAt Go.RowKit
set_option linter.unusedSimpArgs false
set_option maxRecDepth 20000
set_option maxHeartbeats 4000000
theorem isT_lt {T : List Tt} {i : Nat} {k : Int} {L : List (List UInt8)} (hk : k ≠ 0) (h : isT (tkI T i) k L = true) : i < T.length := by
 rcases Nat.lt_or_ge i T.length with hl | hl
 · exact hl
 ·
  rw [tkI_end hl] at h
  unfold isT tkE at h
  rw [Bool.and_eq_true, decide_eq_true_eq] at h
  exact absurd h.1.symm hk
theorem need_no (rb : Nat) (ta : Option Addr) (cap : Nat) (T : List Tt) (i op : Nat) (k : Int) (t : List UInt8) (w : World) (hr : Rdr w rb ta cap T i op) (hs : isT (tkI T i) k [t] = false) :
  Calls Tryz.prog 233 #[ptr rb, .int .i64 k, .string (bsA t)] w fun e w' => GUp i 70 e ∧ Below w.heap.size w w' := by
 have hA : Below w.heap.size w (w.alloc (Obj.cells #[Value.int IntKind.i64 0, Value.string { data := #[] }, Value.int IntKind.i64 0, Value.int IntKind.i64 0] 26)) := (Below.refl _ _).alloc (Nat.le_refl _) _
 have hB : Below (w.alloc (Obj.cells #[Value.int IntKind.i64 0, Value.string { data := #[] }, Value.int IntKind.i64 0, Value.int IntKind.i64 0] 26)).heap.size (w.alloc (Obj.cells #[Value.int IntKind.i64 0, Value.string { data := #[] }, Value.int IntKind.i64 0, Value.int IntKind.i64 0] 26)) ((w.alloc (Obj.cells #[Value.int IntKind.i64 0, Value.string { data := #[] }, Value.int IntKind.i64 0, Value.int IntKind.i64 0] 26)).alloc (Obj.cells #[Value.string (bsA t)] 9)) := (Below.refl _ _).alloc (Nat.le_refl _) _
 have h1 := sees_any rb ta cap T i op k [t] (w.alloc (Obj.cells #[Value.int IntKind.i64 0, Value.string { data := #[] }, Value.int IntKind.i64 0, Value.int IntKind.i64 0] 26)).heap.size 1 _ ((hr.below hA).below hB) (by simp) (StsL.new (w.alloc (Obj.cells #[Value.int IntKind.i64 0, Value.string { data := #[] }, Value.int IntKind.i64 0, Value.int IntKind.i64 0] 26)) #[.string (bsA t)] 9 [t] rfl)
 rw [hs, World.size_alloc] at h1
 have HR : Hid _ := (hr.below hA).below hB
 have HS : Hid _ := fun (W : World) (h : Rdr W rb ta cap T i op) => stuck_any rb ta cap T i op 70 W h
 have hAB := hA.trans (hB.mono hA.size)
 unfold ptr at h1 HS ⊢
 unfold GUp flV
 clear hr hs hA hB
 go_enter Tryz.func233, Tryz.ntmps233
 go_wp2_with fail
 refine h1.mono ?_
 rintro e w1 ⟨rfl, hb1⟩
 clear h1
 go_wp2_with fail
 refine (HS.out _ (HR.out.below hb1)).mono ?_
 rintro e w2 ⟨rfl, hb2⟩
 have hE := (hAB.trans (hb1.mono hAB.size)).trans (hb2.mono (hAB.trans (hb1.mono hAB.size)).size)
 go_wp2
 exact ⟨rfl, rfl, hE⟩
theorem need_ok (rb : Nat) (ta : Option Addr) (cap : Nat) (T : List Tt) (i op : Nat) (k : Int) (t : List UInt8) (w : World) (hr : Rdr w rb ta cap T i op) (hk : k ≠ 0) (hs : isT (tkI T i) k [t] = true) :
  Calls Tryz.prog 233 #[ptr rb, .int .i64 k, .string (bsA t)] w fun e w' => e = .returned (ttV (tkI T i)) ∧ Rdr w' rb ta cap T (i + 1) op ∧ Fx rb w w' := by
 have hi := isT_lt hk hs
 have hA : Below w.heap.size w (w.alloc (Obj.cells #[Value.int IntKind.i64 0, Value.string { data := #[] }, Value.int IntKind.i64 0, Value.int IntKind.i64 0] 26)) := (Below.refl _ _).alloc (Nat.le_refl _) _
 have hB : Below (w.alloc (Obj.cells #[Value.int IntKind.i64 0, Value.string { data := #[] }, Value.int IntKind.i64 0, Value.int IntKind.i64 0] 26)).heap.size (w.alloc (Obj.cells #[Value.int IntKind.i64 0, Value.string { data := #[] }, Value.int IntKind.i64 0, Value.int IntKind.i64 0] 26)) ((w.alloc (Obj.cells #[Value.int IntKind.i64 0, Value.string { data := #[] }, Value.int IntKind.i64 0, Value.int IntKind.i64 0] 26)).alloc (Obj.cells #[Value.string (bsA t)] 9)) := (Below.refl _ _).alloc (Nat.le_refl _) _
 have h1 := sees_any rb ta cap T i op k [t] (w.alloc (Obj.cells #[Value.int IntKind.i64 0, Value.string { data := #[] }, Value.int IntKind.i64 0, Value.int IntKind.i64 0] 26)).heap.size 1 _ ((hr.below hA).below hB) (by simp) (StsL.new (w.alloc (Obj.cells #[Value.int IntKind.i64 0, Value.string { data := #[] }, Value.int IntKind.i64 0, Value.int IntKind.i64 0] 26)) #[.string (bsA t)] 9 [t] rfl)
 rw [hs, World.size_alloc] at h1
 have HR : Hid _ := (hr.below hA).below hB
 have HS : Hid _ := fun (W : World) (h : Rdr W rb ta cap T i op) => take_any rb ta cap T i op W h hi
 have HBO : Hid _ := (Box.new w (.int .i64 0) (.string ⟨#[]⟩) (.int .i64 0) (.int .i64 0)).below hB
 have HF0 : Hid _ := (Fx.below (rb := rb) hA).trans (Fx.below hB)
 have hlt := cell_lt hr.c0
 have hne : w.heap.size ≠ rb := by omega
 unfold ttV at HS ⊢
 generalize tkI T i = q at HS ⊢
 obtain ⟨⟨q1, q2, q3⟩, q4⟩ := q
 dsimp only at HS ⊢
 unfold ptr at h1 HS ⊢
 clear hr hs hA hB
 go_enter Tryz.func233, Tryz.ntmps233
 go_wp2_with fail
 refine h1.mono ?_
 rintro e w1 ⟨rfl, hb1⟩
 clear h1
 go_wp2_with fail
 refine (HS.out _ (HR.out.below hb1)).mono ?_
 rintro e w2 ⟨rfl, hr2, hf2⟩
 have HR2 : Hid _ := hr2
 have HF : Hid _ := (HF0.out.trans (Fx.below hb1)).trans hf2
 have hb := HBO.out.below hb1
 have e := hf2.blk w.heap.size (cell_lt hb.c0) hne
 have y0 := cell_same hb.c0 e
 have y1 := cell_same hb.c1 e
 have y2 := cell_same hb.c2 e
 have y3 := cell_same hb.c3 e
 have g0 := (World.frozen?_of_block (a := ⟨w.heap.size, 0, none⟩) e).trans hb.f0
 have g1 := (World.frozen?_of_block (a := ⟨w.heap.size, 1, none⟩) e).trans hb.f1
 have g2 := (World.frozen?_of_block (a := ⟨w.heap.size, 2, none⟩) e).trans hb.f2
 have g3 := (World.frozen?_of_block (a := ⟨w.heap.size, 3, none⟩) e).trans hb.f3
 clear hb e hf2 hr2 HR HF0 HBO HS hb1
 go_wp2
 refine bodyPost_ret (v := .agg #[.int .i64 q1, .string (bsA q2), .int .i64 q3, .int .i64 q4]) (by simp [results, Tryz.results233, go_sem, y0, y1, y2, y3]) rfl ⟨rfl, ?_, ?_⟩
 · exact (((HR2.out.far _ 0 _ hlt).far _ 1 _ hlt).far _ 2 _ hlt).far _ 3 _ hlt
 · exact (((HF.out.new _ 0 _ (Nat.le_refl _)).new _ 1 _ (Nat.le_refl _)).new _ 2 _ (Nat.le_refl _)).new _ 3 _ (Nat.le_refl _)
def nV (k : Int) (t : List UInt8) (m a : Int) (kids : Value) : Value := .agg #[.int .i64 k, .string (bsA t), .int .i64 m, .int .i64 a, kids]
theorem node_any (k : Int) (t : Tt) (s : Option Addr) (l c : Nat) (w : World) :
  Calls Tryz.prog 217 #[.int .i64 k, ttV t, .slice s l c] w fun e w' => e = .returned (nV k [] 0 t.2 (.slice s l c)) ∧ Below w.heap.size w w' := by
 obtain ⟨⟨q1, q2, q3⟩, q4⟩ := t
 unfold ttV nV
 dsimp only
 have hA : Below w.heap.size w (w.alloc (Obj.cells #[Value.int IntKind.i64 q1, Value.string (bsA q2), Value.int IntKind.i64 q3, Value.int IntKind.i64 q4] 26)) := (Below.refl _ _).alloc (Nat.le_refl _) _
 obtain ⟨y0, y1, y2, y3⟩ := Box4.new w (.int .i64 q1) (.string (bsA q2)) (.int .i64 q3) (.int .i64 q4) 26
 have hX : Below (w.alloc (Obj.cells #[Value.int IntKind.i64 q1, Value.string (bsA q2), Value.int IntKind.i64 q3, Value.int IntKind.i64 q4] 26)).heap.size (w.alloc (Obj.cells #[Value.int IntKind.i64 q1, Value.string (bsA q2), Value.int IntKind.i64 q3, Value.int IntKind.i64 q4] 26)) ((w.alloc (Obj.cells #[Value.int IntKind.i64 q1, Value.string (bsA q2), Value.int IntKind.i64 q3, Value.int IntKind.i64 q4] 26)).alloc (Obj.cells #[Value.int IntKind.i64 0, Value.string { data := #[] }, Value.int IntKind.i64 0, Value.int IntKind.i64 0, Value.slice none 0 0] 34)) := (Below.refl _ _).alloc (Nat.le_refl _) _
 have z3 := cell_below hX y3
 go_enter Tryz.func217, Tryz.ntmps217
 go_wp2
 refine bodyPost_ret (v := .agg #[.int .i64 k, .string ⟨#[]⟩, .int .i64 0, .int .i64 q4, .slice s l c]) (by simp [results, Tryz.results217, go_sem]) rfl ⟨rfl, ?_⟩
 exact hA.alloc hA.size _
end Go.Proofs.YtgdndahhledikaaGreatDoor
namespace Go.Proofs.YtgdndahhledikaaGreatDoor
set_option maxRecDepth 20000
set_option maxHeartbeats 8000000
open Go.ChangeShapes Go.WideShapes Go.ChangeAt Go.RowKit
theorem sc_ne {w : World} {a b : Addr} {v : Value} (h : a ≠ b) : (w.setCell a v).cell? b = w.cell? b := World.cell?_setCell_other _ _ _ _ h
theorem sc_eq {w : World} {a : Addr} {u v : Value} (h : w.cell? a = some u) : (w.setCell a v).cell? a = some v := World.cell?_setCell_same _ _ _ h
structure Box5 (w : World) (b : Nat) (v0 v1 v2 v3 v4 : Value) : Prop where
 c0 : w.cell? ⟨b, 0, none⟩ = some v0
 c1 : w.cell? ⟨b, 1, none⟩ = some v1
 c2 : w.cell? ⟨b, 2, none⟩ = some v2
 c3 : w.cell? ⟨b, 3, none⟩ = some v3
 c4 : w.cell? ⟨b, 4, none⟩ = some v4
 f0 : w.frozen? ⟨b, 0, none⟩ = false
 f1 : w.frozen? ⟨b, 1, none⟩ = false
 f2 : w.frozen? ⟨b, 2, none⟩ = false
 f3 : w.frozen? ⟨b, 3, none⟩ = false
 f4 : w.frozen? ⟨b, 4, none⟩ = false
theorem Box5.new (w : World) (v0 v1 v2 v3 v4 : Value) (T : TypeId) : Box5 (w.alloc (.cells #[v0, v1, v2, v3, v4] T)) w.heap.size v0 v1 v2 v3 v4 := by
 refine ⟨?_, ?_, ?_, ?_, ?_, ?_, ?_, ?_, ?_, ?_⟩ <;> simp [go_sem]
theorem Box5.below {w w2 : World} {b : Nat} {v0 v1 v2 v3 v4 : Value} (h : Box5 w b v0 v1 v2 v3 v4) (hb : Below w.heap.size w w2) : Box5 w2 b v0 v1 v2 v3 v4 where
 c0 := cell_below hb h.c0
 c1 := cell_below hb h.c1
 c2 := cell_below hb h.c2
 c3 := cell_below hb h.c3
 c4 := cell_below hb h.c4
 f0 := (hb.frozen (p := ⟨b, 0, none⟩) (cell_lt h.c0)).trans h.f0
 f1 := (hb.frozen (p := ⟨b, 1, none⟩) (cell_lt h.c0)).trans h.f1
 f2 := (hb.frozen (p := ⟨b, 2, none⟩) (cell_lt h.c0)).trans h.f2
 f3 := (hb.frozen (p := ⟨b, 3, none⟩) (cell_lt h.c0)).trans h.f3
 f4 := (hb.frozen (p := ⟨b, 4, none⟩) (cell_lt h.c0)).trans h.f4
theorem Box5.drew {w : World} {b : Nat} {v0 v1 v2 v3 v4 : Value} (h : Box5 w b v0 v1 v2 v3 v4) : Box5 w.drew b v0 v1 v2 v3 v4 := h.below (Below.refl _ _).drew
theorem Box5.far {w : World} {b : Nat} {v0 v1 v2 v3 v4 : Value} (h : Box5 w b v0 v1 v2 v3 v4) (g o : Nat) (v : Value) (hg : g ≠ b) : Box5 (w.setCell ⟨g, o, none⟩ v) b v0 v1 v2 v3 v4 where
 c0 := by rw [World.cell?_setCell_far _ _ _ _ hg]; exact h.c0
 c1 := by rw [World.cell?_setCell_far _ _ _ _ hg]; exact h.c1
 c2 := by rw [World.cell?_setCell_far _ _ _ _ hg]; exact h.c2
 c3 := by rw [World.cell?_setCell_far _ _ _ _ hg]; exact h.c3
 c4 := by rw [World.cell?_setCell_far _ _ _ _ hg]; exact h.c4
 f0 := by rw [World.frozen?_setCell]; exact h.f0
 f1 := by rw [World.frozen?_setCell]; exact h.f1
 f2 := by rw [World.frozen?_setCell]; exact h.f2
 f3 := by rw [World.frozen?_setCell]; exact h.f3
 f4 := by rw [World.frozen?_setCell]; exact h.f4
theorem Box5.put4 {w : World} {b : Nat} {v0 v1 v2 v3 v4 : Value} (h : Box5 w b v0 v1 v2 v3 v4) (v : Value) : Box5 (w.setCell ⟨b, 4, none⟩ v) b v0 v1 v2 v3 v where
 c0 := by rw [sc_ne (by simp)]; exact h.c0
 c1 := by rw [sc_ne (by simp)]; exact h.c1
 c2 := by rw [sc_ne (by simp)]; exact h.c2
 c3 := by rw [sc_ne (by simp)]; exact h.c3
 c4 := sc_eq h.c4
 f0 := by rw [World.frozen?_setCell]; exact h.f0
 f1 := by rw [World.frozen?_setCell]; exact h.f1
 f2 := by rw [World.frozen?_setCell]; exact h.f2
 f3 := by rw [World.frozen?_setCell]; exact h.f3
 f4 := by rw [World.frozen?_setCell]; exact h.f4
def set5 (w : World) (g o : Nat) (v0 v1 v2 v3 v4 : Value) : World := ((((w.setCell ⟨g, o, none⟩ v0).setCell ⟨g, o + 1, none⟩ v1).setCell ⟨g, o + 2, none⟩ v2).setCell ⟨g, o + 3, none⟩ v3).setCell ⟨g, o + 4, none⟩ v4
theorem set5_far (w : World) (g o : Nat) (v0 v1 v2 v3 v4 : Value) (b j : Nat) (h : g ≠ b) : (set5 w g o v0 v1 v2 v3 v4).cell? ⟨b, j, none⟩ = w.cell? ⟨b, j, none⟩ := by
 unfold set5
 rw [World.cell?_setCell_far _ _ _ _ h, World.cell?_setCell_far _ _ _ _ h, World.cell?_setCell_far _ _ _ _ h, World.cell?_setCell_far _ _ _ _ h, World.cell?_setCell_far _ _ _ _ h]
theorem set5_off (w : World) (g o : Nat) (v0 v1 v2 v3 v4 : Value) (j : Nat) (h : j < o ∨ o + 4 < j) : (set5 w g o v0 v1 v2 v3 v4).cell? ⟨g, j, none⟩ = w.cell? ⟨g, j, none⟩ := by
 unfold set5
 have e : ∀ q, q ≤ 4 → (⟨g, o + q, none⟩ : Addr) ≠ ⟨g, j, none⟩ := fun q hq h2 => by injection h2; omega
 rw [sc_ne (e 4 (by omega)), sc_ne (e 3 (by omega)), sc_ne (e 2 (by omega)), sc_ne (e 1 (by omega))]
 exact sc_ne (e 0 (by omega))
theorem set5_at (w : World) (g o : Nat) (v0 v1 v2 v3 v4 : Value) {u0 u1 u2 u3 u4 : Value} (h0 : w.cell? ⟨g, o, none⟩ = some u0) (h1 : w.cell? ⟨g, o + 1, none⟩ = some u1) (h2 : w.cell? ⟨g, o + 2, none⟩ = some u2) (h3 : w.cell? ⟨g, o + 3, none⟩ = some u3) (h4 : w.cell? ⟨g, o + 4, none⟩ = some u4) :
  (set5 w g o v0 v1 v2 v3 v4).cell? ⟨g, o, none⟩ = some v0 ∧ (set5 w g o v0 v1 v2 v3 v4).cell? ⟨g, o + 1, none⟩ = some v1 ∧ (set5 w g o v0 v1 v2 v3 v4).cell? ⟨g, o + 2, none⟩ = some v2 ∧ (set5 w g o v0 v1 v2 v3 v4).cell? ⟨g, o + 3, none⟩ = some v3 ∧ (set5 w g o v0 v1 v2 v3 v4).cell? ⟨g, o + 4, none⟩ = some v4 := by
 unfold set5
 refine ⟨?_, ?_, ?_, ?_, ?_⟩
 ·
  rw [sc_ne (by simp), sc_ne (by simp), sc_ne (by simp), sc_ne (by simp)]
  exact sc_eq h0
 ·
  rw [sc_ne (by simp), sc_ne (by simp), sc_ne (by simp)]
  exact sc_eq (by rw [sc_ne (by simp)]; exact h1)
 ·
  rw [sc_ne (by simp), sc_ne (by simp)]
  exact sc_eq (by rw [sc_ne (by simp), sc_ne (by simp)]; exact h2)
 ·
  rw [sc_ne (by simp)]
  exact sc_eq (by rw [sc_ne (by simp), sc_ne (by simp), sc_ne (by simp)]; exact h3)
 · exact sc_eq (by rw [sc_ne (by simp), sc_ne (by simp), sc_ne (by simp), sc_ne (by simp)]; exact h4)
theorem set5_frozen (w : World) (g o : Nat) (v0 v1 v2 v3 v4 : Value) (p : Addr) : (set5 w g o v0 v1 v2 v3 v4).frozen? p = w.frozen? p := by
 unfold set5
 rw [World.frozen?_setCell, World.frozen?_setCell, World.frozen?_setCell, World.frozen?_setCell, World.frozen?_setCell]
theorem set5_below {B : Nat} {w0 w : World} (hb : Below B w0 w) (g o : Nat) (v0 v1 v2 v3 v4 : Value) (h : B ≤ g) : Below B w0 (set5 w g o v0 v1 v2 v3 v4) :=
 ((((hb.setCell (p := ⟨g, o, none⟩) h _).setCell (p := ⟨g, o + 1, none⟩) h _).setCell (p := ⟨g, o + 2, none⟩) h _).setCell (p := ⟨g, o + 3, none⟩) h _).setCell (p := ⟨g, o + 4, none⟩) h _
theorem set5_heap (w : World) (g o : Nat) (v0 v1 v2 v3 v4 : Value) (b : Nat) (h : b ≠ g) : (set5 w g o v0 v1 v2 v3 v4).heap[b]? = w.heap[b]? := by
 unfold set5
 rw [Below.heap_setCell _ _ _ _ h, Below.heap_setCell _ _ _ _ h, Below.heap_setCell _ _ _ _ h, Below.heap_setCell _ _ _ _ h, Below.heap_setCell _ _ _ _ h]
theorem set5_size (w : World) (g o : Nat) (v0 v1 v2 v3 v4 : Value) : (set5 w g o v0 v1 v2 v3 v4).heap.size = w.heap.size := by unfold set5; simp
theorem Box5.set5 {w : World} {b : Nat} {v0 v1 v2 v3 v4 : Value} (h : Box5 w b v0 v1 v2 v3 v4) (g o : Nat) (u0 u1 u2 u3 u4 : Value) (hg : g ≠ b) : Box5 (set5 w g o u0 u1 u2 u3 u4) b v0 v1 v2 v3 v4 :=
 ((((h.far g o u0 hg).far g (o + 1) u1 hg).far g (o + 2) u2 hg).far g (o + 3) u3 hg).far g (o + 4) u4 hg
def Mid (w0 w : World) (g i n : Nat) (l : List (Tr n)) : Prop := (∀ j, w.frozen? ⟨g, j, none⟩ = false) ∧ g < w.heap.size ∧ Row w g n l (fun j y s => (j < i → NdF (g + 1) w n y s) ∧ (i ≤ j → NdAt w0 n y s))
theorem Mid.step {w0 wr w3 : World} {g i n : Nat} {l : List (Tr n)} (h : Mid w0 wr g i n l) (hb : Below wr.heap.size wr w3) {y : Tr n} {s' : Option Addr} {c' : Nat} (hy : l[i]? = some y) (hF : NdF (g + 1) w3 n y s') :
  Mid w0 (set5 w3 g (i * 5) (.int .i64 (kd n y)) (.string (bsA (tx n y))) (.int .i64 (nu n y)) (.int .i64 (pl n y)) (.slice s' (ks n y).length c')) g (i + 1) n l := by
 obtain ⟨hf, hlt, hr⟩ := h
 have keep : ∀ {z : Tr n} {s : Option Addr}, NdF (g + 1) w3 n z s → NdF (g + 1) (set5 w3 g (i * 5) (.int .i64 (kd n y)) (.string (bsA (tx n y))) (.int .i64 (nu n y)) (.int .i64 (pl n y)) (.slice s' (ks n y).length c')) n z s := fun h => NdF.keep (Nat.le_refl _) (fun b hb _ => set5_heap _ _ _ _ _ _ _ _ _ (by omega)) h
 refine ⟨fun j => by rw [set5_frozen]; exact (hb.frozen (p := ⟨g, j, none⟩) hlt).trans (hf j), by rw [set5_size]; exact Nat.lt_of_lt_of_le hlt hb.size, fun j z hz => ?_⟩
 by_cases hji : j = i
 ·
  subst hji
  rw [hy] at hz
  cases hz
  obtain ⟨s, c, ⟨c0, c1, c2, c3, c4⟩, _⟩ := hr j y hy
  exact ⟨s', c', set5_at w3 g (j * 5) _ _ _ _ _ (cell_below hb c0) (cell_below hb c1) (cell_below hb c2) (cell_below hb c3) (cell_below hb c4), fun _ => keep hF, fun h => absurd h (by omega)⟩
 ·
  obtain ⟨s, c, ⟨c0, c1, c2, c3, c4⟩, hp, hq⟩ := hr j z hz
  refine ⟨s, c, ⟨?_, ?_, ?_, ?_, ?_⟩, fun h => keep (NdF.below hb (hp (by omega))), fun h => hq (by omega)⟩
  · rw [set5_off _ _ _ _ _ _ _ _ _ (by omega)]; exact cell_below hb c0
  · rw [set5_off _ _ _ _ _ _ _ _ _ (by omega)]; exact cell_below hb c1
  · rw [set5_off _ _ _ _ _ _ _ _ _ (by omega)]; exact cell_below hb c2
  · rw [set5_off _ _ _ _ _ _ _ _ _ (by omega)]; exact cell_below hb c3
  · rw [set5_off _ _ _ _ _ _ _ _ _ (by omega)]; exact cell_below hb c4
end Go.Proofs.YtgdndahhledikaaGreatDoor
namespace Go.Proofs.YtgdndahhledikaaGreatDoor
open Go.ChangeShapes Go.WideShapes Go.ChangeAt Go.RowKit
set_option linter.unusedSimpArgs false
set_option maxRecDepth 20000
set_option maxHeartbeats 4000000
theorem textNode_any (k : Int) (t : Tt) (s : Option Addr) (l c : Nat) (w : World) :
  Calls Tryz.prog 209 #[.int .i64 k, ttV t, .slice s l c] w fun e w' => e = .returned (nV k t.1.2.1 0 t.2 (.slice s l c)) ∧ Below w.heap.size w w' := by
 obtain ⟨⟨q1, q2, q3⟩, q4⟩ := t
 have h1 := node_any k ((q1, q2, q3), q4) s l c ((w.alloc (Obj.cells #[Value.int IntKind.i64 q1, Value.string (bsA q2), Value.int IntKind.i64 q3, Value.int IntKind.i64 q4] 26)).alloc (Obj.cells #[Value.int IntKind.i64 0, Value.string { data := #[] }, Value.int IntKind.i64 0, Value.int IntKind.i64 0, Value.slice none 0 0] 34))
 unfold ttV nV at h1 ⊢
 dsimp only at h1 ⊢
 have hA : Below w.heap.size w (w.alloc (Obj.cells #[Value.int IntKind.i64 q1, Value.string (bsA q2), Value.int IntKind.i64 q3, Value.int IntKind.i64 q4] 26)) := (Below.refl _ _).alloc (Nat.le_refl _) _
 have hX : Below (w.alloc (Obj.cells #[Value.int IntKind.i64 q1, Value.string (bsA q2), Value.int IntKind.i64 q3, Value.int IntKind.i64 q4] 26)).heap.size (w.alloc (Obj.cells #[Value.int IntKind.i64 q1, Value.string (bsA q2), Value.int IntKind.i64 q3, Value.int IntKind.i64 q4] 26)) ((w.alloc (Obj.cells #[Value.int IntKind.i64 q1, Value.string (bsA q2), Value.int IntKind.i64 q3, Value.int IntKind.i64 q4] 26)).alloc (Obj.cells #[Value.int IntKind.i64 0, Value.string { data := #[] }, Value.int IntKind.i64 0, Value.int IntKind.i64 0, Value.slice none 0 0] 34)) := (Below.refl _ _).alloc (Nat.le_refl _) _
 have hAX := hA.trans (hX.mono hA.size)
 obtain ⟨y0, y1, y2, y3⟩ := Box4.new w (.int .i64 q1) (.string (bsA q2)) (.int .i64 q3) (.int .i64 q4) 26
 have x0 := cell_below hX y0
 have x1 := cell_below hX y1
 have x2 := cell_below hX y2
 have x3 := cell_below hX y3
 have bR := Box5.new (w.alloc (Obj.cells #[Value.int IntKind.i64 q1, Value.string (bsA q2), Value.int IntKind.i64 q3, Value.int IntKind.i64 q4] 26)) (.int .i64 0) (.string ⟨#[]⟩) (.int .i64 0) (.int .i64 0) (.slice none 0 0) 34
 rw [World.size_alloc] at bR
 have HBR : Hid _ := bR
 have HXX : Hid (_ ∧ _) := And.intro x1 x2
 clear y0 y1 y2 y3 bR hA hX
 go_enter Tryz.func209, Tryz.ntmps209
 go_wp2_with fail
 refine h1.mono ?_
 rintro e w1 ⟨rfl, hb1⟩
 clear h1 x0 x1 x2 x3
 have hY : Below w1.heap.size w1 (w1.alloc (Obj.cells #[Value.int IntKind.i64 k, Value.string (bsA []), Value.int IntKind.i64 0, Value.int IntKind.i64 q4, Value.slice s l c] 34)) := (Below.refl _ _).alloc (Nat.le_refl _) _
 have z1 := cell_below hY (cell_below hb1 HXX.out.1)
 have z2 := cell_below hY (cell_below hb1 HXX.out.2)
 obtain ⟨n0, n1, n2, n3, n4, m0, m1, m2, m3, m4⟩ := Box5.new w1 (.int .i64 k) (.string (bsA [])) (.int .i64 0) (.int .i64 q4) (.slice s l c) 34
 have hY2 : Below w1.heap.size w1 (w1.alloc (Obj.cells #[Value.int IntKind.i64 k, Value.string (bsA q2), Value.int IntKind.i64 0, Value.int IntKind.i64 q4, Value.slice s l c] 34)) := (Below.refl _ _).alloc (Nat.le_refl _) _
 obtain ⟨r0, r1, r2, r3, r4, g0, g1, g2, g3, g4⟩ := (HBR.out.below hb1).below hY2
 have hB : Below w.heap.size w (w1.alloc (Obj.cells #[Value.int IntKind.i64 k, Value.string (bsA q2), Value.int IntKind.i64 0, Value.int IntKind.i64 q4, Value.slice s l c] 34)) := (hAX.trans (hb1.mono hAX.size)).trans (hY2.mono (hAX.trans (hb1.mono hAX.size)).size)
 have hs0 : ((w.alloc (Obj.cells #[Value.int IntKind.i64 q1, Value.string (bsA q2), Value.int IntKind.i64 q3, Value.int IntKind.i64 q4] 26)).alloc (Obj.cells #[Value.int IntKind.i64 0, Value.string { data := #[] }, Value.int IntKind.i64 0, Value.int IntKind.i64 0, Value.slice none 0 0] 34)).heap.size = w.heap.size + 1 + 1 := by rw [World.size_alloc, World.size_alloc]
 have hs1 : w.heap.size + 2 ≤ w1.heap.size := by have := hb1.size; omega
 have hne : w.heap.size + 1 ≠ w1.heap.size := by omega
 have hne2 : w.heap.size ≠ w1.heap.size := by omega
 clear hs0 HXX HBR hY hY2 hb1 hAX
 go_wp2
 refine bodyPost_ret (v := .agg #[.int .i64 k, .string (bsA q2), .int .i64 0, .int .i64 q4, .slice s l c]) (by simp [results, Tryz.results209, go_sem, r0, r1, r2, r3, r4, n0, n1, n2, n3, n4, hne]) rfl ⟨rfl, ?_⟩
 exact Bel.out (by repeat (first | exact Bel.of hB | refine Bel.setCell ?_ (by simp <;> omega) _))
theorem numberNode_any (k : Int) (t : Tt) (w : World) :
  Calls Tryz.prog 249 #[.int .i64 k, ttV t] w fun e w' => e = .returned (nV k [] t.1.2.2 t.2 (.slice none 0 0)) ∧ Below w.heap.size w w' := by
 obtain ⟨⟨q1, q2, q3⟩, q4⟩ := t
 have h1 := node_any k ((q1, q2, q3), q4) none 0 0 ((w.alloc (Obj.cells #[Value.int IntKind.i64 q1, Value.string (bsA q2), Value.int IntKind.i64 q3, Value.int IntKind.i64 q4] 26)).alloc (Obj.cells #[Value.int IntKind.i64 0, Value.string { data := #[] }, Value.int IntKind.i64 0, Value.int IntKind.i64 0, Value.slice none 0 0] 34))
 unfold ttV nV at h1 ⊢
 dsimp only at h1 ⊢
 have hA : Below w.heap.size w (w.alloc (Obj.cells #[Value.int IntKind.i64 q1, Value.string (bsA q2), Value.int IntKind.i64 q3, Value.int IntKind.i64 q4] 26)) := (Below.refl _ _).alloc (Nat.le_refl _) _
 have hX : Below (w.alloc (Obj.cells #[Value.int IntKind.i64 q1, Value.string (bsA q2), Value.int IntKind.i64 q3, Value.int IntKind.i64 q4] 26)).heap.size (w.alloc (Obj.cells #[Value.int IntKind.i64 q1, Value.string (bsA q2), Value.int IntKind.i64 q3, Value.int IntKind.i64 q4] 26)) ((w.alloc (Obj.cells #[Value.int IntKind.i64 q1, Value.string (bsA q2), Value.int IntKind.i64 q3, Value.int IntKind.i64 q4] 26)).alloc (Obj.cells #[Value.int IntKind.i64 0, Value.string { data := #[] }, Value.int IntKind.i64 0, Value.int IntKind.i64 0, Value.slice none 0 0] 34)) := (Below.refl _ _).alloc (Nat.le_refl _) _
 have hAX := hA.trans (hX.mono hA.size)
 obtain ⟨y0, y1, y2, y3⟩ := Box4.new w (.int .i64 q1) (.string (bsA q2)) (.int .i64 q3) (.int .i64 q4) 26
 have x0 := cell_below hX y0
 have x1 := cell_below hX y1
 have x2 := cell_below hX y2
 have x3 := cell_below hX y3
 have bR := Box5.new (w.alloc (Obj.cells #[Value.int IntKind.i64 q1, Value.string (bsA q2), Value.int IntKind.i64 q3, Value.int IntKind.i64 q4] 26)) (.int .i64 0) (.string ⟨#[]⟩) (.int .i64 0) (.int .i64 0) (.slice none 0 0) 34
 rw [World.size_alloc] at bR
 have HBR : Hid _ := bR
 have HXX : Hid (_ ∧ _) := And.intro x1 x2
 clear y0 y1 y2 y3 bR hA hX
 go_enter Tryz.func249, Tryz.ntmps249
 go_wp2_with fail
 refine h1.mono ?_
 rintro e w1 ⟨rfl, hb1⟩
 clear h1 x0 x1 x2 x3
 have hY : Below w1.heap.size w1 (w1.alloc (Obj.cells #[Value.int IntKind.i64 k, Value.string (bsA []), Value.int IntKind.i64 0, Value.int IntKind.i64 q4, Value.slice none 0 0] 34)) := (Below.refl _ _).alloc (Nat.le_refl _) _
 have z1 := cell_below hY (cell_below hb1 HXX.out.1)
 have z2 := cell_below hY (cell_below hb1 HXX.out.2)
 obtain ⟨n0, n1, n2, n3, n4, m0, m1, m2, m3, m4⟩ := Box5.new w1 (.int .i64 k) (.string (bsA [])) (.int .i64 0) (.int .i64 q4) (.slice none 0 0) 34
 have hY2 : Below w1.heap.size w1 (w1.alloc (Obj.cells #[Value.int IntKind.i64 k, Value.string (bsA []), Value.int IntKind.i64 q3, Value.int IntKind.i64 q4, Value.slice none 0 0] 34)) := (Below.refl _ _).alloc (Nat.le_refl _) _
 obtain ⟨r0, r1, r2, r3, r4, g0, g1, g2, g3, g4⟩ := (HBR.out.below hb1).below hY2
 have hB : Below w.heap.size w (w1.alloc (Obj.cells #[Value.int IntKind.i64 k, Value.string (bsA []), Value.int IntKind.i64 q3, Value.int IntKind.i64 q4, Value.slice none 0 0] 34)) := (hAX.trans (hb1.mono hAX.size)).trans (hY2.mono (hAX.trans (hb1.mono hAX.size)).size)
 have hs0 : ((w.alloc (Obj.cells #[Value.int IntKind.i64 q1, Value.string (bsA q2), Value.int IntKind.i64 q3, Value.int IntKind.i64 q4] 26)).alloc (Obj.cells #[Value.int IntKind.i64 0, Value.string { data := #[] }, Value.int IntKind.i64 0, Value.int IntKind.i64 0, Value.slice none 0 0] 34)).heap.size = w.heap.size + 1 + 1 := by rw [World.size_alloc, World.size_alloc]
 have hs1 : w.heap.size + 2 ≤ w1.heap.size := by have := hb1.size; omega
 have hne : w.heap.size + 1 ≠ w1.heap.size := by omega
 have hne2 : w.heap.size ≠ w1.heap.size := by omega
 clear hs0 HXX HBR hY hY2 hb1 hAX
 go_wp2
 refine bodyPost_ret (v := .agg #[.int .i64 k, .string (bsA []), .int .i64 q3, .int .i64 q4, .slice none 0 0]) (by simp [results, Tryz.results249, go_sem, r0, r1, r2, r3, r4, n0, n1, n2, n3, n4, hne]) rfl ⟨rfl, ?_⟩
 exact Bel.out (by repeat (first | exact Bel.of hB | refine Bel.setCell ?_ (by simp <;> omega) _))
end Go.Proofs.YtgdndahhledikaaGreatDoor
