/- What a reader needs and passes; trees that are made of tokens. -/
import Derived.Test.YtcicdapccondkaaRda
namespace Go.Proofs.Ytcicdapccondkaa
open Go.ChangeShapes Go.WideShapes Go.ChangeAt Go.RowKit
set_option linter.unusedSimpArgs false
set_option maxRecDepth 20000
set_option maxHeartbeats 4000000

theorem isT_lt {T : List Tt} {i : Nat} {k : Int} {L : List (List UInt8)} (hk : k ≠ 0) (h : isT (tkI T i) k L = true) : i < T.length := by
  rcases Nat.lt_or_ge i T.length with hl | hl
  · exact hl
  · rw [tkI_end hl] at h
    unfold isT tkE at h
    rw [Bool.and_eq_true, decide_eq_true_eq] at h
    exact absurd h.1.symm hk
theorem need_no (rb : Nat) (ta : Option Addr) (cap : Nat) (T : List Tt) (i op : Nat) (k : Int) (t : List UInt8) (w : World) (hr : Rdr w rb ta cap T i op) (hs : isT (tkI T i) k [t] = false) :
    Calls Try.prog 85 #[ptr rb, .int .i64 k, .string (bsA t)] w fun e w' => GUp i 70 e ∧ Below w.heap.size w w' := by
  have hA : Below w.heap.size w (w.alloc (Obj.cells #[Value.int IntKind.i64 0, Value.string { data := #[] }, Value.int IntKind.i64 0, Value.int IntKind.i64 0] 51)) := (Below.refl _ _).alloc (Nat.le_refl _) _
  have hB : Below (w.alloc (Obj.cells #[Value.int IntKind.i64 0, Value.string { data := #[] }, Value.int IntKind.i64 0, Value.int IntKind.i64 0] 51)).heap.size (w.alloc (Obj.cells #[Value.int IntKind.i64 0, Value.string { data := #[] }, Value.int IntKind.i64 0, Value.int IntKind.i64 0] 51)) ((w.alloc (Obj.cells #[Value.int IntKind.i64 0, Value.string { data := #[] }, Value.int IntKind.i64 0, Value.int IntKind.i64 0] 51)).alloc (Obj.cells #[Value.string (bsA t)] 9)) := (Below.refl _ _).alloc (Nat.le_refl _) _
  have h1 := sees_any rb ta cap T i op k [t] (w.alloc (Obj.cells #[Value.int IntKind.i64 0, Value.string { data := #[] }, Value.int IntKind.i64 0, Value.int IntKind.i64 0] 51)).heap.size 1 _ ((hr.below hA).below hB) (by simp) (StsL.new (w.alloc (Obj.cells #[Value.int IntKind.i64 0, Value.string { data := #[] }, Value.int IntKind.i64 0, Value.int IntKind.i64 0] 51)) #[.string (bsA t)] 9 [t] rfl)
  rw [hs, World.size_alloc] at h1
  have HR : Hid _ := (hr.below hA).below hB
  have HS : Hid _ := fun (W : World) (h : Rdr W rb ta cap T i op) => stuck_any rb ta cap T i op 70 W h
  have hAB := hA.trans (hB.mono hA.size)
  unfold ptr at h1 HS ⊢
  unfold GUp flV
  clear hr hs hA hB
  go_enter Try.func85, Try.ntmps85
  go_wp2_with fail
  refine h1.mono ?_
  rintro e w1 ⟨rfl, hb1⟩
  clear h1
  go_wp2_with fail
  refine (HS.out _ (HR.out.below hb1)).mono ?_
  rintro e w2 ⟨rfl, hb2⟩
  have hE := (hAB.trans (hb1.mono hAB.size)).trans (hb2.mono (hAB.trans (hb1.mono hAB.size)).size)
  go_wp2
  exact ⟨rfl, rfl, hE⟩
theorem need_ok (rb : Nat) (ta : Option Addr) (cap : Nat) (T : List Tt) (i op : Nat) (k : Int) (t : List UInt8) (w : World) (hr : Rdr w rb ta cap T i op) (hk : k ≠ 0) (hs : isT (tkI T i) k [t] = true) :
    Calls Try.prog 85 #[ptr rb, .int .i64 k, .string (bsA t)] w fun e w' => e = .returned (ttV (tkI T i)) ∧ Rdr w' rb ta cap T (i + 1) op ∧ Fx rb w w' := by
  have hi := isT_lt hk hs
  have hA : Below w.heap.size w (w.alloc (Obj.cells #[Value.int IntKind.i64 0, Value.string { data := #[] }, Value.int IntKind.i64 0, Value.int IntKind.i64 0] 51)) := (Below.refl _ _).alloc (Nat.le_refl _) _
  have hB : Below (w.alloc (Obj.cells #[Value.int IntKind.i64 0, Value.string { data := #[] }, Value.int IntKind.i64 0, Value.int IntKind.i64 0] 51)).heap.size (w.alloc (Obj.cells #[Value.int IntKind.i64 0, Value.string { data := #[] }, Value.int IntKind.i64 0, Value.int IntKind.i64 0] 51)) ((w.alloc (Obj.cells #[Value.int IntKind.i64 0, Value.string { data := #[] }, Value.int IntKind.i64 0, Value.int IntKind.i64 0] 51)).alloc (Obj.cells #[Value.string (bsA t)] 9)) := (Below.refl _ _).alloc (Nat.le_refl _) _
  have h1 := sees_any rb ta cap T i op k [t] (w.alloc (Obj.cells #[Value.int IntKind.i64 0, Value.string { data := #[] }, Value.int IntKind.i64 0, Value.int IntKind.i64 0] 51)).heap.size 1 _ ((hr.below hA).below hB) (by simp) (StsL.new (w.alloc (Obj.cells #[Value.int IntKind.i64 0, Value.string { data := #[] }, Value.int IntKind.i64 0, Value.int IntKind.i64 0] 51)) #[.string (bsA t)] 9 [t] rfl)
  rw [hs, World.size_alloc] at h1
  have HR : Hid _ := (hr.below hA).below hB
  have HS : Hid _ := fun (W : World) (h : Rdr W rb ta cap T i op) => take_any rb ta cap T i op W h hi
  have HBO : Hid _ := (Box.new w (.int .i64 0) (.string ⟨#[]⟩) (.int .i64 0) (.int .i64 0)).below hB
  have HF0 : Hid _ := (Fx.below (rb := rb) hA).trans (Fx.below hB)
  have hlt := cell_lt hr.c0
  have hne : w.heap.size ≠ rb := by omega
  unfold ttV at HS ⊢
  generalize tkI T i = q at HS ⊢
  obtain ⟨⟨q1, q2, q3⟩, q4⟩ := q
  dsimp only at HS ⊢
  unfold ptr at h1 HS ⊢
  clear hr hs hA hB
  go_enter Try.func85, Try.ntmps85
  go_wp2_with fail
  refine h1.mono ?_
  rintro e w1 ⟨rfl, hb1⟩
  clear h1
  go_wp2_with fail
  refine (HS.out _ (HR.out.below hb1)).mono ?_
  rintro e w2 ⟨rfl, hr2, hf2⟩
  have HR2 : Hid _ := hr2
  have HF : Hid _ := (HF0.out.trans (Fx.below hb1)).trans hf2
  have hb := HBO.out.below hb1
  have e := hf2.blk w.heap.size (cell_lt hb.c0) hne
  have y0 := cell_same hb.c0 e
  have y1 := cell_same hb.c1 e
  have y2 := cell_same hb.c2 e
  have y3 := cell_same hb.c3 e
  have g0 := (World.frozen?_of_block (a := ⟨w.heap.size, 0, none⟩) e).trans hb.f0
  have g1 := (World.frozen?_of_block (a := ⟨w.heap.size, 1, none⟩) e).trans hb.f1
  have g2 := (World.frozen?_of_block (a := ⟨w.heap.size, 2, none⟩) e).trans hb.f2
  have g3 := (World.frozen?_of_block (a := ⟨w.heap.size, 3, none⟩) e).trans hb.f3
  clear hb e hf2 hr2 HR HF0 HBO HS hb1
  go_wp2
  refine bodyPost_ret (v := .agg #[.int .i64 q1, .string (bsA q2), .int .i64 q3, .int .i64 q4]) (by simp [results, Try.results85, go_sem, y0, y1, y2, y3]) rfl ⟨rfl, ?_, ?_⟩
  · exact (((HR2.out.far _ 0 _ hlt).far _ 1 _ hlt).far _ 2 _ hlt).far _ 3 _ hlt
  · exact (((HF.out.new _ 0 _ (Nat.le_refl _)).new _ 1 _ (Nat.le_refl _)).new _ 2 _ (Nat.le_refl _)).new _ 3 _ (Nat.le_refl _)
theorem passes_no (rb : Nat) (ta : Option Addr) (cap : Nat) (T : List Tt) (i op : Nat) (k : Int) (t : List UInt8) (w : World) (hr : Rdr w rb ta cap T i op) (hs : isT (tkI T i) k [t] = false) :
    Calls Try.prog 84 #[ptr rb, .int .i64 k, .string (bsA t)] w fun e w' => e = .returned (.bool false) ∧ Below w.heap.size w w' := by
  have hB : Below w.heap.size w (w.alloc (Obj.cells #[Value.string (bsA t)] 9)) := (Below.refl _ _).alloc (Nat.le_refl _) _
  have h1 := sees_any rb ta cap T i op k [t] w.heap.size 1 _ (hr.below hB) (by simp) (StsL.new w #[.string (bsA t)] 9 [t] rfl)
  rw [hs] at h1
  unfold ptr at h1 ⊢
  clear hr hs
  go_enter Try.func84, Try.ntmps84
  go_wp2_with fail
  refine h1.mono ?_
  rintro e w1 ⟨rfl, hb1⟩
  have hE := hB.trans (hb1.mono hB.size)
  clear h1
  go_wp2
  go_ret
  exact ⟨rfl, hE⟩
theorem passes_ok (rb : Nat) (ta : Option Addr) (cap : Nat) (T : List Tt) (i op : Nat) (k : Int) (t : List UInt8) (w : World) (hr : Rdr w rb ta cap T i op) (hk : k ≠ 0) (hs : isT (tkI T i) k [t] = true) :
    Calls Try.prog 84 #[ptr rb, .int .i64 k, .string (bsA t)] w fun e w' => e = .returned (.bool true) ∧ Rdr w' rb ta cap T (i + 1) op ∧ Fx rb w w' := by
  have hi := isT_lt hk hs
  have hB : Below w.heap.size w (w.alloc (Obj.cells #[Value.string (bsA t)] 9)) := (Below.refl _ _).alloc (Nat.le_refl _) _
  have h1 := sees_any rb ta cap T i op k [t] w.heap.size 1 _ (hr.below hB) (by simp) (StsL.new w #[.string (bsA t)] 9 [t] rfl)
  rw [hs] at h1
  have HR : Hid _ := hr.below hB
  have HS : Hid _ := fun (W : World) (h : Rdr W rb ta cap T i op) => take_any rb ta cap T i op W h hi
  unfold ttV at HS
  unfold ptr at h1 HS ⊢
  clear hr hs
  go_enter Try.func84, Try.ntmps84
  go_wp2_with fail
  refine h1.mono ?_
  rintro e w1 ⟨rfl, hb1⟩
  clear h1
  go_wp2_with fail
  refine (HS.out _ (HR.out.below hb1)).mono ?_
  rintro e w2 ⟨rfl, hr2, hf2⟩
  have HR2 : Hid _ := hr2
  have HF : Hid _ := ((Fx.below hB).trans (Fx.below hb1)).trans hf2
  clear hr2 hf2
  go_wp2
  go_ret
  exact ⟨rfl, HR2.out, HF.out⟩
/-- A tree's value. -/
def nV (k : Int) (t : List UInt8) (m a : Int) (kids : Value) : Value := .agg #[.int .i64 k, .string (bsA t), .int .i64 m, .int .i64 a, kids]
theorem node_any (k : Int) (t : Tt) (s : Option Addr) (l c : Nat) (w : World) :
    Calls Try.prog 73 #[.int .i64 k, ttV t, .slice s l c] w fun e w' => e = .returned (nV k [] 0 t.2 (.slice s l c)) ∧ Below w.heap.size w w' := by
  obtain ⟨⟨q1, q2, q3⟩, q4⟩ := t
  unfold ttV nV
  dsimp only
  have hA : Below w.heap.size w (w.alloc (Obj.cells #[Value.int IntKind.i64 q1, Value.string (bsA q2), Value.int IntKind.i64 q3, Value.int IntKind.i64 q4] 51)) := (Below.refl _ _).alloc (Nat.le_refl _) _
  obtain ⟨y0, y1, y2, y3⟩ := Box4.new w (.int .i64 q1) (.string (bsA q2)) (.int .i64 q3) (.int .i64 q4) 51
  have hX : Below (w.alloc (Obj.cells #[Value.int IntKind.i64 q1, Value.string (bsA q2), Value.int IntKind.i64 q3, Value.int IntKind.i64 q4] 51)).heap.size (w.alloc (Obj.cells #[Value.int IntKind.i64 q1, Value.string (bsA q2), Value.int IntKind.i64 q3, Value.int IntKind.i64 q4] 51)) ((w.alloc (Obj.cells #[Value.int IntKind.i64 q1, Value.string (bsA q2), Value.int IntKind.i64 q3, Value.int IntKind.i64 q4] 51)).alloc (Obj.cells #[Value.int IntKind.i64 0, Value.string { data := #[] }, Value.int IntKind.i64 0, Value.int IntKind.i64 0, Value.slice none 0 0] 26)) := (Below.refl _ _).alloc (Nat.le_refl _) _
  have z3 := cell_below hX y3
  go_enter Try.func73, Try.ntmps73
  go_wp2
  refine bodyPost_ret (v := .agg #[.int .i64 k, .string ⟨#[]⟩, .int .i64 0, .int .i64 q4, .slice s l c]) (by simp [results, Try.results73, go_sem]) rfl ⟨rfl, ?_⟩
  exact hA.alloc hA.size _
end Go.Proofs.Ytcicdapccondkaa
