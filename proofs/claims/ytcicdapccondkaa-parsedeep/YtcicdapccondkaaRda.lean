/- What a reader takes, begins, ends, needs. -/
import Derived.Test.YtcicdapccondkaaRdz
namespace Go.Proofs.Ytcicdapccondkaa
open Go.ChangeShapes Go.WideShapes Go.ChangeAt Go.RowKit
set_option linter.unusedSimpArgs false
set_option maxRecDepth 20000
set_option maxHeartbeats 4000000

theorem end_any (rb : Nat) (ta : Option Addr) (cap : Nat) (T : List Tt) (i op : Nat) (w : World) (hr : Rdr w rb ta cap T i (op + 1)) (ho : op ≤ 100) :
    Calls Try.prog 24 #[ptr rb] w fun e w' => e = .returned (.tuple #[]) ∧ Rdr w' rb ta cap T i op ∧ Fx rb w w' := by
  have c2 := hr.c2
  have f2 := hr.f2
  have HR : Hid _ := hr.op op
  have e1 : (((op + 1 : Nat) : Int) - 1) = (op : Int) := by omega
  unfold ptr
  clear hr
  go_enter Try.func24, Try.ntmps24
  go_wp2
  go_end0
  exact ⟨rfl, HR.out, Fx.set _ _ _⟩
theorem begin_ok (rb : Nat) (ta : Option Addr) (cap : Nat) (T : List Tt) (i op : Nat) (w : World) (hr : Rdr w rb ta cap T i op) (ho : op < 100) :
    Calls Try.prog 22 #[ptr rb] w fun e w' => e = .returned (.tuple #[]) ∧ Rdr w' rb ta cap T i (op + 1) ∧ Fx rb w w' := by
  have c2 := hr.c2
  have f2 := hr.f2
  have h := hr.op (op + 1)
  rw [show (((op + 1 : Nat)) : Int) = (op : Int) + 1 by omega] at h
  have HR : Hid _ := h
  have g1 : ((op : Int) == 100) = false := by rw [beq_eq_false_iff_ne]; omega
  unfold ptr
  clear hr h
  go_enter Try.func22, Try.ntmps22
  go_wp2
  go_end0
  exact ⟨rfl, HR.out, Fx.set _ _ _⟩
theorem stuck_any (rb : Nat) (ta : Option Addr) (cap : Nat) (T : List Tt) (i op : Nat) (er : Int) (w : World) (hr : Rdr w rb ta cap T i op) :
    Calls Try.prog 15 #[ptr rb, .int .i64 er] w fun e w' => e = .returned (.agg #[.int .i64 i, .int .i64 er]) ∧ Below w.heap.size w w' := by
  have hA : Below w.heap.size w (w.alloc (Obj.cells #[Value.int IntKind.i64 0, Value.int IntKind.i64 0] 44)) := (Below.refl _ _).alloc (Nat.le_refl _) _
  have c1 := (hr.below hA).c1
  unfold ptr
  clear hr
  go_enter Try.func15, Try.ntmps15
  go_wp2
  refine bodyPost_ret (v := .agg #[.int .i64 i, .int .i64 er]) (by simp [results, Try.results15, go_sem]) rfl ⟨rfl, (Below.refl _ _).alloc (Nat.le_refl _) _⟩
/-- What a reader gives up with. -/
def flV (p : Nat) (er : Int) : Value := .iface 44 (.agg #[.int .i64 p, .int .i64 er])
/-- It gives up. -/
def GUp (p : Nat) (er : Int) (e : Ending) : Prop := e = .panicked [{ v := flV p er, recovered := false }]
theorem begin_no (rb : Nat) (ta : Option Addr) (cap : Nat) (T : List Tt) (i : Nat) (w : World) (hr : Rdr w rb ta cap T i 100) :
    Calls Try.prog 22 #[ptr rb] w fun e w' => GUp i 71 e ∧ Below w.heap.size w w' := by
  have c2 := hr.c2
  have h1 := stuck_any rb ta cap T i 100 71 w hr
  unfold ptr at h1 ⊢
  unfold GUp flV
  clear hr
  go_enter Try.func22, Try.ntmps22
  go_wp2_with (go_at_call 15; refine h1.mono ?_; rintro e w1 ⟨rfl, hb1⟩; clear h1)
  exact ⟨rfl, rfl, hb1⟩
theorem take_any (rb : Nat) (ta : Option Addr) (cap : Nat) (T : List Tt) (i op : Nat) (w : World) (hr : Rdr w rb ta cap T i op) (hi : i < T.length) :
    Calls Try.prog 65 #[ptr rb] w fun e w' => e = .returned (ttV (tkI T i)) ∧ Rdr w' rb ta cap T (i + 1) op ∧ Fx rb w w' := by
  have hA : Below w.heap.size w (w.alloc (Obj.cells #[Value.int IntKind.i64 0, Value.string { data := #[] }, Value.int IntKind.i64 0, Value.int IntKind.i64 0] 51)) := (Below.refl _ _).alloc (Nat.le_refl _) _
  have h1 := token_any rb ta cap T i op 0 _ (hr.below hA) (by omega)
  rw [Nat.add_zero] at h1
  have HR0 : Hid _ := hr.below hA
  have hne : rb ≠ w.heap.size := Nat.ne_of_lt (cell_lt hr.c0)
  have hl := hr.len
  have bo := Box.new w (.int .i64 0) (.string ⟨#[]⟩) (.int .i64 0) (.int .i64 0)
  have HBO : Hid _ := bo
  unfold ttV at h1 ⊢
  generalize tkI T i = q at h1 ⊢
  obtain ⟨⟨q1, q2, q3⟩, q4⟩ := q
  dsimp only at h1 ⊢
  unfold ptr at h1 ⊢
  clear hr bo
  go_enter Try.func65, Try.ntmps65
  go_wp2_with fail
  refine h1.mono ?_
  rintro e w1 ⟨rfl, hb1⟩
  clear h1
  have hX : Below w1.heap.size w1 (w1.alloc (Obj.cells #[Value.int IntKind.i64 q1, Value.string (bsA q2), Value.int IntKind.i64 q3, Value.int IntKind.i64 q4] 51)) := (Below.refl _ _).alloc (Nat.le_refl _) _
  have HR : Hid _ := (HR0.out.below hb1).below hX
  obtain ⟨z0, z1, z2, z3⟩ := Box4.new w1 (.int .i64 q1) (.string (bsA q2)) (.int .i64 q3) (.int .i64 q4) 51
  obtain ⟨y0, y1, y2, y3, g0, g1, g2, g3⟩ := (HBO.out.below hb1).below hX
  have c1 := HR.out.c1
  have f1 := HR.out.f1
  have hne1 : rb ≠ w1.heap.size := Nat.ne_of_lt (Nat.lt_of_lt_of_le (cell_lt HR0.out.c0) hb1.size)
  have HF : Hid (Fx rb w w1) := (Fx.below hA).trans (Fx.below hb1)
  have hlt : rb < w.heap.size := by have h1 := cell_lt HR0.out.c0; rw [World.size_alloc] at h1; omega
  have hsz : w.heap.size < w1.heap.size := by have h1 := hb1.size; rw [World.size_alloc] at h1; omega
  go_wp2
  have h2 := HR.out.at (i + 1) (by omega)
  rw [show (((i + 1 : Nat)) : Int) = (i : Int) + 1 by omega] at h2
  refine bodyPost_ret (v := .agg #[.int .i64 q1, .string (bsA q2), .int .i64 q3, .int .i64 q4]) (by simp [results, Try.results65, go_sem, y0, y1, y2, y3, hne, hne1]) rfl ⟨rfl, ?_, ?_⟩
  · exact (((h2.far _ 0 _ hlt).far _ 1 _ hlt).far _ 2 _ hlt).far _ 3 _ hlt
  · exact (((((HF.out.trans (Fx.below hX)).trans (Fx.set _ 1 _)).new _ 0 _ (Nat.le_refl _)).new _ 1 _ (Nat.le_refl _)).new _ 2 _ (Nat.le_refl _)).new _ 3 _ (Nat.le_refl _)
end Go.Proofs.Ytcicdapccondkaa
