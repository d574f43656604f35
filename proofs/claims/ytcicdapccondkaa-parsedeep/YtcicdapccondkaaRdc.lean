/- Trees that are made of tokens. -/
import Derived.Test.YtcicdapccondkaaRdb
import Derived.Test.YtcicdapccondkaaBx5
namespace Go.Proofs.Ytcicdapccondkaa
open Go.ChangeShapes Go.WideShapes Go.ChangeAt Go.RowKit
set_option linter.unusedSimpArgs false
set_option maxRecDepth 20000
set_option maxHeartbeats 4000000

theorem textNode_any (k : Int) (t : Tt) (s : Option Addr) (l c : Nat) (w : World) :
    Calls Try.prog 66 #[.int .i64 k, ttV t, .slice s l c] w fun e w' => e = .returned (nV k t.1.2.1 0 t.2 (.slice s l c)) ∧ Below w.heap.size w w' := by
  obtain ⟨⟨q1, q2, q3⟩, q4⟩ := t
  have h1 := node_any k ((q1, q2, q3), q4) s l c ((w.alloc (Obj.cells #[Value.int IntKind.i64 q1, Value.string (bsA q2), Value.int IntKind.i64 q3, Value.int IntKind.i64 q4] 51)).alloc (Obj.cells #[Value.int IntKind.i64 0, Value.string { data := #[] }, Value.int IntKind.i64 0, Value.int IntKind.i64 0, Value.slice none 0 0] 26))
  unfold ttV nV at h1 ⊢
  dsimp only at h1 ⊢
  have hA : Below w.heap.size w (w.alloc (Obj.cells #[Value.int IntKind.i64 q1, Value.string (bsA q2), Value.int IntKind.i64 q3, Value.int IntKind.i64 q4] 51)) := (Below.refl _ _).alloc (Nat.le_refl _) _
  have hX : Below (w.alloc (Obj.cells #[Value.int IntKind.i64 q1, Value.string (bsA q2), Value.int IntKind.i64 q3, Value.int IntKind.i64 q4] 51)).heap.size (w.alloc (Obj.cells #[Value.int IntKind.i64 q1, Value.string (bsA q2), Value.int IntKind.i64 q3, Value.int IntKind.i64 q4] 51)) ((w.alloc (Obj.cells #[Value.int IntKind.i64 q1, Value.string (bsA q2), Value.int IntKind.i64 q3, Value.int IntKind.i64 q4] 51)).alloc (Obj.cells #[Value.int IntKind.i64 0, Value.string { data := #[] }, Value.int IntKind.i64 0, Value.int IntKind.i64 0, Value.slice none 0 0] 26)) := (Below.refl _ _).alloc (Nat.le_refl _) _
  have hAX := hA.trans (hX.mono hA.size)
  obtain ⟨y0, y1, y2, y3⟩ := Box4.new w (.int .i64 q1) (.string (bsA q2)) (.int .i64 q3) (.int .i64 q4) 51
  have x0 := cell_below hX y0
  have x1 := cell_below hX y1
  have x2 := cell_below hX y2
  have x3 := cell_below hX y3
  have bR := Box5.new (w.alloc (Obj.cells #[Value.int IntKind.i64 q1, Value.string (bsA q2), Value.int IntKind.i64 q3, Value.int IntKind.i64 q4] 51)) (.int .i64 0) (.string ⟨#[]⟩) (.int .i64 0) (.int .i64 0) (.slice none 0 0) 26
  rw [World.size_alloc] at bR
  have HBR : Hid _ := bR
  have HXX : Hid (_ ∧ _) := And.intro x1 x2
  clear y0 y1 y2 y3 bR hA hX
  go_enter Try.func66, Try.ntmps66
  go_wp2_with fail
  refine h1.mono ?_
  rintro e w1 ⟨rfl, hb1⟩
  clear h1 x0 x1 x2 x3
  have hY : Below w1.heap.size w1 (w1.alloc (Obj.cells #[Value.int IntKind.i64 k, Value.string (bsA []), Value.int IntKind.i64 0, Value.int IntKind.i64 q4, Value.slice s l c] 26)) := (Below.refl _ _).alloc (Nat.le_refl _) _
  have z1 := cell_below hY (cell_below hb1 HXX.out.1)
  have z2 := cell_below hY (cell_below hb1 HXX.out.2)
  obtain ⟨n0, n1, n2, n3, n4, m0, m1, m2, m3, m4⟩ := Box5.new w1 (.int .i64 k) (.string (bsA [])) (.int .i64 0) (.int .i64 q4) (.slice s l c) 26
  have hY2 : Below w1.heap.size w1 (w1.alloc (Obj.cells #[Value.int IntKind.i64 k, Value.string (bsA q2), Value.int IntKind.i64 0, Value.int IntKind.i64 q4, Value.slice s l c] 26)) := (Below.refl _ _).alloc (Nat.le_refl _) _
  obtain ⟨r0, r1, r2, r3, r4, g0, g1, g2, g3, g4⟩ := (HBR.out.below hb1).below hY2
  have hB : Below w.heap.size w (w1.alloc (Obj.cells #[Value.int IntKind.i64 k, Value.string (bsA q2), Value.int IntKind.i64 0, Value.int IntKind.i64 q4, Value.slice s l c] 26)) := (hAX.trans (hb1.mono hAX.size)).trans (hY2.mono (hAX.trans (hb1.mono hAX.size)).size)
  have hs0 : ((w.alloc (Obj.cells #[Value.int IntKind.i64 q1, Value.string (bsA q2), Value.int IntKind.i64 q3, Value.int IntKind.i64 q4] 51)).alloc (Obj.cells #[Value.int IntKind.i64 0, Value.string { data := #[] }, Value.int IntKind.i64 0, Value.int IntKind.i64 0, Value.slice none 0 0] 26)).heap.size = w.heap.size + 1 + 1 := by rw [World.size_alloc, World.size_alloc]
  have hs1 : w.heap.size + 2 ≤ w1.heap.size := by have := hb1.size; omega
  have hne : w.heap.size + 1 ≠ w1.heap.size := by omega
  have hne2 : w.heap.size ≠ w1.heap.size := by omega
  clear hs0 HXX HBR hY hY2 hb1 hAX
  go_wp2
  refine bodyPost_ret (v := .agg #[.int .i64 k, .string (bsA q2), .int .i64 0, .int .i64 q4, .slice s l c]) (by simp [results, Try.results66, go_sem, r0, r1, r2, r3, r4, n0, n1, n2, n3, n4, hne]) rfl ⟨rfl, ?_⟩
  exact Bel.out (by repeat (first | exact Bel.of hB | refine Bel.setCell ?_ (by simp <;> omega) _))
theorem numberNode_any (k : Int) (t : Tt) (w : World) :
    Calls Try.prog 90 #[.int .i64 k, ttV t] w fun e w' => e = .returned (nV k [] t.1.2.2 t.2 (.slice none 0 0)) ∧ Below w.heap.size w w' := by
  obtain ⟨⟨q1, q2, q3⟩, q4⟩ := t
  have h1 := node_any k ((q1, q2, q3), q4) none 0 0 ((w.alloc (Obj.cells #[Value.int IntKind.i64 q1, Value.string (bsA q2), Value.int IntKind.i64 q3, Value.int IntKind.i64 q4] 51)).alloc (Obj.cells #[Value.int IntKind.i64 0, Value.string { data := #[] }, Value.int IntKind.i64 0, Value.int IntKind.i64 0, Value.slice none 0 0] 26))
  unfold ttV nV at h1 ⊢
  dsimp only at h1 ⊢
  have hA : Below w.heap.size w (w.alloc (Obj.cells #[Value.int IntKind.i64 q1, Value.string (bsA q2), Value.int IntKind.i64 q3, Value.int IntKind.i64 q4] 51)) := (Below.refl _ _).alloc (Nat.le_refl _) _
  have hX : Below (w.alloc (Obj.cells #[Value.int IntKind.i64 q1, Value.string (bsA q2), Value.int IntKind.i64 q3, Value.int IntKind.i64 q4] 51)).heap.size (w.alloc (Obj.cells #[Value.int IntKind.i64 q1, Value.string (bsA q2), Value.int IntKind.i64 q3, Value.int IntKind.i64 q4] 51)) ((w.alloc (Obj.cells #[Value.int IntKind.i64 q1, Value.string (bsA q2), Value.int IntKind.i64 q3, Value.int IntKind.i64 q4] 51)).alloc (Obj.cells #[Value.int IntKind.i64 0, Value.string { data := #[] }, Value.int IntKind.i64 0, Value.int IntKind.i64 0, Value.slice none 0 0] 26)) := (Below.refl _ _).alloc (Nat.le_refl _) _
  have hAX := hA.trans (hX.mono hA.size)
  obtain ⟨y0, y1, y2, y3⟩ := Box4.new w (.int .i64 q1) (.string (bsA q2)) (.int .i64 q3) (.int .i64 q4) 51
  have x0 := cell_below hX y0
  have x1 := cell_below hX y1
  have x2 := cell_below hX y2
  have x3 := cell_below hX y3
  have bR := Box5.new (w.alloc (Obj.cells #[Value.int IntKind.i64 q1, Value.string (bsA q2), Value.int IntKind.i64 q3, Value.int IntKind.i64 q4] 51)) (.int .i64 0) (.string ⟨#[]⟩) (.int .i64 0) (.int .i64 0) (.slice none 0 0) 26
  rw [World.size_alloc] at bR
  have HBR : Hid _ := bR
  have HXX : Hid (_ ∧ _) := And.intro x1 x2
  clear y0 y1 y2 y3 bR hA hX
  go_enter Try.func90, Try.ntmps90
  go_wp2_with fail
  refine h1.mono ?_
  rintro e w1 ⟨rfl, hb1⟩
  clear h1 x0 x1 x2 x3
  have hY : Below w1.heap.size w1 (w1.alloc (Obj.cells #[Value.int IntKind.i64 k, Value.string (bsA []), Value.int IntKind.i64 0, Value.int IntKind.i64 q4, Value.slice none 0 0] 26)) := (Below.refl _ _).alloc (Nat.le_refl _) _
  have z1 := cell_below hY (cell_below hb1 HXX.out.1)
  have z2 := cell_below hY (cell_below hb1 HXX.out.2)
  obtain ⟨n0, n1, n2, n3, n4, m0, m1, m2, m3, m4⟩ := Box5.new w1 (.int .i64 k) (.string (bsA [])) (.int .i64 0) (.int .i64 q4) (.slice none 0 0) 26
  have hY2 : Below w1.heap.size w1 (w1.alloc (Obj.cells #[Value.int IntKind.i64 k, Value.string (bsA []), Value.int IntKind.i64 q3, Value.int IntKind.i64 q4, Value.slice none 0 0] 26)) := (Below.refl _ _).alloc (Nat.le_refl _) _
  obtain ⟨r0, r1, r2, r3, r4, g0, g1, g2, g3, g4⟩ := (HBR.out.below hb1).below hY2
  have hB : Below w.heap.size w (w1.alloc (Obj.cells #[Value.int IntKind.i64 k, Value.string (bsA []), Value.int IntKind.i64 q3, Value.int IntKind.i64 q4, Value.slice none 0 0] 26)) := (hAX.trans (hb1.mono hAX.size)).trans (hY2.mono (hAX.trans (hb1.mono hAX.size)).size)
  have hs0 : ((w.alloc (Obj.cells #[Value.int IntKind.i64 q1, Value.string (bsA q2), Value.int IntKind.i64 q3, Value.int IntKind.i64 q4] 51)).alloc (Obj.cells #[Value.int IntKind.i64 0, Value.string { data := #[] }, Value.int IntKind.i64 0, Value.int IntKind.i64 0, Value.slice none 0 0] 26)).heap.size = w.heap.size + 1 + 1 := by rw [World.size_alloc, World.size_alloc]
  have hs1 : w.heap.size + 2 ≤ w1.heap.size := by have := hb1.size; omega
  have hne : w.heap.size + 1 ≠ w1.heap.size := by omega
  have hne2 : w.heap.size ≠ w1.heap.size := by omega
  clear hs0 HXX HBR hY hY2 hb1 hAX
  go_wp2
  refine bodyPost_ret (v := .agg #[.int .i64 k, .string (bsA []), .int .i64 q3, .int .i64 q4, .slice none 0 0]) (by simp [results, Try.results90, go_sem, r0, r1, r2, r3, r4, n0, n1, n2, n3, n4, hne]) rfl ⟨rfl, ?_⟩
  exact Bel.out (by repeat (first | exact Bel.of hB | refine Bel.setCell ?_ (by simp <;> omega) _))
end Go.Proofs.Ytcicdapccondkaa
