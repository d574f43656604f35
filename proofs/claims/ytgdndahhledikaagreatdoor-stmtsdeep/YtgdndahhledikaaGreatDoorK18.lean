/- Srn, Sxa. -/
import Derived.Test.YtgdndahhledikaaGreatDoorK14
import Derived.Test.YtgdndahhledikaaGreatDoorK02
import Derived.Test.YtgdndahhledikaaGreatDoorK17
import Derived.Test.YtgdndahhledikaaGreatDoorK07
namespace Go.Proofs.YtgdndahhledikaaGreatDoor
open Go.ChangeShapes Go.WideShapes Go.ChangeAt Go.RowKit
set_option linter.unusedSimpArgs false
set_option maxRecDepth 20000
set_option maxHeartbeats 4000000
theorem node_s (k : Int) (t : Tt) (s : Option Addr) (l c : Nat) (w : World) :
  Calls Tryz.prog 50 #[.int .i64 k, ttV t, .slice s l c] w fun e w' => e = .returned (nV k [] 0 t.2 (.slice s l c)) ∧ Below w.heap.size w w' := by
 obtain ⟨⟨q1, q2, q3⟩, q4⟩ := t
 unfold ttV nV
 dsimp only
 have hA : Below w.heap.size w (w.alloc (Obj.cells #[Value.int IntKind.i64 q1, Value.string (bsA q2), Value.int IntKind.i64 q3, Value.int IntKind.i64 q4] 26)) := (Below.refl _ _).alloc (Nat.le_refl _) _
 obtain ⟨y0, y1, y2, y3⟩ := Box4.new w (.int .i64 q1) (.string (bsA q2)) (.int .i64 q3) (.int .i64 q4) 26
 have hX : Below (w.alloc (Obj.cells #[Value.int IntKind.i64 q1, Value.string (bsA q2), Value.int IntKind.i64 q3, Value.int IntKind.i64 q4] 26)).heap.size (w.alloc (Obj.cells #[Value.int IntKind.i64 q1, Value.string (bsA q2), Value.int IntKind.i64 q3, Value.int IntKind.i64 q4] 26)) ((w.alloc (Obj.cells #[Value.int IntKind.i64 q1, Value.string (bsA q2), Value.int IntKind.i64 q3, Value.int IntKind.i64 q4] 26)).alloc (Obj.cells #[Value.int IntKind.i64 0, Value.string { data := #[] }, Value.int IntKind.i64 0, Value.int IntKind.i64 0, Value.slice none 0 0] 34)) := (Below.refl _ _).alloc (Nat.le_refl _) _
 have z3 := cell_below hX y3
 go_enter Tryz.func50, Tryz.ntmps50
 go_wp2
 refine bodyPost_ret (v := .agg #[.int .i64 k, .string ⟨#[]⟩, .int .i64 0, .int .i64 q4, .slice s l c]) (by simp [results, Tryz.results50, go_sem]) rfl ⟨rfl, ?_⟩
 exact hA.alloc hA.size _
theorem textNode_s (k : Int) (t : Tt) (s : Option Addr) (l c : Nat) (w : World) :
  Calls Tryz.prog 104 #[.int .i64 k, ttV t, .slice s l c] w fun e w' => e = .returned (nV k t.1.2.1 0 t.2 (.slice s l c)) ∧ Below w.heap.size w w' := by
 obtain ⟨⟨q1, q2, q3⟩, q4⟩ := t
 have h1 := node_s k ((q1, q2, q3), q4) s l c ((w.alloc (Obj.cells #[Value.int IntKind.i64 q1, Value.string (bsA q2), Value.int IntKind.i64 q3, Value.int IntKind.i64 q4] 26)).alloc (Obj.cells #[Value.int IntKind.i64 0, Value.string { data := #[] }, Value.int IntKind.i64 0, Value.int IntKind.i64 0, Value.slice none 0 0] 34))
 unfold ttV nV at h1 ⊢
 dsimp only at h1 ⊢
 have hA : Below w.heap.size w (w.alloc (Obj.cells #[Value.int IntKind.i64 q1, Value.string (bsA q2), Value.int IntKind.i64 q3, Value.int IntKind.i64 q4] 26)) := (Below.refl _ _).alloc (Nat.le_refl _) _
 have hX : Below (w.alloc (Obj.cells #[Value.int IntKind.i64 q1, Value.string (bsA q2), Value.int IntKind.i64 q3, Value.int IntKind.i64 q4] 26)).heap.size (w.alloc (Obj.cells #[Value.int IntKind.i64 q1, Value.string (bsA q2), Value.int IntKind.i64 q3, Value.int IntKind.i64 q4] 26)) ((w.alloc (Obj.cells #[Value.int IntKind.i64 q1, Value.string (bsA q2), Value.int IntKind.i64 q3, Value.int IntKind.i64 q4] 26)).alloc (Obj.cells #[Value.int IntKind.i64 0, Value.string { data := #[] }, Value.int IntKind.i64 0, Value.int IntKind.i64 0, Value.slice none 0 0] 34)) := (Below.refl _ _).alloc (Nat.le_refl _) _
 have hAX := hA.trans (hX.mono hA.size)
 obtain ⟨y0, y1, y2, y3⟩ := Box4.new w (.int .i64 q1) (.string (bsA q2)) (.int .i64 q3) (.int .i64 q4) 26
 have x0 := cell_below hX y0
 have x1 := cell_below hX y1
 have x2 := cell_below hX y2
 have x3 := cell_below hX y3
 have bR := Box5.new (w.alloc (Obj.cells #[Value.int IntKind.i64 q1, Value.string (bsA q2), Value.int IntKind.i64 q3, Value.int IntKind.i64 q4] 26)) (.int .i64 0) (.string ⟨#[]⟩) (.int .i64 0) (.int .i64 0) (.slice none 0 0) 34
 rw [World.size_alloc] at bR
 have HBR : Hid _ := bR
 have HXX : Hid (_ ∧ _) := And.intro x1 x2
 clear y0 y1 y2 y3 bR hA hX
 go_enter Tryz.func104, Tryz.ntmps104
 go_wp2_with fail
 refine h1.mono ?_
 rintro e w1 ⟨rfl, hb1⟩
 clear h1 x0 x1 x2 x3
 have hY : Below w1.heap.size w1 (w1.alloc (Obj.cells #[Value.int IntKind.i64 k, Value.string (bsA []), Value.int IntKind.i64 0, Value.int IntKind.i64 q4, Value.slice s l c] 34)) := (Below.refl _ _).alloc (Nat.le_refl _) _
 have z1 := cell_below hY (cell_below hb1 HXX.out.1)
 have z2 := cell_below hY (cell_below hb1 HXX.out.2)
 obtain ⟨n0, n1, n2, n3, n4, m0, m1, m2, m3, m4⟩ := Box5.new w1 (.int .i64 k) (.string (bsA [])) (.int .i64 0) (.int .i64 q4) (.slice s l c) 34
 have hY2 : Below w1.heap.size w1 (w1.alloc (Obj.cells #[Value.int IntKind.i64 k, Value.string (bsA q2), Value.int IntKind.i64 0, Value.int IntKind.i64 q4, Value.slice s l c] 34)) := (Below.refl _ _).alloc (Nat.le_refl _) _
 obtain ⟨r0, r1, r2, r3, r4, g0, g1, g2, g3, g4⟩ := (HBR.out.below hb1).below hY2
 have hB : Below w.heap.size w (w1.alloc (Obj.cells #[Value.int IntKind.i64 k, Value.string (bsA q2), Value.int IntKind.i64 0, Value.int IntKind.i64 q4, Value.slice s l c] 34)) := (hAX.trans (hb1.mono hAX.size)).trans (hY2.mono (hAX.trans (hb1.mono hAX.size)).size)
 have hs0 : ((w.alloc (Obj.cells #[Value.int IntKind.i64 q1, Value.string (bsA q2), Value.int IntKind.i64 q3, Value.int IntKind.i64 q4] 26)).alloc (Obj.cells #[Value.int IntKind.i64 0, Value.string { data := #[] }, Value.int IntKind.i64 0, Value.int IntKind.i64 0, Value.slice none 0 0] 34)).heap.size = w.heap.size + 1 + 1 := by rw [World.size_alloc, World.size_alloc]
 have hs1 : w.heap.size + 2 ≤ w1.heap.size := by have := hb1.size; omega
 have hne : w.heap.size + 1 ≠ w1.heap.size := by omega
 have hne2 : w.heap.size ≠ w1.heap.size := by omega
 clear hs0 HXX HBR hY hY2 hb1 hAX
 go_wp2
 refine bodyPost_ret (v := .agg #[.int .i64 k, .string (bsA q2), .int .i64 0, .int .i64 q4, .slice s l c]) (by simp [results, Tryz.results104, go_sem, r0, r1, r2, r3, r4, n0, n1, n2, n3, n4, hne]) rfl ⟨rfl, ?_⟩
 exact Bel.out (by repeat (first | exact Bel.of hB | refine Bel.setCell ?_ (by simp <;> omega) _))
theorem numberNode_s (k : Int) (t : Tt) (w : World) :
  Calls Tryz.prog 194 #[.int .i64 k, ttV t] w fun e w' => e = .returned (nV k [] t.1.2.2 t.2 (.slice none 0 0)) ∧ Below w.heap.size w w' := by
 obtain ⟨⟨q1, q2, q3⟩, q4⟩ := t
 have h1 := node_s k ((q1, q2, q3), q4) none 0 0 ((w.alloc (Obj.cells #[Value.int IntKind.i64 q1, Value.string (bsA q2), Value.int IntKind.i64 q3, Value.int IntKind.i64 q4] 26)).alloc (Obj.cells #[Value.int IntKind.i64 0, Value.string { data := #[] }, Value.int IntKind.i64 0, Value.int IntKind.i64 0, Value.slice none 0 0] 34))
 unfold ttV nV at h1 ⊢
 dsimp only at h1 ⊢
 have hA : Below w.heap.size w (w.alloc (Obj.cells #[Value.int IntKind.i64 q1, Value.string (bsA q2), Value.int IntKind.i64 q3, Value.int IntKind.i64 q4] 26)) := (Below.refl _ _).alloc (Nat.le_refl _) _
 have hX : Below (w.alloc (Obj.cells #[Value.int IntKind.i64 q1, Value.string (bsA q2), Value.int IntKind.i64 q3, Value.int IntKind.i64 q4] 26)).heap.size (w.alloc (Obj.cells #[Value.int IntKind.i64 q1, Value.string (bsA q2), Value.int IntKind.i64 q3, Value.int IntKind.i64 q4] 26)) ((w.alloc (Obj.cells #[Value.int IntKind.i64 q1, Value.string (bsA q2), Value.int IntKind.i64 q3, Value.int IntKind.i64 q4] 26)).alloc (Obj.cells #[Value.int IntKind.i64 0, Value.string { data := #[] }, Value.int IntKind.i64 0, Value.int IntKind.i64 0, Value.slice none 0 0] 34)) := (Below.refl _ _).alloc (Nat.le_refl _) _
 have hAX := hA.trans (hX.mono hA.size)
 obtain ⟨y0, y1, y2, y3⟩ := Box4.new w (.int .i64 q1) (.string (bsA q2)) (.int .i64 q3) (.int .i64 q4) 26
 have x0 := cell_below hX y0
 have x1 := cell_below hX y1
 have x2 := cell_below hX y2
 have x3 := cell_below hX y3
 have bR := Box5.new (w.alloc (Obj.cells #[Value.int IntKind.i64 q1, Value.string (bsA q2), Value.int IntKind.i64 q3, Value.int IntKind.i64 q4] 26)) (.int .i64 0) (.string ⟨#[]⟩) (.int .i64 0) (.int .i64 0) (.slice none 0 0) 34
 rw [World.size_alloc] at bR
 have HBR : Hid _ := bR
 have HXX : Hid (_ ∧ _) := And.intro x1 x2
 clear y0 y1 y2 y3 bR hA hX
 go_enter Tryz.func194, Tryz.ntmps194
 go_wp2_with fail
 refine h1.mono ?_
 rintro e w1 ⟨rfl, hb1⟩
 clear h1 x0 x1 x2 x3
 have hY : Below w1.heap.size w1 (w1.alloc (Obj.cells #[Value.int IntKind.i64 k, Value.string (bsA []), Value.int IntKind.i64 0, Value.int IntKind.i64 q4, Value.slice none 0 0] 34)) := (Below.refl _ _).alloc (Nat.le_refl _) _
 have z1 := cell_below hY (cell_below hb1 HXX.out.1)
 have z2 := cell_below hY (cell_below hb1 HXX.out.2)
 obtain ⟨n0, n1, n2, n3, n4, m0, m1, m2, m3, m4⟩ := Box5.new w1 (.int .i64 k) (.string (bsA [])) (.int .i64 0) (.int .i64 q4) (.slice none 0 0) 34
 have hY2 : Below w1.heap.size w1 (w1.alloc (Obj.cells #[Value.int IntKind.i64 k, Value.string (bsA []), Value.int IntKind.i64 q3, Value.int IntKind.i64 q4, Value.slice none 0 0] 34)) := (Below.refl _ _).alloc (Nat.le_refl _) _
 obtain ⟨r0, r1, r2, r3, r4, g0, g1, g2, g3, g4⟩ := (HBR.out.below hb1).below hY2
 have hB : Below w.heap.size w (w1.alloc (Obj.cells #[Value.int IntKind.i64 k, Value.string (bsA []), Value.int IntKind.i64 q3, Value.int IntKind.i64 q4, Value.slice none 0 0] 34)) := (hAX.trans (hb1.mono hAX.size)).trans (hY2.mono (hAX.trans (hb1.mono hAX.size)).size)
 have hs0 : ((w.alloc (Obj.cells #[Value.int IntKind.i64 q1, Value.string (bsA q2), Value.int IntKind.i64 q3, Value.int IntKind.i64 q4] 26)).alloc (Obj.cells #[Value.int IntKind.i64 0, Value.string { data := #[] }, Value.int IntKind.i64 0, Value.int IntKind.i64 0, Value.slice none 0 0] 34)).heap.size = w.heap.size + 1 + 1 := by rw [World.size_alloc, World.size_alloc]
 have hs1 : w.heap.size + 2 ≤ w1.heap.size := by have := hb1.size; omega
 have hne : w.heap.size + 1 ≠ w1.heap.size := by omega
 have hne2 : w.heap.size ≠ w1.heap.size := by omega
 clear hs0 HXX HBR hY hY2 hb1 hAX
 go_wp2
 refine bodyPost_ret (v := .agg #[.int .i64 k, .string (bsA []), .int .i64 q3, .int .i64 q4, .slice none 0 0]) (by simp [results, Tryz.results194, go_sem, r0, r1, r2, r3, r4, n0, n1, n2, n3, n4, hne]) rfl ⟨rfl, ?_⟩
 exact Bel.out (by repeat (first | exact Bel.of hB | refine Bel.setCell ?_ (by simp <;> omega) _))
theorem unit_s (tt : List UInt8) (t : Tt) (w : World) :
  Calls Tryz.prog 121 #[.string (bsA tt), ttV t] w fun e w' => e = .returned (nV 15 tt 0 t.2 (.slice none 0 0)) ∧ Below w.heap.size w w' := by
 obtain ⟨⟨q1, q2, q3⟩, q4⟩ := t
 have h1 := node_s 15 ((q1, q2, q3), q4) none 0 0 ((w.alloc (Obj.cells #[Value.int IntKind.i64 q1, Value.string (bsA q2), Value.int IntKind.i64 q3, Value.int IntKind.i64 q4] 26)).alloc (Obj.cells #[Value.int IntKind.i64 0, Value.string { data := #[] }, Value.int IntKind.i64 0, Value.int IntKind.i64 0, Value.slice none 0 0] 34))
 unfold ttV nV at h1 ⊢
 dsimp only at h1 ⊢
 have hA : Below w.heap.size w (w.alloc (Obj.cells #[Value.int IntKind.i64 q1, Value.string (bsA q2), Value.int IntKind.i64 q3, Value.int IntKind.i64 q4] 26)) := (Below.refl _ _).alloc (Nat.le_refl _) _
 have hX : Below (w.alloc (Obj.cells #[Value.int IntKind.i64 q1, Value.string (bsA q2), Value.int IntKind.i64 q3, Value.int IntKind.i64 q4] 26)).heap.size (w.alloc (Obj.cells #[Value.int IntKind.i64 q1, Value.string (bsA q2), Value.int IntKind.i64 q3, Value.int IntKind.i64 q4] 26)) ((w.alloc (Obj.cells #[Value.int IntKind.i64 q1, Value.string (bsA q2), Value.int IntKind.i64 q3, Value.int IntKind.i64 q4] 26)).alloc (Obj.cells #[Value.int IntKind.i64 0, Value.string { data := #[] }, Value.int IntKind.i64 0, Value.int IntKind.i64 0, Value.slice none 0 0] 34)) := (Below.refl _ _).alloc (Nat.le_refl _) _
 have hAX := hA.trans (hX.mono hA.size)
 obtain ⟨y0, y1, y2, y3⟩ := Box4.new w (.int .i64 q1) (.string (bsA q2)) (.int .i64 q3) (.int .i64 q4) 26
 have x0 := cell_below hX y0
 have x1 := cell_below hX y1
 have x2 := cell_below hX y2
 have x3 := cell_below hX y3
 have bR := Box5.new (w.alloc (Obj.cells #[Value.int IntKind.i64 q1, Value.string (bsA q2), Value.int IntKind.i64 q3, Value.int IntKind.i64 q4] 26)) (.int .i64 0) (.string ⟨#[]⟩) (.int .i64 0) (.int .i64 0) (.slice none 0 0) 34
 rw [World.size_alloc] at bR
 have HBR : Hid _ := bR
 have HXX : Hid (_ ∧ _) := And.intro x1 x2
 clear y0 y1 y2 y3 bR hA hX
 go_enter Tryz.func121, Tryz.ntmps121
 go_wp2_with fail
 refine h1.mono ?_
 rintro e w1 ⟨rfl, hb1⟩
 clear h1 x0 x1 x2 x3
 have hY : Below w1.heap.size w1 (w1.alloc (Obj.cells #[Value.int IntKind.i64 15, Value.string (bsA []), Value.int IntKind.i64 0, Value.int IntKind.i64 q4, Value.slice none 0 0] 34)) := (Below.refl _ _).alloc (Nat.le_refl _) _
 have z1 := cell_below hY (cell_below hb1 HXX.out.1)
 have z2 := cell_below hY (cell_below hb1 HXX.out.2)
 obtain ⟨n0, n1, n2, n3, n4, m0, m1, m2, m3, m4⟩ := Box5.new w1 (.int .i64 15) (.string (bsA [])) (.int .i64 0) (.int .i64 q4) (.slice none 0 0) 34
 have hY2 : Below w1.heap.size w1 (w1.alloc (Obj.cells #[Value.int IntKind.i64 15, Value.string (bsA tt), Value.int IntKind.i64 0, Value.int IntKind.i64 q4, Value.slice none 0 0] 34)) := (Below.refl _ _).alloc (Nat.le_refl _) _
 obtain ⟨r0, r1, r2, r3, r4, g0, g1, g2, g3, g4⟩ := (HBR.out.below hb1).below hY2
 have hB : Below w.heap.size w (w1.alloc (Obj.cells #[Value.int IntKind.i64 15, Value.string (bsA tt), Value.int IntKind.i64 0, Value.int IntKind.i64 q4, Value.slice none 0 0] 34)) := (hAX.trans (hb1.mono hAX.size)).trans (hY2.mono (hAX.trans (hb1.mono hAX.size)).size)
 have hs0 : ((w.alloc (Obj.cells #[Value.int IntKind.i64 q1, Value.string (bsA q2), Value.int IntKind.i64 q3, Value.int IntKind.i64 q4] 26)).alloc (Obj.cells #[Value.int IntKind.i64 0, Value.string { data := #[] }, Value.int IntKind.i64 0, Value.int IntKind.i64 0, Value.slice none 0 0] 34)).heap.size = w.heap.size + 1 + 1 := by rw [World.size_alloc, World.size_alloc]
 have hs1 : w.heap.size + 2 ≤ w1.heap.size := by have := hb1.size; omega
 have hne : w.heap.size + 1 ≠ w1.heap.size := by omega
 have hne2 : w.heap.size ≠ w1.heap.size := by omega
 clear hs0 HXX HBR hY hY2 hb1 hAX
 go_wp2
 refine bodyPost_ret (v := .agg #[.int .i64 15, .string (bsA tt), .int .i64 0, .int .i64 q4, .slice none 0 0]) (by simp [results, Tryz.results121, go_sem, r0, r1, r2, r3, r4, n0, n1, n2, n3, n4, hne]) rfl ⟨rfl, ?_⟩
 exact Bel.out (by repeat (first | exact Bel.of hB | refine Bel.setCell ?_ (by simp <;> omega) _))
theorem none_s (w : World) : Calls Tryz.prog 113 #[] w fun e w' => e = .returned (nV 20 [] 0 0 (.slice none 0 0)) ∧ Below w.heap.size w w' := by
 unfold nV
 go_enter Tryz.func113, Tryz.ntmps113
 go_wp2
 refine bodyPost_ret (v := .agg #[.int .i64 20, .string ⟨#[]⟩, .int .i64 0, .int .i64 0, .slice none 0 0]) (by simp [results, Tryz.results113, go_sem]) rfl ⟨rfl, ?_⟩
 exact (Below.refl _ _).alloc (Nat.le_refl _) _
end Go.Proofs.YtgdndahhledikaaGreatDoor
namespace Go.Proofs.YtgdndahhledikaaGreatDoor
open Go.ChangeShapes Go.WideShapes Go.ChangeAt Go.RowKit
set_option linter.unusedSimpArgs false
set_option maxRecDepth 20000
set_option maxHeartbeats 4000000
def hX (k : Int) (t : List UInt8) (m a : Int) : X → X
 | ⟨0, e⟩ => ⟨0, e⟩
 | ⟨n + 1, x⟩ => ⟨n + 1, (k, t, m, a, ks (n + 1) x)⟩
theorem hX_at {lo : Nat} {w : World} {s : Option Addr} (k : Int) (t : List UInt8) (m a : Int) : ∀ (x : X), XAt lo w x s → XAt lo w (hX k t m a x) s
 | ⟨0, e⟩, _ => Empty.elim e
 | ⟨_ + 1, _⟩, h => h
theorem hX_V (k : Int) (t : List UInt8) (m a : Int) (s : Option Addr) (c : Nat) : ∀ (x : X), nV k t m a (.slice s (xl x) c) = xV (hX k t m a x) s c
 | ⟨0, e⟩ => Empty.elim e
 | ⟨_ + 1, _⟩ => rfl
theorem St.head {rb : Nat} {ta : Option Addr} {cap : Nat} {T : List Tt} {w0 : World} {B : Bxs} {K : List (X × Option Addr)} {i op : Nat} {w : World} {x : X} {s : Option Addr} (h : St rb ta cap T w0 B K i op w) (hk : (x, s) ∈ K) (k : Int) (t : List UInt8) (m a : Int) : St rb ta cap T w0 B ((hX k t m a x, s) :: K) i op w :=
 ⟨h.fx, h.rdr, h.box, h.nd, fun p hp => by
  rcases List.mem_cons.1 hp with rfl | hp
  · exact fun w' hs => hX_at k t m a x (h.kid _ hk w' hs)
  · exact h.kid p hp, h.lt⟩
theorem St.treeL {rb : Nat} {ta : Option Addr} {cap : Nat} {T : List Tt} {w0 : World} {B : Bxs} {K : List (X × Option Addr)} {i op : Nat} {w : World} {j op' : Nat} {w' : World} {g c : Nat} {A : List Xp} (h : St rb ta cap T w0 B K i op w) (hf : Fx rb w w') (hr : Rdr w' rb ta cap T j op') (hO : OwX rb w.heap.size w' g c A) (k : Int) (t : List UInt8) (m a : Int) : St rb ta cap T w0 B ((mkX k t m a (A.map (·.1)), some ⟨g, 0, none⟩) :: K) j op' w' := by
 have hlt := h.lt
 have hs := h.fx.size
 have hg := hO.lt
 refine h.tree hf hr ?_
 exact hO.tree (zb := rb) k t m a (by omega) (hO.apart (by omega) (Nat.le_refl _) (by omega)) (by omega) w' (fun _ _ _ _ => rfl)
theorem St.sub {rb : Nat} {ta : Option Addr} {cap : Nat} {T : List Tt} {w0 : World} {B : Bxs} {K : List (X × Option Addr)} {i op : Nat} {w : World} {K' : List (X × Option Addr)} (h : St rb ta cap T w0 B K i op w) (hs : ∀ p ∈ K', p ∈ K) : St rb ta cap T w0 B K' i op w := ⟨h.fx, h.rdr, h.box, h.nd, fun p hp => h.kid p (hs p hp), h.lt⟩
theorem field26_1 (k : Int) (t : List UInt8) (m a : Int) (w : World) : (Instr.field 26 (.agg #[.int .i64 k, .string (bsA t), .int .i64 m, .int .i64 a]) 1).run Tryz.prog w = .ok (.string (bsA t)) w := by kernel_rfl
theorem field26_2 (k : Int) (t : List UInt8) (m a : Int) (w : World) : (Instr.field 26 (.agg #[.int .i64 k, .string (bsA t), .int .i64 m, .int .i64 a]) 2).run Tryz.prog w = .ok (.int .i64 m) w := by kernel_rfl
abbrev z5 : List Value := [.int .i64 0, .string ⟨#[]⟩, .int .i64 0, .int .i64 0, .slice none 0 0]
abbrev o5 : Obj := .cells #[.int .i64 0, .string ⟨#[]⟩, .int .i64 0, .int .i64 0, .slice none 0 0] 34
abbrev z4 : List Value := [.int .i64 0, .string ⟨#[]⟩, .int .i64 0, .int .i64 0]
abbrev o4 : Obj := .cells #[.int .i64 0, .string ⟨#[]⟩, .int .i64 0, .int .i64 0] 26
abbrev nL (k : Int) (t : List UInt8) (m a : Int) (v : Value) : List Value := [.int .i64 k, .string (bsA t), .int .i64 m, .int .i64 a, v]
abbrev nO (k : Int) (t : List UInt8) (m a : Int) (v : Value) : Obj := .cells #[.int .i64 k, .string (bsA t), .int .i64 m, .int .i64 a, v] 34
abbrev xL (x : X) (s : Option Addr) (c : Nat) : List Value := [.int .i64 (xk x), .string (bsA (xt x)), .int .i64 (xn x), .int .i64 (xa x), .slice s (xl x) c]
abbrev xO (x : X) (s : Option Addr) (c : Nat) : Obj := .cells #[.int .i64 (xk x), .string (bsA (xt x)), .int .i64 (xn x), .int .i64 (xa x), .slice s (xl x) c] 34
abbrev tL (a : Int) (b : List UInt8) (c d : Int) : List Value := [.int .i64 a, .string (bsA b), .int .i64 c, .int .i64 d]
abbrev tO (a : Int) (b : List UInt8) (c d : Int) : Obj := .cells #[.int .i64 a, .string (bsA b), .int .i64 c, .int .i64 d] 26
theorem St.newO {rb : Nat} {ta : Option Addr} {cap : Nat} {T : List Tt} {w0 : World} {B : Bxs} {K : List (X × Option Addr)} {i op : Nat} {w : World} (h : St rb ta cap T w0 B K i op w) {cs : Array Value} {ty : TypeId} (vs : List Value) (hcs : cs.toList = vs := by rfl) : St rb ta cap T w0 ((w.heap.size, vs) :: B) K i op (w.alloc (.cells cs ty)) := h.new cs ty vs hcs
theorem St.newO1 {rb : Nat} {ta : Option Addr} {cap : Nat} {T : List Tt} {w0 : World} {B : Bxs} {K : List (X × Option Addr)} {i op : Nat} {w : World} {o : Obj} (h : St rb ta cap T w0 B K i op (w.alloc o)) {cs : Array Value} {ty : TypeId} (vs : List Value) (hcs : cs.toList = vs := by rfl) : St rb ta cap T w0 ((w.heap.size + 1, vs) :: B) K i op ((w.alloc o).alloc (.cells cs ty)) := by
 have h1 := h.new cs ty vs hcs
 rw [World.size_alloc] at h1
 exact h1
theorem St.c5 {rb : Nat} {ta : Option Addr} {cap : Nat} {T : List Tt} {w0 : World} {B : Bxs} {K : List (X × Option Addr)} {i op : Nat} {w : World} (h : St rb ta cap T w0 B K i op w) {b : Nat} {v0 v1 v2 v3 v4 : Value} (hb : (b, [v0, v1, v2, v3, v4]) ∈ B) : w.cell? ⟨b, 0, none⟩ = some v0 ∧ w.cell? ⟨b, 1, none⟩ = some v1 ∧ w.cell? ⟨b, 2, none⟩ = some v2 ∧ w.cell? ⟨b, 3, none⟩ = some v3 ∧ w.cell? ⟨b, 4, none⟩ = some v4 := ⟨h.get hb 0 rfl, h.get hb 1 rfl, h.get hb 2 rfl, h.get hb 3 rfl, h.get hb 4 rfl⟩
theorem St.c4 {rb : Nat} {ta : Option Addr} {cap : Nat} {T : List Tt} {w0 : World} {B : Bxs} {K : List (X × Option Addr)} {i op : Nat} {w : World} (h : St rb ta cap T w0 B K i op w) {b : Nat} {v0 v1 v2 v3 : Value} (hb : (b, [v0, v1, v2, v3]) ∈ B) : w.cell? ⟨b, 0, none⟩ = some v0 ∧ w.cell? ⟨b, 1, none⟩ = some v1 ∧ w.cell? ⟨b, 2, none⟩ = some v2 ∧ w.cell? ⟨b, 3, none⟩ = some v3 := ⟨h.get hb 0 rfl, h.get hb 1 rfl, h.get hb 2 rfl, h.get hb 3 rfl⟩
theorem St.f5 {rb : Nat} {ta : Option Addr} {cap : Nat} {T : List Tt} {w0 : World} {B : Bxs} {K : List (X × Option Addr)} {i op : Nat} {w : World} (h : St rb ta cap T w0 B K i op w) {b : Nat} {vs : List Value} (hb : (b, vs) ∈ B) : w.frozen? ⟨b, 0, none⟩ = false ∧ w.frozen? ⟨b, 1, none⟩ = false ∧ w.frozen? ⟨b, 2, none⟩ = false ∧ w.frozen? ⟨b, 3, none⟩ = false ∧ w.frozen? ⟨b, 4, none⟩ = false := ⟨h.fr hb 0, h.fr hb 1, h.fr hb 2, h.fr hb 3, h.fr hb 4⟩
theorem St.fin5 {rb : Nat} {ta : Option Addr} {cap : Nat} {T : List Tt} {w0 : World} (B1 : Bxs) {B2 : Bxs} {b : Nat} {u0 u1 u2 u3 u4 : Value} {K : List (X × Option Addr)} {i op : Nat} {w : World} (h : St rb ta cap T w0 (B1 ++ (b, [u0, u1, u2, u3, u4]) :: B2) K i op w) {v0 v1 v2 v3 v4 : Value} {x : X} {s : Option Addr} {c : Nat} {r : Sum Er (X × Nat)} (hl : okR x i = some r) (hk : (x, s) ∈ K) (hv : .agg #[v0, v1, v2, v3, v4] = xV x s c) :
  (w.cell? ⟨b, 0, none⟩ = some u0 ∧ w.cell? ⟨b, 1, none⟩ = some u1 ∧ w.cell? ⟨b, 2, none⟩ = some u2 ∧ w.cell? ⟨b, 3, none⟩ = some u3 ∧ w.cell? ⟨b, 4, none⟩ = some u4) ∧ (w.frozen? ⟨b, 0, none⟩ = false ∧ w.frozen? ⟨b, 1, none⟩ = false ∧ w.frozen? ⟨b, 2, none⟩ = false ∧ w.frozen? ⟨b, 3, none⟩ = false ∧ w.frozen? ⟨b, 4, none⟩ = false) ∧
  (∀ w', w' = ((((w.setCell ⟨b, 0, none⟩ v0).setCell ⟨b, 1, none⟩ v1).setCell ⟨b, 2, none⟩ v2).setCell ⟨b, 3, none⟩ v3).setCell ⟨b, 4, none⟩ v4 → (w'.cell? ⟨b, 0, none⟩ = some v0 ∧ w'.cell? ⟨b, 1, none⟩ = some v1 ∧ w'.cell? ⟨b, 2, none⟩ = some v2 ∧ w'.cell? ⟨b, 3, none⟩ = some v3 ∧ w'.cell? ⟨b, 4, none⟩ = some v4) ∧ Hid (SPost VX rb ta cap T op w0 r (.returned (.agg #[v0, v1, v2, v3, v4])) w')) := by
 have hm : (b, [u0, u1, u2, u3, u4]) ∈ B1 ++ (b, [u0, u1, u2, u3, u4]) :: B2 := by simp
 refine ⟨h.c5 hm, h.f5 hm, ?_⟩
 rintro w' rfl
 have h5 := St.put B1 (St.put B1 (St.put B1 (St.put B1 (St.put B1 h 0 v0) 1 v1) 2 v2) 3 v3) 4 v4
 refine ⟨h5.c5 (by simp), ?_⟩
 rw [okR_eq hl]
 exact h5.done hk c hv
theorem St.bad2 {α β : Type} {rb : Nat} {ta : Option Addr} {cap : Nat} {T : List Tt} {w0 : World} {B : Bxs} {K : List (X × Option Addr)} {i op : Nat} {w : World} {V : World → World → α → Value → Prop} {V' : World → World → β → Value → Prop} {w' : World} {q : Er} {e : Ending} {op' op'' : Nat} {f : β → Nat → Rz α} {r : Sum Er (α × Nat)} (h : St rb ta cap T w0 B K i op w) (hl : bnd (some (.inl q)) f = some r) (hp : SPost V' rb ta cap T op'' w (.inl q) e w') : GUs q.1 q.2 e ∧ Hid (SPost V rb ta cap T op' w0 r e w') := ⟨hp.no.1, by rw [bnd_no hl]; exact h.err hp.no.2 hp.no.1⟩
theorem St.okX {rb : Nat} {ta : Option Addr} {cap : Nat} {T : List Tt} {w0 : World} {B : Bxs} {K : List (X × Option Addr)} {i op : Nat} {w : World} {w' : World} {x : X} {j op'' : Nat} {e : Ending} (h : St rb ta cap T w0 B K i op w) (hp : SPost VX rb ta cap T op'' w (.inr (x, j)) e w') : ∃ s c, e = .returned (xV x s c) ∧ Hid (St rb ta cap T w0 B ((x, s) :: K) j op'' w') := by
 obtain ⟨⟨⟨v, rfl, s, c, rfl, hx⟩, hr⟩, hf⟩ := hp.ok
 exact ⟨s, c, rfl, h.tree hf hr hx⟩
theorem St.okT {rb : Nat} {ta : Option Addr} {cap : Nat} {T : List Tt} {w0 : World} {B : Bxs} {K : List (X × Option Addr)} {i op : Nat} {w : World} {w' : World} {t : Tt} {j op'' : Nat} {e : Ending} (h : St rb ta cap T w0 B K i op w) (hp : SPost VT rb ta cap T op'' w (.inr (t, j)) e w') : e = .returned (ttV t) ∧ Hid (St rb ta cap T w0 B K j op'' w') := by
 obtain ⟨⟨⟨v, rfl, rfl⟩, hr⟩, hf⟩ := hp.ok
 exact ⟨rfl, h.call hf hr⟩
theorem St.okB {rb : Nat} {ta : Option Addr} {cap : Nat} {T : List Tt} {w0 : World} {B : Bxs} {K : List (X × Option Addr)} {i op : Nat} {w : World} {w' : World} {t : Bool} {j op'' : Nat} {e : Ending} (h : St rb ta cap T w0 B K i op w) (hp : SPost VB rb ta cap T op'' w (.inr (t, j)) e w') : e = .returned (.bool t) ∧ Hid (St rb ta cap T w0 B K j op'' w') := by
 obtain ⟨⟨⟨v, rfl, rfl⟩, hr⟩, hf⟩ := hp.ok
 exact ⟨rfl, h.call hf hr⟩
theorem St.okI {rb : Nat} {ta : Option Addr} {cap : Nat} {T : List Tt} {w0 : World} {B : Bxs} {K : List (X × Option Addr)} {i op : Nat} {w : World} {w' : World} {t : Int} {j op'' : Nat} {e : Ending} (h : St rb ta cap T w0 B K i op w) (hp : SPost VI rb ta cap T op'' w (.inr (t, j)) e w') : e = .returned (.int .i64 t) ∧ Hid (St rb ta cap T w0 B K j op'' w') := by
 obtain ⟨⟨⟨v, rfl, rfl⟩, hr⟩, hf⟩ := hp.ok
 exact ⟨rfl, h.call hf hr⟩
theorem St.okS {rb : Nat} {ta : Option Addr} {cap : Nat} {T : List Tt} {w0 : World} {B : Bxs} {K : List (X × Option Addr)} {i op : Nat} {w : World} {w' : World} {t : List UInt8} {j op'' : Nat} {e : Ending} (h : St rb ta cap T w0 B K i op w) (hp : SPost VS rb ta cap T op'' w (.inr (t, j)) e w') : e = .returned (.string (bsA t)) ∧ Hid (St rb ta cap T w0 B K j op'' w') := by
 obtain ⟨⟨⟨v, rfl, rfl⟩, hr⟩, hf⟩ := hp.ok
 exact ⟨rfl, h.call hf hr⟩
theorem St.okL {rb : Nat} {ta : Option Addr} {cap : Nat} {T : List Tt} {w0 : World} {B : Bxs} {K : List (X × Option Addr)} {i op : Nat} {w : World} {w' : World} {l : List X} {j op'' : Nat} {e : Ending} (h : St rb ta cap T w0 B K i op w) (hp : SPost (VL rb) rb ta cap T op'' w (.inr (l, j)) e w') (k : Int) (t : List UInt8) (m a : Int) : ∃ g c n, e = .returned (.slice (some ⟨g, 0, none⟩) n c) ∧ Hid (l.length = n) ∧ Hid (St rb ta cap T w0 B ((mkX k t m a l, some ⟨g, 0, none⟩) :: K) j op'' w') := by
 obtain ⟨⟨⟨v, rfl, g, c, A, rfl, hA, hO⟩, hr⟩, hf⟩ := hp.ok
 dsimp only at hA hr hO
 subst hA
 exact ⟨g, c, A.length, rfl, List.length_map _, h.treeL hf hr hO k t m a⟩
def pasP (T : List Tt) (k : Int) (t : List UInt8) (i : Nat) : Rz Bool := if isT (tkI T i) k [t] then okR true (i + 1) else okR false i
def nX : X := mkX 20 [] 0 0 []
def nameP (T : List Tt) (i : Nat) : Rz X := bnd (idP T i) fun t j => okR (mkX 15 t.1.2.1 0 t.2 []) j
def asP (T : List Tt) (i : Nat) : Rz X := bnd (pasP T 2 [97, 115] i) fun b j => if b then bnd (nameP T j) fun x j => okR x j else okR (mkX 20 [] 0 0 []) j
def filtP (T : List Tt) (E : Nat → Rz X) (i : Nat) : Rz X := bnd (pasP T 6 [40] i) fun b j => if b then bnd (E j) fun x j => bnd (needP T 6 [41] j) fun _ j => okR x j else okR (mkX 20 [] 0 0 []) j
def clauP (T : List Tt) (E : Nat → Rz X) (t : List UInt8) (i : Nat) : Rz X := bnd (pasP T 2 t i) fun b j => if b then bnd (E j) fun x j => okR x j else okR (mkX 20 [] 0 0 []) j
def itemP (T : List Tt) (E : Nat → Rz X) (i : Nat) : Rz X := bnd (E i) fun x j => bnd (pasP T 2 [97, 115] j) fun b j => if b then bnd (idP T j) fun t j => okR (mkX 21 t.1.2.1 0 (tkI T i).2 [x]) j else okR (mkX 21 [] 0 (tkI T i).2 [x]) j
def ordP (T : List Tt) (E : Nat → Rz X) (i : Nat) : Rz X := bnd (E i) fun x j => bnd (pasP T 2 [100, 101, 115, 99] j) fun b j => if b then okR (mkX 25 [] 1 (tkI T i).2 [x]) j else bnd (pasP T 1 [97, 115, 99] j) fun _ j => okR (mkX 25 [] 0 (tkI T i).2 [x]) j
def plvP (T : List Tt) (i : Nat) : Rz X := if i < T.length then okR (mkX 23 (tkI T i).1.2.1 0 (tkI T i).2 []) (i + 1) else none
def lenP (T : List Tt) (i : Nat) : Rz X := bnd (plvP T i) fun x j => bnd (needP T 6 [40] j) fun _ j => bnd (nbP T 3 1 65536 j) fun t j => bnd (needP T 6 [41] j) fun _ j => okR (mkX (xk x) (xt x) (xn x) (xa x) [mkX 3 [] t.1.2.2 t.2 []]) j
end Go.Proofs.YtgdndahhledikaaGreatDoor
