/- The document's own text of a token, of tokens (its Show). -/
import Derived.Test.YthhbeejfnpcbhaaGreatDoorRLx
import Derived.Test.YthhbeejfnpcbhaaGreatDoorRSs
import Derived.Test.YthhbeejfnpcbhaaGreatDoorShl
namespace Go.Proofs.YthhbeejfnpcbhaaGreatDoor
open Go.ChangeShapes Go.WideShapes Go.ChangeAt Go.RowKit

theorem ret_tb {y : ByteArray} {a b : Bool} (h : a = b) : Ending.returned (.tuple #[.string y, .bool a]) = .returned (.tuple #[.string y, .bool b]) := by rw [h]
theorem no_of {a : Bool} {P : Prop} (h : false = a) : a = true → P := fun e => by rw [← h] at e; cases e
set_option maxRecDepth 20000 in
set_option maxHeartbeats 4000000 in
theorem rsh_x (k : Int) (x : List UInt8) (n a : Int) (w : World) (h3 : (k == 3) = false) (h4 : (k == 4) = false) (h5 : (k == 5) = false) (h7 : (k == 7) = false) (hS : (x).length ≤ 104857600) : Calls Tryz.prog 26 #[.agg #[.int .i64 k, .string (bsA x), .int .i64 n, .int .i64 a]] w fun e w' => (∃ y, e = .returned (.tuple #[.string y, .bool (sayP (x) (k, x, n))]) ∧ (sayP (x) (k, x, n) = true → y = bsA (x))) ∧ Below w.heap.size w w' := by
  have hX := fun W => RLex_any (x) W hS
  unfold sayP
  generalize lx (x) 0 = D at hX ⊢
  obtain ⟨r, p, er⟩ := D
  dsimp only
  have hg := hg37
  by_cases he : er = 0
  · subst he
    by_cases h1n : r.length = 1
    · match r, h1n with
      | [u], _ =>
        have hq := fun wx => eq37 u ((k, x, n), 0) wx
        have HN : Hid (decide (u = ((k, x, n), (0 : Int))) = decide ((0 : Int) = 0 ∧ [u] = [((k, x, n), (0 : Int))])) := by show _ = _; simp
        generalize decide (u = ((k, x, n), (0 : Int))) = p1 at hq HN
        have HB : Hid (Box (w.alloc (Obj.cells #[Value.int IntKind.i64 k, Value.string (bsA x), Value.int IntKind.i64 n, Value.int IntKind.i64 a] 37)) w.heap.size (.int .i64 k) (.string (bsA x)) (.int .i64 n) (.int .i64 a)) := Box.new w _ _ _ _
        have HW : Hid (Below w.heap.size w (w.alloc (Obj.cells #[Value.int IntKind.i64 k, Value.string (bsA x), Value.int IntKind.i64 n, Value.int IntKind.i64 a] 37))) := (Below.refl _ _).alloc (Nat.le_refl _) _
        have hbw : Hid (w.heap.size < (w.alloc (Obj.cells #[Value.int IntKind.i64 k, Value.string (bsA x), Value.int IntKind.i64 n, Value.int IntKind.i64 a] 37)).heap.size) := by show _ < _; rw [World.size_alloc]; omega
        go_enter Tryz.func26, Tryz.ntmps26
        go_wp2_with fail
        refine (hX _).mono ?_
        rintro e w2 ⟨hp, hb2⟩
        have bo2 := HB.out.below hb2
        have hB2 : Below w.heap.size w w2 := HW.out.trans (hb2.mono HW.out.size)
        clear hX HB HW
        unfold LexPost at hp
        rw [if_neg (by simp)] at hp
        obtain ⟨a1, cap, rfl, hta, hga, _⟩ := hp
        rcases hta with h0 | ⟨b, off, rfl, hc⟩
        · cases h0
        obtain ⟨c0, c1, c2, c3⟩ := hc 0 u rfl
        have hbn : w.heap.size < b := by have := hga b off rfl; have := hbw.out; omega
        simp only [Nat.zero_mul, Nat.add_zero] at c0 c1 c2 c3
        obtain ⟨y0, y1, y2, y3, f0, f1, f2, f3⟩ := bo2
        have hB3 : Below w.heap.size w (w2.setCell ⟨w.heap.size, 3, none⟩ (.int .i64 0)) := hB2.setCell (p := ⟨w.heap.size, 3, none⟩) (Nat.le_refl _) _
        have n0 : (w2.setCell ⟨w.heap.size, 3, none⟩ (.int .i64 0)).cell? ⟨b, off, none⟩ = some (.int .i64 u.1.1) := by rw [World.cell?_setCell_far _ _ _ _ (by show w.heap.size ≠ b; omega)]; exact c0
        have n1 : (w2.setCell ⟨w.heap.size, 3, none⟩ (.int .i64 0)).cell? ⟨b, off + 1, none⟩ = some (.string (bsA u.1.2.1)) := by rw [World.cell?_setCell_far _ _ _ _ (by show w.heap.size ≠ b; omega)]; exact c1
        have n2 : (w2.setCell ⟨w.heap.size, 3, none⟩ (.int .i64 0)).cell? ⟨b, off + 2, none⟩ = some (.int .i64 u.1.2.2) := by rw [World.cell?_setCell_far _ _ _ _ (by show w.heap.size ≠ b; omega)]; exact c2
        have n3 : (w2.setCell ⟨w.heap.size, 3, none⟩ (.int .i64 0)).cell? ⟨b, off + 3, none⟩ = some (.int .i64 u.2) := by rw [World.cell?_setCell_far _ _ _ _ (by show w.heap.size ≠ b; omega)]; exact c3
        have x0 : (w2.setCell ⟨w.heap.size, 3, none⟩ (.int .i64 0)).cell? ⟨w.heap.size, 0, none⟩ = some (.int .i64 k) := by simp [go_sem, y0]
        have x1 : (w2.setCell ⟨w.heap.size, 3, none⟩ (.int .i64 0)).cell? ⟨w.heap.size, 1, none⟩ = some (.string (bsA x)) := by simp [go_sem, y1]
        have x2 : (w2.setCell ⟨w.heap.size, 3, none⟩ (.int .i64 0)).cell? ⟨w.heap.size, 2, none⟩ = some (.int .i64 n) := by simp [go_sem, y2]
        have x3 : (w2.setCell ⟨w.heap.size, 3, none⟩ (.int .i64 0)).cell? ⟨w.heap.size, 3, none⟩ = some (.int .i64 0) := by simp [go_sem, y3]
        clear c0 c1 c2 c3 hga hc hb2
        go_wp2
        clear y0 y1 y2 y3 f0 f1 f2 f3 hB2
        generalize w2.setCell ⟨w.heap.size, 3, none⟩ (.int .i64 0) = W0 at *
        go_quiet (fail)
        go_wp2
        go_ret2
        exact ⟨⟨_, ret_tb HN.out, fun _ => rfl⟩, (Bel.drewN ⟨hB3, hB3.size⟩ _).out⟩
    · have HN : Hid (false = decide ((0 : Int) = 0 ∧ r = [((k, x, n), (0 : Int))])) := by
        show _ = _
        refine (decide_eq_false ?_).symm
        rintro ⟨_, e⟩
        rw [e] at h1n
        exact h1n rfl
      have h1i : ¬ (r.length : Int) = 1 := by omega
      have HB : Hid (Box (w.alloc (Obj.cells #[Value.int IntKind.i64 k, Value.string (bsA x), Value.int IntKind.i64 n, Value.int IntKind.i64 a] 37)) w.heap.size (.int .i64 k) (.string (bsA x)) (.int .i64 n) (.int .i64 a)) := Box.new w _ _ _ _
      have HW : Hid (Below w.heap.size w (w.alloc (Obj.cells #[Value.int IntKind.i64 k, Value.string (bsA x), Value.int IntKind.i64 n, Value.int IntKind.i64 a] 37))) := (Below.refl _ _).alloc (Nat.le_refl _) _
      have hbw : Hid (w.heap.size < (w.alloc (Obj.cells #[Value.int IntKind.i64 k, Value.string (bsA x), Value.int IntKind.i64 n, Value.int IntKind.i64 a] 37)).heap.size) := by show _ < _; rw [World.size_alloc]; omega
      go_enter Tryz.func26, Tryz.ntmps26
      go_wp2_with fail
      refine (hX _).mono ?_
      rintro e w2 ⟨hp, hb2⟩
      have bo2 := HB.out.below hb2
      have hB2 : Below w.heap.size w w2 := HW.out.trans (hb2.mono HW.out.size)
      clear hX HB HW
      unfold LexPost at hp
      rw [if_neg (by simp)] at hp
      obtain ⟨a1, cap, rfl, hta, hga, _⟩ := hp
      obtain ⟨y0, y1, y2, y3, f0, f1, f2, f3⟩ := bo2
      clear hta hga hb2 hbw
      go_wp2
      go_ret2
      exact ⟨⟨_, ret_tb HN.out, no_of HN.out⟩, hB2⟩
  · have HN : Hid (false = decide (er = 0 ∧ r = [((k, x, n), (0 : Int))])) := by show _ = _; simp [he]
    have he' : (er == 0) = false := by simpa using he
    have HB : Hid (Box (w.alloc (Obj.cells #[Value.int IntKind.i64 k, Value.string (bsA x), Value.int IntKind.i64 n, Value.int IntKind.i64 a] 37)) w.heap.size (.int .i64 k) (.string (bsA x)) (.int .i64 n) (.int .i64 a)) := Box.new w _ _ _ _
    have HW : Hid (Below w.heap.size w (w.alloc (Obj.cells #[Value.int IntKind.i64 k, Value.string (bsA x), Value.int IntKind.i64 n, Value.int IntKind.i64 a] 37))) := (Below.refl _ _).alloc (Nat.le_refl _) _
    have hbw : Hid (w.heap.size < (w.alloc (Obj.cells #[Value.int IntKind.i64 k, Value.string (bsA x), Value.int IntKind.i64 n, Value.int IntKind.i64 a] 37)).heap.size) := by show _ < _; rw [World.size_alloc]; omega
    go_enter Tryz.func26, Tryz.ntmps26
    go_wp2_with fail
    refine (hX _).mono ?_
    rintro e w2 ⟨hp, hb2⟩
    have bo2 := HB.out.below hb2
    have hB2 : Below w.heap.size w w2 := HW.out.trans (hb2.mono HW.out.size)
    clear hX HB HW
    unfold LexPost at hp
    rw [if_pos he] at hp
    subst hp
    obtain ⟨y0, y1, y2, y3, f0, f1, f2, f3⟩ := bo2
    clear hb2 hbw
    go_wp2
    go_ret2
    exact ⟨⟨_, ret_tb HN.out, no_of HN.out⟩, hB2⟩
set_option maxRecDepth 20000 in
set_option maxHeartbeats 4000000 in
theorem rsh_3 (x : List UInt8) (n a : Int) (w : World) (h1 : -9223372036854775808 ≤ n) (h2 : n ≤ 9223372036854775807) (hS : (Lib.itoa n).length ≤ 104857600) : Calls Tryz.prog 26 #[.agg #[.int .i64 3, .string (bsA x), .int .i64 n, .int .i64 a]] w fun e w' => (∃ y, e = .returned (.tuple #[.string y, .bool (sayP (Lib.itoa n) (3, x, n))]) ∧ (sayP (Lib.itoa n) (3, x, n) = true → y = bsA (Lib.itoa n))) ∧ Below w.heap.size w w' := by
  have hX := fun W => RLex_any (Lib.itoa n) W hS
  unfold sayP
  generalize lx (Lib.itoa n) 0 = D at hX ⊢
  obtain ⟨r, p, er⟩ := D
  dsimp only
  have hg := hg37
  have hC : ∀ W, Calls Tryz.prog 43 #[.agg #[.int .i64 2, .int .i64 n, .string ⟨#[]⟩]] W fun e w' => e = .returned (.string (bsA (Lib.itoa n))) ∧ Below W.heap.size W w' := fun W => rShow_2 n h1 h2 W
  by_cases he : er = 0
  · subst he
    by_cases h1n : r.length = 1
    · match r, h1n with
      | [u], _ =>
        have hq := fun wx => eq37 u ((3, x, n), 0) wx
        have HN : Hid (decide (u = ((3, x, n), (0 : Int))) = decide ((0 : Int) = 0 ∧ [u] = [((3, x, n), (0 : Int))])) := by show _ = _; simp
        generalize decide (u = ((3, x, n), (0 : Int))) = p1 at hq HN
        go_enter Tryz.func26, Tryz.ntmps26
        go_wp2_with fail
        refine (hC _).mono ?_
        rintro e w1 ⟨rfl, hb1⟩
        have HB : Hid (Box w1 w.heap.size (.int .i64 3) (.string (bsA x)) (.int .i64 n) (.int .i64 a)) := (Box.new w (.int .i64 3) (.string (bsA x)) (.int .i64 n) (.int .i64 a)).below hb1
        have HW : Hid (Below w.heap.size w w1) := ((Below.refl _ _).alloc (Nat.le_refl _) _).trans (hb1.mono (by simp))
        have hbw : Hid (w.heap.size < w1.heap.size) := by have := hb1.size; rw [World.size_alloc] at this; show _ < _; omega
        clear hC hb1
        go_wp2_with fail
        refine (hX _).mono ?_
        rintro e w2 ⟨hp, hb2⟩
        have bo2 := HB.out.below hb2
        have hB2 : Below w.heap.size w w2 := HW.out.trans (hb2.mono HW.out.size)
        clear hX HB HW
        unfold LexPost at hp
        rw [if_neg (by simp)] at hp
        obtain ⟨a1, cap, rfl, hta, hga, _⟩ := hp
        rcases hta with h0 | ⟨b, off, rfl, hc⟩
        · cases h0
        obtain ⟨c0, c1, c2, c3⟩ := hc 0 u rfl
        have hbn : w.heap.size < b := by have := hga b off rfl; have := hbw.out; omega
        simp only [Nat.zero_mul, Nat.add_zero] at c0 c1 c2 c3
        obtain ⟨y0, y1, y2, y3, f0, f1, f2, f3⟩ := bo2
        have hB3 : Below w.heap.size w (w2.setCell ⟨w.heap.size, 3, none⟩ (.int .i64 0)) := hB2.setCell (p := ⟨w.heap.size, 3, none⟩) (Nat.le_refl _) _
        have n0 : (w2.setCell ⟨w.heap.size, 3, none⟩ (.int .i64 0)).cell? ⟨b, off, none⟩ = some (.int .i64 u.1.1) := by rw [World.cell?_setCell_far _ _ _ _ (by show w.heap.size ≠ b; omega)]; exact c0
        have n1 : (w2.setCell ⟨w.heap.size, 3, none⟩ (.int .i64 0)).cell? ⟨b, off + 1, none⟩ = some (.string (bsA u.1.2.1)) := by rw [World.cell?_setCell_far _ _ _ _ (by show w.heap.size ≠ b; omega)]; exact c1
        have n2 : (w2.setCell ⟨w.heap.size, 3, none⟩ (.int .i64 0)).cell? ⟨b, off + 2, none⟩ = some (.int .i64 u.1.2.2) := by rw [World.cell?_setCell_far _ _ _ _ (by show w.heap.size ≠ b; omega)]; exact c2
        have n3 : (w2.setCell ⟨w.heap.size, 3, none⟩ (.int .i64 0)).cell? ⟨b, off + 3, none⟩ = some (.int .i64 u.2) := by rw [World.cell?_setCell_far _ _ _ _ (by show w.heap.size ≠ b; omega)]; exact c3
        have x0 : (w2.setCell ⟨w.heap.size, 3, none⟩ (.int .i64 0)).cell? ⟨w.heap.size, 0, none⟩ = some (.int .i64 3) := by simp [go_sem, y0]
        have x1 : (w2.setCell ⟨w.heap.size, 3, none⟩ (.int .i64 0)).cell? ⟨w.heap.size, 1, none⟩ = some (.string (bsA x)) := by simp [go_sem, y1]
        have x2 : (w2.setCell ⟨w.heap.size, 3, none⟩ (.int .i64 0)).cell? ⟨w.heap.size, 2, none⟩ = some (.int .i64 n) := by simp [go_sem, y2]
        have x3 : (w2.setCell ⟨w.heap.size, 3, none⟩ (.int .i64 0)).cell? ⟨w.heap.size, 3, none⟩ = some (.int .i64 0) := by simp [go_sem, y3]
        clear c0 c1 c2 c3 hga hc hb2
        go_wp2
        clear y0 y1 y2 y3 f0 f1 f2 f3 hB2
        generalize w2.setCell ⟨w.heap.size, 3, none⟩ (.int .i64 0) = W0 at *
        go_quiet (fail)
        go_wp2
        go_ret2
        exact ⟨⟨_, ret_tb HN.out, fun _ => rfl⟩, (Bel.drewN ⟨hB3, hB3.size⟩ _).out⟩
    · have HN : Hid (false = decide ((0 : Int) = 0 ∧ r = [((3, x, n), (0 : Int))])) := by
        show _ = _
        refine (decide_eq_false ?_).symm
        rintro ⟨_, e⟩
        rw [e] at h1n
        exact h1n rfl
      have h1i : ¬ (r.length : Int) = 1 := by omega
      go_enter Tryz.func26, Tryz.ntmps26
      go_wp2_with fail
      refine (hC _).mono ?_
      rintro e w1 ⟨rfl, hb1⟩
      have HB : Hid (Box w1 w.heap.size (.int .i64 3) (.string (bsA x)) (.int .i64 n) (.int .i64 a)) := (Box.new w (.int .i64 3) (.string (bsA x)) (.int .i64 n) (.int .i64 a)).below hb1
      have HW : Hid (Below w.heap.size w w1) := ((Below.refl _ _).alloc (Nat.le_refl _) _).trans (hb1.mono (by simp))
      have hbw : Hid (w.heap.size < w1.heap.size) := by have := hb1.size; rw [World.size_alloc] at this; show _ < _; omega
      clear hC hb1
      go_wp2_with fail
      refine (hX _).mono ?_
      rintro e w2 ⟨hp, hb2⟩
      have bo2 := HB.out.below hb2
      have hB2 : Below w.heap.size w w2 := HW.out.trans (hb2.mono HW.out.size)
      clear hX HB HW
      unfold LexPost at hp
      rw [if_neg (by simp)] at hp
      obtain ⟨a1, cap, rfl, hta, hga, _⟩ := hp
      obtain ⟨y0, y1, y2, y3, f0, f1, f2, f3⟩ := bo2
      clear hta hga hb2 hbw
      go_wp2
      go_ret2
      exact ⟨⟨_, ret_tb HN.out, no_of HN.out⟩, hB2⟩
  · have HN : Hid (false = decide (er = 0 ∧ r = [((3, x, n), (0 : Int))])) := by show _ = _; simp [he]
    have he' : (er == 0) = false := by simpa using he
    go_enter Tryz.func26, Tryz.ntmps26
    go_wp2_with fail
    refine (hC _).mono ?_
    rintro e w1 ⟨rfl, hb1⟩
    have HB : Hid (Box w1 w.heap.size (.int .i64 3) (.string (bsA x)) (.int .i64 n) (.int .i64 a)) := (Box.new w (.int .i64 3) (.string (bsA x)) (.int .i64 n) (.int .i64 a)).below hb1
    have HW : Hid (Below w.heap.size w w1) := ((Below.refl _ _).alloc (Nat.le_refl _) _).trans (hb1.mono (by simp))
    have hbw : Hid (w.heap.size < w1.heap.size) := by have := hb1.size; rw [World.size_alloc] at this; show _ < _; omega
    clear hC hb1
    go_wp2_with fail
    refine (hX _).mono ?_
    rintro e w2 ⟨hp, hb2⟩
    have bo2 := HB.out.below hb2
    have hB2 : Below w.heap.size w w2 := HW.out.trans (hb2.mono HW.out.size)
    clear hX HB HW
    unfold LexPost at hp
    rw [if_pos he] at hp
    subst hp
    obtain ⟨y0, y1, y2, y3, f0, f1, f2, f3⟩ := bo2
    clear hb2 hbw
    go_wp2
    go_ret2
    exact ⟨⟨_, ret_tb HN.out, no_of HN.out⟩, hB2⟩
set_option maxRecDepth 20000 in
set_option maxHeartbeats 4000000 in
theorem rsh_4 (x : List UInt8) (n a : Int) (w : World) (h1 : -9223372036854775808 ≤ n) (h2 : n ≤ 9223372036854775807) (hS : (decS n).length ≤ 104857600) : Calls Tryz.prog 26 #[.agg #[.int .i64 4, .string (bsA x), .int .i64 n, .int .i64 a]] w fun e w' => (∃ y, e = .returned (.tuple #[.string y, .bool (sayP (decS n) (4, x, n))]) ∧ (sayP (decS n) (4, x, n) = true → y = bsA (decS n))) ∧ Below w.heap.size w w' := by
  have hX := fun W => RLex_any (decS n) W hS
  unfold sayP
  generalize lx (decS n) 0 = D at hX ⊢
  obtain ⟨r, p, er⟩ := D
  dsimp only
  have hg := hg37
  have hC : ∀ W, Calls Tryz.prog 43 #[.agg #[.int .i64 3, .int .i64 n, .string ⟨#[]⟩]] W fun e w' => e = .returned (.string (bsA (decS n))) ∧ Below W.heap.size W w' := fun W => rShow_3 n h1 h2 W
  by_cases he : er = 0
  · subst he
    by_cases h1n : r.length = 1
    · match r, h1n with
      | [u], _ =>
        have hq := fun wx => eq37 u ((4, x, n), 0) wx
        have HN : Hid (decide (u = ((4, x, n), (0 : Int))) = decide ((0 : Int) = 0 ∧ [u] = [((4, x, n), (0 : Int))])) := by show _ = _; simp
        generalize decide (u = ((4, x, n), (0 : Int))) = p1 at hq HN
        go_enter Tryz.func26, Tryz.ntmps26
        go_wp2_with fail
        refine (hC _).mono ?_
        rintro e w1 ⟨rfl, hb1⟩
        have HB : Hid (Box w1 w.heap.size (.int .i64 4) (.string (bsA x)) (.int .i64 n) (.int .i64 a)) := (Box.new w (.int .i64 4) (.string (bsA x)) (.int .i64 n) (.int .i64 a)).below hb1
        have HW : Hid (Below w.heap.size w w1) := ((Below.refl _ _).alloc (Nat.le_refl _) _).trans (hb1.mono (by simp))
        have hbw : Hid (w.heap.size < w1.heap.size) := by have := hb1.size; rw [World.size_alloc] at this; show _ < _; omega
        clear hC hb1
        go_wp2_with fail
        refine (hX _).mono ?_
        rintro e w2 ⟨hp, hb2⟩
        have bo2 := HB.out.below hb2
        have hB2 : Below w.heap.size w w2 := HW.out.trans (hb2.mono HW.out.size)
        clear hX HB HW
        unfold LexPost at hp
        rw [if_neg (by simp)] at hp
        obtain ⟨a1, cap, rfl, hta, hga, _⟩ := hp
        rcases hta with h0 | ⟨b, off, rfl, hc⟩
        · cases h0
        obtain ⟨c0, c1, c2, c3⟩ := hc 0 u rfl
        have hbn : w.heap.size < b := by have := hga b off rfl; have := hbw.out; omega
        simp only [Nat.zero_mul, Nat.add_zero] at c0 c1 c2 c3
        obtain ⟨y0, y1, y2, y3, f0, f1, f2, f3⟩ := bo2
        have hB3 : Below w.heap.size w (w2.setCell ⟨w.heap.size, 3, none⟩ (.int .i64 0)) := hB2.setCell (p := ⟨w.heap.size, 3, none⟩) (Nat.le_refl _) _
        have n0 : (w2.setCell ⟨w.heap.size, 3, none⟩ (.int .i64 0)).cell? ⟨b, off, none⟩ = some (.int .i64 u.1.1) := by rw [World.cell?_setCell_far _ _ _ _ (by show w.heap.size ≠ b; omega)]; exact c0
        have n1 : (w2.setCell ⟨w.heap.size, 3, none⟩ (.int .i64 0)).cell? ⟨b, off + 1, none⟩ = some (.string (bsA u.1.2.1)) := by rw [World.cell?_setCell_far _ _ _ _ (by show w.heap.size ≠ b; omega)]; exact c1
        have n2 : (w2.setCell ⟨w.heap.size, 3, none⟩ (.int .i64 0)).cell? ⟨b, off + 2, none⟩ = some (.int .i64 u.1.2.2) := by rw [World.cell?_setCell_far _ _ _ _ (by show w.heap.size ≠ b; omega)]; exact c2
        have n3 : (w2.setCell ⟨w.heap.size, 3, none⟩ (.int .i64 0)).cell? ⟨b, off + 3, none⟩ = some (.int .i64 u.2) := by rw [World.cell?_setCell_far _ _ _ _ (by show w.heap.size ≠ b; omega)]; exact c3
        have x0 : (w2.setCell ⟨w.heap.size, 3, none⟩ (.int .i64 0)).cell? ⟨w.heap.size, 0, none⟩ = some (.int .i64 4) := by simp [go_sem, y0]
        have x1 : (w2.setCell ⟨w.heap.size, 3, none⟩ (.int .i64 0)).cell? ⟨w.heap.size, 1, none⟩ = some (.string (bsA x)) := by simp [go_sem, y1]
        have x2 : (w2.setCell ⟨w.heap.size, 3, none⟩ (.int .i64 0)).cell? ⟨w.heap.size, 2, none⟩ = some (.int .i64 n) := by simp [go_sem, y2]
        have x3 : (w2.setCell ⟨w.heap.size, 3, none⟩ (.int .i64 0)).cell? ⟨w.heap.size, 3, none⟩ = some (.int .i64 0) := by simp [go_sem, y3]
        clear c0 c1 c2 c3 hga hc hb2
        go_wp2
        clear y0 y1 y2 y3 f0 f1 f2 f3 hB2
        generalize w2.setCell ⟨w.heap.size, 3, none⟩ (.int .i64 0) = W0 at *
        go_quiet (fail)
        go_wp2
        go_ret2
        exact ⟨⟨_, ret_tb HN.out, fun _ => rfl⟩, (Bel.drewN ⟨hB3, hB3.size⟩ _).out⟩
    · have HN : Hid (false = decide ((0 : Int) = 0 ∧ r = [((4, x, n), (0 : Int))])) := by
        show _ = _
        refine (decide_eq_false ?_).symm
        rintro ⟨_, e⟩
        rw [e] at h1n
        exact h1n rfl
      have h1i : ¬ (r.length : Int) = 1 := by omega
      go_enter Tryz.func26, Tryz.ntmps26
      go_wp2_with fail
      refine (hC _).mono ?_
      rintro e w1 ⟨rfl, hb1⟩
      have HB : Hid (Box w1 w.heap.size (.int .i64 4) (.string (bsA x)) (.int .i64 n) (.int .i64 a)) := (Box.new w (.int .i64 4) (.string (bsA x)) (.int .i64 n) (.int .i64 a)).below hb1
      have HW : Hid (Below w.heap.size w w1) := ((Below.refl _ _).alloc (Nat.le_refl _) _).trans (hb1.mono (by simp))
      have hbw : Hid (w.heap.size < w1.heap.size) := by have := hb1.size; rw [World.size_alloc] at this; show _ < _; omega
      clear hC hb1
      go_wp2_with fail
      refine (hX _).mono ?_
      rintro e w2 ⟨hp, hb2⟩
      have bo2 := HB.out.below hb2
      have hB2 : Below w.heap.size w w2 := HW.out.trans (hb2.mono HW.out.size)
      clear hX HB HW
      unfold LexPost at hp
      rw [if_neg (by simp)] at hp
      obtain ⟨a1, cap, rfl, hta, hga, _⟩ := hp
      obtain ⟨y0, y1, y2, y3, f0, f1, f2, f3⟩ := bo2
      clear hta hga hb2 hbw
      go_wp2
      go_ret2
      exact ⟨⟨_, ret_tb HN.out, no_of HN.out⟩, hB2⟩
  · have HN : Hid (false = decide (er = 0 ∧ r = [((4, x, n), (0 : Int))])) := by show _ = _; simp [he]
    have he' : (er == 0) = false := by simpa using he
    go_enter Tryz.func26, Tryz.ntmps26
    go_wp2_with fail
    refine (hC _).mono ?_
    rintro e w1 ⟨rfl, hb1⟩
    have HB : Hid (Box w1 w.heap.size (.int .i64 4) (.string (bsA x)) (.int .i64 n) (.int .i64 a)) := (Box.new w (.int .i64 4) (.string (bsA x)) (.int .i64 n) (.int .i64 a)).below hb1
    have HW : Hid (Below w.heap.size w w1) := ((Below.refl _ _).alloc (Nat.le_refl _) _).trans (hb1.mono (by simp))
    have hbw : Hid (w.heap.size < w1.heap.size) := by have := hb1.size; rw [World.size_alloc] at this; show _ < _; omega
    clear hC hb1
    go_wp2_with fail
    refine (hX _).mono ?_
    rintro e w2 ⟨hp, hb2⟩
    have bo2 := HB.out.below hb2
    have hB2 : Below w.heap.size w w2 := HW.out.trans (hb2.mono HW.out.size)
    clear hX HB HW
    unfold LexPost at hp
    rw [if_pos he] at hp
    subst hp
    obtain ⟨y0, y1, y2, y3, f0, f1, f2, f3⟩ := bo2
    clear hb2 hbw
    go_wp2
    go_ret2
    exact ⟨⟨_, ret_tb HN.out, no_of HN.out⟩, hB2⟩
set_option maxRecDepth 20000 in
set_option maxHeartbeats 4000000 in
theorem rsh_5 (x : List UInt8) (n a : Int) (w : World) (hl : x.length ≤ 1024) (hv : Lib.validD x = true) (hS : (39 :: (dbl x ++ [39])).length ≤ 104857600) : Calls Tryz.prog 26 #[.agg #[.int .i64 5, .string (bsA x), .int .i64 n, .int .i64 a]] w fun e w' => (∃ y, e = .returned (.tuple #[.string y, .bool (sayP (39 :: (dbl x ++ [39])) (5, x, n))]) ∧ (sayP (39 :: (dbl x ++ [39])) (5, x, n) = true → y = bsA (39 :: (dbl x ++ [39])))) ∧ Below w.heap.size w w' := by
  have hX := fun W => RLex_any (39 :: (dbl x ++ [39])) W hS
  unfold sayP
  generalize lx (39 :: (dbl x ++ [39])) 0 = D at hX ⊢
  obtain ⟨r, p, er⟩ := D
  dsimp only
  have hg := hg37
  have hC : ∀ W, Calls Tryz.prog 43 #[.agg #[.int .i64 4, .int .i64 0, .string (bsA x)]] W fun e w' => e = .returned (.string (bsA (39 :: (dbl x ++ [39])))) ∧ Below W.heap.size W w' := fun W => rShow_4 (bsA x) W (by rw [bsA_size]; omega) hv
  by_cases he : er = 0
  · subst he
    by_cases h1n : r.length = 1
    · match r, h1n with
      | [u], _ =>
        have hq := fun wx => eq37 u ((5, x, n), 0) wx
        have HN : Hid (decide (u = ((5, x, n), (0 : Int))) = decide ((0 : Int) = 0 ∧ [u] = [((5, x, n), (0 : Int))])) := by show _ = _; simp
        generalize decide (u = ((5, x, n), (0 : Int))) = p1 at hq HN
        go_enter Tryz.func26, Tryz.ntmps26
        go_wp2_with fail
        refine (hC _).mono ?_
        rintro e w1 ⟨rfl, hb1⟩
        have HB : Hid (Box w1 w.heap.size (.int .i64 5) (.string (bsA x)) (.int .i64 n) (.int .i64 a)) := (Box.new w (.int .i64 5) (.string (bsA x)) (.int .i64 n) (.int .i64 a)).below hb1
        have HW : Hid (Below w.heap.size w w1) := ((Below.refl _ _).alloc (Nat.le_refl _) _).trans (hb1.mono (by simp))
        have hbw : Hid (w.heap.size < w1.heap.size) := by have := hb1.size; rw [World.size_alloc] at this; show _ < _; omega
        clear hC hb1
        go_wp2_with fail
        refine (hX _).mono ?_
        rintro e w2 ⟨hp, hb2⟩
        have bo2 := HB.out.below hb2
        have hB2 : Below w.heap.size w w2 := HW.out.trans (hb2.mono HW.out.size)
        clear hX HB HW
        unfold LexPost at hp
        rw [if_neg (by simp)] at hp
        obtain ⟨a1, cap, rfl, hta, hga, _⟩ := hp
        rcases hta with h0 | ⟨b, off, rfl, hc⟩
        · cases h0
        obtain ⟨c0, c1, c2, c3⟩ := hc 0 u rfl
        have hbn : w.heap.size < b := by have := hga b off rfl; have := hbw.out; omega
        simp only [Nat.zero_mul, Nat.add_zero] at c0 c1 c2 c3
        obtain ⟨y0, y1, y2, y3, f0, f1, f2, f3⟩ := bo2
        have hB3 : Below w.heap.size w (w2.setCell ⟨w.heap.size, 3, none⟩ (.int .i64 0)) := hB2.setCell (p := ⟨w.heap.size, 3, none⟩) (Nat.le_refl _) _
        have n0 : (w2.setCell ⟨w.heap.size, 3, none⟩ (.int .i64 0)).cell? ⟨b, off, none⟩ = some (.int .i64 u.1.1) := by rw [World.cell?_setCell_far _ _ _ _ (by show w.heap.size ≠ b; omega)]; exact c0
        have n1 : (w2.setCell ⟨w.heap.size, 3, none⟩ (.int .i64 0)).cell? ⟨b, off + 1, none⟩ = some (.string (bsA u.1.2.1)) := by rw [World.cell?_setCell_far _ _ _ _ (by show w.heap.size ≠ b; omega)]; exact c1
        have n2 : (w2.setCell ⟨w.heap.size, 3, none⟩ (.int .i64 0)).cell? ⟨b, off + 2, none⟩ = some (.int .i64 u.1.2.2) := by rw [World.cell?_setCell_far _ _ _ _ (by show w.heap.size ≠ b; omega)]; exact c2
        have n3 : (w2.setCell ⟨w.heap.size, 3, none⟩ (.int .i64 0)).cell? ⟨b, off + 3, none⟩ = some (.int .i64 u.2) := by rw [World.cell?_setCell_far _ _ _ _ (by show w.heap.size ≠ b; omega)]; exact c3
        have x0 : (w2.setCell ⟨w.heap.size, 3, none⟩ (.int .i64 0)).cell? ⟨w.heap.size, 0, none⟩ = some (.int .i64 5) := by simp [go_sem, y0]
        have x1 : (w2.setCell ⟨w.heap.size, 3, none⟩ (.int .i64 0)).cell? ⟨w.heap.size, 1, none⟩ = some (.string (bsA x)) := by simp [go_sem, y1]
        have x2 : (w2.setCell ⟨w.heap.size, 3, none⟩ (.int .i64 0)).cell? ⟨w.heap.size, 2, none⟩ = some (.int .i64 n) := by simp [go_sem, y2]
        have x3 : (w2.setCell ⟨w.heap.size, 3, none⟩ (.int .i64 0)).cell? ⟨w.heap.size, 3, none⟩ = some (.int .i64 0) := by simp [go_sem, y3]
        clear c0 c1 c2 c3 hga hc hb2
        go_wp2
        clear y0 y1 y2 y3 f0 f1 f2 f3 hB2
        generalize w2.setCell ⟨w.heap.size, 3, none⟩ (.int .i64 0) = W0 at *
        go_quiet (fail)
        go_wp2
        go_ret2
        exact ⟨⟨_, ret_tb HN.out, fun _ => rfl⟩, (Bel.drewN ⟨hB3, hB3.size⟩ _).out⟩
    · have HN : Hid (false = decide ((0 : Int) = 0 ∧ r = [((5, x, n), (0 : Int))])) := by
        show _ = _
        refine (decide_eq_false ?_).symm
        rintro ⟨_, e⟩
        rw [e] at h1n
        exact h1n rfl
      have h1i : ¬ (r.length : Int) = 1 := by omega
      go_enter Tryz.func26, Tryz.ntmps26
      go_wp2_with fail
      refine (hC _).mono ?_
      rintro e w1 ⟨rfl, hb1⟩
      have HB : Hid (Box w1 w.heap.size (.int .i64 5) (.string (bsA x)) (.int .i64 n) (.int .i64 a)) := (Box.new w (.int .i64 5) (.string (bsA x)) (.int .i64 n) (.int .i64 a)).below hb1
      have HW : Hid (Below w.heap.size w w1) := ((Below.refl _ _).alloc (Nat.le_refl _) _).trans (hb1.mono (by simp))
      have hbw : Hid (w.heap.size < w1.heap.size) := by have := hb1.size; rw [World.size_alloc] at this; show _ < _; omega
      clear hC hb1
      go_wp2_with fail
      refine (hX _).mono ?_
      rintro e w2 ⟨hp, hb2⟩
      have bo2 := HB.out.below hb2
      have hB2 : Below w.heap.size w w2 := HW.out.trans (hb2.mono HW.out.size)
      clear hX HB HW
      unfold LexPost at hp
      rw [if_neg (by simp)] at hp
      obtain ⟨a1, cap, rfl, hta, hga, _⟩ := hp
      obtain ⟨y0, y1, y2, y3, f0, f1, f2, f3⟩ := bo2
      clear hta hga hb2 hbw
      go_wp2
      go_ret2
      exact ⟨⟨_, ret_tb HN.out, no_of HN.out⟩, hB2⟩
  · have HN : Hid (false = decide (er = 0 ∧ r = [((5, x, n), (0 : Int))])) := by show _ = _; simp [he]
    have he' : (er == 0) = false := by simpa using he
    go_enter Tryz.func26, Tryz.ntmps26
    go_wp2_with fail
    refine (hC _).mono ?_
    rintro e w1 ⟨rfl, hb1⟩
    have HB : Hid (Box w1 w.heap.size (.int .i64 5) (.string (bsA x)) (.int .i64 n) (.int .i64 a)) := (Box.new w (.int .i64 5) (.string (bsA x)) (.int .i64 n) (.int .i64 a)).below hb1
    have HW : Hid (Below w.heap.size w w1) := ((Below.refl _ _).alloc (Nat.le_refl _) _).trans (hb1.mono (by simp))
    have hbw : Hid (w.heap.size < w1.heap.size) := by have := hb1.size; rw [World.size_alloc] at this; show _ < _; omega
    clear hC hb1
    go_wp2_with fail
    refine (hX _).mono ?_
    rintro e w2 ⟨hp, hb2⟩
    have bo2 := HB.out.below hb2
    have hB2 : Below w.heap.size w w2 := HW.out.trans (hb2.mono HW.out.size)
    clear hX HB HW
    unfold LexPost at hp
    rw [if_pos he] at hp
    subst hp
    obtain ⟨y0, y1, y2, y3, f0, f1, f2, f3⟩ := bo2
    clear hb2 hbw
    go_wp2
    go_ret2
    exact ⟨⟨_, ret_tb HN.out, no_of HN.out⟩, hB2⟩
set_option maxRecDepth 20000 in
set_option maxHeartbeats 4000000 in
theorem rsh_5n (x : List UInt8) (n a : Int) (w : World) (hv : ¬ (x.length ≤ 1024 ∧ Lib.validD x = true)) (hS : (([] : List UInt8)).length ≤ 104857600) : Calls Tryz.prog 26 #[.agg #[.int .i64 5, .string (bsA x), .int .i64 n, .int .i64 a]] w fun e w' => (∃ y, e = .returned (.tuple #[.string y, .bool (sayP (([] : List UInt8)) (5, x, n))]) ∧ (sayP (([] : List UInt8)) (5, x, n) = true → y = bsA (([] : List UInt8)))) ∧ Below w.heap.size w w' := by
  have hX := fun W => RLex_any (([] : List UInt8)) W hS
  unfold sayP
  generalize lx (([] : List UInt8)) 0 = D at hX ⊢
  obtain ⟨r, p, er⟩ := D
  dsimp only
  have hg := hg37
  have hC : ∀ W, Calls Tryz.prog 43 #[.agg #[.int .i64 4, .int .i64 0, .string (bsA x)]] W fun e w' => e = .returned (.string (bsA ([]))) ∧ Below W.heap.size W w' := fun W => rShow_no (bsA x) W (by rw [bsA_size]; rintro ⟨p, q⟩; exact hv ⟨by omega, q⟩)
  by_cases he : er = 0
  · subst he
    by_cases h1n : r.length = 1
    · match r, h1n with
      | [u], _ =>
        have hq := fun wx => eq37 u ((5, x, n), 0) wx
        have HN : Hid (decide (u = ((5, x, n), (0 : Int))) = decide ((0 : Int) = 0 ∧ [u] = [((5, x, n), (0 : Int))])) := by show _ = _; simp
        generalize decide (u = ((5, x, n), (0 : Int))) = p1 at hq HN
        go_enter Tryz.func26, Tryz.ntmps26
        go_wp2_with fail
        refine (hC _).mono ?_
        rintro e w1 ⟨rfl, hb1⟩
        have HB : Hid (Box w1 w.heap.size (.int .i64 5) (.string (bsA x)) (.int .i64 n) (.int .i64 a)) := (Box.new w (.int .i64 5) (.string (bsA x)) (.int .i64 n) (.int .i64 a)).below hb1
        have HW : Hid (Below w.heap.size w w1) := ((Below.refl _ _).alloc (Nat.le_refl _) _).trans (hb1.mono (by simp))
        have hbw : Hid (w.heap.size < w1.heap.size) := by have := hb1.size; rw [World.size_alloc] at this; show _ < _; omega
        clear hC hb1
        go_wp2_with fail
        refine (hX _).mono ?_
        rintro e w2 ⟨hp, hb2⟩
        have bo2 := HB.out.below hb2
        have hB2 : Below w.heap.size w w2 := HW.out.trans (hb2.mono HW.out.size)
        clear hX HB HW
        unfold LexPost at hp
        rw [if_neg (by simp)] at hp
        obtain ⟨a1, cap, rfl, hta, hga, _⟩ := hp
        rcases hta with h0 | ⟨b, off, rfl, hc⟩
        · cases h0
        obtain ⟨c0, c1, c2, c3⟩ := hc 0 u rfl
        have hbn : w.heap.size < b := by have := hga b off rfl; have := hbw.out; omega
        simp only [Nat.zero_mul, Nat.add_zero] at c0 c1 c2 c3
        obtain ⟨y0, y1, y2, y3, f0, f1, f2, f3⟩ := bo2
        have hB3 : Below w.heap.size w (w2.setCell ⟨w.heap.size, 3, none⟩ (.int .i64 0)) := hB2.setCell (p := ⟨w.heap.size, 3, none⟩) (Nat.le_refl _) _
        have n0 : (w2.setCell ⟨w.heap.size, 3, none⟩ (.int .i64 0)).cell? ⟨b, off, none⟩ = some (.int .i64 u.1.1) := by rw [World.cell?_setCell_far _ _ _ _ (by show w.heap.size ≠ b; omega)]; exact c0
        have n1 : (w2.setCell ⟨w.heap.size, 3, none⟩ (.int .i64 0)).cell? ⟨b, off + 1, none⟩ = some (.string (bsA u.1.2.1)) := by rw [World.cell?_setCell_far _ _ _ _ (by show w.heap.size ≠ b; omega)]; exact c1
        have n2 : (w2.setCell ⟨w.heap.size, 3, none⟩ (.int .i64 0)).cell? ⟨b, off + 2, none⟩ = some (.int .i64 u.1.2.2) := by rw [World.cell?_setCell_far _ _ _ _ (by show w.heap.size ≠ b; omega)]; exact c2
        have n3 : (w2.setCell ⟨w.heap.size, 3, none⟩ (.int .i64 0)).cell? ⟨b, off + 3, none⟩ = some (.int .i64 u.2) := by rw [World.cell?_setCell_far _ _ _ _ (by show w.heap.size ≠ b; omega)]; exact c3
        have x0 : (w2.setCell ⟨w.heap.size, 3, none⟩ (.int .i64 0)).cell? ⟨w.heap.size, 0, none⟩ = some (.int .i64 5) := by simp [go_sem, y0]
        have x1 : (w2.setCell ⟨w.heap.size, 3, none⟩ (.int .i64 0)).cell? ⟨w.heap.size, 1, none⟩ = some (.string (bsA x)) := by simp [go_sem, y1]
        have x2 : (w2.setCell ⟨w.heap.size, 3, none⟩ (.int .i64 0)).cell? ⟨w.heap.size, 2, none⟩ = some (.int .i64 n) := by simp [go_sem, y2]
        have x3 : (w2.setCell ⟨w.heap.size, 3, none⟩ (.int .i64 0)).cell? ⟨w.heap.size, 3, none⟩ = some (.int .i64 0) := by simp [go_sem, y3]
        clear c0 c1 c2 c3 hga hc hb2
        go_wp2
        clear y0 y1 y2 y3 f0 f1 f2 f3 hB2
        generalize w2.setCell ⟨w.heap.size, 3, none⟩ (.int .i64 0) = W0 at *
        go_quiet (fail)
        go_wp2
        go_ret2
        exact ⟨⟨_, ret_tb HN.out, fun _ => rfl⟩, (Bel.drewN ⟨hB3, hB3.size⟩ _).out⟩
    · have HN : Hid (false = decide ((0 : Int) = 0 ∧ r = [((5, x, n), (0 : Int))])) := by
        show _ = _
        refine (decide_eq_false ?_).symm
        rintro ⟨_, e⟩
        rw [e] at h1n
        exact h1n rfl
      have h1i : ¬ (r.length : Int) = 1 := by omega
      go_enter Tryz.func26, Tryz.ntmps26
      go_wp2_with fail
      refine (hC _).mono ?_
      rintro e w1 ⟨rfl, hb1⟩
      have HB : Hid (Box w1 w.heap.size (.int .i64 5) (.string (bsA x)) (.int .i64 n) (.int .i64 a)) := (Box.new w (.int .i64 5) (.string (bsA x)) (.int .i64 n) (.int .i64 a)).below hb1
      have HW : Hid (Below w.heap.size w w1) := ((Below.refl _ _).alloc (Nat.le_refl _) _).trans (hb1.mono (by simp))
      have hbw : Hid (w.heap.size < w1.heap.size) := by have := hb1.size; rw [World.size_alloc] at this; show _ < _; omega
      clear hC hb1
      go_wp2_with fail
      refine (hX _).mono ?_
      rintro e w2 ⟨hp, hb2⟩
      have bo2 := HB.out.below hb2
      have hB2 : Below w.heap.size w w2 := HW.out.trans (hb2.mono HW.out.size)
      clear hX HB HW
      unfold LexPost at hp
      rw [if_neg (by simp)] at hp
      obtain ⟨a1, cap, rfl, hta, hga, _⟩ := hp
      obtain ⟨y0, y1, y2, y3, f0, f1, f2, f3⟩ := bo2
      clear hta hga hb2 hbw
      go_wp2
      go_ret2
      exact ⟨⟨_, ret_tb HN.out, no_of HN.out⟩, hB2⟩
  · have HN : Hid (false = decide (er = 0 ∧ r = [((5, x, n), (0 : Int))])) := by show _ = _; simp [he]
    have he' : (er == 0) = false := by simpa using he
    go_enter Tryz.func26, Tryz.ntmps26
    go_wp2_with fail
    refine (hC _).mono ?_
    rintro e w1 ⟨rfl, hb1⟩
    have HB : Hid (Box w1 w.heap.size (.int .i64 5) (.string (bsA x)) (.int .i64 n) (.int .i64 a)) := (Box.new w (.int .i64 5) (.string (bsA x)) (.int .i64 n) (.int .i64 a)).below hb1
    have HW : Hid (Below w.heap.size w w1) := ((Below.refl _ _).alloc (Nat.le_refl _) _).trans (hb1.mono (by simp))
    have hbw : Hid (w.heap.size < w1.heap.size) := by have := hb1.size; rw [World.size_alloc] at this; show _ < _; omega
    clear hC hb1
    go_wp2_with fail
    refine (hX _).mono ?_
    rintro e w2 ⟨hp, hb2⟩
    have bo2 := HB.out.below hb2
    have hB2 : Below w.heap.size w w2 := HW.out.trans (hb2.mono HW.out.size)
    clear hX HB HW
    unfold LexPost at hp
    rw [if_pos he] at hp
    subst hp
    obtain ⟨y0, y1, y2, y3, f0, f1, f2, f3⟩ := bo2
    clear hb2 hbw
    go_wp2
    go_ret2
    exact ⟨⟨_, ret_tb HN.out, no_of HN.out⟩, hB2⟩
set_option maxRecDepth 20000 in
set_option maxHeartbeats 4000000 in
theorem rsh_7 (x : List UInt8) (n a : Int) (w : World) (h1 : -9223372036854775808 ≤ n) (h2 : n ≤ 9223372036854775807) (hS : (Lib.itoa n ++ [109, 115]).length ≤ 104857600) : Calls Tryz.prog 26 #[.agg #[.int .i64 7, .string (bsA x), .int .i64 n, .int .i64 a]] w fun e w' => (∃ y, e = .returned (.tuple #[.string y, .bool (sayP (Lib.itoa n ++ [109, 115]) (7, x, n))]) ∧ (sayP (Lib.itoa n ++ [109, 115]) (7, x, n) = true → y = bsA (Lib.itoa n ++ [109, 115]))) ∧ Below w.heap.size w w' := by
  have hX := fun W => RLex_any (Lib.itoa n ++ [109, 115]) W hS
  unfold sayP
  generalize lx (Lib.itoa n ++ [109, 115]) 0 = D at hX ⊢
  obtain ⟨r, p, er⟩ := D
  dsimp only
  have hg := hg37
  have hC : ∀ W, Calls Tryz.prog 44 #[.int .i64 n] W fun e w' => e = .returned (.string (bsA (Lib.itoa n))) ∧ Below W.heap.size W w' := fun W => rDigits_any n h1 h2 W
  have hsz : (bsA (Lib.itoa n)).size ≤ 21 := by
    rw [bsA_size]
    unfold Lib.itoa
    split
    · have := digits20 n.natAbs (by omega); simp; omega
    · have := digits20 n.toNat (by omega); omega
  have a1 := addOk (bsA (Lib.itoa n)) ⟨#[109, 115]⟩ 21 2 hsz (by decide) (by omega)
  have a2 : bsA (Lib.itoa n) ++ ⟨#[109, 115]⟩ = bsA (Lib.itoa n ++ [109, 115]) := app_bsA (Lib.itoa n) [109, 115]
  by_cases he : er = 0
  · subst he
    by_cases h1n : r.length = 1
    · match r, h1n with
      | [u], _ =>
        have hq := fun wx => eq37 u ((7, x, n), 0) wx
        have HN : Hid (decide (u = ((7, x, n), (0 : Int))) = decide ((0 : Int) = 0 ∧ [u] = [((7, x, n), (0 : Int))])) := by show _ = _; simp
        generalize decide (u = ((7, x, n), (0 : Int))) = p1 at hq HN
        go_enter Tryz.func26, Tryz.ntmps26
        go_wp2_with fail
        refine (hC _).mono ?_
        rintro e w1 ⟨rfl, hb1⟩
        have HB : Hid (Box w1 w.heap.size (.int .i64 7) (.string (bsA x)) (.int .i64 n) (.int .i64 a)) := (Box.new w (.int .i64 7) (.string (bsA x)) (.int .i64 n) (.int .i64 a)).below hb1
        have HW : Hid (Below w.heap.size w w1) := ((Below.refl _ _).alloc (Nat.le_refl _) _).trans (hb1.mono (by simp))
        have hbw : Hid (w.heap.size < w1.heap.size) := by have := hb1.size; rw [World.size_alloc] at this; show _ < _; omega
        clear hC hb1
        go_wp2_with fail
        refine (hX _).mono ?_
        rintro e w2 ⟨hp, hb2⟩
        have bo2 := HB.out.below hb2
        have hB2 : Below w.heap.size w w2 := HW.out.trans (hb2.mono HW.out.size)
        clear hX HB HW
        unfold LexPost at hp
        rw [if_neg (by simp)] at hp
        obtain ⟨a1, cap, rfl, hta, hga, _⟩ := hp
        rcases hta with h0 | ⟨b, off, rfl, hc⟩
        · cases h0
        obtain ⟨c0, c1, c2, c3⟩ := hc 0 u rfl
        have hbn : w.heap.size < b := by have := hga b off rfl; have := hbw.out; omega
        simp only [Nat.zero_mul, Nat.add_zero] at c0 c1 c2 c3
        obtain ⟨y0, y1, y2, y3, f0, f1, f2, f3⟩ := bo2
        have hB3 : Below w.heap.size w (w2.setCell ⟨w.heap.size, 3, none⟩ (.int .i64 0)) := hB2.setCell (p := ⟨w.heap.size, 3, none⟩) (Nat.le_refl _) _
        have n0 : (w2.setCell ⟨w.heap.size, 3, none⟩ (.int .i64 0)).cell? ⟨b, off, none⟩ = some (.int .i64 u.1.1) := by rw [World.cell?_setCell_far _ _ _ _ (by show w.heap.size ≠ b; omega)]; exact c0
        have n1 : (w2.setCell ⟨w.heap.size, 3, none⟩ (.int .i64 0)).cell? ⟨b, off + 1, none⟩ = some (.string (bsA u.1.2.1)) := by rw [World.cell?_setCell_far _ _ _ _ (by show w.heap.size ≠ b; omega)]; exact c1
        have n2 : (w2.setCell ⟨w.heap.size, 3, none⟩ (.int .i64 0)).cell? ⟨b, off + 2, none⟩ = some (.int .i64 u.1.2.2) := by rw [World.cell?_setCell_far _ _ _ _ (by show w.heap.size ≠ b; omega)]; exact c2
        have n3 : (w2.setCell ⟨w.heap.size, 3, none⟩ (.int .i64 0)).cell? ⟨b, off + 3, none⟩ = some (.int .i64 u.2) := by rw [World.cell?_setCell_far _ _ _ _ (by show w.heap.size ≠ b; omega)]; exact c3
        have x0 : (w2.setCell ⟨w.heap.size, 3, none⟩ (.int .i64 0)).cell? ⟨w.heap.size, 0, none⟩ = some (.int .i64 7) := by simp [go_sem, y0]
        have x1 : (w2.setCell ⟨w.heap.size, 3, none⟩ (.int .i64 0)).cell? ⟨w.heap.size, 1, none⟩ = some (.string (bsA x)) := by simp [go_sem, y1]
        have x2 : (w2.setCell ⟨w.heap.size, 3, none⟩ (.int .i64 0)).cell? ⟨w.heap.size, 2, none⟩ = some (.int .i64 n) := by simp [go_sem, y2]
        have x3 : (w2.setCell ⟨w.heap.size, 3, none⟩ (.int .i64 0)).cell? ⟨w.heap.size, 3, none⟩ = some (.int .i64 0) := by simp [go_sem, y3]
        clear c0 c1 c2 c3 hga hc hb2
        go_wp2
        clear y0 y1 y2 y3 f0 f1 f2 f3 hB2
        generalize w2.setCell ⟨w.heap.size, 3, none⟩ (.int .i64 0) = W0 at *
        go_quiet (fail)
        go_wp2
        go_ret2
        exact ⟨⟨_, ret_tb HN.out, fun _ => rfl⟩, (Bel.drewN ⟨hB3, hB3.size⟩ _).out⟩
    · have HN : Hid (false = decide ((0 : Int) = 0 ∧ r = [((7, x, n), (0 : Int))])) := by
        show _ = _
        refine (decide_eq_false ?_).symm
        rintro ⟨_, e⟩
        rw [e] at h1n
        exact h1n rfl
      have h1i : ¬ (r.length : Int) = 1 := by omega
      go_enter Tryz.func26, Tryz.ntmps26
      go_wp2_with fail
      refine (hC _).mono ?_
      rintro e w1 ⟨rfl, hb1⟩
      have HB : Hid (Box w1 w.heap.size (.int .i64 7) (.string (bsA x)) (.int .i64 n) (.int .i64 a)) := (Box.new w (.int .i64 7) (.string (bsA x)) (.int .i64 n) (.int .i64 a)).below hb1
      have HW : Hid (Below w.heap.size w w1) := ((Below.refl _ _).alloc (Nat.le_refl _) _).trans (hb1.mono (by simp))
      have hbw : Hid (w.heap.size < w1.heap.size) := by have := hb1.size; rw [World.size_alloc] at this; show _ < _; omega
      clear hC hb1
      go_wp2_with fail
      refine (hX _).mono ?_
      rintro e w2 ⟨hp, hb2⟩
      have bo2 := HB.out.below hb2
      have hB2 : Below w.heap.size w w2 := HW.out.trans (hb2.mono HW.out.size)
      clear hX HB HW
      unfold LexPost at hp
      rw [if_neg (by simp)] at hp
      obtain ⟨a1, cap, rfl, hta, hga, _⟩ := hp
      obtain ⟨y0, y1, y2, y3, f0, f1, f2, f3⟩ := bo2
      clear hta hga hb2 hbw
      go_wp2
      go_ret2
      exact ⟨⟨_, ret_tb HN.out, no_of HN.out⟩, hB2⟩
  · have HN : Hid (false = decide (er = 0 ∧ r = [((7, x, n), (0 : Int))])) := by show _ = _; simp [he]
    have he' : (er == 0) = false := by simpa using he
    go_enter Tryz.func26, Tryz.ntmps26
    go_wp2_with fail
    refine (hC _).mono ?_
    rintro e w1 ⟨rfl, hb1⟩
    have HB : Hid (Box w1 w.heap.size (.int .i64 7) (.string (bsA x)) (.int .i64 n) (.int .i64 a)) := (Box.new w (.int .i64 7) (.string (bsA x)) (.int .i64 n) (.int .i64 a)).below hb1
    have HW : Hid (Below w.heap.size w w1) := ((Below.refl _ _).alloc (Nat.le_refl _) _).trans (hb1.mono (by simp))
    have hbw : Hid (w.heap.size < w1.heap.size) := by have := hb1.size; rw [World.size_alloc] at this; show _ < _; omega
    clear hC hb1
    go_wp2_with fail
    refine (hX _).mono ?_
    rintro e w2 ⟨hp, hb2⟩
    have bo2 := HB.out.below hb2
    have hB2 : Below w.heap.size w w2 := HW.out.trans (hb2.mono HW.out.size)
    clear hX HB HW
    unfold LexPost at hp
    rw [if_pos he] at hp
    subst hp
    obtain ⟨y0, y1, y2, y3, f0, f1, f2, f3⟩ := bo2
    clear hb2 hbw
    go_wp2
    go_ret2
    exact ⟨⟨_, ret_tb HN.out, no_of HN.out⟩, hB2⟩
/-- How long a token's text is. -/
theorem shP_lenZ {t : Tk} (h0 : -9223372036854775808 ≤ t.2.2) (h1 : t.2.2 ≤ 9223372036854775807) : (shP t).length ≤ 2 * t.2.1.length + 27 := by
  have hi : (Lib.itoa t.2.2).length ≤ 21 := by
    unfold Lib.itoa
    split
    · have := digits20 t.2.2.natAbs (by omega); simp; omega
    · have := digits20 t.2.2.toNat (by omega); omega
  unfold shP
  split
  · omega
  · split
    · omega
    · split
      · unfold decS
        split
        · rw [List.length_cons, decL_eq, List.length_append, List.length_cons]
          have := digits20 (t.2.2.natAbs / 10000) (by omega)
          have := beh_len t.2.2.natAbs
          omega
        · rw [decL_eq, List.length_append, List.length_cons]
          have := digits20 (t.2.2.toNat / 10000) (by omega)
          have := beh_len t.2.2.toNat
          omega
      · split
        · split
          · have := dbl_len t.2.1
            simp; omega
          · simp
        · split
          · simp; omega
          · simp
/-- A token of no kind is read nowhere. -/
theorem say_none {s : List UInt8} {t : Tk} (h : shP t = []) : sayP s t = false := by
  cases hs : sayP s t with
  | false => rfl
  | true =>
    unfold sayP at hs
    obtain ⟨h1, h2⟩ := of_decide_eq_true hs
    have := lx_gd s 0 h1 t (by rw [h2]; simp [bar])
    exact absurd h this.2.1
theorem rshow_any (t : Tk) (a : Int) (w : World) (h1 : -9223372036854775808 ≤ t.2.2) (h2 : t.2.2 ≤ 9223372036854775807) (hl : t.2.1.length ≤ 10000000) : Calls Tryz.prog 26 #[tkV t a] w fun e w' => (∃ y, e = .returned (.tuple #[.string y, .bool (okP t)]) ∧ (okP t = true → y = bsA (shP t))) ∧ Below w.heap.size w w' := by
  have hL := shP_lenZ h1 h2
  obtain ⟨k, x, n⟩ := t
  dsimp only at h1 h2 hl hL
  unfold okP tkV
  dsimp only
  by_cases k3 : k = 3
  · subst k3; exact rsh_3 x n a w h1 h2 (by have : shP (3, x, n) = Lib.itoa n := rfl; rw [← this]; omega)
  by_cases k4 : k = 4
  · subst k4; exact rsh_4 x n a w h1 h2 (by have : shP (4, x, n) = decS n := rfl; rw [← this]; omega)
  by_cases k5 : k = 5
  · subst k5
    by_cases hv : x.length ≤ 1024 ∧ Lib.validD x = true
    · have e : shP (5, x, n) = 39 :: (dbl x ++ [39]) := by unfold shP; simp [hv]
      rw [e] at hL ⊢
      exact rsh_5 x n a w hv.1 hv.2 (by omega)
    · have e : shP (5, x, n) = [] := by unfold shP; simp [hv]
      rw [e] at hL ⊢
      exact rsh_5n x n a w hv (by simp)
  by_cases k7 : k = 7
  · subst k7; exact rsh_7 x n a w h1 h2 (by have : shP (7, x, n) = Lib.itoa n ++ [109, 115] := rfl; rw [← this]; omega)
  have hx := rsh_x k x n a w (by simpa using k3) (by simpa using k4) (by simpa using k5) (by simpa using k7) (by omega)
  by_cases k1 : k = 1 ∨ k = 2 ∨ k = 6
  · have e : shP (k, x, n) = x := by unfold shP; simp [k1]
    rw [e]
    exact hx
  · have e : shP (k, x, n) = [] := by unfold shP; simp [k1, k3, k4, k5, k7]
    rw [say_none e] at hx ⊢
    exact hx.mono fun e w' h => ⟨(by obtain ⟨⟨y, hy, _⟩, _⟩ := h; exact ⟨y, hy, fun h => by cases h⟩), h.2⟩
theorem addBig (A B : ByteArray) (n m : Nat) (hA : A.size ≤ n) (hB : B.size ≤ m) (h : n + m ≤ 1000000000000000) : ∀ W, (Op.stringOp .add A B).run Tryz.prog W = .ok (.string (A ++ B)) W := fun W => run_string_add_sum W _ _ (by omega)
theorem app_b (a b : List UInt8) : bsA a ++ bsA b = bsA (a ++ b) := app_bsA a b
set_option maxRecDepth 20000 in
set_option maxHeartbeats 4000000 in
theorem RShow_some (b off cap : Nat) (r : List Tt) (w : World) (hlen : r.length ≤ 10000000)
    (hN : ∀ t ∈ r, -9223372036854775808 ≤ t.1.2.2 ∧ t.1.2.2 ≤ 9223372036854775807 ∧ t.1.2.1.length ≤ 10000000 ∧ (shP t.1).length ≤ 10000000)
    (hc : ∀ i t, r[i]? = some t → w.cell? ⟨b, off + i * 4, none⟩ = some (.int .i64 t.1.1) ∧ w.cell? ⟨b, off + i * 4 + 1, none⟩ = some (.string (bsA t.1.2.1)) ∧ w.cell? ⟨b, off + i * 4 + 2, none⟩ = some (.int .i64 t.1.2.2) ∧ w.cell? ⟨b, off + i * 4 + 3, none⟩ = some (.int .i64 t.2)) :
    Calls Tryz.prog 16 #[.slice (some ⟨b, off, none⟩) r.length cap] w fun e w' => e = .returned (.string (bsA (shwP (bar r)))) ∧ Below w.heap.size w w' := by
  go_enter Tryz.func16, Tryz.ntmps16
  go_wp2
  go_loopw [3, 4] (fun o y wr => ∃ (m : Nat), y = .int .i64 m ∧ o = .string (bsA (js (bar (r.take m)))) ∧ m ≤ r.length ∧ (bar (r.take m)).all okP = true ∧ Bel w.heap.size w wr) (fun _ y _ => r.length - (intOf y).toNat)
  case atStart => exact ⟨0, rfl, rfl, Nat.zero_le _, rfl, Bel.refl _⟩
  case round =>
    obtain ⟨m, rfl, rfl, hm, hA, HB⟩ := hrel
    have hW := HB.out
    rcases Nat.lt_or_ge m r.length with hlt | hge
    · have gc : r[m]? = some r[m] := List.getElem?_eq_getElem hlt
      obtain ⟨c0, c1, c2, c3⟩ := hc m _ gc
      have c0 := cell_below hW c0
      have c1 := cell_below hW c1
      have c2 := cell_below hW c2
      have c3 := cell_below hW c3
      obtain ⟨n1, n2, n3, n4⟩ := hN r[m] (List.mem_of_getElem? gc)
      have htk : bar (r.take (m + 1)) = bar (r.take m) ++ [r[m].1] := by unfold bar; rw [List.take_add_one, gc, List.map_append]; rfl
      have hbig : (js (bar (r.take m))).length ≤ 100000000000000 := by
        have h1 := js_len 10000000 (bar (r.take m)) (fun t ht => by
          obtain ⟨x, hx, rfl⟩ := List.mem_map.1 ht
          exact (hN x (List.mem_of_mem_take hx)).2.2.2)
        have h2 : (bar (r.take m)).length ≤ 9999999 := by simp [bar]; omega
        have h3 := Nat.mul_le_mul_right (10000000 + 1) h2
        omega
      have hmem : okP r[m].1 = false → (bar r).all okP = false := fun h => by
        rw [List.all_eq_false]
        exact ⟨r[m].1, List.mem_map.2 ⟨r[m], List.mem_of_getElem? gc, rfl⟩, by simp [h]⟩
      clear hc hN
      generalize r[m] = t at *
      have h1 := rshow_any t.1 t.2 wr n1 n2 n3
      unfold tkV at h1
      have hbs : (bsA (js (bar (r.take m)))).size ≤ 100000000000000 := by rw [bsA_size]; exact hbig
      have hss : (bsA (shP t.1)).size ≤ 10000000 := by rw [bsA_size]; exact n4
      cases hok : okP t.1 with
      | false =>
        have HN : Hid (shwP (bar r) = []) := by show _ = _; unfold shwP; rw [hmem hok]; rfl
        rw [hok] at h1
        clear hmem htk hA hbig hbs hss
        go_wp2_with fail
        refine h1.mono ?_
        rintro e w1 ⟨⟨y, rfl, _⟩, hb1⟩
        clear h1
        have hB1 := hW.trans (hb1.mono hW.size)
        go_wp2
        go_ret
        exact ⟨by rw [HN.out]; rfl, hB1⟩
      | true =>
        rw [hok] at h1
        have HA : Hid ((bar (r.take (m + 1))).all okP = true) := by show _ = _; rw [htk, List.all_append, hA]; simp [hok]
        by_cases hm0 : m = 0
        · subst hm0
          simp only [Nat.zero_mul, Nat.add_zero] at c0 c1 c2 c3
          rw [List.take_zero] at hbs ⊢
          have HJ : Hid (bsA (js (bar [])) ++ bsA (shP t.1) = bsA (js (bar (r.take (0 + 1))))) := by show _ = _; rw [app_b, htk, js_snoc]; rfl
          have a1 := addBig (bsA (js (bar []))) (bsA (shP t.1)) 100000000000000 10000000 hbs hss (by omega)
          clear hmem htk hA hbig hbs hss
          go_wp2_with fail
          refine h1.mono ?_
          rintro e w1 ⟨⟨y, rfl, hy⟩, hb1⟩
          obtain rfl := hy trivial
          clear h1
          have hB1 := hW.trans (hb1.mono hW.size)
          go_wp2
          go_roundw
          case rel => exact ⟨0 + 1, rfl, congrArg Value.string HJ.out, by omega, HA.out, ⟨hB1, hB1.size⟩⟩
          case measure => simp [intOf]; omega
        · have hne : bar (r.take m) ≠ [] := fun e => by
            have := congrArg List.length e
            unfold bar at this
            rw [List.length_map, List.length_take, List.length_nil] at this
            omega
          have hmp : (0 : Int) < m := by omega
          have hls : (⟨#[32]⟩ : ByteArray).size ≤ 1 := by decide
          have a1 := addBig (bsA (js (bar (r.take m)))) ⟨#[32]⟩ 100000000000000 1 hbs hls (by omega)
          have a2 := addBig (bsA (js (bar (r.take m))) ++ ⟨#[32]⟩) (bsA (shP t.1)) 100000000000001 10000000 (addSz hbs hls) hss (by omega)
          have HJ : Hid ((bsA (js (bar (r.take m))) ++ ⟨#[32]⟩) ++ bsA (shP t.1) = bsA (js (bar (r.take (m + 1))))) := by
            show (bsA _ ++ bsA [32]) ++ _ = _
            rw [app_b, app_b, htk, js_snoc, if_neg hne]
            simp
          clear hmem htk hA hbig hbs hss hne hls
          go_wp2_with fail
          refine h1.mono ?_
          rintro e w1 ⟨⟨y, rfl, hy⟩, hb1⟩
          obtain rfl := hy trivial
          clear h1
          have hB1 := hW.trans (hb1.mono hW.size)
          go_wp2
          go_roundw
          case rel => exact ⟨m + 1, by go_num, congrArg Value.string HJ.out, by omega, HA.out, ⟨hB1, hB1.size⟩⟩
          case measure => simp [intOf]; omega
    · have hmn : r.take m = r := List.take_of_length_le hge
      rw [hmn] at hA ⊢
      have HN : Hid (shwP (bar r) = js (bar r)) := by show _ = _; unfold shwP; rw [hA]; rfl
      clear hc hN
      go_wp2
      go_ret
      exact ⟨congrArg (fun s => Ending.returned (.string (bsA s))) HN.out.symm, hW⟩
set_option maxRecDepth 20000 in
set_option maxHeartbeats 4000000 in
theorem RShow_0 (a : Option Addr) (cap : Nat) (w : World) : Calls Tryz.prog 16 #[.slice a 0 cap] w fun e w' => e = .returned (.string (bsA [])) ∧ Below w.heap.size w w' := by
  go_enter Tryz.func16, Tryz.ntmps16
  go_wp2
  refine wp_loop_rounds 1 ?_
  rw [rounds_succ]
  go_wp2
  go_ret
  exact ⟨rfl, Below.refl _ _⟩
theorem RShow_any (a : Option Addr) (cap : Nat) (r : List Tt) (w : World) (hlen : r.length ≤ 10000000)
    (hN : ∀ t ∈ r, -9223372036854775808 ≤ t.1.2.2 ∧ t.1.2.2 ≤ 9223372036854775807 ∧ t.1.2.1.length ≤ 10000000 ∧ (shP t.1).length ≤ 10000000) (h : TksAt w a r) :
    Calls Tryz.prog 16 #[.slice a r.length cap] w fun e w' => e = .returned (.string (bsA (shwP (bar r)))) ∧ Below w.heap.size w w' := by
  rcases h with rfl | ⟨b, off, rfl, hc⟩
  · exact RShow_0 a cap w
  · exact RShow_some b off cap r w hlen hN hc
end Go.Proofs.YthhbeejfnpcbhaaGreatDoor
