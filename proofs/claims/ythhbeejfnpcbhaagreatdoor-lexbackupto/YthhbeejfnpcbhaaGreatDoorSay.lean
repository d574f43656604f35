/- Whether a text says just a token (says). -/
import Derived.Test.YthhbeejfnpcbhaaGreatDoorBar
namespace Go.Proofs.YthhbeejfnpcbhaaGreatDoor
open Go.ChangeShapes Go.WideShapes Go.ChangeAt Go.RowKit

def sayP (s : List UInt8) (t : Tk) : Bool := decide ((lx s 0).2.2 = 0 ∧ (lx s 0).1 = [(t, 0)])
set_option maxRecDepth 20000 in
set_option maxHeartbeats 4000000 in
theorem says_any (s : List UInt8) (t : Tk) (a : Int) (w : World) (hR : Rdy w) (hl : s.length ≤ 104857600) : Calls Tryz.prog 22 #[.string (bsA s), tkV t a] w fun e w' => e = .returned (.bool (sayP s t)) ∧ Below w.heap.size w w' := by
  obtain ⟨q1, q2, q3⟩ := t
  unfold sayP tkV
  dsimp only
  have h1 := Lex_any s (w.alloc (Obj.cells #[Value.int IntKind.i64 q1, Value.string (bsA q2), Value.int IntKind.i64 q3, Value.int IntKind.i64 a] 37)) (hR.alloc _) hl
  generalize lx s 0 = D at h1 ⊢
  obtain ⟨r, p, er⟩ := D
  dsimp only
  have hg := hg37
  clear hR
  by_cases he : er = 0
  · subst he
    by_cases h1n : r.length = 1
    · match r, h1n with
      | [u], _ =>
        have hq := fun wx => eq37 u ((q1, q2, q3), 0) wx
        have HN : Hid (decide (u = ((q1, q2, q3), 0)) = decide ((0 : Int) = 0 ∧ [u] = [((q1, q2, q3), (0 : Int))])) := by show _ = _; simp
        generalize decide (u = ((q1, q2, q3), 0)) = p1 at hq HN
        go_enter Tryz.func22, Tryz.ntmps22
        go_wp2_with fail
        refine h1.mono ?_
        rintro e w1 ⟨hp, hb⟩
        unfold LexPost at hp
        rw [if_neg (by simp)] at hp
        obtain ⟨a1, cap, rfl, hta, hga, _⟩ := hp
        rcases hta with h0 | ⟨b, off, rfl, hc⟩
        · cases h0
        obtain ⟨c0, c1, c2, c3⟩ := hc 0 u rfl
        have hbn : w.heap.size < b := by have := hga b off rfl; rw [World.size_alloc] at this; omega
        simp only [Nat.zero_mul, Nat.add_zero] at c0 c1 c2 c3
        have bo := (Box.new w (.int .i64 q1) (.string (bsA q2)) (.int .i64 q3) (.int .i64 a)).below hb
        obtain ⟨y0, y1, y2, y3, f0, f1, f2, f3⟩ := bo
        have hB : Below w.heap.size w w1 := ((Below.refl _ _).alloc (Nat.le_refl _) _).trans (hb.mono (by simp))
        clear hb h1 hc
        have hB2 : Below w.heap.size w (w1.setCell ⟨w.heap.size, 3, none⟩ (.int .i64 0)) := hB.setCell (p := ⟨w.heap.size, 3, none⟩) (Nat.le_refl _) _
        have n0 : (w1.setCell ⟨w.heap.size, 3, none⟩ (.int .i64 0)).cell? ⟨b, off, none⟩ = some (.int .i64 u.1.1) := by rw [World.cell?_setCell_far _ _ _ _ (by show w.heap.size ≠ b; omega)]; exact c0
        have n1 : (w1.setCell ⟨w.heap.size, 3, none⟩ (.int .i64 0)).cell? ⟨b, off + 1, none⟩ = some (.string (bsA u.1.2.1)) := by rw [World.cell?_setCell_far _ _ _ _ (by show w.heap.size ≠ b; omega)]; exact c1
        have n2 : (w1.setCell ⟨w.heap.size, 3, none⟩ (.int .i64 0)).cell? ⟨b, off + 2, none⟩ = some (.int .i64 u.1.2.2) := by rw [World.cell?_setCell_far _ _ _ _ (by show w.heap.size ≠ b; omega)]; exact c2
        have n3 : (w1.setCell ⟨w.heap.size, 3, none⟩ (.int .i64 0)).cell? ⟨b, off + 3, none⟩ = some (.int .i64 u.2) := by rw [World.cell?_setCell_far _ _ _ _ (by show w.heap.size ≠ b; omega)]; exact c3
        have x0 : (w1.setCell ⟨w.heap.size, 3, none⟩ (.int .i64 0)).cell? ⟨w.heap.size, 0, none⟩ = some (.int .i64 q1) := by simp [go_sem, y0]
        have x1 : (w1.setCell ⟨w.heap.size, 3, none⟩ (.int .i64 0)).cell? ⟨w.heap.size, 1, none⟩ = some (.string (bsA q2)) := by simp [go_sem, y1]
        have x2 : (w1.setCell ⟨w.heap.size, 3, none⟩ (.int .i64 0)).cell? ⟨w.heap.size, 2, none⟩ = some (.int .i64 q3) := by simp [go_sem, y2]
        have x3 : (w1.setCell ⟨w.heap.size, 3, none⟩ (.int .i64 0)).cell? ⟨w.heap.size, 3, none⟩ = some (.int .i64 0) := by simp [go_sem, y3]
        clear c0 c1 c2 c3 hga
        go_wp2
        clear y0 y1 y2 y3 f0 f1 f2 f3 hB
        generalize w1.setCell ⟨w.heap.size, 3, none⟩ (.int .i64 0) = W0 at *
        go_quiet (fail)
        go_wp2
        go_ret
        exact ⟨ret_bool HN.out, (Bel.drewN ⟨hB2, hB2.size⟩ _).out⟩
    · have HN : Hid (false = decide ((0 : Int) = 0 ∧ r = [((q1, q2, q3), (0 : Int))])) := by
        show _ = _
        refine (decide_eq_false ?_).symm
        rintro ⟨_, e⟩
        rw [e] at h1n
        exact h1n rfl
      have h1i : ¬ (r.length : Int) = 1 := by omega
      go_enter Tryz.func22, Tryz.ntmps22
      go_wp2_with fail
      refine h1.mono ?_
      rintro e w1 ⟨hp, hb⟩
      unfold LexPost at hp
      rw [if_neg (by simp)] at hp
      obtain ⟨a1, cap, rfl, _, _, _⟩ := hp
      dsimp only
      have bo := (Box.new w (.int .i64 q1) (.string (bsA q2)) (.int .i64 q3) (.int .i64 a)).below hb
      obtain ⟨y0, y1, y2, y3, f0, f1, f2, f3⟩ := bo
      have hB : Below w.heap.size w w1 := ((Below.refl _ _).alloc (Nat.le_refl _) _).trans (hb.mono (by simp))
      have hB2 : Below w.heap.size w (w1.setCell ⟨w.heap.size, 3, none⟩ (.int .i64 0)) := hB.setCell (p := ⟨w.heap.size, 3, none⟩) (Nat.le_refl _) _
      clear hb h1
      go_wp2
      clear y0 y1 y2 y3 f0 f1 f2 f3 hB
      generalize w1.setCell ⟨w.heap.size, 3, none⟩ (.int .i64 0) = W0 at *
      go_quiet (fail)
      go_wp2
      go_ret
      exact ⟨ret_bool HN.out, (Bel.drewN ⟨hB2, hB2.size⟩ _).out⟩
  · have HN : Hid (false = decide (er = 0 ∧ r = [((q1, q2, q3), (0 : Int))])) := by show _ = _; simp [he]
    have he' : (er == 0) = false := by simpa using he
    go_enter Tryz.func22, Tryz.ntmps22
    go_wp2_with fail
    refine h1.mono ?_
    rintro e w1 ⟨hp, hb⟩
    unfold LexPost at hp
    rw [if_pos he] at hp
    subst hp
    dsimp only
    have bo := (Box.new w (.int .i64 q1) (.string (bsA q2)) (.int .i64 q3) (.int .i64 a)).below hb
    obtain ⟨y0, y1, y2, y3, f0, f1, f2, f3⟩ := bo
    have hB : Below w.heap.size w w1 := ((Below.refl _ _).alloc (Nat.le_refl _) _).trans (hb.mono (by simp))
    have hB2 : Below w.heap.size w (w1.setCell ⟨w.heap.size, 3, none⟩ (.int .i64 0)) := hB.setCell (p := ⟨w.heap.size, 3, none⟩) (Nat.le_refl _) _
    clear hb h1
    go_wp2
    clear y0 y1 y2 y3 f0 f1 f2 f3 hB
    generalize w1.setCell ⟨w.heap.size, 3, none⟩ (.int .i64 0) = W0 at *
    go_quiet (fail)
    go_wp2
    go_ret
    exact ⟨ret_bool HN.out, (Bel.drewN ⟨hB2, hB2.size⟩ _).out⟩
end Go.Proofs.YthhbeejfnpcbhaaGreatDoor
