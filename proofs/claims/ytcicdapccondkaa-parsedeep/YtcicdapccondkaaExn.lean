/- An expression, with one more open. -/
import Derived.Test.YtcicdapccondkaaLns
namespace Go.Proofs.Ytcicdapccondkaa
open Go.ChangeShapes Go.WideShapes Go.ChangeAt Go.RowKit
set_option linter.unusedSimpArgs false
set_option maxRecDepth 20000
set_option maxHeartbeats 4000000

theorem expr_any (rb : Nat) (ta : Option Addr) (cap : Nat) (T : List Tt) (g : Nat → Nat → Rz X) (hp : Reads rb ta cap T 23 g) : Reads rb ta cap T 16 (fun i op => if op = 100 then noR i 71 else g i (op + 1)) := by
  intro i op w r hop hr h
  have hA : Below w.heap.size w (w.alloc (Obj.cells #[Value.int IntKind.i64 0, Value.string { data := #[] }, Value.int IntKind.i64 0, Value.int IntKind.i64 0, Value.slice none 0 0] 26)) := (Below.refl _ _).alloc (Nat.le_refl _) _
  have hlt := cell_lt hr.c0
  have hne : w.heap.size ≠ rb := by omega
  have HZ : Hid (Box5 (w.alloc (Obj.cells #[Value.int IntKind.i64 0, Value.string { data := #[] }, Value.int IntKind.i64 0, Value.int IntKind.i64 0, Value.slice none 0 0] 26)) w.heap.size (.int .i64 0) (.string ⟨#[]⟩) (.int .i64 0) (.int .i64 0) (.slice none 0 0)) := Box5.new w (.int .i64 0) (.string ⟨#[]⟩) (.int .i64 0) (.int .i64 0) (.slice none 0 0) 26
  have HA : Hid (Below w.heap.size w (w.alloc (Obj.cells #[Value.int IntKind.i64 0, Value.string { data := #[] }, Value.int IntKind.i64 0, Value.int IntKind.i64 0, Value.slice none 0 0] 26))) := hA
  by_cases ho : op = 100
  · subst ho
    have h1 := begin_no rb ta cap T i _ (hr.below hA)
    have HR : Hid (r = .inl (i, 71)) := (Option.some.inj h).symm
    unfold ptr at h1 ⊢
    clear hr h hp hA
    go_enter Try.func16, Try.ntmps16
    go_wp2_with fail
    refine h1.mono ?_
    rintro e w1 ⟨hG, hb1⟩
    unfold GUp at hG
    subst hG
    have HF : Hid (Fx rb w w1) := Fx.below (HA.out.trans (hb1.mono HA.out.size))
    clear h1 hb1
    go_wp2
    exact ⟨rfl, by rw [HR.out]; exact ⟨rfl, HF.out⟩⟩
  · have h1 := begin_ok rb ta cap T i op _ (hr.below hA) (by omega)
    have HH : Hid (g i (op + 1) = some r) := by
      have h2 := h
      dsimp only at h2
      rw [if_neg ho] at h2
      exact h2
    have HP : Hid (Reads rb ta cap T 23 g) := hp
    unfold ptr at h1 ⊢
    clear hr h hp hA
    go_enter Try.func16, Try.ntmps16
    go_wp2_with fail
    refine h1.mono ?_
    rintro e w1 ⟨rfl, hr1, hF1⟩
    clear h1
    have h2 := HP.out i (op + 1) w1 r (by omega) hr1 HH.out
    unfold ptr at h2
    have HF1 : Hid (Fx rb w w1) := (Fx.below HA.out).trans hF1
    have HZ1 : Hid (Box5 w1 w.heap.size (.int .i64 0) (.string ⟨#[]⟩) (.int .i64 0) (.int .i64 0) (.slice none 0 0)) := HZ.out.fx hF1 hne
    have hs1 : w.heap.size + 1 ≤ w1.heap.size := by have h := hF1.size; rw [World.size_alloc] at h; exact h
    clear hF1 hr1 HP HH
    go_wp2_with fail
    refine h2.mono ?_
    intro e w2 hpost
    clear h2
    cases r with
    | inl q =>
      obtain ⟨hG, hF⟩ := hpost.no
      unfold GUp at hG
      subst hG
      have HF : Hid _ := HF1.out.trans hF
      clear hpost hF
      go_wp2
      exact ⟨rfl, rfl, HF.out⟩
    | inr q =>
      obtain ⟨x, j⟩ := q
      obtain ⟨⟨⟨s1, c1, rfl, hx⟩, hr2⟩, hF2⟩ := hpost.ok
      dsimp only at hx hr2
      have hY : Below w2.heap.size w2 (w2.alloc (Obj.cells #[Value.int IntKind.i64 (xk x), Value.string (bsA (xt x)), Value.int IntKind.i64 (xn x), Value.int IntKind.i64 (xa x), Value.slice s1 (xl x) c1] 26)) := (Below.refl _ _).alloc (Nat.le_refl _) _
      have h3 := end_any rb ta cap T j op _ (hr2.below hY) hop
      unfold ptr at h3
      have HX : Hid (XAt (w.heap.size + 1) (w2.alloc (Obj.cells #[Value.int IntKind.i64 (xk x), Value.string (bsA (xt x)), Value.int IntKind.i64 (xn x), Value.int IntKind.i64 (xa x), Value.slice s1 (xl x) c1] 26)) x s1) := NdF.keep hs1 (fun b _ hb => hY.block b hb) hx
      have HB : Hid (Box5 (w2.alloc (Obj.cells #[Value.int IntKind.i64 (xk x), Value.string (bsA (xt x)), Value.int IntKind.i64 (xn x), Value.int IntKind.i64 (xa x), Value.slice s1 (xl x) c1] 26)) w2.heap.size (.int .i64 (xk x)) (.string (bsA (xt x))) (.int .i64 (xn x)) (.int .i64 (xa x)) (.slice s1 (xl x) c1)) := Box5.new w2 _ _ _ _ _ 26
      have HF2 : Hid (Fx rb w (w2.alloc (Obj.cells #[Value.int IntKind.i64 (xk x), Value.string (bsA (xt x)), Value.int IntKind.i64 (xn x), Value.int IntKind.i64 (xa x), Value.slice s1 (xl x) c1] 26))) := HF1.out.trans (hF2.trans (Fx.below hY))
      have HZ2 : Hid (Box5 (w2.alloc (Obj.cells #[Value.int IntKind.i64 (xk x), Value.string (bsA (xt x)), Value.int IntKind.i64 (xn x), Value.int IntKind.i64 (xa x), Value.slice s1 (xl x) c1] 26)) w.heap.size (.int .i64 0) (.string ⟨#[]⟩) (.int .i64 0) (.int .i64 0) (.slice none 0 0)) := (HZ1.out.fx hF2 hne).below hY
      have hn2 : w2.heap.size ≠ rb := by have h := hF2.size; omega
      have hn3 : w.heap.size ≠ w2.heap.size := by have h := hF2.size; omega
      clear hpost hx hr2 hF2 hY
      unfold xV nV
      go_wp2_with fail
      refine h3.mono ?_
      rintro e w3 ⟨rfl, hr3, hF3⟩
      clear h3
      have HFin : Hid _ := PPost.put (w := w) (c := c1) (NdF.keep (Nat.le_refl _) (fun b hb hl => hF3.blk b hl (by omega)) HX.out) hr3 (HF2.out.trans hF3) hlt
      have hz := HZ2.out.fx hF3 hne
      obtain ⟨z0, z1, z2, z3, z4, f0, f1, f2, f3, f4⟩ := own5 hz (.int .i64 (xk x)) (.string (bsA (xt x))) (.int .i64 (xn x)) (.int .i64 (xa x)) (.slice s1 (xl x) c1)
      obtain ⟨d0, d1, d2, d3, d4, g0, g1, g2, g3, g4⟩ := hz
      obtain ⟨b0, b1, b2, b3, b4, _, _, _, _, _⟩ := HB.out.fx hF3 hn2
      clear hF3 hr3 HX HB HF2 HZ2
      go_wp2
      refine bodyPost_ret (v := .agg #[.int .i64 (xk x), .string (bsA (xt x)), .int .i64 (xn x), .int .i64 (xa x), .slice s1 (xl x) c1]) (by unfold set5 at z0 z1 z2 z3 z4; simp [results, Try.results16, go_sem, z0, z1, z2, z3, z4]) rfl ?_
      exact HFin.out
end Go.Proofs.Ytcicdapccondkaa
