/- not and minus. -/
import Derived.Test.YtcicdapccondkaaPrf
namespace Go.Proofs.Ytcicdapccondkaa
open Go.ChangeShapes Go.WideShapes Go.ChangeAt Go.RowKit
set_option linter.unusedSimpArgs false
set_option maxRecDepth 20000
set_option maxHeartbeats 4000000

theorem not_any (rb : Nat) (ta : Option Addr) (cap : Nat) (T : List Tt) (part : Nat → Nat → Rz X) (hp : Reads rb ta cap T 75 part) (f : Nat) : Reads rb ta cap T 67 (fun i op => prefP T 2 [110, 111, 116] part f i op) := by
  intro i op w r hop hr h
  have hA : Below w.heap.size w (w.alloc (Obj.cells #[Value.int IntKind.i64 0, Value.string { data := #[] }, Value.int IntKind.i64 0, Value.int IntKind.i64 0, Value.slice none 0 0] 26)) := (Below.refl _ _).alloc (Nat.le_refl _) _
  have hlt := cell_lt hr.c0
  have hne : w.heap.size ≠ rb := by omega
  have h1 := prefixed_any rb ta cap T 75 (ent_of (fn := Try.f75) rfl (by decide) rfl) part hp 2 (by decide) [110, 111, 116] f i op (w.alloc (Obj.cells #[Value.int IntKind.i64 0, Value.string { data := #[] }, Value.int IntKind.i64 0, Value.int IntKind.i64 0, Value.slice none 0 0] 26)) r hop (hr.below hA) h
  have HZ : Hid (Box5 (w.alloc (Obj.cells #[Value.int IntKind.i64 0, Value.string { data := #[] }, Value.int IntKind.i64 0, Value.int IntKind.i64 0, Value.slice none 0 0] 26)) w.heap.size (.int .i64 0) (.string ⟨#[]⟩) (.int .i64 0) (.int .i64 0) (.slice none 0 0)) := Box5.new w (.int .i64 0) (.string ⟨#[]⟩) (.int .i64 0) (.int .i64 0) (.slice none 0 0) 26
  have HAB : Hid (Below w.heap.size w (w.alloc (Obj.cells #[Value.int IntKind.i64 0, Value.string { data := #[] }, Value.int IntKind.i64 0, Value.int IntKind.i64 0, Value.slice none 0 0] 26))) := hA
  unfold ptr at h1 ⊢
  clear hr h hp hA
  go_enter Try.func67, Try.ntmps67
  go_wp2_with fail
  refine h1.mono ?_
  intro e w1 hpost
  clear h1
  cases r with
  | inl q =>
    obtain ⟨hG, hF⟩ := hpost.no
    unfold GUp at hG
    subst hG
    have HF : Hid _ := (Fx.below HAB.out).trans hF
    clear hpost hF
    go_wp2
    exact ⟨rfl, rfl, HF.out⟩
  | inr q =>
    obtain ⟨x, j⟩ := q
    obtain ⟨⟨⟨s1, c1, rfl, hx⟩, hr1⟩, hF⟩ := hpost.ok
    dsimp only at hx hr1
    have HFin : Hid _ := PPost.put (w := w) (c := c1) (NdF.keep (by simp) (fun _ _ _ => rfl) hx) hr1 ((Fx.below HAB.out).trans hF) hlt
    have hz := HZ.out.fx hF hne
    obtain ⟨z0, z1, z2, z3, z4, f0, f1, f2, f3, f4⟩ := own5 hz (.int .i64 (xk x)) (.string (bsA (xt x))) (.int .i64 (xn x)) (.int .i64 (xa x)) (.slice s1 (xl x) c1)
    obtain ⟨d0, d1, d2, d3, d4, g0, g1, g2, g3, g4⟩ := hz
    clear hpost hF hx hr1 HAB HZ
    unfold xV nV
    go_wp2
    refine bodyPost_ret (v := .agg #[.int .i64 (xk x), .string (bsA (xt x)), .int .i64 (xn x), .int .i64 (xa x), .slice s1 (xl x) c1]) (by unfold set5 at z0 z1 z2 z3 z4; simp [results, Try.results67, go_sem, z0, z1, z2, z3, z4]) rfl ?_
    exact HFin.out
theorem minus_any (rb : Nat) (ta : Option Addr) (cap : Nat) (T : List Tt) (part : Nat → Nat → Rz X) (hp : Reads rb ta cap T 89 part) (f : Nat) : Reads rb ta cap T 88 (fun i op => prefP T 6 [45] part f i op) := by
  intro i op w r hop hr h
  have hA : Below w.heap.size w (w.alloc (Obj.cells #[Value.int IntKind.i64 0, Value.string { data := #[] }, Value.int IntKind.i64 0, Value.int IntKind.i64 0, Value.slice none 0 0] 26)) := (Below.refl _ _).alloc (Nat.le_refl _) _
  have hlt := cell_lt hr.c0
  have hne : w.heap.size ≠ rb := by omega
  have h1 := prefixed_any rb ta cap T 89 (ent_of (fn := Try.f89) rfl (by decide) rfl) part hp 6 (by decide) [45] f i op (w.alloc (Obj.cells #[Value.int IntKind.i64 0, Value.string { data := #[] }, Value.int IntKind.i64 0, Value.int IntKind.i64 0, Value.slice none 0 0] 26)) r hop (hr.below hA) h
  have HZ : Hid (Box5 (w.alloc (Obj.cells #[Value.int IntKind.i64 0, Value.string { data := #[] }, Value.int IntKind.i64 0, Value.int IntKind.i64 0, Value.slice none 0 0] 26)) w.heap.size (.int .i64 0) (.string ⟨#[]⟩) (.int .i64 0) (.int .i64 0) (.slice none 0 0)) := Box5.new w (.int .i64 0) (.string ⟨#[]⟩) (.int .i64 0) (.int .i64 0) (.slice none 0 0) 26
  have HAB : Hid (Below w.heap.size w (w.alloc (Obj.cells #[Value.int IntKind.i64 0, Value.string { data := #[] }, Value.int IntKind.i64 0, Value.int IntKind.i64 0, Value.slice none 0 0] 26))) := hA
  unfold ptr at h1 ⊢
  clear hr h hp hA
  go_enter Try.func88, Try.ntmps88
  go_wp2_with fail
  refine h1.mono ?_
  intro e w1 hpost
  clear h1
  cases r with
  | inl q =>
    obtain ⟨hG, hF⟩ := hpost.no
    unfold GUp at hG
    subst hG
    have HF : Hid _ := (Fx.below HAB.out).trans hF
    clear hpost hF
    go_wp2
    exact ⟨rfl, rfl, HF.out⟩
  | inr q =>
    obtain ⟨x, j⟩ := q
    obtain ⟨⟨⟨s1, c1, rfl, hx⟩, hr1⟩, hF⟩ := hpost.ok
    dsimp only at hx hr1
    have HFin : Hid _ := PPost.put (w := w) (c := c1) (NdF.keep (by simp) (fun _ _ _ => rfl) hx) hr1 ((Fx.below HAB.out).trans hF) hlt
    have hz := HZ.out.fx hF hne
    obtain ⟨z0, z1, z2, z3, z4, f0, f1, f2, f3, f4⟩ := own5 hz (.int .i64 (xk x)) (.string (bsA (xt x))) (.int .i64 (xn x)) (.int .i64 (xa x)) (.slice s1 (xl x) c1)
    obtain ⟨d0, d1, d2, d3, d4, g0, g1, g2, g3, g4⟩ := hz
    clear hpost hF hx hr1 HAB HZ
    unfold xV nV
    go_wp2
    refine bodyPost_ret (v := .agg #[.int .i64 (xk x), .string (bsA (xt x)), .int .i64 (xn x), .int .i64 (xa x), .slice s1 (xl x) c1]) (by unfold set5 at z0 z1 z2 z3 z4; simp [results, Try.results88, go_sem, z0, z1, z2, z3, z4]) rfl ?_
    exact HFin.out
end Go.Proofs.Ytcicdapccondkaa
