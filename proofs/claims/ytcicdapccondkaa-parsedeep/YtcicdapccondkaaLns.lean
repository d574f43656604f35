/- Parts with a sign between any two: or, and, sum, prod. -/
import Derived.Test.YtcicdapccondkaaLn
namespace Go.Proofs.Ytcicdapccondkaa
open Go.ChangeShapes Go.WideShapes Go.ChangeAt Go.RowKit
set_option linter.unusedSimpArgs false
set_option maxRecDepth 20000
set_option maxHeartbeats 4000000

/-- What is read, laid into the result's five cells. -/
theorem PPost.put {rb : Nat} {ta : Option Addr} {cap : Nat} {T : List Tt} {op : Nat} {w w1 : World} {x : X} {j : Nat} {s : Option Addr} {c : Nat} (hx : XAt (w.heap.size + 1) w1 x s) (hr : Rdr w1 rb ta cap T j op) (hf : Fx rb w w1) (hlt : rb < w.heap.size) :
    PPost rb ta cap T op w (.inr (x, j)) (.returned (xV x s c)) (set5 w1 w.heap.size 0 (.int .i64 (xk x)) (.string (bsA (xt x))) (.int .i64 (xn x)) (.int .i64 (xa x)) (.slice s (xl x) c)) :=
  ⟨⟨⟨s, c, rfl, NdF.keep (Nat.le_succ _) (fun b hb _ => set5_heap _ _ _ _ _ _ _ _ _ (by omega)) hx⟩, Rdr.set5 hr _ _ _ _ _ _ _ hlt⟩, hf.set5 _ _ _ _ _ _ _ (Nat.le_refl _)⟩
theorem or_any (rb : Nat) (ta : Option Addr) (cap : Nat) (T : List Tt) (part : Nat → Nat → Rz X) (hp : Reads rb ta cap T 51 part) (f : Nat) : Reads rb ta cap T 23 (fun i op => bnd (part i op) (lineP T 2 [[111, 114]] (fun j => part j op) f)) := by
  intro i op w r hop hr h
  have hA : Below w.heap.size w (w.alloc (Obj.cells #[Value.int IntKind.i64 0, Value.string { data := #[] }, Value.int IntKind.i64 0, Value.int IntKind.i64 0, Value.slice none 0 0] 26)) := (Below.refl _ _).alloc (Nat.le_refl _) _
  have hB : Below (w.alloc (Obj.cells #[Value.int IntKind.i64 0, Value.string { data := #[] }, Value.int IntKind.i64 0, Value.int IntKind.i64 0, Value.slice none 0 0] 26)).heap.size (w.alloc (Obj.cells #[Value.int IntKind.i64 0, Value.string { data := #[] }, Value.int IntKind.i64 0, Value.int IntKind.i64 0, Value.slice none 0 0] 26)) ((w.alloc (Obj.cells #[Value.int IntKind.i64 0, Value.string { data := #[] }, Value.int IntKind.i64 0, Value.int IntKind.i64 0, Value.slice none 0 0] 26)).alloc (Obj.cells #[Value.string { data := #[111, 114] }] 9)) := (Below.refl _ _).alloc (Nat.le_refl _) _
  have hlt := cell_lt hr.c0
  have hne : w.heap.size ≠ rb := by omega
  have hAB := hA.trans (hB.mono hA.size)
  have h1 := line_any rb ta cap T 51 (ent_of (fn := Try.f51) rfl (by decide) rfl) part hp 2 (by decide) [[111, 114]] (w.alloc (Obj.cells #[Value.int IntKind.i64 0, Value.string { data := #[] }, Value.int IntKind.i64 0, Value.int IntKind.i64 0, Value.slice none 0 0] 26)).heap.size 1 (by decide) f i op ((w.alloc (Obj.cells #[Value.int IntKind.i64 0, Value.string { data := #[] }, Value.int IntKind.i64 0, Value.int IntKind.i64 0, Value.slice none 0 0] 26)).alloc (Obj.cells #[Value.string { data := #[111, 114] }] 9)) ((hr.below hA).below hB) (StsL.new (w.alloc (Obj.cells #[Value.int IntKind.i64 0, Value.string { data := #[] }, Value.int IntKind.i64 0, Value.int IntKind.i64 0, Value.slice none 0 0] 26)) #[Value.string { data := #[111, 114] }] 9 [[111, 114]] rfl) hop (by rw [World.size_alloc]; omega) (by simp) r h
  rw [World.size_alloc] at h1
  have HZ : Hid (Box5 ((w.alloc (Obj.cells #[Value.int IntKind.i64 0, Value.string { data := #[] }, Value.int IntKind.i64 0, Value.int IntKind.i64 0, Value.slice none 0 0] 26)).alloc (Obj.cells #[Value.string { data := #[111, 114] }] 9)) w.heap.size (.int .i64 0) (.string ⟨#[]⟩) (.int .i64 0) (.int .i64 0) (.slice none 0 0)) := (Box5.new w (.int .i64 0) (.string ⟨#[]⟩) (.int .i64 0) (.int .i64 0) (.slice none 0 0) 26).below hB
  have HAB : Hid (Below w.heap.size w ((w.alloc (Obj.cells #[Value.int IntKind.i64 0, Value.string { data := #[] }, Value.int IntKind.i64 0, Value.int IntKind.i64 0, Value.slice none 0 0] 26)).alloc (Obj.cells #[Value.string { data := #[111, 114] }] 9))) := hAB
  unfold ptr at h1 ⊢
  clear hr h hp hA hB hAB
  go_enter Try.func23, Try.ntmps23
  go_wp2_with fail
  refine h1.mono ?_
  intro e w1 hpost
  clear h1
  cases r with
  | inl q =>
    obtain ⟨hG, hF⟩ := hpost.no
    unfold GUp at hG
    subst hG
    have HF : Hid _ := (Fx.below HAB.out).trans hF
    clear hpost hF
    go_wp2
    exact ⟨rfl, rfl, HF.out⟩
  | inr q =>
    obtain ⟨x, j⟩ := q
    obtain ⟨⟨⟨s1, c1, rfl, hx⟩, hr1⟩, hF⟩ := hpost.ok
    dsimp only at hx hr1
    have HFin : Hid _ := PPost.put (w := w) (c := c1) (NdF.keep (by simp) (fun _ _ _ => rfl) hx) hr1 ((Fx.below HAB.out).trans hF) hlt
    have hz := HZ.out.fx hF hne
    obtain ⟨z0, z1, z2, z3, z4, f0, f1, f2, f3, f4⟩ := own5 hz (.int .i64 (xk x)) (.string (bsA (xt x))) (.int .i64 (xn x)) (.int .i64 (xa x)) (.slice s1 (xl x) c1)
    obtain ⟨d0, d1, d2, d3, d4, g0, g1, g2, g3, g4⟩ := hz
    clear hpost hF hx hr1 HAB HZ
    unfold xV nV
    go_wp2
    refine bodyPost_ret (v := .agg #[.int .i64 (xk x), .string (bsA (xt x)), .int .i64 (xn x), .int .i64 (xa x), .slice s1 (xl x) c1]) (by unfold set5 at z0 z1 z2 z3 z4; simp [results, Try.results23, go_sem, z0, z1, z2, z3, z4]) rfl ?_
    exact HFin.out
theorem and_any (rb : Nat) (ta : Option Addr) (cap : Nat) (T : List Tt) (part : Nat → Nat → Rz X) (hp : Reads rb ta cap T 67 part) (f : Nat) : Reads rb ta cap T 51 (fun i op => bnd (part i op) (lineP T 2 [[97, 110, 100]] (fun j => part j op) f)) := by
  intro i op w r hop hr h
  have hA : Below w.heap.size w (w.alloc (Obj.cells #[Value.int IntKind.i64 0, Value.string { data := #[] }, Value.int IntKind.i64 0, Value.int IntKind.i64 0, Value.slice none 0 0] 26)) := (Below.refl _ _).alloc (Nat.le_refl _) _
  have hB : Below (w.alloc (Obj.cells #[Value.int IntKind.i64 0, Value.string { data := #[] }, Value.int IntKind.i64 0, Value.int IntKind.i64 0, Value.slice none 0 0] 26)).heap.size (w.alloc (Obj.cells #[Value.int IntKind.i64 0, Value.string { data := #[] }, Value.int IntKind.i64 0, Value.int IntKind.i64 0, Value.slice none 0 0] 26)) ((w.alloc (Obj.cells #[Value.int IntKind.i64 0, Value.string { data := #[] }, Value.int IntKind.i64 0, Value.int IntKind.i64 0, Value.slice none 0 0] 26)).alloc (Obj.cells #[Value.string { data := #[97, 110, 100] }] 9)) := (Below.refl _ _).alloc (Nat.le_refl _) _
  have hlt := cell_lt hr.c0
  have hne : w.heap.size ≠ rb := by omega
  have hAB := hA.trans (hB.mono hA.size)
  have h1 := line_any rb ta cap T 67 (ent_of (fn := Try.f67) rfl (by decide) rfl) part hp 2 (by decide) [[97, 110, 100]] (w.alloc (Obj.cells #[Value.int IntKind.i64 0, Value.string { data := #[] }, Value.int IntKind.i64 0, Value.int IntKind.i64 0, Value.slice none 0 0] 26)).heap.size 1 (by decide) f i op ((w.alloc (Obj.cells #[Value.int IntKind.i64 0, Value.string { data := #[] }, Value.int IntKind.i64 0, Value.int IntKind.i64 0, Value.slice none 0 0] 26)).alloc (Obj.cells #[Value.string { data := #[97, 110, 100] }] 9)) ((hr.below hA).below hB) (StsL.new (w.alloc (Obj.cells #[Value.int IntKind.i64 0, Value.string { data := #[] }, Value.int IntKind.i64 0, Value.int IntKind.i64 0, Value.slice none 0 0] 26)) #[Value.string { data := #[97, 110, 100] }] 9 [[97, 110, 100]] rfl) hop (by rw [World.size_alloc]; omega) (by simp) r h
  rw [World.size_alloc] at h1
  have HZ : Hid (Box5 ((w.alloc (Obj.cells #[Value.int IntKind.i64 0, Value.string { data := #[] }, Value.int IntKind.i64 0, Value.int IntKind.i64 0, Value.slice none 0 0] 26)).alloc (Obj.cells #[Value.string { data := #[97, 110, 100] }] 9)) w.heap.size (.int .i64 0) (.string ⟨#[]⟩) (.int .i64 0) (.int .i64 0) (.slice none 0 0)) := (Box5.new w (.int .i64 0) (.string ⟨#[]⟩) (.int .i64 0) (.int .i64 0) (.slice none 0 0) 26).below hB
  have HAB : Hid (Below w.heap.size w ((w.alloc (Obj.cells #[Value.int IntKind.i64 0, Value.string { data := #[] }, Value.int IntKind.i64 0, Value.int IntKind.i64 0, Value.slice none 0 0] 26)).alloc (Obj.cells #[Value.string { data := #[97, 110, 100] }] 9))) := hAB
  unfold ptr at h1 ⊢
  clear hr h hp hA hB hAB
  go_enter Try.func51, Try.ntmps51
  go_wp2_with fail
  refine h1.mono ?_
  intro e w1 hpost
  clear h1
  cases r with
  | inl q =>
    obtain ⟨hG, hF⟩ := hpost.no
    unfold GUp at hG
    subst hG
    have HF : Hid _ := (Fx.below HAB.out).trans hF
    clear hpost hF
    go_wp2
    exact ⟨rfl, rfl, HF.out⟩
  | inr q =>
    obtain ⟨x, j⟩ := q
    obtain ⟨⟨⟨s1, c1, rfl, hx⟩, hr1⟩, hF⟩ := hpost.ok
    dsimp only at hx hr1
    have HFin : Hid _ := PPost.put (w := w) (c := c1) (NdF.keep (by simp) (fun _ _ _ => rfl) hx) hr1 ((Fx.below HAB.out).trans hF) hlt
    have hz := HZ.out.fx hF hne
    obtain ⟨z0, z1, z2, z3, z4, f0, f1, f2, f3, f4⟩ := own5 hz (.int .i64 (xk x)) (.string (bsA (xt x))) (.int .i64 (xn x)) (.int .i64 (xa x)) (.slice s1 (xl x) c1)
    obtain ⟨d0, d1, d2, d3, d4, g0, g1, g2, g3, g4⟩ := hz
    clear hpost hF hx hr1 HAB HZ
    unfold xV nV
    go_wp2
    refine bodyPost_ret (v := .agg #[.int .i64 (xk x), .string (bsA (xt x)), .int .i64 (xn x), .int .i64 (xa x), .slice s1 (xl x) c1]) (by unfold set5 at z0 z1 z2 z3 z4; simp [results, Try.results51, go_sem, z0, z1, z2, z3, z4]) rfl ?_
    exact HFin.out
theorem sum_any (rb : Nat) (ta : Option Addr) (cap : Nat) (T : List Tt) (part : Nat → Nat → Rz X) (hp : Reads rb ta cap T 83 part) (f : Nat) : Reads rb ta cap T 77 (fun i op => bnd (part i op) (lineP T 6 [[43], [45]] (fun j => part j op) f)) := by
  intro i op w r hop hr h
  have hA : Below w.heap.size w (w.alloc (Obj.cells #[Value.int IntKind.i64 0, Value.string { data := #[] }, Value.int IntKind.i64 0, Value.int IntKind.i64 0, Value.slice none 0 0] 26)) := (Below.refl _ _).alloc (Nat.le_refl _) _
  have hB : Below (w.alloc (Obj.cells #[Value.int IntKind.i64 0, Value.string { data := #[] }, Value.int IntKind.i64 0, Value.int IntKind.i64 0, Value.slice none 0 0] 26)).heap.size (w.alloc (Obj.cells #[Value.int IntKind.i64 0, Value.string { data := #[] }, Value.int IntKind.i64 0, Value.int IntKind.i64 0, Value.slice none 0 0] 26)) ((w.alloc (Obj.cells #[Value.int IntKind.i64 0, Value.string { data := #[] }, Value.int IntKind.i64 0, Value.int IntKind.i64 0, Value.slice none 0 0] 26)).alloc (Obj.cells #[Value.string { data := #[43] }, Value.string { data := #[45] }] 9)) := (Below.refl _ _).alloc (Nat.le_refl _) _
  have hlt := cell_lt hr.c0
  have hne : w.heap.size ≠ rb := by omega
  have hAB := hA.trans (hB.mono hA.size)
  have h1 := line_any rb ta cap T 83 (ent_of (fn := Try.f83) rfl (by decide) rfl) part hp 6 (by decide) [[43], [45]] (w.alloc (Obj.cells #[Value.int IntKind.i64 0, Value.string { data := #[] }, Value.int IntKind.i64 0, Value.int IntKind.i64 0, Value.slice none 0 0] 26)).heap.size 2 (by decide) f i op ((w.alloc (Obj.cells #[Value.int IntKind.i64 0, Value.string { data := #[] }, Value.int IntKind.i64 0, Value.int IntKind.i64 0, Value.slice none 0 0] 26)).alloc (Obj.cells #[Value.string { data := #[43] }, Value.string { data := #[45] }] 9)) ((hr.below hA).below hB) (StsL.new (w.alloc (Obj.cells #[Value.int IntKind.i64 0, Value.string { data := #[] }, Value.int IntKind.i64 0, Value.int IntKind.i64 0, Value.slice none 0 0] 26)) #[Value.string { data := #[43] }, Value.string { data := #[45] }] 9 [[43], [45]] rfl) hop (by rw [World.size_alloc]; omega) (by simp) r h
  rw [World.size_alloc] at h1
  have HZ : Hid (Box5 ((w.alloc (Obj.cells #[Value.int IntKind.i64 0, Value.string { data := #[] }, Value.int IntKind.i64 0, Value.int IntKind.i64 0, Value.slice none 0 0] 26)).alloc (Obj.cells #[Value.string { data := #[43] }, Value.string { data := #[45] }] 9)) w.heap.size (.int .i64 0) (.string ⟨#[]⟩) (.int .i64 0) (.int .i64 0) (.slice none 0 0)) := (Box5.new w (.int .i64 0) (.string ⟨#[]⟩) (.int .i64 0) (.int .i64 0) (.slice none 0 0) 26).below hB
  have HAB : Hid (Below w.heap.size w ((w.alloc (Obj.cells #[Value.int IntKind.i64 0, Value.string { data := #[] }, Value.int IntKind.i64 0, Value.int IntKind.i64 0, Value.slice none 0 0] 26)).alloc (Obj.cells #[Value.string { data := #[43] }, Value.string { data := #[45] }] 9))) := hAB
  unfold ptr at h1 ⊢
  clear hr h hp hA hB hAB
  go_enter Try.func77, Try.ntmps77
  go_wp2_with fail
  refine h1.mono ?_
  intro e w1 hpost
  clear h1
  cases r with
  | inl q =>
    obtain ⟨hG, hF⟩ := hpost.no
    unfold GUp at hG
    subst hG
    have HF : Hid _ := (Fx.below HAB.out).trans hF
    clear hpost hF
    go_wp2
    exact ⟨rfl, rfl, HF.out⟩
  | inr q =>
    obtain ⟨x, j⟩ := q
    obtain ⟨⟨⟨s1, c1, rfl, hx⟩, hr1⟩, hF⟩ := hpost.ok
    dsimp only at hx hr1
    have HFin : Hid _ := PPost.put (w := w) (c := c1) (NdF.keep (by simp) (fun _ _ _ => rfl) hx) hr1 ((Fx.below HAB.out).trans hF) hlt
    have hz := HZ.out.fx hF hne
    obtain ⟨z0, z1, z2, z3, z4, f0, f1, f2, f3, f4⟩ := own5 hz (.int .i64 (xk x)) (.string (bsA (xt x))) (.int .i64 (xn x)) (.int .i64 (xa x)) (.slice s1 (xl x) c1)
    obtain ⟨d0, d1, d2, d3, d4, g0, g1, g2, g3, g4⟩ := hz
    clear hpost hF hx hr1 HAB HZ
    unfold xV nV
    go_wp2
    refine bodyPost_ret (v := .agg #[.int .i64 (xk x), .string (bsA (xt x)), .int .i64 (xn x), .int .i64 (xa x), .slice s1 (xl x) c1]) (by unfold set5 at z0 z1 z2 z3 z4; simp [results, Try.results77, go_sem, z0, z1, z2, z3, z4]) rfl ?_
    exact HFin.out
theorem prod_any (rb : Nat) (ta : Option Addr) (cap : Nat) (T : List Tt) (part : Nat → Nat → Rz X) (hp : Reads rb ta cap T 88 part) (f : Nat) : Reads rb ta cap T 83 (fun i op => bnd (part i op) (lineP T 6 [[42], [47], [37]] (fun j => part j op) f)) := by
  intro i op w r hop hr h
  have hA : Below w.heap.size w (w.alloc (Obj.cells #[Value.int IntKind.i64 0, Value.string { data := #[] }, Value.int IntKind.i64 0, Value.int IntKind.i64 0, Value.slice none 0 0] 26)) := (Below.refl _ _).alloc (Nat.le_refl _) _
  have hB : Below (w.alloc (Obj.cells #[Value.int IntKind.i64 0, Value.string { data := #[] }, Value.int IntKind.i64 0, Value.int IntKind.i64 0, Value.slice none 0 0] 26)).heap.size (w.alloc (Obj.cells #[Value.int IntKind.i64 0, Value.string { data := #[] }, Value.int IntKind.i64 0, Value.int IntKind.i64 0, Value.slice none 0 0] 26)) ((w.alloc (Obj.cells #[Value.int IntKind.i64 0, Value.string { data := #[] }, Value.int IntKind.i64 0, Value.int IntKind.i64 0, Value.slice none 0 0] 26)).alloc (Obj.cells #[Value.string { data := #[42] }, Value.string { data := #[47] }, Value.string { data := #[37] }] 9)) := (Below.refl _ _).alloc (Nat.le_refl _) _
  have hlt := cell_lt hr.c0
  have hne : w.heap.size ≠ rb := by omega
  have hAB := hA.trans (hB.mono hA.size)
  have h1 := line_any rb ta cap T 88 (ent_of (fn := Try.f88) rfl (by decide) rfl) part hp 6 (by decide) [[42], [47], [37]] (w.alloc (Obj.cells #[Value.int IntKind.i64 0, Value.string { data := #[] }, Value.int IntKind.i64 0, Value.int IntKind.i64 0, Value.slice none 0 0] 26)).heap.size 3 (by decide) f i op ((w.alloc (Obj.cells #[Value.int IntKind.i64 0, Value.string { data := #[] }, Value.int IntKind.i64 0, Value.int IntKind.i64 0, Value.slice none 0 0] 26)).alloc (Obj.cells #[Value.string { data := #[42] }, Value.string { data := #[47] }, Value.string { data := #[37] }] 9)) ((hr.below hA).below hB) (StsL.new (w.alloc (Obj.cells #[Value.int IntKind.i64 0, Value.string { data := #[] }, Value.int IntKind.i64 0, Value.int IntKind.i64 0, Value.slice none 0 0] 26)) #[Value.string { data := #[42] }, Value.string { data := #[47] }, Value.string { data := #[37] }] 9 [[42], [47], [37]] rfl) hop (by rw [World.size_alloc]; omega) (by simp) r h
  rw [World.size_alloc] at h1
  have HZ : Hid (Box5 ((w.alloc (Obj.cells #[Value.int IntKind.i64 0, Value.string { data := #[] }, Value.int IntKind.i64 0, Value.int IntKind.i64 0, Value.slice none 0 0] 26)).alloc (Obj.cells #[Value.string { data := #[42] }, Value.string { data := #[47] }, Value.string { data := #[37] }] 9)) w.heap.size (.int .i64 0) (.string ⟨#[]⟩) (.int .i64 0) (.int .i64 0) (.slice none 0 0)) := (Box5.new w (.int .i64 0) (.string ⟨#[]⟩) (.int .i64 0) (.int .i64 0) (.slice none 0 0) 26).below hB
  have HAB : Hid (Below w.heap.size w ((w.alloc (Obj.cells #[Value.int IntKind.i64 0, Value.string { data := #[] }, Value.int IntKind.i64 0, Value.int IntKind.i64 0, Value.slice none 0 0] 26)).alloc (Obj.cells #[Value.string { data := #[42] }, Value.string { data := #[47] }, Value.string { data := #[37] }] 9))) := hAB
  unfold ptr at h1 ⊢
  clear hr h hp hA hB hAB
  go_enter Try.func83, Try.ntmps83
  go_wp2_with fail
  refine h1.mono ?_
  intro e w1 hpost
  clear h1
  cases r with
  | inl q =>
    obtain ⟨hG, hF⟩ := hpost.no
    unfold GUp at hG
    subst hG
    have HF : Hid _ := (Fx.below HAB.out).trans hF
    clear hpost hF
    go_wp2
    exact ⟨rfl, rfl, HF.out⟩
  | inr q =>
    obtain ⟨x, j⟩ := q
    obtain ⟨⟨⟨s1, c1, rfl, hx⟩, hr1⟩, hF⟩ := hpost.ok
    dsimp only at hx hr1
    have HFin : Hid _ := PPost.put (w := w) (c := c1) (NdF.keep (by simp) (fun _ _ _ => rfl) hx) hr1 ((Fx.below HAB.out).trans hF) hlt
    have hz := HZ.out.fx hF hne
    obtain ⟨z0, z1, z2, z3, z4, f0, f1, f2, f3, f4⟩ := own5 hz (.int .i64 (xk x)) (.string (bsA (xt x))) (.int .i64 (xn x)) (.int .i64 (xa x)) (.slice s1 (xl x) c1)
    obtain ⟨d0, d1, d2, d3, d4, g0, g1, g2, g3, g4⟩ := hz
    clear hpost hF hx hr1 HAB HZ
    unfold xV nV
    go_wp2
    refine bodyPost_ret (v := .agg #[.int .i64 (xk x), .string (bsA (xt x)), .int .i64 (xn x), .int .i64 (xa x), .slice s1 (xl x) c1]) (by unfold set5 at z0 z1 z2 z3 z4; simp [results, Try.results83, go_sem, z0, z1, z2, z3, z4]) rfl ?_
    exact HFin.out
end Go.Proofs.Ytcicdapccondkaa
