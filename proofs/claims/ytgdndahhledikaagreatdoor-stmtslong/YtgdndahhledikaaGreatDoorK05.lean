/- Lns, Exn. -/
import Derived.Test.YtgdndahhledikaaGreatDoorK04
namespace Go.Proofs.YtgdndahhledikaaGreatDoor
open Go.ChangeShapes Go.WideShapes Go.ChangeAt Go.RowKit
set_option linter.unusedSimpArgs false
set_option maxRecDepth 20000
set_option maxHeartbeats 4000000
theorem PPost.put {rb : Nat} {ta : Option Addr} {cap : Nat} {T : List Tt} {op : Nat} {w w1 : World} {x : X} {j : Nat} {s : Option Addr} {c : Nat} (hx : XAt (w.heap.size + 1) w1 x s) (hr : Rdr w1 rb ta cap T j op) (hf : Fx rb w w1) (hlt : rb < w.heap.size) :
  PPost rb ta cap T op w (.inr (x, j)) (.returned (xV x s c)) (set5 w1 w.heap.size 0 (.int .i64 (xk x)) (.string (bsA (xt x))) (.int .i64 (xn x)) (.int .i64 (xa x)) (.slice s (xl x) c)) :=
 ⟨⟨⟨s, c, rfl, NdF.keep (Nat.le_succ _) (fun b hb _ => set5_heap _ _ _ _ _ _ _ _ _ (by omega)) hx⟩, Rdr.set5 hr _ _ _ _ _ _ _ hlt⟩, hf.set5 _ _ _ _ _ _ _ (Nat.le_refl _)⟩
theorem or_any (rb : Nat) (ta : Option Addr) (cap : Nat) (T : List Tt) (part : Nat → Nat → Rz X) (hp : Reads rb ta cap T 196 part) (f : Nat) : Reads rb ta cap T 181 (fun i op => bnd (part i op) (lineP T 2 [[111, 114]] (fun j => part j op) f)) := by
 intro i op w r hop hr h
 have hA : Below w.heap.size w (w.alloc (Obj.cells #[Value.int IntKind.i64 0, Value.string { data := #[] }, Value.int IntKind.i64 0, Value.int IntKind.i64 0, Value.slice none 0 0] 34)) := (Below.refl _ _).alloc (Nat.le_refl _) _
 have hB : Below (w.alloc (Obj.cells #[Value.int IntKind.i64 0, Value.string { data := #[] }, Value.int IntKind.i64 0, Value.int IntKind.i64 0, Value.slice none 0 0] 34)).heap.size (w.alloc (Obj.cells #[Value.int IntKind.i64 0, Value.string { data := #[] }, Value.int IntKind.i64 0, Value.int IntKind.i64 0, Value.slice none 0 0] 34)) ((w.alloc (Obj.cells #[Value.int IntKind.i64 0, Value.string { data := #[] }, Value.int IntKind.i64 0, Value.int IntKind.i64 0, Value.slice none 0 0] 34)).alloc (Obj.cells #[Value.string { data := #[111, 114] }] 9)) := (Below.refl _ _).alloc (Nat.le_refl _) _
 have hlt := cell_lt hr.c0
 have hne : w.heap.size ≠ rb := by omega
 have hAB := hA.trans (hB.mono hA.size)
 have h1 := line_any rb ta cap T 196 (ent_of (fn := Tryz.f196) rfl (by decide) rfl) part hp 2 (by decide) [[111, 114]] (w.alloc (Obj.cells #[Value.int IntKind.i64 0, Value.string { data := #[] }, Value.int IntKind.i64 0, Value.int IntKind.i64 0, Value.slice none 0 0] 34)).heap.size 1 (by decide) f i op ((w.alloc (Obj.cells #[Value.int IntKind.i64 0, Value.string { data := #[] }, Value.int IntKind.i64 0, Value.int IntKind.i64 0, Value.slice none 0 0] 34)).alloc (Obj.cells #[Value.string { data := #[111, 114] }] 9)) ((hr.below hA).below hB) (StsL.new (w.alloc (Obj.cells #[Value.int IntKind.i64 0, Value.string { data := #[] }, Value.int IntKind.i64 0, Value.int IntKind.i64 0, Value.slice none 0 0] 34)) #[Value.string { data := #[111, 114] }] 9 [[111, 114]] rfl) hop (by rw [World.size_alloc]; omega) (by simp) r h
 rw [World.size_alloc] at h1
 have HZ : Hid (Box5 ((w.alloc (Obj.cells #[Value.int IntKind.i64 0, Value.string { data := #[] }, Value.int IntKind.i64 0, Value.int IntKind.i64 0, Value.slice none 0 0] 34)).alloc (Obj.cells #[Value.string { data := #[111, 114] }] 9)) w.heap.size (.int .i64 0) (.string ⟨#[]⟩) (.int .i64 0) (.int .i64 0) (.slice none 0 0)) := (Box5.new w (.int .i64 0) (.string ⟨#[]⟩) (.int .i64 0) (.int .i64 0) (.slice none 0 0) 34).below hB
 have HAB : Hid (Below w.heap.size w ((w.alloc (Obj.cells #[Value.int IntKind.i64 0, Value.string { data := #[] }, Value.int IntKind.i64 0, Value.int IntKind.i64 0, Value.slice none 0 0] 34)).alloc (Obj.cells #[Value.string { data := #[111, 114] }] 9))) := hAB
 unfold ptr at h1 ⊢
 clear hr h hp hA hB hAB
 go_enter Tryz.func181, Tryz.ntmps181
 go_wp2_with fail
 refine h1.mono ?_
 intro e w1 hpost
 clear h1
 cases r with
 | inl q =>
  obtain ⟨hG, hF⟩ := hpost.no
  unfold GUp at hG
  subst hG
  have HF : Hid _ := (Fx.below HAB.out).trans hF
  clear hpost hF
  go_wp2
  exact ⟨rfl, rfl, HF.out⟩
 | inr q =>
  obtain ⟨x, j⟩ := q
  obtain ⟨⟨⟨s1, c1, rfl, hx⟩, hr1⟩, hF⟩ := hpost.ok
  dsimp only at hx hr1
  have HFin : Hid _ := PPost.put (w := w) (c := c1) (NdF.keep (by simp) (fun _ _ _ => rfl) hx) hr1 ((Fx.below HAB.out).trans hF) hlt
  have hz := HZ.out.fx hF hne
  obtain ⟨z0, z1, z2, z3, z4, f0, f1, f2, f3, f4⟩ := own5 hz (.int .i64 (xk x)) (.string (bsA (xt x))) (.int .i64 (xn x)) (.int .i64 (xa x)) (.slice s1 (xl x) c1)
  obtain ⟨d0, d1, d2, d3, d4, g0, g1, g2, g3, g4⟩ := hz
  clear hpost hF hx hr1 HAB HZ
  unfold xV nV
  go_wp2
  refine bodyPost_ret (v := .agg #[.int .i64 (xk x), .string (bsA (xt x)), .int .i64 (xn x), .int .i64 (xa x), .slice s1 (xl x) c1]) (by unfold set5 at z0 z1 z2 z3 z4; simp [results, Tryz.results181, go_sem, z0, z1, z2, z3, z4]) rfl ?_
  exact HFin.out
theorem and_any (rb : Nat) (ta : Option Addr) (cap : Nat) (T : List Tt) (part : Nat → Nat → Rz X) (hp : Reads rb ta cap T 210 part) (f : Nat) : Reads rb ta cap T 196 (fun i op => bnd (part i op) (lineP T 2 [[97, 110, 100]] (fun j => part j op) f)) := by
 intro i op w r hop hr h
 have hA : Below w.heap.size w (w.alloc (Obj.cells #[Value.int IntKind.i64 0, Value.string { data := #[] }, Value.int IntKind.i64 0, Value.int IntKind.i64 0, Value.slice none 0 0] 34)) := (Below.refl _ _).alloc (Nat.le_refl _) _
 have hB : Below (w.alloc (Obj.cells #[Value.int IntKind.i64 0, Value.string { data := #[] }, Value.int IntKind.i64 0, Value.int IntKind.i64 0, Value.slice none 0 0] 34)).heap.size (w.alloc (Obj.cells #[Value.int IntKind.i64 0, Value.string { data := #[] }, Value.int IntKind.i64 0, Value.int IntKind.i64 0, Value.slice none 0 0] 34)) ((w.alloc (Obj.cells #[Value.int IntKind.i64 0, Value.string { data := #[] }, Value.int IntKind.i64 0, Value.int IntKind.i64 0, Value.slice none 0 0] 34)).alloc (Obj.cells #[Value.string { data := #[97, 110, 100] }] 9)) := (Below.refl _ _).alloc (Nat.le_refl _) _
 have hlt := cell_lt hr.c0
 have hne : w.heap.size ≠ rb := by omega
 have hAB := hA.trans (hB.mono hA.size)
 have h1 := line_any rb ta cap T 210 (ent_of (fn := Tryz.f210) rfl (by decide) rfl) part hp 2 (by decide) [[97, 110, 100]] (w.alloc (Obj.cells #[Value.int IntKind.i64 0, Value.string { data := #[] }, Value.int IntKind.i64 0, Value.int IntKind.i64 0, Value.slice none 0 0] 34)).heap.size 1 (by decide) f i op ((w.alloc (Obj.cells #[Value.int IntKind.i64 0, Value.string { data := #[] }, Value.int IntKind.i64 0, Value.int IntKind.i64 0, Value.slice none 0 0] 34)).alloc (Obj.cells #[Value.string { data := #[97, 110, 100] }] 9)) ((hr.below hA).below hB) (StsL.new (w.alloc (Obj.cells #[Value.int IntKind.i64 0, Value.string { data := #[] }, Value.int IntKind.i64 0, Value.int IntKind.i64 0, Value.slice none 0 0] 34)) #[Value.string { data := #[97, 110, 100] }] 9 [[97, 110, 100]] rfl) hop (by rw [World.size_alloc]; omega) (by simp) r h
 rw [World.size_alloc] at h1
 have HZ : Hid (Box5 ((w.alloc (Obj.cells #[Value.int IntKind.i64 0, Value.string { data := #[] }, Value.int IntKind.i64 0, Value.int IntKind.i64 0, Value.slice none 0 0] 34)).alloc (Obj.cells #[Value.string { data := #[97, 110, 100] }] 9)) w.heap.size (.int .i64 0) (.string ⟨#[]⟩) (.int .i64 0) (.int .i64 0) (.slice none 0 0)) := (Box5.new w (.int .i64 0) (.string ⟨#[]⟩) (.int .i64 0) (.int .i64 0) (.slice none 0 0) 34).below hB
 have HAB : Hid (Below w.heap.size w ((w.alloc (Obj.cells #[Value.int IntKind.i64 0, Value.string { data := #[] }, Value.int IntKind.i64 0, Value.int IntKind.i64 0, Value.slice none 0 0] 34)).alloc (Obj.cells #[Value.string { data := #[97, 110, 100] }] 9))) := hAB
 unfold ptr at h1 ⊢
 clear hr h hp hA hB hAB
 go_enter Tryz.func196, Tryz.ntmps196
 go_wp2_with fail
 refine h1.mono ?_
 intro e w1 hpost
 clear h1
 cases r with
 | inl q =>
  obtain ⟨hG, hF⟩ := hpost.no
  unfold GUp at hG
  subst hG
  have HF : Hid _ := (Fx.below HAB.out).trans hF
  clear hpost hF
  go_wp2
  exact ⟨rfl, rfl, HF.out⟩
 | inr q =>
  obtain ⟨x, j⟩ := q
  obtain ⟨⟨⟨s1, c1, rfl, hx⟩, hr1⟩, hF⟩ := hpost.ok
  dsimp only at hx hr1
  have HFin : Hid _ := PPost.put (w := w) (c := c1) (NdF.keep (by simp) (fun _ _ _ => rfl) hx) hr1 ((Fx.below HAB.out).trans hF) hlt
  have hz := HZ.out.fx hF hne
  obtain ⟨z0, z1, z2, z3, z4, f0, f1, f2, f3, f4⟩ := own5 hz (.int .i64 (xk x)) (.string (bsA (xt x))) (.int .i64 (xn x)) (.int .i64 (xa x)) (.slice s1 (xl x) c1)
  obtain ⟨d0, d1, d2, d3, d4, g0, g1, g2, g3, g4⟩ := hz
  clear hpost hF hx hr1 HAB HZ
  unfold xV nV
  go_wp2
  refine bodyPost_ret (v := .agg #[.int .i64 (xk x), .string (bsA (xt x)), .int .i64 (xn x), .int .i64 (xa x), .slice s1 (xl x) c1]) (by unfold set5 at z0 z1 z2 z3 z4; simp [results, Tryz.results196, go_sem, z0, z1, z2, z3, z4]) rfl ?_
  exact HFin.out
theorem sum_any (rb : Nat) (ta : Option Addr) (cap : Nat) (T : List Tt) (part : Nat → Nat → Rz X) (hp : Reads rb ta cap T 231 part) (f : Nat) : Reads rb ta cap T 224 (fun i op => bnd (part i op) (lineP T 6 [[43], [45]] (fun j => part j op) f)) := by
 intro i op w r hop hr h
 have hA : Below w.heap.size w (w.alloc (Obj.cells #[Value.int IntKind.i64 0, Value.string { data := #[] }, Value.int IntKind.i64 0, Value.int IntKind.i64 0, Value.slice none 0 0] 34)) := (Below.refl _ _).alloc (Nat.le_refl _) _
 have hB : Below (w.alloc (Obj.cells #[Value.int IntKind.i64 0, Value.string { data := #[] }, Value.int IntKind.i64 0, Value.int IntKind.i64 0, Value.slice none 0 0] 34)).heap.size (w.alloc (Obj.cells #[Value.int IntKind.i64 0, Value.string { data := #[] }, Value.int IntKind.i64 0, Value.int IntKind.i64 0, Value.slice none 0 0] 34)) ((w.alloc (Obj.cells #[Value.int IntKind.i64 0, Value.string { data := #[] }, Value.int IntKind.i64 0, Value.int IntKind.i64 0, Value.slice none 0 0] 34)).alloc (Obj.cells #[Value.string { data := #[43] }, Value.string { data := #[45] }] 9)) := (Below.refl _ _).alloc (Nat.le_refl _) _
 have hlt := cell_lt hr.c0
 have hne : w.heap.size ≠ rb := by omega
 have hAB := hA.trans (hB.mono hA.size)
 have h1 := line_any rb ta cap T 231 (ent_of (fn := Tryz.f231) rfl (by decide) rfl) part hp 6 (by decide) [[43], [45]] (w.alloc (Obj.cells #[Value.int IntKind.i64 0, Value.string { data := #[] }, Value.int IntKind.i64 0, Value.int IntKind.i64 0, Value.slice none 0 0] 34)).heap.size 2 (by decide) f i op ((w.alloc (Obj.cells #[Value.int IntKind.i64 0, Value.string { data := #[] }, Value.int IntKind.i64 0, Value.int IntKind.i64 0, Value.slice none 0 0] 34)).alloc (Obj.cells #[Value.string { data := #[43] }, Value.string { data := #[45] }] 9)) ((hr.below hA).below hB) (StsL.new (w.alloc (Obj.cells #[Value.int IntKind.i64 0, Value.string { data := #[] }, Value.int IntKind.i64 0, Value.int IntKind.i64 0, Value.slice none 0 0] 34)) #[Value.string { data := #[43] }, Value.string { data := #[45] }] 9 [[43], [45]] rfl) hop (by rw [World.size_alloc]; omega) (by simp) r h
 rw [World.size_alloc] at h1
 have HZ : Hid (Box5 ((w.alloc (Obj.cells #[Value.int IntKind.i64 0, Value.string { data := #[] }, Value.int IntKind.i64 0, Value.int IntKind.i64 0, Value.slice none 0 0] 34)).alloc (Obj.cells #[Value.string { data := #[43] }, Value.string { data := #[45] }] 9)) w.heap.size (.int .i64 0) (.string ⟨#[]⟩) (.int .i64 0) (.int .i64 0) (.slice none 0 0)) := (Box5.new w (.int .i64 0) (.string ⟨#[]⟩) (.int .i64 0) (.int .i64 0) (.slice none 0 0) 34).below hB
 have HAB : Hid (Below w.heap.size w ((w.alloc (Obj.cells #[Value.int IntKind.i64 0, Value.string { data := #[] }, Value.int IntKind.i64 0, Value.int IntKind.i64 0, Value.slice none 0 0] 34)).alloc (Obj.cells #[Value.string { data := #[43] }, Value.string { data := #[45] }] 9))) := hAB
 unfold ptr at h1 ⊢
 clear hr h hp hA hB hAB
 go_enter Tryz.func224, Tryz.ntmps224
 go_wp2_with fail
 refine h1.mono ?_
 intro e w1 hpost
 clear h1
 cases r with
 | inl q =>
  obtain ⟨hG, hF⟩ := hpost.no
  unfold GUp at hG
  subst hG
  have HF : Hid _ := (Fx.below HAB.out).trans hF
  clear hpost hF
  go_wp2
  exact ⟨rfl, rfl, HF.out⟩
 | inr q =>
  obtain ⟨x, j⟩ := q
  obtain ⟨⟨⟨s1, c1, rfl, hx⟩, hr1⟩, hF⟩ := hpost.ok
  dsimp only at hx hr1
  have HFin : Hid _ := PPost.put (w := w) (c := c1) (NdF.keep (by simp) (fun _ _ _ => rfl) hx) hr1 ((Fx.below HAB.out).trans hF) hlt
  have hz := HZ.out.fx hF hne
  obtain ⟨z0, z1, z2, z3, z4, f0, f1, f2, f3, f4⟩ := own5 hz (.int .i64 (xk x)) (.string (bsA (xt x))) (.int .i64 (xn x)) (.int .i64 (xa x)) (.slice s1 (xl x) c1)
  obtain ⟨d0, d1, d2, d3, d4, g0, g1, g2, g3, g4⟩ := hz
  clear hpost hF hx hr1 HAB HZ
  unfold xV nV
  go_wp2
  refine bodyPost_ret (v := .agg #[.int .i64 (xk x), .string (bsA (xt x)), .int .i64 (xn x), .int .i64 (xa x), .slice s1 (xl x) c1]) (by unfold set5 at z0 z1 z2 z3 z4; simp [results, Tryz.results224, go_sem, z0, z1, z2, z3, z4]) rfl ?_
  exact HFin.out
theorem prod_any (rb : Nat) (ta : Option Addr) (cap : Nat) (T : List Tt) (part : Nat → Nat → Rz X) (hp : Reads rb ta cap T 240 part) (f : Nat) : Reads rb ta cap T 231 (fun i op => bnd (part i op) (lineP T 6 [[42], [47], [37]] (fun j => part j op) f)) := by
 intro i op w r hop hr h
 have hA : Below w.heap.size w (w.alloc (Obj.cells #[Value.int IntKind.i64 0, Value.string { data := #[] }, Value.int IntKind.i64 0, Value.int IntKind.i64 0, Value.slice none 0 0] 34)) := (Below.refl _ _).alloc (Nat.le_refl _) _
 have hB : Below (w.alloc (Obj.cells #[Value.int IntKind.i64 0, Value.string { data := #[] }, Value.int IntKind.i64 0, Value.int IntKind.i64 0, Value.slice none 0 0] 34)).heap.size (w.alloc (Obj.cells #[Value.int IntKind.i64 0, Value.string { data := #[] }, Value.int IntKind.i64 0, Value.int IntKind.i64 0, Value.slice none 0 0] 34)) ((w.alloc (Obj.cells #[Value.int IntKind.i64 0, Value.string { data := #[] }, Value.int IntKind.i64 0, Value.int IntKind.i64 0, Value.slice none 0 0] 34)).alloc (Obj.cells #[Value.string { data := #[42] }, Value.string { data := #[47] }, Value.string { data := #[37] }] 9)) := (Below.refl _ _).alloc (Nat.le_refl _) _
 have hlt := cell_lt hr.c0
 have hne : w.heap.size ≠ rb := by omega
 have hAB := hA.trans (hB.mono hA.size)
 have h1 := line_any rb ta cap T 240 (ent_of (fn := Tryz.f240) rfl (by decide) rfl) part hp 6 (by decide) [[42], [47], [37]] (w.alloc (Obj.cells #[Value.int IntKind.i64 0, Value.string { data := #[] }, Value.int IntKind.i64 0, Value.int IntKind.i64 0, Value.slice none 0 0] 34)).heap.size 3 (by decide) f i op ((w.alloc (Obj.cells #[Value.int IntKind.i64 0, Value.string { data := #[] }, Value.int IntKind.i64 0, Value.int IntKind.i64 0, Value.slice none 0 0] 34)).alloc (Obj.cells #[Value.string { data := #[42] }, Value.string { data := #[47] }, Value.string { data := #[37] }] 9)) ((hr.below hA).below hB) (StsL.new (w.alloc (Obj.cells #[Value.int IntKind.i64 0, Value.string { data := #[] }, Value.int IntKind.i64 0, Value.int IntKind.i64 0, Value.slice none 0 0] 34)) #[Value.string { data := #[42] }, Value.string { data := #[47] }, Value.string { data := #[37] }] 9 [[42], [47], [37]] rfl) hop (by rw [World.size_alloc]; omega) (by simp) r h
 rw [World.size_alloc] at h1
 have HZ : Hid (Box5 ((w.alloc (Obj.cells #[Value.int IntKind.i64 0, Value.string { data := #[] }, Value.int IntKind.i64 0, Value.int IntKind.i64 0, Value.slice none 0 0] 34)).alloc (Obj.cells #[Value.string { data := #[42] }, Value.string { data := #[47] }, Value.string { data := #[37] }] 9)) w.heap.size (.int .i64 0) (.string ⟨#[]⟩) (.int .i64 0) (.int .i64 0) (.slice none 0 0)) := (Box5.new w (.int .i64 0) (.string ⟨#[]⟩) (.int .i64 0) (.int .i64 0) (.slice none 0 0) 34).below hB
 have HAB : Hid (Below w.heap.size w ((w.alloc (Obj.cells #[Value.int IntKind.i64 0, Value.string { data := #[] }, Value.int IntKind.i64 0, Value.int IntKind.i64 0, Value.slice none 0 0] 34)).alloc (Obj.cells #[Value.string { data := #[42] }, Value.string { data := #[47] }, Value.string { data := #[37] }] 9))) := hAB
 unfold ptr at h1 ⊢
 clear hr h hp hA hB hAB
 go_enter Tryz.func231, Tryz.ntmps231
 go_wp2_with fail
 refine h1.mono ?_
 intro e w1 hpost
 clear h1
 cases r with
 | inl q =>
  obtain ⟨hG, hF⟩ := hpost.no
  unfold GUp at hG
  subst hG
  have HF : Hid _ := (Fx.below HAB.out).trans hF
  clear hpost hF
  go_wp2
  exact ⟨rfl, rfl, HF.out⟩
 | inr q =>
  obtain ⟨x, j⟩ := q
  obtain ⟨⟨⟨s1, c1, rfl, hx⟩, hr1⟩, hF⟩ := hpost.ok
  dsimp only at hx hr1
  have HFin : Hid _ := PPost.put (w := w) (c := c1) (NdF.keep (by simp) (fun _ _ _ => rfl) hx) hr1 ((Fx.below HAB.out).trans hF) hlt
  have hz := HZ.out.fx hF hne
  obtain ⟨z0, z1, z2, z3, z4, f0, f1, f2, f3, f4⟩ := own5 hz (.int .i64 (xk x)) (.string (bsA (xt x))) (.int .i64 (xn x)) (.int .i64 (xa x)) (.slice s1 (xl x) c1)
  obtain ⟨d0, d1, d2, d3, d4, g0, g1, g2, g3, g4⟩ := hz
  clear hpost hF hx hr1 HAB HZ
  unfold xV nV
  go_wp2
  refine bodyPost_ret (v := .agg #[.int .i64 (xk x), .string (bsA (xt x)), .int .i64 (xn x), .int .i64 (xa x), .slice s1 (xl x) c1]) (by unfold set5 at z0 z1 z2 z3 z4; simp [results, Tryz.results231, go_sem, z0, z1, z2, z3, z4]) rfl ?_
  exact HFin.out
end Go.Proofs.YtgdndahhledikaaGreatDoor
namespace Go.Proofs.YtgdndahhledikaaGreatDoor
open Go.ChangeShapes Go.WideShapes Go.ChangeAt Go.RowKit
set_option linter.unusedSimpArgs false
set_option maxRecDepth 20000
set_option maxHeartbeats 4000000
theorem expr_any (rb : Nat) (ta : Option Addr) (cap : Nat) (T : List Tt) (g : Nat → Nat → Rz X) (hp : Reads rb ta cap T 181 g) : Reads rb ta cap T 157 (fun i op => if op = 100 then noR i 71 else g i (op + 1)) := by
 intro i op w r hop hr h
 have hA : Below w.heap.size w (w.alloc (Obj.cells #[Value.int IntKind.i64 0, Value.string { data := #[] }, Value.int IntKind.i64 0, Value.int IntKind.i64 0, Value.slice none 0 0] 34)) := (Below.refl _ _).alloc (Nat.le_refl _) _
 have hlt := cell_lt hr.c0
 have hne : w.heap.size ≠ rb := by omega
 have HZ : Hid (Box5 (w.alloc (Obj.cells #[Value.int IntKind.i64 0, Value.string { data := #[] }, Value.int IntKind.i64 0, Value.int IntKind.i64 0, Value.slice none 0 0] 34)) w.heap.size (.int .i64 0) (.string ⟨#[]⟩) (.int .i64 0) (.int .i64 0) (.slice none 0 0)) := Box5.new w (.int .i64 0) (.string ⟨#[]⟩) (.int .i64 0) (.int .i64 0) (.slice none 0 0) 34
 have HA : Hid (Below w.heap.size w (w.alloc (Obj.cells #[Value.int IntKind.i64 0, Value.string { data := #[] }, Value.int IntKind.i64 0, Value.int IntKind.i64 0, Value.slice none 0 0] 34))) := hA
 by_cases ho : op = 100
 ·
  subst ho
  have h1 := begin_no rb ta cap T i _ (hr.below hA)
  have HR : Hid (r = .inl (i, 71)) := (Option.some.inj h).symm
  unfold ptr at h1 ⊢
  clear hr h hp hA
  go_enter Tryz.func157, Tryz.ntmps157
  go_wp2_with fail
  refine h1.mono ?_
  rintro e w1 ⟨hG, hb1⟩
  unfold GUp at hG
  subst hG
  have HF : Hid (Fx rb w w1) := Fx.below (HA.out.trans (hb1.mono HA.out.size))
  clear h1 hb1
  go_wp2
  exact ⟨rfl, by rw [HR.out]; exact ⟨rfl, HF.out⟩⟩
 ·
  have h1 := begin_ok rb ta cap T i op _ (hr.below hA) (by omega)
  have HH : Hid (g i (op + 1) = some r) := by
   have h2 := h
   dsimp only at h2
   rw [if_neg ho] at h2
   exact h2
  have HP : Hid (Reads rb ta cap T 181 g) := hp
  unfold ptr at h1 ⊢
  clear hr h hp hA
  go_enter Tryz.func157, Tryz.ntmps157
  go_wp2_with fail
  refine h1.mono ?_
  rintro e w1 ⟨rfl, hr1, hF1⟩
  clear h1
  have h2 := HP.out i (op + 1) w1 r (by omega) hr1 HH.out
  unfold ptr at h2
  have HF1 : Hid (Fx rb w w1) := (Fx.below HA.out).trans hF1
  have HZ1 : Hid (Box5 w1 w.heap.size (.int .i64 0) (.string ⟨#[]⟩) (.int .i64 0) (.int .i64 0) (.slice none 0 0)) := HZ.out.fx hF1 hne
  have hs1 : w.heap.size + 1 ≤ w1.heap.size := by have h := hF1.size; rw [World.size_alloc] at h; exact h
  clear hF1 hr1 HP HH
  go_wp2_with fail
  refine h2.mono ?_
  intro e w2 hpost
  clear h2
  cases r with
  | inl q =>
   obtain ⟨hG, hF⟩ := hpost.no
   unfold GUp at hG
   subst hG
   have HF : Hid _ := HF1.out.trans hF
   clear hpost hF
   go_wp2
   exact ⟨rfl, rfl, HF.out⟩
  | inr q =>
   obtain ⟨x, j⟩ := q
   obtain ⟨⟨⟨s1, c1, rfl, hx⟩, hr2⟩, hF2⟩ := hpost.ok
   dsimp only at hx hr2
   have hY : Below w2.heap.size w2 (w2.alloc (Obj.cells #[Value.int IntKind.i64 (xk x), Value.string (bsA (xt x)), Value.int IntKind.i64 (xn x), Value.int IntKind.i64 (xa x), Value.slice s1 (xl x) c1] 34)) := (Below.refl _ _).alloc (Nat.le_refl _) _
   have h3 := end_any rb ta cap T j op _ (hr2.below hY) hop
   unfold ptr at h3
   have HX : Hid (XAt (w.heap.size + 1) (w2.alloc (Obj.cells #[Value.int IntKind.i64 (xk x), Value.string (bsA (xt x)), Value.int IntKind.i64 (xn x), Value.int IntKind.i64 (xa x), Value.slice s1 (xl x) c1] 34)) x s1) := NdF.keep hs1 (fun b _ hb => hY.block b hb) hx
   have HB : Hid (Box5 (w2.alloc (Obj.cells #[Value.int IntKind.i64 (xk x), Value.string (bsA (xt x)), Value.int IntKind.i64 (xn x), Value.int IntKind.i64 (xa x), Value.slice s1 (xl x) c1] 34)) w2.heap.size (.int .i64 (xk x)) (.string (bsA (xt x))) (.int .i64 (xn x)) (.int .i64 (xa x)) (.slice s1 (xl x) c1)) := Box5.new w2 _ _ _ _ _ 34
   have HF2 : Hid (Fx rb w (w2.alloc (Obj.cells #[Value.int IntKind.i64 (xk x), Value.string (bsA (xt x)), Value.int IntKind.i64 (xn x), Value.int IntKind.i64 (xa x), Value.slice s1 (xl x) c1] 34))) := HF1.out.trans (hF2.trans (Fx.below hY))
   have HZ2 : Hid (Box5 (w2.alloc (Obj.cells #[Value.int IntKind.i64 (xk x), Value.string (bsA (xt x)), Value.int IntKind.i64 (xn x), Value.int IntKind.i64 (xa x), Value.slice s1 (xl x) c1] 34)) w.heap.size (.int .i64 0) (.string ⟨#[]⟩) (.int .i64 0) (.int .i64 0) (.slice none 0 0)) := (HZ1.out.fx hF2 hne).below hY
   have hn2 : w2.heap.size ≠ rb := by have h := hF2.size; omega
   have hn3 : w.heap.size ≠ w2.heap.size := by have h := hF2.size; omega
   clear hpost hx hr2 hF2 hY
   unfold xV nV
   go_wp2_with fail
   refine h3.mono ?_
   rintro e w3 ⟨rfl, hr3, hF3⟩
   clear h3
   have HFin : Hid _ := PPost.put (w := w) (c := c1) (NdF.keep (Nat.le_refl _) (fun b hb hl => hF3.blk b hl (by omega)) HX.out) hr3 (HF2.out.trans hF3) hlt
   have hz := HZ2.out.fx hF3 hne
   obtain ⟨z0, z1, z2, z3, z4, f0, f1, f2, f3, f4⟩ := own5 hz (.int .i64 (xk x)) (.string (bsA (xt x))) (.int .i64 (xn x)) (.int .i64 (xa x)) (.slice s1 (xl x) c1)
   obtain ⟨d0, d1, d2, d3, d4, g0, g1, g2, g3, g4⟩ := hz
   obtain ⟨b0, b1, b2, b3, b4, _, _, _, _, _⟩ := HB.out.fx hF3 hn2
   clear hF3 hr3 HX HB HF2 HZ2
   go_wp2
   refine bodyPost_ret (v := .agg #[.int .i64 (xk x), .string (bsA (xt x)), .int .i64 (xn x), .int .i64 (xa x), .slice s1 (xl x) c1]) (by unfold set5 at z0 z1 z2 z3 z4; simp [results, Tryz.results157, go_sem, z0, z1, z2, z3, z4]) rfl ?_
   exact HFin.out
end Go.Proofs.YtgdndahhledikaaGreatDoor
