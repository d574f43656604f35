/- The form of any tree, its size and depth, and its copy (the walk). -/
import Derived.Test.YtcemogaacicnfaaGreatDoorRf8
import Derived.Test.YtcemogaacicnfaaGreatDoorRCg
import Derived.Test.YtcemogaacicnfaaGreatDoorRSz
import Derived.Test.YtcemogaacicnfaaGreatDoorSux
import Derived.Test.YtcemogaacicnfaaGreatDoorSpo
import Derived.Test.YtcemogaacicnfaaGreatDoorRJu
namespace Go.Proofs.YtcemogaacicnfaaGreatDoor
open Go.ChangeShapes Go.WideShapes Go.ChangeAt Go.RowKit Go.Shelf

/-- Depths: those that the walk counts, and by the pure function. -/
theorem dep_fold : ∀ (n : Nat) (x : Tr n) (d init : Int), ((flat (fun _ => true) n x d).map (·.2)).foldl max init = max init (d - 1 + (dpP n x : Nat))
  | 0, x, _, _ => Empty.elim x
  | n + 1, x, d, init => by
    have e : (flat (fun _ => true) (n + 1) x d).map (·.2) = d :: (ks (n + 1) x).flatMap fun y => (flat (fun _ => true) n y (d + 1)).map (·.2) := by
      rw [flat]
      simp only [if_true, List.map_cons, List.map_flatMap, List.map_map]
      rfl
    have key : ∀ (l : List (Tr n)) (acc : Int) (mk : Nat), d + mk ≤ acc → (∃ a0 : Int, acc = max a0 (d + mk)) → (l.flatMap fun y => (flat (fun _ => true) n y (d + 1)).map (·.2)).foldl max acc = max acc (d + ((l.map (dpP n)).foldl max mk : Nat)) := by
      intro l
      induction l with
      | nil =>
        intro acc mk h _
        simp only [List.flatMap_nil, List.foldl_nil, List.map_nil]
        omega
      | cons y l ih =>
        intro acc mk h hx
        rw [List.flatMap_cons, List.foldl_append, dep_fold n y (d + 1) acc, List.map_cons, List.foldl_cons]
        have h1 := ih (max acc (d + 1 - 1 + (dpP n y : Nat))) (max mk (dpP n y)) (by omega) ⟨acc, by omega⟩
        rw [h1]
        have h2 : ∀ (l : List Nat) (c : Nat), c ≤ l.foldl max c := by
          intro l
          induction l with
          | nil => intro c; exact Nat.le_refl _
          | cons z l ih2 => intro c; exact Nat.le_trans (Nat.le_max_left c z) (ih2 _)
        have h3 := h2 (l.map (dpP n)) (max mk (dpP n y))
        omega
    rw [e, List.foldl_cons, key (ks (n + 1) x) (max init d) 0 (by omega) ⟨init, by omega⟩]
    have e2 : dpP (n + 1) x = ((ks (n + 1) x).map (dpP n)).foldl max 0 + 1 := rfl
    rw [e2]
    have e3 : ((((ks (n + 1) x).map (dpP n)).foldl max 0 + 1 : Nat) : Int) = (((ks (n + 1) x).map (dpP n)).foldl max 0 : Nat) + 1 := by omega
    rw [e3]
    generalize (((ks (n + 1) x).map (dpP n)).foldl max 0 : Nat) = q
    omega
theorem dep_is (n : Nat) (x : Tr n) : dpL ((flat (fun _ => true) n x 1).map (·.2)) = (dpP n x : Nat) := by
  unfold dpL
  rw [dep_fold n x 1 0]
  omega
theorem Box5.blk {w w' : World} {b : Nat} {v0 v1 v2 v3 v4 : Value} (hb : Box5 w b v0 v1 v2 v3 v4) (e : w'.heap[b]? = w.heap[b]?) : Box5 w' b v0 v1 v2 v3 v4 :=
  ⟨cell_same hb.c0 e, cell_same hb.c1 e, cell_same hb.c2 e, cell_same hb.c3 e, cell_same hb.c4 e, (World.frozen?_of_block (a := ⟨b, 0, none⟩) e).trans hb.f0, (World.frozen?_of_block (a := ⟨b, 1, none⟩) e).trans hb.f1, (World.frozen?_of_block (a := ⟨b, 2, none⟩) e).trans hb.f2, (World.frozen?_of_block (a := ⟨b, 3, none⟩) e).trans hb.f3, (World.frozen?_of_block (a := ⟨b, 4, none⟩) e).trans hb.f4⟩
set_option linter.unusedSimpArgs false in
set_option maxRecDepth 20000 in
set_option maxHeartbeats 8000000 in
theorem forms_walk (ka na pa : Int) (ta : ByteArray) (sa : Option Addr) (la ca : Nat) (w : World) (hR : Rdy w) (f z d : Int) (Mine Cp : World → World → Option Addr → Nat → Prop)
    (h7 : ∀ W, Below w.heap.size w W → Calls Tryz.prog 7 #[.agg #[.int .i64 ka, .string ta, .int .i64 na, .int .i64 pa, .slice sa la ca]] W fun e w' => (∃ sm cm, e = .returned (.agg #[.int .i64 ka, .string ta, .int .i64 na, .int .i64 pa, .slice sm la cm]) ∧ Mine W w' sm cm) ∧ Below W.heap.size W w')
    (h8 : ∀ W0 w1 sm cm, Mine W0 w1 sm cm → Below w.heap.size w w1 → ∀ W, Below w1.heap.size w1 W → Calls Tryz.prog 8 #[.agg #[.int .i64 ka, .string ta, .int .i64 na, .int .i64 pa, .slice sm la cm]] W fun e w' => e = .returned (.int .i64 f) ∧ Below W.heap.size W w')
    (h9 : ∀ W, Below w.heap.size w W → Calls Tryz.prog 9 #[.agg #[.int .i64 ka, .string ta, .int .i64 na, .int .i64 pa, .slice sa la ca]] W fun e w' => e = .returned (.int .i64 f) ∧ Below W.heap.size W w')
    (h10 : ∀ W0 w1 sm cm, Mine W0 w1 sm cm → ∀ W, Below w1.heap.size w1 W → Calls Tryz.prog 10 #[.agg #[.int .i64 ka, .string ta, .int .i64 na, .int .i64 pa, .slice sm la cm]] W fun e w' => e = .returned (.int .i64 z) ∧ Below W.heap.size W w')
    (h11 : ∀ W, Below w.heap.size w W → Calls Tryz.prog 11 #[.agg #[.int .i64 ka, .string ta, .int .i64 na, .int .i64 pa, .slice sa la ca]] W fun e w' => e = .returned (.int .i64 z) ∧ Below W.heap.size W w')
    (h12 : ∀ W0 w1 sm cm, Mine W0 w1 sm cm → ∀ W, Below w1.heap.size w1 W → Calls Tryz.prog 12 #[.agg #[.int .i64 ka, .string ta, .int .i64 na, .int .i64 pa, .slice sm la cm]] W fun e w' => e = .returned (.int .i64 d) ∧ Below W.heap.size W w')
    (h13 : ∀ W, Below w.heap.size w W → Calls Tryz.prog 13 #[.agg #[.int .i64 ka, .string ta, .int .i64 na, .int .i64 pa, .slice sa la ca]] W fun e w' => e = .returned (.int .i64 d) ∧ Below W.heap.size W w')
    (h14 : ∀ W0 w1 sm cm, Mine W0 w1 sm cm → ∀ W, Below w.heap.size w W → Below w1.heap.size w1 W → Calls Tryz.prog 14 #[.agg #[.int .i64 ka, .string ta, .int .i64 na, .int .i64 pa, .slice sm la cm], .agg #[.int .i64 ka, .string ta, .int .i64 na, .int .i64 pa, .slice sa la ca]] W fun e w' => e = .returned (.bool true) ∧ Below W.heap.size W w')
    (h15 : ∀ W0 w1 sm cm, Mine W0 w1 sm cm → ∀ W, Below w1.heap.size w1 W → Calls Tryz.prog 15 #[.agg #[.int .i64 ka, .string ta, .int .i64 na, .int .i64 pa, .slice sm la cm]] W fun e w' => (∃ sc cc, e = .returned (.agg #[.int .i64 ka, .string ta, .int .i64 na, .int .i64 pa, .slice sc la cc]) ∧ Cp W w' sc cc) ∧ Below W.heap.size W w')
    (h14c : ∀ W0 w1 sc cc, Cp W0 w1 sc cc → ∀ W, Below w.heap.size w W → Below w1.heap.size w1 W → Calls Tryz.prog 14 #[.agg #[.int .i64 ka, .string ta, .int .i64 na, .int .i64 pa, .slice sc la cc], .agg #[.int .i64 ka, .string ta, .int .i64 na, .int .i64 pa, .slice sa la ca]] W fun e w' => e = .returned (.bool true) ∧ Below W.heap.size W w')
    (h16 : ∀ W0 w1 sc cc, Cp W0 w1 sc cc → ∀ W, Below w1.heap.size w1 W → W0.heap.size ≤ w1.heap.size → Calls Tryz.prog 16 #[.agg #[.int .i64 ka, .string ta, .int .i64 na, .int .i64 pa, .slice sc la cc]] W fun e w' => e = .returned (.tuple #[]) ∧ Below W0.heap.size W w') :
    Calls Tryz.prog 3 #[.agg #[.int .i64 ka, .string ta, .int .i64 na, .int .i64 pa, .slice sa la ca]] w fun e w' => e = .returned (.bool true) ∧ Below w.heap.size w w' := by
  have hW0 : Below w.heap.size w (w.alloc (Obj.cells #[Value.int IntKind.i64 ka, Value.string ta, Value.int IntKind.i64 na, Value.int IntKind.i64 pa, Value.slice sa la ca] 24)) := (Below.refl _ w).alloc (Nat.le_refl _) _
  have bA := Box5.new w (.int .i64 ka) (.string ta) (.int .i64 na) (.int .i64 pa) (.slice sa la ca) 24
  have HBA : Hid (Box5 (w.alloc (Obj.cells #[Value.int IntKind.i64 ka, Value.string ta, Value.int IntKind.i64 na, Value.int IntKind.i64 pa, Value.slice sa la ca] 24)) w.heap.size (.int .i64 ka) (.string ta) (.int .i64 na) (.int .i64 pa) (.slice sa la ca)) := bA
  have H7 : Hid _ := h7
  have H8a : Hid _ := h8
  have H9 : Hid _ := h9
  have H10a : Hid _ := h10
  have H11 : Hid _ := h11
  have H12a : Hid _ := h12
  have H13 : Hid _ := h13
  have H14a : Hid _ := h14
  have H15a : Hid _ := h15
  have H14c : Hid _ := h14c
  have H16 : Hid _ := h16
  have HBW : Hid (Below w.heap.size w (w.alloc (Obj.cells #[Value.int IntKind.i64 ka, Value.string ta, Value.int IntKind.i64 na, Value.int IntKind.i64 pa, Value.slice sa la ca] 24))) := hW0
  obtain ⟨a0, a1, a2, a3, a4, -, -, -, -, -⟩ := bA
  clear h7 h8 h9 h10 h11 h12 h13 h14 h15 h14c h16 hW0
  go_enter Tryz.func3, Tryz.ntmps3
  go_wp2_with fail
  refine (H7.out _ HBW.out).mono ?_
  rintro e w1 ⟨⟨sm, cm, rfl, hm⟩, hb1⟩
  have H8 : Hid _ := H8a.out _ _ _ _ hm (HBW.out.trans (hb1.mono HBW.out.size))
  have H10 : Hid _ := H10a.out _ _ _ _ hm
  have H12 : Hid _ := H12a.out _ _ _ _ hm
  have H14 : Hid _ := H14a.out _ _ _ _ hm
  have H15 : Hid _ := H15a.out _ _ _ _ hm
  clear a0 a1 a2 a3 a4 hm H8a H10a H12a H14a H15a H7
  have hA1 : Below w1.heap.size w1 (w1.alloc (Obj.cells #[Value.int IntKind.i64 ka, Value.string ta, Value.int IntKind.i64 na, Value.int IntKind.i64 pa, Value.slice sm la cm] 24)) := (Below.refl _ w1).alloc (Nat.le_refl _) _
  obtain ⟨b1, hb1e⟩ : ∃ b1, b1 = w1.heap.size := ⟨_, rfl⟩
  have HBM0 := Box5.new w1 (.int .i64 ka) (.string ta) (.int .i64 na) (.int .i64 pa) (.slice sm la cm) 24
  rw [← hb1e] at HBM0
  have HBM : Hid (Box5 (w1.alloc (Obj.cells #[Value.int IntKind.i64 ka, Value.string ta, Value.int IntKind.i64 na, Value.int IntKind.i64 pa, Value.slice sm la cm] 24)).drew b1 (.int .i64 ka) (.string ta) (.int .i64 na) (.int .i64 pa) (.slice sm la cm)) := HBM0.drew
  replace HBA : Hid (Box5 (w1.alloc (Obj.cells #[Value.int IntKind.i64 ka, Value.string ta, Value.int IntKind.i64 na, Value.int IntKind.i64 pa, Value.slice sm la cm] 24)).drew w.heap.size (.int .i64 ka) (.string ta) (.int .i64 na) (.int .i64 pa) (.slice sa la ca)) := ((HBA.out.below hb1).below hA1).drew
  replace HBW : Hid (Below w.heap.size w (w1.alloc (Obj.cells #[Value.int IntKind.i64 ka, Value.string ta, Value.int IntKind.i64 na, Value.int IntKind.i64 pa, Value.slice sm la cm] 24)).drew) := ((HBW.out.trans (hb1.mono HBW.out.size)).trans (hA1.mono (HBW.out.trans (hb1.mono HBW.out.size)).size)).drew
  have HB1 : Hid (Below w1.heap.size w1 (w1.alloc (Obj.cells #[Value.int IntKind.i64 ka, Value.string ta, Value.int IntKind.i64 na, Value.int IntKind.i64 pa, Value.slice sm la cm] 24)).drew) := hA1.drew
  have HE1 : Hid (b1 = w1.heap.size) := hb1e
  clear hb1 HBM0 hA1
  go_wp2_with fail
  rw [← HE1.out]
  clear hb1e
  refine wp_region_held_drew (S := (fun wS => Box5 wS w.heap.size (.int .i64 ka) (.string ta) (.int .i64 na) (.int .i64 pa) (.slice sa la ca) ∧ Box5 wS b1 (.int .i64 ka) (.string ta) (.int .i64 na) (.int .i64 pa) (.slice sm la cm))) (by kernel_rfl) ?_ (fun hHeld => ?_)
  · (try dsimp only); exact ⟨HBA.out, HBM.out⟩
  refine tk 0 (some 7) (v := ?_) rfl ?_ ?_
  rotate_left
  · intro wS hSw; (try dsimp only at hSw); have q0 := hSw.2.c0; have q1 := hSw.2.c1; have q2 := hSw.2.c2; have q3 := hSw.2.c3; have q4 := hSw.2.c4; go_simp; (try with_reducible rfl)
  try simp only [Act.put, List.setIfInBounds_toArray, List.set_cons_zero, List.set_cons_succ]
  refine tk 2 (some 9) (v := ?_) rfl ?_ ?_
  rotate_left
  · intro wS hSw; (try dsimp only at hSw); have q0 := hSw.1.c0; have q1 := hSw.1.c1; have q2 := hSw.1.c2; have q3 := hSw.1.c3; have q4 := hSw.1.c4; go_simp; (try with_reducible rfl)
  try simp only [Act.put, List.setIfInBounds_toArray, List.set_cons_zero, List.set_cons_succ]
  refine wpAnyH_ready (rs := [1]) (by kernel_rfl) (by simp) ?_
  refine AllReadyH.cons rfl (fun K hK => ?_) AllReadyH.nil
  go_simp
  go_at_call 8
  refine (H8.out _ HB1.out).mono ?_
  rintro e u1 ⟨rfl, hb1⟩
  replace HBA : Hid _ := HBA.out.below hb1
  replace HBM : Hid _ := HBM.out.below hb1
  replace HBW : Hid _ := HBW.out.trans (hb1.mono HBW.out.size)
  replace HB1 : Hid _ := HB1.out.trans (hb1.mono HB1.out.size)
  clear hb1
  refine hK.out _ _ ?_ (fun hH1 => ?_)
  · (try dsimp only); exact ⟨HBA.out, HBM.out⟩
  clear hK K
  try simp only [Act.put, List.setIfInBounds_toArray, List.set_cons_zero, List.set_cons_succ]
  refine wpAnyH_ready (rs := [3]) (by kernel_rfl) (by simp) ?_
  refine AllReadyH.cons rfl (fun K hK => ?_) AllReadyH.nil
  go_simp
  go_at_call 9
  refine (H9.out _ HBW.out).mono ?_
  rintro e u2 ⟨rfl, hb1⟩
  replace HBA : Hid _ := HBA.out.below hb1
  replace HBM : Hid _ := HBM.out.below hb1
  replace HBW : Hid _ := HBW.out.trans (hb1.mono HBW.out.size)
  replace HB1 : Hid _ := HB1.out.trans (hb1.mono HB1.out.size)
  clear hb1
  refine hK.out _ _ ?_ (fun hH3 => ?_)
  · (try dsimp only); exact ⟨HBA.out, HBM.out⟩
  clear hK K
  try simp only [Act.put, List.setIfInBounds_toArray, List.set_cons_zero, List.set_cons_succ]
  refine tk 4 (some 11) (v := ?_) rfl ?_ ?_
  rotate_left
  · intro wS hSw; (try dsimp only at hSw); go_simp; (try with_reducible rfl)
  try simp only [Act.put, List.setIfInBounds_toArray, List.set_cons_zero, List.set_cons_succ]
  refine tk 5 (some 12) (v := ?_) rfl ?_ ?_
  rotate_left
  · intro wS hSw; (try dsimp only at hSw); go_simp; (try with_reducible rfl)
  try simp only [Act.put, List.setIfInBounds_toArray, List.set_cons_zero, List.set_cons_succ]
  refine tk 6 (some 13) (v := ?_) rfl ?_ ?_
  rotate_left
  · intro wS hSw; (try dsimp only at hSw); have q0 := hSw.2.c0; have q1 := hSw.2.c1; have q2 := hSw.2.c2; have q3 := hSw.2.c3; have q4 := hSw.2.c4; go_simp; (try with_reducible rfl)
  try simp only [Act.put, List.setIfInBounds_toArray, List.set_cons_zero, List.set_cons_succ]
  refine tk 8 (some 15) (v := ?_) rfl ?_ ?_
  rotate_left
  · intro wS hSw; (try dsimp only at hSw); have q0 := hSw.1.c0; have q1 := hSw.1.c1; have q2 := hSw.1.c2; have q3 := hSw.1.c3; have q4 := hSw.1.c4; go_simp; (try with_reducible rfl)
  try simp only [Act.put, List.setIfInBounds_toArray, List.set_cons_zero, List.set_cons_succ]
  refine wpAnyH_ready (rs := [7]) (by kernel_rfl) (by simp) ?_
  refine AllReadyH.cons rfl (fun K hK => ?_) AllReadyH.nil
  go_simp
  go_at_call 10
  refine (H10.out _ HB1.out).mono ?_
  rintro e u3 ⟨rfl, hb1⟩
  replace HBA : Hid _ := HBA.out.below hb1
  replace HBM : Hid _ := HBM.out.below hb1
  replace HBW : Hid _ := HBW.out.trans (hb1.mono HBW.out.size)
  replace HB1 : Hid _ := HB1.out.trans (hb1.mono HB1.out.size)
  clear hb1
  refine hK.out _ _ ?_ (fun hH7 => ?_)
  · (try dsimp only); exact ⟨HBA.out, HBM.out⟩
  clear hK K
  try simp only [Act.put, List.setIfInBounds_toArray, List.set_cons_zero, List.set_cons_succ]
  refine wpAnyH_ready (rs := [9]) (by kernel_rfl) (by simp) ?_
  refine AllReadyH.cons rfl (fun K hK => ?_) AllReadyH.nil
  go_simp
  go_at_call 11
  refine (H11.out _ HBW.out).mono ?_
  rintro e u4 ⟨rfl, hb1⟩
  replace HBA : Hid _ := HBA.out.below hb1
  replace HBM : Hid _ := HBM.out.below hb1
  replace HBW : Hid _ := HBW.out.trans (hb1.mono HBW.out.size)
  replace HB1 : Hid _ := HB1.out.trans (hb1.mono HB1.out.size)
  clear hb1
  refine hK.out _ _ ?_ (fun hH9 => ?_)
  · (try dsimp only); exact ⟨HBA.out, HBM.out⟩
  clear hK K
  try simp only [Act.put, List.setIfInBounds_toArray, List.set_cons_zero, List.set_cons_succ]
  refine tk 10 (some 17) (v := ?_) rfl ?_ ?_
  rotate_left
  · intro wS hSw; (try dsimp only at hSw); go_simp; (try with_reducible rfl)
  try simp only [Act.put, List.setIfInBounds_toArray, List.set_cons_zero, List.set_cons_succ]
  refine tk 11 (some 18) (v := ?_) rfl ?_ ?_
  rotate_left
  · intro wS hSw; (try dsimp only at hSw); go_simp; (try with_reducible rfl)
  try simp only [Act.put, List.setIfInBounds_toArray, List.set_cons_zero, List.set_cons_succ]
  refine tk 12 (some 19) (v := ?_) rfl ?_ ?_
  rotate_left
  · intro wS hSw; (try dsimp only at hSw); go_simp; (try with_reducible rfl)
  try simp only [Act.put, List.setIfInBounds_toArray, List.set_cons_zero, List.set_cons_succ]
  refine tk 13 (some 20) (v := ?_) rfl ?_ ?_
  rotate_left
  · intro wS hSw; (try dsimp only at hSw); have q0 := hSw.2.c0; have q1 := hSw.2.c1; have q2 := hSw.2.c2; have q3 := hSw.2.c3; have q4 := hSw.2.c4; go_simp; (try with_reducible rfl)
  try simp only [Act.put, List.setIfInBounds_toArray, List.set_cons_zero, List.set_cons_succ]
  refine tk 15 (some 22) (v := ?_) rfl ?_ ?_
  rotate_left
  · intro wS hSw; (try dsimp only at hSw); have q0 := hSw.1.c0; have q1 := hSw.1.c1; have q2 := hSw.1.c2; have q3 := hSw.1.c3; have q4 := hSw.1.c4; go_simp; (try with_reducible rfl)
  try simp only [Act.put, List.setIfInBounds_toArray, List.set_cons_zero, List.set_cons_succ]
  refine wpAnyH_ready (rs := [14]) (by kernel_rfl) (by simp) ?_
  refine AllReadyH.cons rfl (fun K hK => ?_) AllReadyH.nil
  go_simp
  go_at_call 12
  refine (H12.out _ HB1.out).mono ?_
  rintro e u5 ⟨rfl, hb1⟩
  replace HBA : Hid _ := HBA.out.below hb1
  replace HBM : Hid _ := HBM.out.below hb1
  replace HBW : Hid _ := HBW.out.trans (hb1.mono HBW.out.size)
  replace HB1 : Hid _ := HB1.out.trans (hb1.mono HB1.out.size)
  clear hb1
  refine hK.out _ _ ?_ (fun hH14 => ?_)
  · (try dsimp only); exact ⟨HBA.out, HBM.out⟩
  clear hK K
  try simp only [Act.put, List.setIfInBounds_toArray, List.set_cons_zero, List.set_cons_succ]
  refine wpAnyH_ready (rs := [16]) (by kernel_rfl) (by simp) ?_
  refine AllReadyH.cons rfl (fun K hK => ?_) AllReadyH.nil
  go_simp
  go_at_call 13
  refine (H13.out _ HBW.out).mono ?_
  rintro e u6 ⟨rfl, hb1⟩
  replace HBA : Hid _ := HBA.out.below hb1
  replace HBM : Hid _ := HBM.out.below hb1
  replace HBW : Hid _ := HBW.out.trans (hb1.mono HBW.out.size)
  replace HB1 : Hid _ := HB1.out.trans (hb1.mono HB1.out.size)
  clear hb1
  refine hK.out _ _ ?_ (fun hH16 => ?_)
  · (try dsimp only); exact ⟨HBA.out, HBM.out⟩
  clear hK K
  try simp only [Act.put, List.setIfInBounds_toArray, List.set_cons_zero, List.set_cons_succ]
  refine tk 17 (some 24) (v := ?_) rfl ?_ ?_
  rotate_left
  · intro wS hSw; (try dsimp only at hSw); go_simp; (try with_reducible rfl)
  try simp only [Act.put, List.setIfInBounds_toArray, List.set_cons_zero, List.set_cons_succ]
  refine tk 18 (some 25) (v := ?_) rfl ?_ ?_
  rotate_left
  · intro wS hSw; (try dsimp only at hSw); go_simp; (try with_reducible rfl)
  try simp only [Act.put, List.setIfInBounds_toArray, List.set_cons_zero, List.set_cons_succ]
  refine tk 19 (some 26) (v := ?_) rfl ?_ ?_
  rotate_left
  · intro wS hSw; (try dsimp only at hSw); go_simp; (try with_reducible rfl)
  try simp only [Act.put, List.setIfInBounds_toArray, List.set_cons_zero, List.set_cons_succ]
  refine tk 20 (some 27) (v := ?_) rfl ?_ ?_
  rotate_left
  · intro wS hSw; (try dsimp only at hSw); have q0 := hSw.2.c0; have q1 := hSw.2.c1; have q2 := hSw.2.c2; have q3 := hSw.2.c3; have q4 := hSw.2.c4; go_simp; (try with_reducible rfl)
  try simp only [Act.put, List.setIfInBounds_toArray, List.set_cons_zero, List.set_cons_succ]
  refine tk 21 (some 28) (v := ?_) rfl ?_ ?_
  rotate_left
  · intro wS hSw; (try dsimp only at hSw); have q0 := hSw.1.c0; have q1 := hSw.1.c1; have q2 := hSw.1.c2; have q3 := hSw.1.c3; have q4 := hSw.1.c4; go_simp; (try with_reducible rfl)
  try simp only [Act.put, List.setIfInBounds_toArray, List.set_cons_zero, List.set_cons_succ]
  refine wpAnyH_ready (rs := [22]) (by kernel_rfl) (by simp) ?_
  refine AllReadyH.cons rfl (fun K hK => ?_) AllReadyH.nil
  go_simp
  go_at_call 14
  refine (H14.out _ HBW.out HB1.out).mono ?_
  rintro e u7 ⟨rfl, hb1⟩
  replace HBA : Hid _ := HBA.out.below hb1
  replace HBM : Hid _ := HBM.out.below hb1
  replace HBW : Hid _ := HBW.out.trans (hb1.mono HBW.out.size)
  replace HB1 : Hid _ := HB1.out.trans (hb1.mono HB1.out.size)
  clear hb1
  refine hK.out _ _ ?_ (fun hH22 => ?_)
  · (try dsimp only); exact ⟨HBA.out, HBM.out⟩
  clear hK K
  try simp only [Act.put, List.setIfInBounds_toArray, List.set_cons_zero, List.set_cons_succ]
  refine tk 23 (some 30) (v := ?_) rfl ?_ ?_
  rotate_left
  · intro wS hSw; (try dsimp only at hSw); go_simp; (try with_reducible rfl)
  try simp only [Act.put, List.setIfInBounds_toArray, List.set_cons_zero, List.set_cons_succ]
  refine tk 24 (some 31) (v := ?_) rfl ?_ ?_
  rotate_left
  · intro wS hSw; (try dsimp only at hSw); go_simp; (try with_reducible rfl)
  try simp only [Act.put, List.setIfInBounds_toArray, List.set_cons_zero, List.set_cons_succ]
  refine wpAnyH_done (by kernel_rfl) ?_ _
  obtain ⟨m0, m1, m2, m3, m4, -, -, -, -, -⟩ := HBM.out
  go_wp2_with fail
  refine (H15.out _ HB1.out).mono ?_
  rintro e v1 ⟨⟨sc, cc, rfl, hc⟩, hb1⟩
  have HC16 : Hid _ := H16.out _ _ _ _ hc
  have HC14 : Hid _ := H14c.out _ _ _ _ hc
  have hA2 : Below v1.heap.size v1 (v1.alloc (Obj.cells #[Value.int IntKind.i64 ka, Value.string ta, Value.int IntKind.i64 na, Value.int IntKind.i64 pa, Value.slice sc la cc] 24)) := (Below.refl _ v1).alloc (Nat.le_refl _) _
  have HBC := Box5.new v1 (.int .i64 ka) (.string ta) (.int .i64 na) (.int .i64 pa) (.slice sc la cc) 24
  obtain ⟨b2, hb2e⟩ : ∃ b2, b2 = v1.heap.size := ⟨_, rfl⟩
  rw [← hb2e] at HBC
  have HB7 : Hid (Below u7.heap.size u7 (v1.alloc (Obj.cells #[Value.int IntKind.i64 ka, Value.string ta, Value.int IntKind.i64 na, Value.int IntKind.i64 pa, Value.slice sc la cc] 24))) := hb1.trans (hA2.mono hb1.size)
  have HV1 : Hid (Below v1.heap.size v1 (v1.alloc (Obj.cells #[Value.int IntKind.i64 ka, Value.string ta, Value.int IntKind.i64 na, Value.int IntKind.i64 pa, Value.slice sc la cc] 24))) := hA2
  have HS7 : Hid (u7.heap.size ≤ v1.heap.size) := hb1.size
  have HWU : Hid (w.heap.size < u7.heap.size) := cell_lt HBA.out.c0
  have HSM : Hid (b1 < u7.heap.size) := cell_lt m0
  replace HBA : Hid (Box5 (v1.alloc (Obj.cells #[Value.int IntKind.i64 ka, Value.string ta, Value.int IntKind.i64 na, Value.int IntKind.i64 pa, Value.slice sc la cc] 24)) w.heap.size (.int .i64 ka) (.string ta) (.int .i64 na) (.int .i64 pa) (.slice sa la ca)) := HBA.out.below HB7.out
  replace HBM : Hid (Box5 (v1.alloc (Obj.cells #[Value.int IntKind.i64 ka, Value.string ta, Value.int IntKind.i64 na, Value.int IntKind.i64 pa, Value.slice sc la cc] 24)) b1 (.int .i64 ka) (.string ta) (.int .i64 na) (.int .i64 pa) (.slice sm la cm)) := HBM.out.below HB7.out
  replace HBW : Hid (Below w.heap.size w (v1.alloc (Obj.cells #[Value.int IntKind.i64 ka, Value.string ta, Value.int IntKind.i64 na, Value.int IntKind.i64 pa, Value.slice sc la cc] 24))) := HBW.out.trans (HB7.out.mono HBW.out.size)
  replace HB1 : Hid (Below w1.heap.size w1 (v1.alloc (Obj.cells #[Value.int IntKind.i64 ka, Value.string ta, Value.int IntKind.i64 na, Value.int IntKind.i64 pa, Value.slice sc la cc] 24))) := HB1.out.trans (HB7.out.mono HB1.out.size)
  have HCX : Hid _ := HBC
  have HE2 : Hid (b2 = v1.heap.size) := hb2e
  clear m0 m1 m2 m3 m4 hc hb1 hA2 hb2e H15 H16 H14c H8 H9 H10 H11 H12 H13
  obtain ⟨c0, c1, c2, c3, c4, -, -, -, -, -⟩ := HBC
  obtain ⟨a0, a1, a2, a3, a4, -, -, -, -, -⟩ := HBA.out
  rw [HE2.out] at c0 c1 c2 c3 c4
  go_wp2_with fail
  refine (HC14.out _ HBW.out HV1.out).mono ?_
  rintro e v2 ⟨rfl, hb1⟩
  replace HB7 : Hid _ := HB7.out.trans (hb1.mono HB7.out.size)
  replace HV1 : Hid _ := HV1.out.trans (hb1.mono HV1.out.size)
  replace HBA : Hid _ := HBA.out.below hb1
  replace HBM : Hid _ := HBM.out.below hb1
  replace HBW : Hid _ := HBW.out.trans (hb1.mono HBW.out.size)
  replace HB1 : Hid _ := HB1.out.trans (hb1.mono HB1.out.size)
  have HCX2 := HCX.out.below hb1
  rw [HE2.out] at HCX2
  obtain ⟨x0, x1, x2, x3, x4, -, -, -, -, -⟩ := HCX2
  clear a0 a1 a2 a3 a4 c0 c1 c2 c3 c4 HCX hb1 HC14
  go_wp2_with fail
  refine (HC16.out _ HV1.out HS7.out).mono ?_
  rintro e v3 ⟨rfl, hb3⟩
  have hu7 : u7.heap.size ≤ v2.heap.size := HB7.out.size
  have hw1 : w1.heap.size ≤ u7.heap.size := by have := HSM.out; have := HE1.out; omega
  have h3w : Below w.heap.size w v3 := HBW.out.trans (hb3.mono (Nat.le_of_lt HWU.out))
  have h31 : Below w1.heap.size w1 v3 := HB1.out.trans (hb3.mono hw1)
  replace HBA : Hid _ := HBA.out.blk (hb3.block _ HWU.out)
  replace HBM : Hid _ := HBM.out.blk (hb3.block _ HSM.out)
  obtain ⟨a0, a1, a2, a3, a4, -, -, -, -, -⟩ := HBA.out
  obtain ⟨m0, m1, m2, m3, m4, -, -, -, -, -⟩ := HBM.out
  have H3W : Hid _ := h3w
  have H31 : Hid _ := h31
  clear x0 x1 x2 x3 x4 hb3 hu7 hw1 h3w h31 HB7 HV1 HC16
  go_wp2_with fail
  refine (H14.out _ H3W.out H31.out).mono ?_
  rintro e v4 ⟨rfl, hb4⟩
  replace H3W : Hid _ := H3W.out.trans (hb4.mono H3W.out.size)
  clear a0 a1 a2 a3 a4 m0 m1 m2 m3 m4 hb4
  go_wp2_with fail
  refine (sure_any _ (hR.below H3W.out)).mono ?_
  rintro e v5 ⟨rfl, hb5⟩
  replace H3W : Hid _ := H3W.out.trans (hb5.mono H3W.out.size)
  clear hb5
  go_wp2
  go_ret
  exact ⟨rfl, H3W.out⟩
theorem treeForms_walk (M : Nat) (x : Tr M) (s : Option Addr) (c : Nat) (w : World) (hR : Rdy w) (hx : NdG w M x s c) (hT : Txs M x) (hwx : Wid M x) (hz : szP M x ≤ 1048576) (hM : M ≤ 1048576) :
    Calls Tryz.prog 3 #[ndV M x s c] w fun e w' => e = .returned (.bool true) ∧ Below w.heap.size w w' := by
  have hfl : ((flat (fun _ => true) M x 1).length : Int) ≤ 8000000000000000000 := by rw [flat_sz]; omega
  refine forms_walk (kd M x) (nu M x) (pl M x) (bsA (tx M x)) s (ks M x).length c w hR (formI (exprP M x) (patP M x) (stmtP M x)) (szP M x) (dpP M x) (fun W w1 sm cm => NdFg W.heap.size w1 M x sm cm) (fun W w1 sc cc => NdF W.heap.size w1 M x sc) ?_ ?_ ?_ ?_ ?_ ?_ ?_ ?_ ?_ ?_ ?_
  · intro W hW
    exact RCg_any M x hwx s c W (NdG.at (NdG.below hW hx))
  · intro W0 w1 sm cm hm hw1 W hW
    exact Form_any M x sm cm W (hR.below (hw1.trans (hW.mono hw1.size))) (NdG.below hW hm.g)
  · intro W hW
    exact RForm_any M x s c W (hR.below hW) (NdG.below hW hx) hT
  · intro W0 w1 sm cm hm W hW
    have h := Size_any M x sm cm W (NdG.at (NdG.below hW hm.g)) hwx (by omega) hfl
    rw [flat_sz] at h
    exact h
  · intro W hW
    exact RSize_any M x s c W (by omega) (NdG.at (NdG.below hW hx))
  · intro W0 w1 sm cm hm W hW
    have h := Depth_any M x sm cm W (NdG.at (NdG.below hW hm.g)) hwx (by omega) hfl
    rw [dep_is] at h
    exact h
  · intro W hW
    exact RDepth_any M x s c W (by omega) (NdG.at (NdG.below hW hx))
  · intro W0 w1 sm cm hm W hW hW1
    have h := RJust_any M x x sm s cm c W (NdG.at (NdG.below hW1 hm.g)) (NdG.at (NdG.below hW hx))
    rw [jusP_refl] at h
    exact h
  · intro W0 w1 sm cm hm W hW
    exact Copy_any M x hwx sm cm W (NdG.at (NdG.below hW hm.g))
  · intro W0 w1 sc cc hc W hW hW1
    have h := RJust_any M x x sc s cc c W (NdF.at (NdF.below hW1 hc)) (NdG.at (NdG.below hW hx))
    rw [jusP_refl] at h
    exact h
  · intro W0 w1 sc cc hc W hW hs
    have hF := NdF.below hW hc
    have hz := NdQ.z (NdF.q (q := fun b => W0.heap.size ≤ b ∧ b < W.heap.size) (fun b h1 h2 => ⟨h1, h2⟩) hF)
    refine (spoil_any (fun b => W0.heap.size ≤ b ∧ b < W.heap.size) M (ks M x).length sc (kd M x) (bsA (tx M x)) (nu M x) (pl M x) cc W hz (fun b hb => hb.2)).mono fun e w' ⟨he, hS, _⟩ => ⟨he, hS.to (Nat.le_trans hs hW.size) (fun b hb h => by have := h.1; omega)⟩
end Go.Proofs.YtcemogaacicnfaaGreatDoor
