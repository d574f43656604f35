/- Rfs. -/
import Derived.Test.YtgdndahhledikaaGreatDoorK11
import Derived.Defers
import Derived.Recover
namespace Go.Proofs.YtgdndahhledikaaGreatDoor
open Go.ChangeShapes Go.WideShapes Go.ChangeAt Go.RowKit
set_option linter.unusedSimpArgs false
set_option maxRecDepth 20000
set_option maxHeartbeats 4000000
theorem assert44 (p er : Int) (w : World) : (Instr.typeAssert (.iface 126 (.agg #[.int .i64 p, .int .i64 er])) 20 126 false).run Tryz.prog w = .ok (.agg #[.int .i64 p, .int .i64 er]) w := by kernel_rfl
theorem refused_any (p er : Int) (w : World) : Calls Tryz.prog 155 #[.iface 126 (.agg #[.int .i64 p, .int .i64 er])] w fun e w' => e = .returned (.tuple #[nV 0 [] 0 0 (.slice none 0 0), .int .i64 p, .int .i64 er]) ∧ Below w.heap.size w w' := by
 have hb1 : Below w.heap.size w (w.alloc (Obj.cells #[Value.int IntKind.i64 0, Value.string { data := #[] }, Value.int IntKind.i64 0, Value.int IntKind.i64 0, Value.slice none 0 0] 34)) := (Below.refl _ _).alloc (Nat.le_refl _) _
 have hb2 : Below w.heap.size w ((w.alloc (Obj.cells #[Value.int IntKind.i64 0, Value.string { data := #[] }, Value.int IntKind.i64 0, Value.int IntKind.i64 0, Value.slice none 0 0] 34)).alloc (Obj.cells #[Value.int IntKind.i64 p, Value.int IntKind.i64 er] 126)) := hb1.alloc hb1.size _
 have HZ : Hid (Box5 ((w.alloc (Obj.cells #[Value.int IntKind.i64 0, Value.string { data := #[] }, Value.int IntKind.i64 0, Value.int IntKind.i64 0, Value.slice none 0 0] 34)).alloc (Obj.cells #[Value.int IntKind.i64 p, Value.int IntKind.i64 er] 126)).drew w.heap.size (.int .i64 0) (.string ⟨#[]⟩) (.int .i64 0) (.int .i64 0) (.slice none 0 0)) := ((Box5.new w _ _ _ _ _ 34).below ((Below.refl _ _).alloc (Nat.le_refl _) _)).drew
 have HS : Hid (((w.alloc (Obj.cells #[Value.int IntKind.i64 0, Value.string { data := #[] }, Value.int IntKind.i64 0, Value.int IntKind.i64 0, Value.slice none 0 0] 34)).alloc (Obj.cells #[Value.int IntKind.i64 p, Value.int IntKind.i64 er] 126)).drew.cell? ⟨w.heap.size + 1, 0, none⟩ = some (.int .i64 p) ∧ ((w.alloc (Obj.cells #[Value.int IntKind.i64 0, Value.string { data := #[] }, Value.int IntKind.i64 0, Value.int IntKind.i64 0, Value.slice none 0 0] 34)).alloc (Obj.cells #[Value.int IntKind.i64 p, Value.int IntKind.i64 er] 126)).drew.cell? ⟨w.heap.size + 1, 1, none⟩ = some (.int .i64 er)) := by
  constructor <;> simp [go_sem]
 have HB : Hid (Below w.heap.size w (set5 ((w.alloc (Obj.cells #[Value.int IntKind.i64 0, Value.string { data := #[] }, Value.int IntKind.i64 0, Value.int IntKind.i64 0, Value.slice none 0 0] 34)).alloc (Obj.cells #[Value.int IntKind.i64 p, Value.int IntKind.i64 er] 126)).drew w.heap.size 0 (.int .i64 0) (.string ⟨#[]⟩) (.int .i64 0) (.int .i64 0) (.slice none 0 0))) := set5_below hb2.drew _ _ _ _ _ _ _ (Nat.le_refl _)
 unfold nV
 clear hb1 hb2
 have hta := assert44 p er
 go_enter Tryz.func155, Tryz.ntmps155
 go_wp2_with fail
 refine wp_region_held_drew (S := (fun wS => wS.cell? ⟨w.heap.size + 1, 0, none⟩ = some (.int .i64 p) ∧ wS.cell? ⟨w.heap.size + 1, 1, none⟩ = some (.int .i64 er))) (by kernel_rfl) ?_ (fun hHeld => ?_)
 · (try dsimp only); exact HS.out
 refine tk 0 (some 8) (v := ?_) rfl ?_ ?_
 rotate_left
 · intro wS hSw; (try dsimp only at hSw); go_simp; (try with_reducible rfl)
 try simp only [Act.put, List.setIfInBounds_toArray, List.set_cons_zero, List.set_cons_succ]
 refine tk 1 (some 9) (v := ?_) rfl ?_ ?_
 rotate_left
 · intro wS hSw; (try dsimp only at hSw); go_simp; (try with_reducible rfl)
 try simp only [Act.put, List.setIfInBounds_toArray, List.set_cons_zero, List.set_cons_succ]
 refine tk 2 (some 10) (v := ?_) rfl ?_ ?_
 rotate_left
 · intro wS hSw; (try dsimp only at hSw); obtain ⟨y0, y1⟩ := hSw; go_simp; (try with_reducible rfl)
 try simp only [Act.put, List.setIfInBounds_toArray, List.set_cons_zero, List.set_cons_succ]
 refine tk 3 (some 11) (v := ?_) rfl ?_ ?_
 rotate_left
 · intro wS hSw; (try dsimp only at hSw); go_simp; (try with_reducible rfl)
 try simp only [Act.put, List.setIfInBounds_toArray, List.set_cons_zero, List.set_cons_succ]
 refine tk 4 (some 12) (v := ?_) rfl ?_ ?_
 rotate_left
 · intro wS hSw; (try dsimp only at hSw); obtain ⟨y0, y1⟩ := hSw; go_simp; (try with_reducible rfl)
 try simp only [Act.put, List.setIfInBounds_toArray, List.set_cons_zero, List.set_cons_succ]
 generalize ((w.alloc (Obj.cells #[Value.int IntKind.i64 0, Value.string { data := #[] }, Value.int IntKind.i64 0, Value.int IntKind.i64 0, Value.slice none 0 0] 34)).alloc (Obj.cells #[Value.int IntKind.i64 p, Value.int IntKind.i64 er] 126)).drew = v0 at HZ HS HB ⊢
 refine wpAnyH_ready (rs := [5]) (by kernel_rfl) (by simp) ?_
 refine AllReadyH.cons rfl (fun K hK => ?_) AllReadyH.nil
 obtain ⟨z0, z1, z2, z3, z4, f0, f1, f2, f3, f4⟩ := HZ.out
 go_simp
 clear z0 z1 z2 z3 z4 f0 f1 f2 f3 f4
 refine hK.out _ _ ?_ (fun hHz => ?_)
 · (try dsimp only); exact ⟨(set5_far _ _ _ _ _ _ _ _ _ _ (by omega)).trans HS.out.1, (set5_far _ _ _ _ _ _ _ _ _ _ (by omega)).trans HS.out.2⟩
 clear hK K hHz
 try simp only [Act.put, List.setIfInBounds_toArray, List.set_cons_zero, List.set_cons_succ]
 have HS5 : Hid _ := (show (set5 v0 w.heap.size 0 (.int .i64 0) (.string ⟨#[]⟩) (.int .i64 0) (.int .i64 0) (.slice none 0 0)).cell? ⟨w.heap.size + 1, 0, none⟩ = some (.int .i64 p) ∧ (set5 v0 w.heap.size 0 (.int .i64 0) (.string ⟨#[]⟩) (.int .i64 0) (.int .i64 0) (.slice none 0 0)).cell? ⟨w.heap.size + 1, 1, none⟩ = some (.int .i64 er) from ⟨(set5_far _ _ _ _ _ _ _ _ _ _ (by omega)).trans HS.out.1, (set5_far _ _ _ _ _ _ _ _ _ _ (by omega)).trans HS.out.2⟩)
 refine wpAnyH_ready (rs := [6]) (by kernel_rfl) (by simp) ?_
 refine AllReadyH.cons rfl (fun K hK => ?_) AllReadyH.nil
 go_simp
 refine hK.out _ _ ?_ (fun hHz => ?_)
 · (try dsimp only); exact HS5.out
 clear hK K hHz
 try simp only [Act.put, List.setIfInBounds_toArray, List.set_cons_zero, List.set_cons_succ]
 refine wpAnyH_ready (rs := [7]) (by kernel_rfl) (by simp) ?_
 refine AllReadyH.cons rfl (fun K hK => ?_) AllReadyH.nil
 go_simp
 refine hK.out _ _ ?_ (fun hHz => ?_)
 · (try dsimp only); exact HS5.out
 clear hK K hHz
 try simp only [Act.put, List.setIfInBounds_toArray, List.set_cons_zero, List.set_cons_succ]
 refine wpAnyH_done (by kernel_rfl) ?_ _
 obtain ⟨z0, z1, z2, z3, z4, f0, f1, f2, f3, f4⟩ := own5 HZ.out (.int .i64 0) (.string ⟨#[]⟩) (.int .i64 0) (.int .i64 0) (.slice none 0 0)
 clear HS HZ
 go_wp2
 refine bodyPost_ret (v := .tuple #[.agg #[.int .i64 0, .string ⟨#[]⟩, .int .i64 0, .int .i64 0, .slice none 0 0], .int .i64 p, .int .i64 er]) (by unfold set5 at z0 z1 z2 z3 z4; simp [results, Tryz.results155, go_sem, z0, z1, z2, z3, z4]) rfl ?_
 exact ⟨rfl, HB.out⟩
theorem neq_nil (w : World) : (binOp BinOp.neq 20 .nilIface .nilIface).run Tryz.prog w = .ok (.bool false) w := by kernel_rfl
theorem neq_some (p er : Int) (w : World) : (binOp BinOp.neq 20 (.iface 126 (.agg #[.int .i64 p, .int .i64 er])) .nilIface).run Tryz.prog w = .ok (.bool true) w := by kernel_rfl
theorem catch_idle (a b c : Addr) (w : World) : CallsD Tryz.prog 154 #[.pointer (some a), .pointer (some b), .pointer (some c)] .returning w fun e u' w' => e = .returned (.tuple #[]) ∧ u' = .returning ∧ w' = w := by
 refine callsD_of_wpS Tryz.func154 rfl fun c₀ cs hu => ?_
 apply wpS_seq
 apply wpS_region
 simp [wpOpsS, go_sem, recoverD, hu, Tryz.ntmps154, Exit.thenS]
 apply wpS_seq
 apply wpS_region
 simp [wpOpsS, go_sem, Exit.thenS, neq_nil]
 refine wpS_cond (t := false) (by simp [Act.eval, Array.replicate]) ?_
 simp only [Bool.false_eq_true, if_false]
 refine wpS_of_wp (wp_skip ?_)
 cases c₀
 simp_all [bodyPostS, results, Tryz.results154]
theorem catch_panicking (nb eb fb : Nat) (p er : Int) (w : World) (v0 v1 v2 v3 v4 ve vf : Value) (hn : Box5 w nb v0 v1 v2 v3 v4) (he : w.cell? ⟨eb, 0, none⟩ = some ve) (hef : w.frozen? ⟨eb, 0, none⟩ = false) (hf : w.cell? ⟨fb, 0, none⟩ = some vf) (hff : w.frozen? ⟨fb, 0, none⟩ = false) (h1 : nb ≠ eb) (h2 : nb ≠ fb) (h3 : eb ≠ fb) :
  CallsD Tryz.prog 154 #[.pointer (some ⟨nb, 0, none⟩), .pointer (some ⟨eb, 0, none⟩), .pointer (some ⟨fb, 0, none⟩)] (.panicking [{ v := .iface 126 (.agg #[.int .i64 p, .int .i64 er]), recovered := false }]) w fun e u' w' =>
   e = .returned (.tuple #[]) ∧ u' = .panicking [{ v := .iface 126 (.agg #[.int .i64 p, .int .i64 er]), recovered := true }] ∧ ∃ w1, Below w.heap.size w w1 ∧ w' = ((set5 w1 nb 0 (.int .i64 0) (.string ⟨#[]⟩) (.int .i64 0) (.int .i64 0) (.slice none 0 0)).setCell ⟨eb, 0, none⟩ (.int .i64 p)).setCell ⟨fb, 0, none⟩ (.int .i64 er) := by
 refine callsD_of_wpS Tryz.func154 rfl fun c₀ cs hu => ?_
 apply wpS_seq
 apply wpS_region
 simp [wpOpsS, go_sem, recoverD, hu, Tryz.ntmps154, Exit.thenS]
 apply wpS_seq
 apply wpS_region
 simp [wpOpsS, go_sem, Exit.thenS, neq_some]
 refine wpS_cond (t := true) (by simp [Act.eval, Array.replicate]) ?_
 simp only [if_true]
 refine wpS_of_wp ?_
 have hr := refused_any p er w
 unfold nV at hr
 change Code.wp Tryz.prog _ _ { tmps := #[.pointer (some ⟨nb, 0, none⟩), .pointer (some ⟨eb, 0, none⟩), .pointer (some ⟨fb, 0, none⟩), .iface 126 (.agg #[.int .i64 p, .int .i64 er]), .iface 126 (.agg #[.int .i64 p, .int .i64 er]), .iface 126 (.agg #[.int .i64 p, .int .i64 er]), .bool true, undef, undef, undef, undef, undef, undef], defers := [] } w
 clear hu
 go_wp2_with fail
 refine hr.mono ?_
 rintro e w1 ⟨rfl, hb⟩
 clear hr
 obtain ⟨b0, b1, b2, b3, b4, k0, k1, k2, k3, k4⟩ := hn.below hb
 have c1 := cell_below hb he
 have c2 := cell_below hb hf
 have g1 := (hb.frozen (p := ⟨eb, 0, none⟩) (cell_lt he)).trans hef
 have g2 := (hb.frozen (p := ⟨fb, 0, none⟩) (cell_lt hf)).trans hff
 have HB : Hid (Below w.heap.size w w1) := hb
 clear hb hn he hf hef hff
 have h1' := Ne.symm h1
 have h2' := Ne.symm h2
 have h3' := Ne.symm h3
 go_wp2
 simp only [bodyPostS]
 first | exact ⟨rfl, _, rfl, _, results_none rfl _ _ _, rfl, rfl, w1, HB.out, rfl⟩ | exact ⟨trivial, _, rfl, _, results_none rfl _ _ _, rfl, rfl, w1, HB.out, rfl⟩
end Go.Proofs.YtgdndahhledikaaGreatDoor
