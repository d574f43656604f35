/- Numbers, whole. -/
import Derived.Test.YtcemogaacicnfaaGreatDoorPer
namespace Go.Proofs.YtcemogaacicnfaaGreatDoor
open Go.ChangeShapes Go.WideShapes Go.ChangeAt Go.RowKit

set_option maxRecDepth 20000 in
set_option maxHeartbeats 4000000 in
theorem number_any (l : List UInt8) (w : World) (hR : Rdy w) (hne : l ≠ []) (hd0 : dgB (l.headD 0).toNat = true) (hl : l.length ≤ 104857600) : Calls Tryz.prog 145 #[.string (bsA l)] w fun e w' => e = .returned (.tuple #[tkV (numP l).1 0, .int .i64 (numP l).2.1, .int .i64 (numP l).2.2]) ∧ Below w.heap.size w w' := by
  have hz := bsA_size l
  have h1 := amount_any l (w.alloc tokO) (hR.alloc _) hne hd0 hl
  have h2 := fun w => noughtAhead_any l hne w (by omega)
  have hal := (amt_len l).2
  have hdl : (l.drop (amtP l).2.1).length ≤ l.length := by rw [List.length_drop]; omega
  have h3 := fun w => leading_isPart (l.drop (amtP l).2.1) w (by omega)
  have hx : (bsA l).extract (amtP l).2.1 l.length = bsA (l.drop (amtP l).2.1) := ext_drop' _ _
  have hP1 : nghB l = true → numP l = (tk0, 0, 50) := fun h => by unfold numP numE; rw [h]; rfl
  have hP2 : 0 < ldN ptB (l.drop (amtP l).2.1) → numP l = (tk0, 0, 50) := fun h => by
    have e : numE l = 50 := by unfold numE; rw [if_pos (by simp [h])]
    unfold numP; rw [e]; rfl
  have hP3 : nghB l = false → ldN ptB (l.drop (amtP l).2.1) = 0 → numP l = if (amtP l).2.2 ≠ 0 then (tk0, (0 : Int), (amtP l).2.2) else ((amtP l).1, ((amtP l).2.1 : Int), 0) := fun h h' => by
    have e : numE l = (amtP l).2.2 := by unfold numE; rw [if_neg (by simp [h, h'])]
    unfold numP; rw [e]
  have hpt : ((l.drop (amtP l).2.1).take (ldN ptB (l.drop (amtP l).2.1)) == []) = decide (ldN ptB (l.drop (amtP l).2.1) = 0) := by
    have hle := ldN_le ptB (l.drop (amtP l).2.1)
    generalize ldN ptB (l.drop (amtP l).2.1) = k at hle ⊢
    generalize l.drop (amtP l).2.1 = x at hle ⊢
    cases k with
    | zero => simp
    | succ k =>
      cases x with
      | nil => simp at hle
      | cons c r => simp
  generalize amtP l = q at h1 h3 hx hP2 hP3 hal hpt
  obtain ⟨⟨q1, q2, q3⟩, n, q4⟩ := q
  unfold tkV at h1
  dsimp only at h1 h3 hx hP2 hP3 hal hpt
  have htl := bsA_tl ((l.drop n).take (ldN ptB (l.drop n)))
  generalize hPT : (l.drop n).take (ldN ptB (l.drop n)) = PT at h3 hpt htl
  generalize l.drop n = X at hx h3 hP2 hP3 hpt
  generalize numP l = NP at hP1 hP2 hP3 ⊢
  have hzX := bsA_size X
  clear hR hPT
  cases hN : nghB l with
  | true =>
    have HE : Hid _ := hP1 hN
    simp only [hN] at h2
    clear hP1 hP2 hP3 h3 hpt htl
    go_enter Tryz.func145, Tryz.ntmps145
    go_wp2_with fail
    refine h1.mono ?_
    rintro e w2 ⟨rfl, hb⟩
    have bo := (Box.new w (.int .i64 0) (.string ⟨#[]⟩) (.int .i64 0) (.int .i64 0)).below hb
    have hB : Below w.heap.size w w2 := ((Below.refl _ _).alloc (Nat.le_refl _) _).trans (hb.mono (by simp))
    have hsz : w.heap.size < w2.heap.size := cell_lt bo.c0
    go_wp2_with fail
    refine (h2 _).mono ?_
    rintro e w' ⟨rfl, rfl⟩
    clear h1 h2 hb
    have hB3 : Below w.heap.size w (((((w2.setCell ⟨w.heap.size, 0, none⟩ (.int .i64 0)).setCell ⟨w.heap.size, 1, none⟩ (.string ⟨#[]⟩)).setCell ⟨w.heap.size, 2, none⟩ (.int .i64 0)).setCell ⟨w.heap.size, 3, none⟩ (.int .i64 0)).alloc (Obj.cells #[Value.int IntKind.i64 q1, Value.string (bsA q2), Value.int IntKind.i64 q3, Value.int IntKind.i64 0] 78)) := Below.alloc ((((hB.setCell (p := ⟨w.heap.size, 0, none⟩) (Nat.le_refl _) _).setCell (p := ⟨w.heap.size, 1, none⟩) (Nat.le_refl _) _).setCell (p := ⟨w.heap.size, 2, none⟩) (Nat.le_refl _) _).setCell (p := ⟨w.heap.size, 3, none⟩) (Nat.le_refl _) _) (by have := hB.size; simpa [World.setCell] using this) _
    obtain ⟨z0, z1, z2, z3, m0, m1, m2, m3⟩ := (bo.set (.int .i64 0) (.string ⟨#[]⟩) (.int .i64 0) (.int .i64 0)).below ((Below.refl _ _).alloc (Nat.le_refl _) (Obj.cells #[Value.int IntKind.i64 q1, Value.string (bsA q2), Value.int IntKind.i64 q3, Value.int IntKind.i64 0] 78))
    obtain ⟨y0, y1, y2, y3, f0, f1, f2, f3⟩ := bo
    clear m0 m1 m2 m3 hB
    go_wp2
    generalize ((((w2.setCell ⟨w.heap.size, 0, none⟩ (.int .i64 0)).setCell ⟨w.heap.size, 1, none⟩ (.string ⟨#[]⟩)).setCell ⟨w.heap.size, 2, none⟩ (.int .i64 0)).setCell ⟨w.heap.size, 3, none⟩ (.int .i64 0)).alloc (Obj.cells #[Value.int IntKind.i64 q1, Value.string (bsA q2), Value.int IntKind.i64 q3, Value.int IntKind.i64 0] 78) = W3 at hB3 z0 z1 z2 z3 ⊢
    refine bodyPost_ret (v := .tuple #[.agg #[.int .i64 0, .string ⟨#[]⟩, .int .i64 0, .int .i64 0], .int .i64 0, .int .i64 50]) (by simp [results, Tryz.results145, go_sem, z0, z1, z2, z3]) rfl ⟨by rw [HE.out]; rfl, hB3⟩
  | false =>
    simp only [hN] at h2
    by_cases hk : ldN ptB X = 0
    · have hE := hP3 hN hk
      have hpe : (PT == []) = true := by rw [hpt]; simpa using hk
      clear hP1 hP2 hP3 hpt hk
      by_cases h4 : q4 = 0
      · subst h4
        rw [if_neg (by simp)] at hE
        have HE : Hid _ := hE
        clear hE
        go_enter Tryz.func145, Tryz.ntmps145
        go_wp2_with fail
        refine h1.mono ?_
        rintro e w2 ⟨rfl, hb⟩
        have bo := (Box.new w (.int .i64 0) (.string ⟨#[]⟩) (.int .i64 0) (.int .i64 0)).below hb
        have hB : Below w.heap.size w w2 := ((Below.refl _ _).alloc (Nat.le_refl _) _).trans (hb.mono (by simp))
        have hsz : w.heap.size < w2.heap.size := cell_lt bo.c0
        go_wp2_with fail
        refine (h2 _).mono ?_
        rintro e w' ⟨rfl, rfl⟩
        go_wp2_with fail
        refine (h3 _).mono ?_
        rintro e w' ⟨rfl, rfl⟩
        clear h1 h2 h3 hb
        have hB3 : Below w.heap.size w (((((w2.setCell ⟨w.heap.size, 0, none⟩ (.int .i64 q1)).setCell ⟨w.heap.size, 1, none⟩ (.string (bsA q2))).setCell ⟨w.heap.size, 2, none⟩ (.int .i64 q3)).setCell ⟨w.heap.size, 3, none⟩ (.int .i64 0)).alloc (Obj.cells #[Value.int IntKind.i64 q1, Value.string (bsA q2), Value.int IntKind.i64 q3, Value.int IntKind.i64 0] 78)) := Below.alloc ((((hB.setCell (p := ⟨w.heap.size, 0, none⟩) (Nat.le_refl _) _).setCell (p := ⟨w.heap.size, 1, none⟩) (Nat.le_refl _) _).setCell (p := ⟨w.heap.size, 2, none⟩) (Nat.le_refl _) _).setCell (p := ⟨w.heap.size, 3, none⟩) (Nat.le_refl _) _) (by have := hB.size; simpa [World.setCell] using this) _
        obtain ⟨z0, z1, z2, z3, m0, m1, m2, m3⟩ := (bo.set (.int .i64 q1) (.string (bsA q2)) (.int .i64 q3) (.int .i64 0)).below ((Below.refl _ _).alloc (Nat.le_refl _) (Obj.cells #[Value.int IntKind.i64 q1, Value.string (bsA q2), Value.int IntKind.i64 q3, Value.int IntKind.i64 0] 78))
        obtain ⟨y0, y1, y2, y3, f0, f1, f2, f3⟩ := bo
        clear m0 m1 m2 m3 hB
        go_wp2
        generalize ((((w2.setCell ⟨w.heap.size, 0, none⟩ (.int .i64 q1)).setCell ⟨w.heap.size, 1, none⟩ (.string (bsA q2))).setCell ⟨w.heap.size, 2, none⟩ (.int .i64 q3)).setCell ⟨w.heap.size, 3, none⟩ (.int .i64 0)).alloc (Obj.cells #[Value.int IntKind.i64 q1, Value.string (bsA q2), Value.int IntKind.i64 q3, Value.int IntKind.i64 0] 78) = W3 at hB3 z0 z1 z2 z3 ⊢
        refine bodyPost_ret (v := .tuple #[.agg #[.int .i64 q1, .string (bsA q2), .int .i64 q3, .int .i64 0], .int .i64 n, .int .i64 0]) (by simp [results, Tryz.results145, go_sem, z0, z1, z2, z3]) rfl ⟨by rw [HE.out]; rfl, hB3⟩
      · rw [if_pos h4] at hE
        have HE : Hid _ := hE
        have h4' : (q4 != 0) = true := by simpa using h4
        clear hE
        go_enter Tryz.func145, Tryz.ntmps145
        go_wp2_with fail
        refine h1.mono ?_
        rintro e w2 ⟨rfl, hb⟩
        have bo := (Box.new w (.int .i64 0) (.string ⟨#[]⟩) (.int .i64 0) (.int .i64 0)).below hb
        have hB : Below w.heap.size w w2 := ((Below.refl _ _).alloc (Nat.le_refl _) _).trans (hb.mono (by simp))
        have hsz : w.heap.size < w2.heap.size := cell_lt bo.c0
        go_wp2_with fail
        refine (h2 _).mono ?_
        rintro e w' ⟨rfl, rfl⟩
        go_wp2_with fail
        refine (h3 _).mono ?_
        rintro e w' ⟨rfl, rfl⟩
        clear h1 h2 h3 hb
        have hB3 : Below w.heap.size w (((((w2.setCell ⟨w.heap.size, 0, none⟩ (.int .i64 0)).setCell ⟨w.heap.size, 1, none⟩ (.string ⟨#[]⟩)).setCell ⟨w.heap.size, 2, none⟩ (.int .i64 0)).setCell ⟨w.heap.size, 3, none⟩ (.int .i64 0)).alloc (Obj.cells #[Value.int IntKind.i64 q1, Value.string (bsA q2), Value.int IntKind.i64 q3, Value.int IntKind.i64 0] 78)) := Below.alloc ((((hB.setCell (p := ⟨w.heap.size, 0, none⟩) (Nat.le_refl _) _).setCell (p := ⟨w.heap.size, 1, none⟩) (Nat.le_refl _) _).setCell (p := ⟨w.heap.size, 2, none⟩) (Nat.le_refl _) _).setCell (p := ⟨w.heap.size, 3, none⟩) (Nat.le_refl _) _) (by have := hB.size; simpa [World.setCell] using this) _
        obtain ⟨z0, z1, z2, z3, m0, m1, m2, m3⟩ := (bo.set (.int .i64 0) (.string ⟨#[]⟩) (.int .i64 0) (.int .i64 0)).below ((Below.refl _ _).alloc (Nat.le_refl _) (Obj.cells #[Value.int IntKind.i64 q1, Value.string (bsA q2), Value.int IntKind.i64 q3, Value.int IntKind.i64 0] 78))
        obtain ⟨y0, y1, y2, y3, f0, f1, f2, f3⟩ := bo
        clear m0 m1 m2 m3 hB
        go_wp2
        generalize ((((w2.setCell ⟨w.heap.size, 0, none⟩ (.int .i64 0)).setCell ⟨w.heap.size, 1, none⟩ (.string ⟨#[]⟩)).setCell ⟨w.heap.size, 2, none⟩ (.int .i64 0)).setCell ⟨w.heap.size, 3, none⟩ (.int .i64 0)).alloc (Obj.cells #[Value.int IntKind.i64 q1, Value.string (bsA q2), Value.int IntKind.i64 q3, Value.int IntKind.i64 0] 78) = W3 at hB3 z0 z1 z2 z3 ⊢
        refine bodyPost_ret (v := .tuple #[.agg #[.int .i64 0, .string ⟨#[]⟩, .int .i64 0, .int .i64 0], .int .i64 0, .int .i64 q4]) (by simp [results, Tryz.results145, go_sem, z0, z1, z2, z3]) rfl ⟨by rw [HE.out]; rfl, hB3⟩
    · have hE := hP2 (by omega)
      have hpe : (PT == []) = false := by rw [hpt]; simpa using hk
      have HE : Hid _ := hE
      clear hP1 hP2 hP3 hpt hk hE
      go_enter Tryz.func145, Tryz.ntmps145
      go_wp2_with fail
      refine h1.mono ?_
      rintro e w2 ⟨rfl, hb⟩
      have bo := (Box.new w (.int .i64 0) (.string ⟨#[]⟩) (.int .i64 0) (.int .i64 0)).below hb
      have hB : Below w.heap.size w w2 := ((Below.refl _ _).alloc (Nat.le_refl _) _).trans (hb.mono (by simp))
      have hsz : w.heap.size < w2.heap.size := cell_lt bo.c0
      go_wp2_with fail
      refine (h2 _).mono ?_
      rintro e w' ⟨rfl, rfl⟩
      go_wp2_with fail
      refine (h3 _).mono ?_
      rintro e w' ⟨rfl, rfl⟩
      clear h1 h2 h3 hb
      have hB3 : Below w.heap.size w (((((w2.setCell ⟨w.heap.size, 0, none⟩ (.int .i64 0)).setCell ⟨w.heap.size, 1, none⟩ (.string ⟨#[]⟩)).setCell ⟨w.heap.size, 2, none⟩ (.int .i64 0)).setCell ⟨w.heap.size, 3, none⟩ (.int .i64 0)).alloc (Obj.cells #[Value.int IntKind.i64 q1, Value.string (bsA q2), Value.int IntKind.i64 q3, Value.int IntKind.i64 0] 78)) := Below.alloc ((((hB.setCell (p := ⟨w.heap.size, 0, none⟩) (Nat.le_refl _) _).setCell (p := ⟨w.heap.size, 1, none⟩) (Nat.le_refl _) _).setCell (p := ⟨w.heap.size, 2, none⟩) (Nat.le_refl _) _).setCell (p := ⟨w.heap.size, 3, none⟩) (Nat.le_refl _) _) (by have := hB.size; simpa [World.setCell] using this) _
      obtain ⟨z0, z1, z2, z3, m0, m1, m2, m3⟩ := (bo.set (.int .i64 0) (.string ⟨#[]⟩) (.int .i64 0) (.int .i64 0)).below ((Below.refl _ _).alloc (Nat.le_refl _) (Obj.cells #[Value.int IntKind.i64 q1, Value.string (bsA q2), Value.int IntKind.i64 q3, Value.int IntKind.i64 0] 78))
      obtain ⟨y0, y1, y2, y3, f0, f1, f2, f3⟩ := bo
      clear m0 m1 m2 m3 hB
      go_wp2
      generalize ((((w2.setCell ⟨w.heap.size, 0, none⟩ (.int .i64 0)).setCell ⟨w.heap.size, 1, none⟩ (.string ⟨#[]⟩)).setCell ⟨w.heap.size, 2, none⟩ (.int .i64 0)).setCell ⟨w.heap.size, 3, none⟩ (.int .i64 0)).alloc (Obj.cells #[Value.int IntKind.i64 q1, Value.string (bsA q2), Value.int IntKind.i64 q3, Value.int IntKind.i64 0] 78) = W3 at hB3 z0 z1 z2 z3 ⊢
      refine bodyPost_ret (v := .tuple #[.agg #[.int .i64 0, .string ⟨#[]⟩, .int .i64 0, .int .i64 0], .int .i64 0, .int .i64 50]) (by simp [results, Tryz.results145, go_sem, z0, z1, z2, z3]) rfl ⟨by rw [HE.out]; rfl, hB3⟩
end Go.Proofs.YtcemogaacicnfaaGreatDoor
