/- Tokens (token). -/
import Derived.Test.YtcemogaacicnfaaGreatDoorTtk
namespace Go.Proofs.YtcemogaacicnfaaGreatDoor
open Go.ChangeShapes Go.WideShapes Go.ChangeAt Go.RowKit

set_option maxRecDepth 20000 in
set_option maxHeartbeats 4000000 in
theorem token_any (l : List UInt8) (w : World) (hR : Rdy w) (hne : l ≠ []) (hl : l.length ≤ 104857600) : Calls Tryz.prog 138 #[.string (bsA l)] w fun e w' => e = .returned (.tuple #[tkV (tokP l).1 0, .int .i64 (tokP l).2.1, .int .i64 (tokP l).2.2]) ∧ Below w.heap.size w w' := by
  cases l with
  | nil => exact absurd rfl hne
  | cons c r =>
    have hz := bsA_size (c :: r)
    have h0 : 0 < (bsA (c :: r)).size := by rw [hz]; simp
    have hc : (bsA (c :: r))[0]'h0 = c := rfl
    have h1 := isLetter_any c.toNat (w.alloc tokO)
    have h2 := isDigit_any c.toNat (w.alloc tokO)
    have h3 := name_any (c :: r) (w.alloc tokO) (hR.alloc _) (by omega)
    have h4 := fun h => number_any (c :: r) (w.alloc tokO) (hR.alloc _) hne h hl
    have h5 := text_any (c :: r) (w.alloc tokO) (hR.alloc _) hl
    have h6 := sign_any c r (w.alloc tokO) (by omega)
    clear hR
    have t1 : ltB c.toNat = true → tokP (c :: r) = namP (c :: r) := fun h => by unfold tokP; rw [List.headD_cons, if_pos h]
    have t2 : ltB c.toNat = false → dgB c.toNat = true → tokP (c :: r) = numP (c :: r) := fun h h' => by unfold tokP; rw [List.headD_cons, if_neg (by simp [h]), if_pos h']
    have t3 : ltB c.toNat = false → dgB c.toNat = false → c = 39 → tokP (c :: r) = txtP (c :: r) := fun h h' h'' => by unfold tokP; rw [List.headD_cons, if_neg (by simp [h]), if_neg (by simp [h']), if_pos h'']
    have t4 : ltB c.toNat = false → dgB c.toNat = false → ¬ c = 39 → tokP (c :: r) = sgnP (c :: r) := fun h h' h'' => by unfold tokP; rw [List.headD_cons, if_neg (by simp [h]), if_neg (by simp [h']), if_neg h'']
    rw [List.headD_cons] at h4
    generalize bsA (c :: r) = S at hz h0 hc h3 h4 h5 h6 ⊢
    cases hlt : ltB c.toNat with
    | true =>
      rw [hlt] at h1
      rw [t1 hlt]
      clear h2 h4 h5 h6 t1 t2 t3 t4
      generalize namP (c :: r) = q at h3 ⊢
      obtain ⟨⟨q1, q2, q3⟩, n, q4⟩ := q
      unfold tkV at h3 ⊢
      dsimp only at h3 ⊢
      go_enter Tryz.func138, Tryz.ntmps138
      go_wp2_with fail
      refine h1.mono ?_
      rintro e w' ⟨rfl, rfl⟩
      go_wp2_with fail
      refine h3.mono ?_
      rintro e w2 ⟨rfl, hb⟩
      obtain ⟨y0, y1, y2, y3, f0, f1, f2, f3⟩ := tokBox hb
      have hB : Below w.heap.size w w2 := ((Below.refl _ _).alloc (Nat.le_refl _) _).trans (hb.mono (by simp))
      clear hb h3
      go_wp2
      refine bodyPost_ret (v := .tuple #[.agg #[.int .i64 q1, .string (bsA q2), .int .i64 q3, .int .i64 0], .int .i64 n, .int .i64 q4]) (by simp [results, Tryz.results138, go_sem, y0, y1, y2, y3]) rfl ⟨rfl, (((hB.setCell (p := ⟨w.heap.size, 0, none⟩) (Nat.le_refl _) _).setCell (p := ⟨w.heap.size, 1, none⟩) (Nat.le_refl _) _).setCell (p := ⟨w.heap.size, 2, none⟩) (Nat.le_refl _) _).setCell (p := ⟨w.heap.size, 3, none⟩) (Nat.le_refl _) _⟩
    | false =>
      rw [hlt] at h1
      cases hdg : dgB c.toNat with
      | true =>
        rw [hdg] at h2
        have h4' := h4 hdg
        rw [t2 hlt hdg]
        clear h3 h4 h5 h6 t1 t2 t3 t4
        generalize numP (c :: r) = q at h4' ⊢
        obtain ⟨⟨q1, q2, q3⟩, n, q4⟩ := q
        unfold tkV at h4' ⊢
        dsimp only at h4' ⊢
        go_enter Tryz.func138, Tryz.ntmps138
        go_wp2_with fail
        refine h1.mono ?_
        rintro e w' ⟨rfl, rfl⟩
        go_wp2_with fail
        refine h2.mono ?_
        rintro e w' ⟨rfl, rfl⟩
        go_wp2_with fail
        refine h4'.mono ?_
        rintro e w2 ⟨rfl, hb⟩
        obtain ⟨y0, y1, y2, y3, f0, f1, f2, f3⟩ := tokBox hb
        have hB : Below w.heap.size w w2 := ((Below.refl _ _).alloc (Nat.le_refl _) _).trans (hb.mono (by simp))
        clear hb h4'
        go_wp2
        refine bodyPost_ret (v := .tuple #[.agg #[.int .i64 q1, .string (bsA q2), .int .i64 q3, .int .i64 0], .int .i64 n, .int .i64 q4]) (by simp [results, Tryz.results138, go_sem, y0, y1, y2, y3]) rfl ⟨rfl, (((hB.setCell (p := ⟨w.heap.size, 0, none⟩) (Nat.le_refl _) _).setCell (p := ⟨w.heap.size, 1, none⟩) (Nat.le_refl _) _).setCell (p := ⟨w.heap.size, 2, none⟩) (Nat.le_refl _) _).setCell (p := ⟨w.heap.size, 3, none⟩) (Nat.le_refl _) _⟩
      | false =>
        rw [hdg] at h2
        clear h3 h4
        by_cases hq : c = 39
        · rw [t3 hlt hdg hq]
          clear t1 t2 t3 t4
          subst hq
          change Calls Tryz.prog 142 #[.int .u8 39] _ _ at h1
          change Calls Tryz.prog 144 #[.int .u8 39] _ _ at h2
          clear h6
          generalize txtP (39 :: r) = q at h5 ⊢
          obtain ⟨⟨q1, q2, q3⟩, n, q4⟩ := q
          unfold tkV at h5 ⊢
          dsimp only at h5 ⊢
          go_enter Tryz.func138, Tryz.ntmps138
          go_wp2_with fail
          refine h1.mono ?_
          rintro e w' ⟨rfl, rfl⟩
          go_wp2_with fail
          refine h2.mono ?_
          rintro e w' ⟨rfl, rfl⟩
          go_wp2_with fail
          refine h5.mono ?_
          rintro e w2 ⟨rfl, hb⟩
          obtain ⟨y0, y1, y2, y3, f0, f1, f2, f3⟩ := tokBox hb
          have hB : Below w.heap.size w w2 := ((Below.refl _ _).alloc (Nat.le_refl _) _).trans (hb.mono (by simp))
          clear hb h5
          go_wp2
          refine bodyPost_ret (v := .tuple #[.agg #[.int .i64 q1, .string (bsA q2), .int .i64 q3, .int .i64 0], .int .i64 n, .int .i64 q4]) (by simp [results, Tryz.results138, go_sem, y0, y1, y2, y3]) rfl ⟨rfl, (((hB.setCell (p := ⟨w.heap.size, 0, none⟩) (Nat.le_refl _) _).setCell (p := ⟨w.heap.size, 1, none⟩) (Nat.le_refl _) _).setCell (p := ⟨w.heap.size, 2, none⟩) (Nat.le_refl _) _).setCell (p := ⟨w.heap.size, 3, none⟩) (Nat.le_refl _) _⟩
        · rw [t4 hlt hdg hq]
          clear t1 t2 t3 t4
          have hq' : ¬ (c.toNat : Int) = 39 := fun e => hq (b39.1 e)
          clear h5 hq
          generalize sgnP (c :: r) = q at h6 ⊢
          obtain ⟨⟨q1, q2, q3⟩, n, q4⟩ := q
          unfold tkV at h6 ⊢
          dsimp only at h6 ⊢
          go_enter Tryz.func138, Tryz.ntmps138
          go_wp2_with fail
          refine h1.mono ?_
          rintro e w' ⟨rfl, rfl⟩
          go_wp2_with fail
          refine h2.mono ?_
          rintro e w' ⟨rfl, rfl⟩
          go_wp2_with fail
          refine h6.mono ?_
          rintro e w2 ⟨rfl, hb⟩
          obtain ⟨y0, y1, y2, y3, f0, f1, f2, f3⟩ := tokBox hb
          have hB : Below w.heap.size w w2 := ((Below.refl _ _).alloc (Nat.le_refl _) _).trans (hb.mono (by simp))
          clear hb h6
          go_wp2
          refine bodyPost_ret (v := .tuple #[.agg #[.int .i64 q1, .string (bsA q2), .int .i64 q3, .int .i64 0], .int .i64 n, .int .i64 q4]) (by simp [results, Tryz.results138, go_sem, y0, y1, y2, y3]) rfl ⟨rfl, (((hB.setCell (p := ⟨w.heap.size, 0, none⟩) (Nat.le_refl _) _).setCell (p := ⟨w.heap.size, 1, none⟩) (Nat.le_refl _) _).setCell (p := ⟨w.heap.size, 2, none⟩) (Nat.le_refl _) _).setCell (p := ⟨w.heap.size, 3, none⟩) (Nat.le_refl _) _⟩
end Go.Proofs.YtcemogaacicnfaaGreatDoor
