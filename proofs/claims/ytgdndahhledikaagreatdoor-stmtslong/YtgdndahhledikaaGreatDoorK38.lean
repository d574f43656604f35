/- YTtk, YTok, YPl, YSf. -/
import Derived.Test.YtgdndahhledikaaGreatDoorK37
import Derived.Test.YtgdndahhledikaaGreatDoorK34
namespace Go.Proofs.YtgdndahhledikaaGreatDoor
open Go.ChangeShapes Go.WideShapes Go.ChangeAt Go.RowKit
theorem txN_tail (l : List UInt8) : txN l 1 = match quF l.tail with
  | none => 0
  | some p => p.2 + 1 := by
 unfold txN
 rw [List.drop_one]
 cases quF l.tail with
 | none => rfl
 | some p => simp only; omega
theorem replaceAll_any (l : List UInt8) (w : World) (hR : Rdv w) (hl : l.length ≤ 104857600) : Calls Tryz.prog 101 #[.string (bsA l), .string ⟨#[39, 39]⟩, .string ⟨#[39]⟩] w fun e w' => e = .returned (.string (bsA (hlv l))) ∧ Below w.heap.size w w' := by
 obtain ⟨m, hm⟩ := hR.mx
 have hz := bsA_size l
 have hc := Lib.countB_mul_le (⟨#[39, 39]⟩ : ByteArray) (by decide) (bsA l).size (bsA l) (Nat.le_refl _)
 have e2 : (⟨#[39, 39]⟩ : ByteArray).size = 2 := rfl
 have e1 : (⟨#[39]⟩ : ByteArray).size = 1 := rfl
 rw [e2] at hc
 have h := Tryz.strings_ReplaceAll (bsA l) ⟨#[39, 39]⟩ ⟨#[39]⟩ m w (by omega) hm (by decide) (by rw [e1]; omega)
 refine h.mono ?_
 rintro e w' ⟨rfl, hb⟩
 refine ⟨?_, hb⟩
 rw [bsA_list]
 show Ending.returned (.string (bsA (Lib.replaceAll l [39, 39] [39]))) = _
 rw [replaceAll_hlv]
set_option maxRecDepth 20000 in
set_option maxHeartbeats 4000000 in
theorem text_any (l : List UInt8) (w : World) (hR : Rdv w) (hl : l.length ≤ 104857600) : Calls Tryz.prog 64 #[.string (bsA l)] w fun e w' => e = .returned (.tuple #[tkV (txtP l).1 0, .int .i64 (txtP l).2.1, .int .i64 (txtP l).2.2]) ∧ Below w.heap.size w w' := by
 have hz := bsA_size l
 have h1 := textLength_any l (w.alloc tokO) (by omega)
 have hB0 : Below w.heap.size w (w.alloc tokO) := (Below.refl _ _).alloc (Nat.le_refl _) _
 cases hq : quF l.tail with
 | none =>
  have HE : Hid (txtP l = (tk0, 0, 52)) := by show txtP l = _; unfold txtP; rw [hq]
  have e0 : txN l 1 = 0 := by rw [txN_tail, hq]
  rw [e0, show (((0 : Nat) : Int)) = 0 from rfl] at h1
  unfold tokO at h1
  clear hR hq e0
  go_enter Tryz.func64, Tryz.ntmps64
  go_wp2_with fail
  refine h1.mono ?_
  rintro e w' ⟨rfl, rfl⟩
  clear h1
  go_wp2
  refine bodyPost_ret (v := .tuple #[.agg #[.int .i64 0, .string ⟨#[]⟩, .int .i64 0, .int .i64 0], .int .i64 0, .int .i64 52]) (by simp [results, Tryz.results64, go_sem]) rfl ⟨by rw [HE.out]; rfl, (Bel.out (by repeat (first | exact Bel.refl _ | assumption | refine Bel.drew ?_ | refine Bel.drewN ?_ _ | refine Bel.alloc ?_ _ | refine Bel.setCell ?_ (by simp <;> omega) _ | refine Bel.step ?_ (by assumption))))⟩
 | some p =>
  obtain ⟨x, n⟩ := p
  obtain ⟨i1, i2, i3, _, i5, _⟩ := quF_spec _ _ _ hq
  have hxl : n ≤ l.length - 1 := by rw [List.length_tail] at i2; exact i2
  have e0 : txN l 1 = n + 1 := by rw [txN_tail, hq]
  rw [e0] at h1
  have hx : (bsA l).extract 1 n = bsA (l.tail.take (n - 1)) := by rw [ext_mid, List.drop_one]
  have h2 := replaceAll_any (l.tail.take (n - 1)) (w.alloc tokO) (hR.alloc _) (by rw [List.length_take, List.length_tail]; omega)
  rw [i3] at h2
  have hzx := bsA_size x
  have h3 := fun w2 (hb : Below (w.alloc tokO).heap.size (w.alloc tokO) w2) => Tryz.utf8_ValidString (bsA x) w2 (by rw [hzx]; omega) ((hR.alloc tokO).below hb).utf
  rw [bsA_list] at h3
  have hP1 : 1024 < x.length ∨ Lib.validD x = false → txtP l = (tk0, 0, 52) := fun h => by unfold txtP; rw [hq]; simp only; rw [if_pos h]
  have hP2 : ¬ (1024 < x.length ∨ Lib.validD x = false) → txtP l = ((5, x, 0), (n : Int) + 1, 0) := fun h => by unfold txtP; rw [hq]; simp only; rw [if_neg h]
  generalize l.tail.take (n - 1) = Y at hx h2
  have hzY := bsA_size Y
  clear hR hq e0 i3 i2
  by_cases hlen : 1024 < x.length
  ·
   have HE : Hid _ := hP1 (Or.inl hlen)
   clear hP1 hP2 h3
   go_enter Tryz.func64, Tryz.ntmps64
   go_wp2_with fail
   refine h1.mono ?_
   rintro e w' ⟨rfl, rfl⟩
   go_wp2_with fail
   refine h2.mono ?_
   rintro e w2 ⟨rfl, hb⟩
   obtain ⟨y0, y1, y2, y3, f0, f1, f2, f3⟩ := tokBox hb
   have hB : Below w.heap.size w w2 := ((Below.refl _ _).alloc (Nat.le_refl _) _).trans (hb.mono (by simp))
   clear h1 h2 hb
   go_wp2
   refine bodyPost_ret (v := .tuple #[.agg #[.int .i64 0, .string ⟨#[]⟩, .int .i64 0, .int .i64 0], .int .i64 0, .int .i64 52]) (by simp [results, Tryz.results64, go_sem, y0, y1, y2, y3]) rfl ⟨by rw [HE.out]; rfl, (((hB.setCell (p := ⟨w.heap.size, 0, none⟩) (Nat.le_refl _) _).setCell (p := ⟨w.heap.size, 1, none⟩) (Nat.le_refl _) _).setCell (p := ⟨w.heap.size, 2, none⟩) (Nat.le_refl _) _).setCell (p := ⟨w.heap.size, 3, none⟩) (Nat.le_refl _) _⟩
  ·
   cases hv : Lib.validD x with
   | false =>
    have HE : Hid _ := hP1 (Or.inr hv)
    simp only [hv] at h3
    clear hP1 hP2
    go_enter Tryz.func64, Tryz.ntmps64
    go_wp2_with fail
    refine h1.mono ?_
    rintro e w' ⟨rfl, rfl⟩
    go_wp2_with fail
    refine h2.mono ?_
    rintro e w2 ⟨rfl, hb⟩
    have h4 := h3 w2 hb
    clear h1 h2 h3
    go_wp2_with fail
    refine h4.mono ?_
    rintro e w3 ⟨rfl, hb3⟩
    have hb' := hb.trans (hb3.mono hb.size)
    obtain ⟨y0, y1, y2, y3, f0, f1, f2, f3⟩ := tokBox hb'
    have hB : Below w.heap.size w w3 := ((Below.refl _ _).alloc (Nat.le_refl _) _).trans (hb'.mono (by simp))
    clear h4 hb hb3 hb'
    go_wp2
    refine bodyPost_ret (v := .tuple #[.agg #[.int .i64 0, .string ⟨#[]⟩, .int .i64 0, .int .i64 0], .int .i64 0, .int .i64 52]) (by simp [results, Tryz.results64, go_sem, y0, y1, y2, y3]) rfl ⟨by rw [HE.out]; rfl, (((hB.setCell (p := ⟨w.heap.size, 0, none⟩) (Nat.le_refl _) _).setCell (p := ⟨w.heap.size, 1, none⟩) (Nat.le_refl _) _).setCell (p := ⟨w.heap.size, 2, none⟩) (Nat.le_refl _) _).setCell (p := ⟨w.heap.size, 3, none⟩) (Nat.le_refl _) _⟩
   | true =>
    have HE : Hid _ := hP2 (by rw [hv]; simp; omega)
    simp only [hv] at h3
    clear hP1 hP2
    go_enter Tryz.func64, Tryz.ntmps64
    go_wp2_with fail
    refine h1.mono ?_
    rintro e w' ⟨rfl, rfl⟩
    go_wp2_with fail
    refine h2.mono ?_
    rintro e w2 ⟨rfl, hb⟩
    have h4 := h3 w2 hb
    clear h1 h2 h3
    go_wp2_with fail
    refine h4.mono ?_
    rintro e w3 ⟨rfl, hb3⟩
    have hb' := hb.trans (hb3.mono hb.size)
    obtain ⟨y0, y1, y2, y3, f0, f1, f2, f3⟩ := tokBox hb'
    have hB : Below w.heap.size w w3 := ((Below.refl _ _).alloc (Nat.le_refl _) _).trans (hb'.mono (by simp))
    clear h4 hb hb3 hb'
    go_wp2
    refine bodyPost_ret (v := .tuple #[.agg #[.int .i64 5, .string (bsA x), .int .i64 0, .int .i64 0], .int .i64 ((n : Int) + 1), .int .i64 0]) (by simp [results, Tryz.results64, go_sem, y0, y1, y2, y3]) rfl ⟨by rw [HE.out]; rfl, (((hB.setCell (p := ⟨w.heap.size, 0, none⟩) (Nat.le_refl _) _).setCell (p := ⟨w.heap.size, 1, none⟩) (Nat.le_refl _) _).setCell (p := ⟨w.heap.size, 2, none⟩) (Nat.le_refl _) _).setCell (p := ⟨w.heap.size, 3, none⟩) (Nat.le_refl _) _⟩
end Go.Proofs.YtgdndahhledikaaGreatDoor
namespace Go.Proofs.YtgdndahhledikaaGreatDoor
open Go.ChangeShapes Go.WideShapes Go.ChangeAt Go.RowKit
set_option maxRecDepth 20000 in
set_option maxHeartbeats 4000000 in
theorem tokenL_any (l : List UInt8) (w : World) (hR : Rdv w) (hne : l ≠ []) (hl : l.length ≤ 104857600) : Calls Tryz.prog 43 #[.string (bsA l)] w fun e w' => e = .returned (.tuple #[tkV (tokP l).1 0, .int .i64 (tokP l).2.1, .int .i64 (tokP l).2.2]) ∧ Below w.heap.size w w' := by
 cases l with
 | nil => exact absurd rfl hne
 | cons c r =>
  have hz := bsA_size (c :: r)
  have h0 : 0 < (bsA (c :: r)).size := by rw [hz]; simp
  have hc : (bsA (c :: r))[0]'h0 = c := rfl
  have h1 := isLetter_any c.toNat (w.alloc tokO)
  have h2 := isDigit_any c.toNat (w.alloc tokO)
  have h3 := name_any (c :: r) (w.alloc tokO) (hR.alloc _) (by omega)
  have h4 := fun h => number_any (c :: r) (w.alloc tokO) (hR.alloc _) hne h hl
  have h5 := text_any (c :: r) (w.alloc tokO) (hR.alloc _) hl
  have h6 := sign_any c r (w.alloc tokO) (by omega)
  clear hR
  have t1 : ltB c.toNat = true → tokP (c :: r) = namP (c :: r) := fun h => by unfold tokP; rw [List.headD_cons, if_pos h]
  have t2 : ltB c.toNat = false → dgB c.toNat = true → tokP (c :: r) = numP (c :: r) := fun h h' => by unfold tokP; rw [List.headD_cons, if_neg (by simp [h]), if_pos h']
  have t3 : ltB c.toNat = false → dgB c.toNat = false → c = 39 → tokP (c :: r) = txtP (c :: r) := fun h h' h'' => by unfold tokP; rw [List.headD_cons, if_neg (by simp [h]), if_neg (by simp [h']), if_pos h'']
  have t4 : ltB c.toNat = false → dgB c.toNat = false → ¬ c = 39 → tokP (c :: r) = sgnP (c :: r) := fun h h' h'' => by unfold tokP; rw [List.headD_cons, if_neg (by simp [h]), if_neg (by simp [h']), if_neg h'']
  rw [List.headD_cons] at h4
  generalize bsA (c :: r) = S at hz h0 hc h3 h4 h5 h6 ⊢
  cases hlt : ltB c.toNat with
  | true =>
   rw [hlt] at h1
   rw [t1 hlt]
   clear h2 h4 h5 h6 t1 t2 t3 t4
   generalize namP (c :: r) = q at h3 ⊢
   obtain ⟨⟨q1, q2, q3⟩, n, q4⟩ := q
   unfold tkV at h3 ⊢
   dsimp only at h3 ⊢
   go_enter Tryz.func43, Tryz.ntmps43
   go_wp2_with fail
   refine h1.mono ?_
   rintro e w' ⟨rfl, rfl⟩
   go_wp2_with fail
   refine h3.mono ?_
   rintro e w2 ⟨rfl, hb⟩
   obtain ⟨y0, y1, y2, y3, f0, f1, f2, f3⟩ := tokBox hb
   have hB : Below w.heap.size w w2 := ((Below.refl _ _).alloc (Nat.le_refl _) _).trans (hb.mono (by simp))
   clear hb h3
   go_wp2
   refine bodyPost_ret (v := .tuple #[.agg #[.int .i64 q1, .string (bsA q2), .int .i64 q3, .int .i64 0], .int .i64 n, .int .i64 q4]) (by simp [results, Tryz.results43, go_sem, y0, y1, y2, y3]) rfl ⟨rfl, (((hB.setCell (p := ⟨w.heap.size, 0, none⟩) (Nat.le_refl _) _).setCell (p := ⟨w.heap.size, 1, none⟩) (Nat.le_refl _) _).setCell (p := ⟨w.heap.size, 2, none⟩) (Nat.le_refl _) _).setCell (p := ⟨w.heap.size, 3, none⟩) (Nat.le_refl _) _⟩
  | false =>
   rw [hlt] at h1
   cases hdg : dgB c.toNat with
   | true =>
    rw [hdg] at h2
    have h4' := h4 hdg
    rw [t2 hlt hdg]
    clear h3 h4 h5 h6 t1 t2 t3 t4
    generalize numP (c :: r) = q at h4' ⊢
    obtain ⟨⟨q1, q2, q3⟩, n, q4⟩ := q
    unfold tkV at h4' ⊢
    dsimp only at h4' ⊢
    go_enter Tryz.func43, Tryz.ntmps43
    go_wp2_with fail
    refine h1.mono ?_
    rintro e w' ⟨rfl, rfl⟩
    go_wp2_with fail
    refine h2.mono ?_
    rintro e w' ⟨rfl, rfl⟩
    go_wp2_with fail
    refine h4'.mono ?_
    rintro e w2 ⟨rfl, hb⟩
    obtain ⟨y0, y1, y2, y3, f0, f1, f2, f3⟩ := tokBox hb
    have hB : Below w.heap.size w w2 := ((Below.refl _ _).alloc (Nat.le_refl _) _).trans (hb.mono (by simp))
    clear hb h4'
    go_wp2
    refine bodyPost_ret (v := .tuple #[.agg #[.int .i64 q1, .string (bsA q2), .int .i64 q3, .int .i64 0], .int .i64 n, .int .i64 q4]) (by simp [results, Tryz.results43, go_sem, y0, y1, y2, y3]) rfl ⟨rfl, (((hB.setCell (p := ⟨w.heap.size, 0, none⟩) (Nat.le_refl _) _).setCell (p := ⟨w.heap.size, 1, none⟩) (Nat.le_refl _) _).setCell (p := ⟨w.heap.size, 2, none⟩) (Nat.le_refl _) _).setCell (p := ⟨w.heap.size, 3, none⟩) (Nat.le_refl _) _⟩
   | false =>
    rw [hdg] at h2
    clear h3 h4
    by_cases hq : c = 39
    ·
     rw [t3 hlt hdg hq]
     clear t1 t2 t3 t4
     subst hq
     change Calls Tryz.prog 60 #[.int .u8 39] _ _ at h1
     change Calls Tryz.prog 62 #[.int .u8 39] _ _ at h2
     clear h6
     generalize txtP (39 :: r) = q at h5 ⊢
     obtain ⟨⟨q1, q2, q3⟩, n, q4⟩ := q
     unfold tkV at h5 ⊢
     dsimp only at h5 ⊢
     go_enter Tryz.func43, Tryz.ntmps43
     go_wp2_with fail
     refine h1.mono ?_
     rintro e w' ⟨rfl, rfl⟩
     go_wp2_with fail
     refine h2.mono ?_
     rintro e w' ⟨rfl, rfl⟩
     go_wp2_with fail
     refine h5.mono ?_
     rintro e w2 ⟨rfl, hb⟩
     obtain ⟨y0, y1, y2, y3, f0, f1, f2, f3⟩ := tokBox hb
     have hB : Below w.heap.size w w2 := ((Below.refl _ _).alloc (Nat.le_refl _) _).trans (hb.mono (by simp))
     clear hb h5
     go_wp2
     refine bodyPost_ret (v := .tuple #[.agg #[.int .i64 q1, .string (bsA q2), .int .i64 q3, .int .i64 0], .int .i64 n, .int .i64 q4]) (by simp [results, Tryz.results43, go_sem, y0, y1, y2, y3]) rfl ⟨rfl, (((hB.setCell (p := ⟨w.heap.size, 0, none⟩) (Nat.le_refl _) _).setCell (p := ⟨w.heap.size, 1, none⟩) (Nat.le_refl _) _).setCell (p := ⟨w.heap.size, 2, none⟩) (Nat.le_refl _) _).setCell (p := ⟨w.heap.size, 3, none⟩) (Nat.le_refl _) _⟩
    ·
     rw [t4 hlt hdg hq]
     clear t1 t2 t3 t4
     have hq' : ¬ (c.toNat : Int) = 39 := fun e => hq (b39.1 e)
     clear h5 hq
     generalize sgnP (c :: r) = q at h6 ⊢
     obtain ⟨⟨q1, q2, q3⟩, n, q4⟩ := q
     unfold tkV at h6 ⊢
     dsimp only at h6 ⊢
     go_enter Tryz.func43, Tryz.ntmps43
     go_wp2_with fail
     refine h1.mono ?_
     rintro e w' ⟨rfl, rfl⟩
     go_wp2_with fail
     refine h2.mono ?_
     rintro e w' ⟨rfl, rfl⟩
     go_wp2_with fail
     refine h6.mono ?_
     rintro e w2 ⟨rfl, hb⟩
     obtain ⟨y0, y1, y2, y3, f0, f1, f2, f3⟩ := tokBox hb
     have hB : Below w.heap.size w w2 := ((Below.refl _ _).alloc (Nat.le_refl _) _).trans (hb.mono (by simp))
     clear hb h6
     go_wp2
     refine bodyPost_ret (v := .tuple #[.agg #[.int .i64 q1, .string (bsA q2), .int .i64 q3, .int .i64 0], .int .i64 n, .int .i64 q4]) (by simp [results, Tryz.results43, go_sem, y0, y1, y2, y3]) rfl ⟨rfl, (((hB.setCell (p := ⟨w.heap.size, 0, none⟩) (Nat.le_refl _) _).setCell (p := ⟨w.heap.size, 1, none⟩) (Nat.le_refl _) _).setCell (p := ⟨w.heap.size, 2, none⟩) (Nat.le_refl _) _).setCell (p := ⟨w.heap.size, 3, none⟩) (Nat.le_refl _) _⟩
end Go.Proofs.YtgdndahhledikaaGreatDoor
namespace Go.Proofs.YtgdndahhledikaaGreatDoor
open Go.ChangeShapes Go.WideShapes Go.ChangeAt Go.RowKit
end Go.Proofs.YtgdndahhledikaaGreatDoor
namespace Go.Proofs.YtgdndahhledikaaGreatDoor
open Go.ChangeShapes Go.WideShapes Go.ChangeAt Go.RowKit
end Go.Proofs.YtgdndahhledikaaGreatDoor
