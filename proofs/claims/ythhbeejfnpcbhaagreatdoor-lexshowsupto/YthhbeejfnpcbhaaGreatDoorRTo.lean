/- The document's answer: tokens (token). -/
import Derived.Test.YthhbeejfnpcbhaaGreatDoorRNu
import Derived.Test.YthhbeejfnpcbhaaGreatDoorRTx
import Derived.Test.YthhbeejfnpcbhaaGreatDoorRSm
import Derived.BigRegion
namespace Go.Proofs.YthhbeejfnpcbhaaGreatDoor
open Go.ChangeShapes Go.WideShapes Go.ChangeAt Go.RowKit

def sgT : List (List UInt8) := [[60, 61], [62, 61], [33, 61], [45, 62], [60], [62], [61], [43], [45], [42], [47], [37], [40], [41], [44], [46], [59], [91], [93], [35]]
def sg (m : Nat) : List UInt8 := sgT.getD m []
theorem sg_le2 : ∀ m, m < 20 → (sg m).length ≤ 2 ∧ (m < 4 → (sg m).length = 2) ∧ (4 ≤ m → sg m = [(sg m).headD 0] ∧ 0 ≤ Lib.indexByte shortS ((sg m).headD 0)) := by decide
theorem sg_mem {c : UInt8} (h : 0 ≤ Lib.indexByte shortS c) : ∃ j, j < 20 ∧ sg j = [c] := by
  obtain ⟨o, ho⟩ : ∃ o : Nat, Lib.indexByte shortS c = o := ⟨_, (Int.toNat_of_nonneg h).symm⟩
  obtain ⟨h1, _⟩ := Lib.indexByte_some ho
  have h2 : o < 16 := by
    rcases Nat.lt_or_ge o 16 with h | h
    · exact h
    · rw [List.getElem?_eq_none (by show shortS.length ≤ o; exact h)] at h1; cases h1
  have h3 : ∀ o : Nat, o < 16 → ∀ d, shortS[o]? = some d → sg (o + 4) = [d] := by decide
  exact ⟨o + 4, by omega, h3 o h2 c h1⟩
theorem sgn2_pre (l : List UInt8) : sgn2 l = (Lib.hasPrefix l [60, 61] || Lib.hasPrefix l [62, 61] || Lib.hasPrefix l [33, 61] || Lib.hasPrefix l [45, 62]) := by
  unfold sgn2
  by_cases h : 2 ≤ l.length
  · rw [pre_take (by simpa using h), pre_take (by simpa using h), pre_take (by simpa using h), pre_take (by simpa using h), decide_eq_true (by omega)]
    rfl
  · rw [pre_short (by simpa using h), pre_short (by simpa using h), pre_short (by simpa using h), pre_short (by simpa using h), decide_eq_false (by omega)]
    rfl
theorem pre_head {c x : UInt8} {r : List UInt8} : Lib.hasPrefix (c :: r) [x] = (c == x) := by
  rw [pre_take (by simp)]; simp
theorem sg_yes {c : UInt8} {r : List UInt8} {m : Nat} (hm : m < 20) (h : ∀ j, j < m → Lib.hasPrefix (c :: r) (sg j) = false) (hy : Lib.hasPrefix (c :: r) (sg m) = true) : sgnP (c :: r) = ((6, sg m, 0), ((sg m).length : Int), 0) := by
  obtain ⟨i1, i2, i3⟩ := sg_le2 m hm
  have ht : (c :: r).take (sg m).length = sg m := by
    have := hy
    rw [pre_take (pre_le hy)] at this
    exact eq_of_beq this
  have hn : sgnN (c :: r) = (sg m).length := by
    unfold sgnN
    rcases Nat.lt_or_ge m 4 with h4 | h4
    · rw [i2 h4, sgn2_pre]
      have hq : m = 0 ∨ m = 1 ∨ m = 2 ∨ m = 3 := by omega
      have : (Lib.hasPrefix (c :: r) [60, 61] || Lib.hasPrefix (c :: r) [62, 61] || Lib.hasPrefix (c :: r) [33, 61] || Lib.hasPrefix (c :: r) [45, 62]) = true := by
        rcases hq with rfl | rfl | rfl | rfl
        · have hy : Lib.hasPrefix (c :: r) [60, 61] = true := hy
          rw [hy]; rfl
        · have hy : Lib.hasPrefix (c :: r) [62, 61] = true := hy
          rw [hy]; simp
        · have hy : Lib.hasPrefix (c :: r) [33, 61] = true := hy
          rw [hy]; simp
        · have hy : Lib.hasPrefix (c :: r) [45, 62] = true := hy
          rw [hy]; simp
      rw [this]; rfl
    · obtain ⟨j1, j2⟩ := i3 h4
      have n0 : Lib.hasPrefix (c :: r) [60, 61] = false := h 0 (by omega)
      have n1 : Lib.hasPrefix (c :: r) [62, 61] = false := h 1 (by omega)
      have n2 : Lib.hasPrefix (c :: r) [33, 61] = false := h 2 (by omega)
      have n3 : Lib.hasPrefix (c :: r) [45, 62] = false := h 3 (by omega)
      rw [sgn2_pre, n0, n1, n2, n3]
      rw [j1, pre_head] at hy
      have hc := eq_of_beq hy
      rw [List.headD_cons, hc, if_neg (by simp), if_pos j2, j1]
      rfl
  unfold sgnP
  rw [hn, ht, if_neg]
  intro h0
  have e := List.length_eq_zero_iff.1 h0
  rcases Nat.lt_or_ge m 4 with h4 | h4
  · rw [i2 h4] at h0; cases h0
  · have := (i3 h4).1; rw [e] at this; cases this
theorem sg_no {c : UInt8} {r : List UInt8} (h : ∀ j, j < 20 → Lib.hasPrefix (c :: r) (sg j) = false) : sgnP (c :: r) = (tk0, 0, 50) := by
  have n0 : Lib.hasPrefix (c :: r) [60, 61] = false := h 0 (by omega)
  have n1 : Lib.hasPrefix (c :: r) [62, 61] = false := h 1 (by omega)
  have n2 : Lib.hasPrefix (c :: r) [33, 61] = false := h 2 (by omega)
  have n3 : Lib.hasPrefix (c :: r) [45, 62] = false := h 3 (by omega)
  have hn : sgnN (c :: r) = 0 := by
    unfold sgnN
    rw [sgn2_pre, n0, n1, n2, n3, if_neg (by simp), List.headD_cons, if_neg]
    intro hx
    obtain ⟨j, hj, he⟩ := sg_mem hx
    have := h j hj
    rw [he, pre_head] at this
    simp at this
  unfold sgnP
  rw [hn, if_pos rfl]
theorem sgC (w : World) : ∀ m, m < 20 → ((w.alloc (.cells #[.int .i64 0, .string ⟨#[]⟩, .int .i64 0, .int .i64 0] 37)).alloc (.cells #[.string ⟨#[60, 61]⟩, .string ⟨#[62, 61]⟩, .string ⟨#[33, 61]⟩, .string ⟨#[45, 62]⟩, .string ⟨#[60]⟩, .string ⟨#[62]⟩, .string ⟨#[61]⟩, .string ⟨#[43]⟩, .string ⟨#[45]⟩, .string ⟨#[42]⟩, .string ⟨#[47]⟩, .string ⟨#[37]⟩, .string ⟨#[40]⟩, .string ⟨#[41]⟩, .string ⟨#[44]⟩, .string ⟨#[46]⟩, .string ⟨#[59]⟩, .string ⟨#[91]⟩, .string ⟨#[93]⟩, .string ⟨#[35]⟩] 9)).cell? ⟨w.heap.size + 1, m, none⟩ = some (.string (bsA (sg m))) := by
  intro m hm
  match m, hm with
  | 0, _ => simp [go_sem]; rfl
  | 1, _ => simp [go_sem]; rfl
  | 2, _ => simp [go_sem]; rfl
  | 3, _ => simp [go_sem]; rfl
  | 4, _ => simp [go_sem]; rfl
  | 5, _ => simp [go_sem]; rfl
  | 6, _ => simp [go_sem]; rfl
  | 7, _ => simp [go_sem]; rfl
  | 8, _ => simp [go_sem]; rfl
  | 9, _ => simp [go_sem]; rfl
  | 10, _ => simp [go_sem]; rfl
  | 11, _ => simp [go_sem]; rfl
  | 12, _ => simp [go_sem]; rfl
  | 13, _ => simp [go_sem]; rfl
  | 14, _ => simp [go_sem]; rfl
  | 15, _ => simp [go_sem]; rfl
  | 16, _ => simp [go_sem]; rfl
  | 17, _ => simp [go_sem]; rfl
  | 18, _ => simp [go_sem]; rfl
  | 19, _ => simp [go_sem]; rfl
  | n + 20, h => exact absurd h (by omega)
set_option maxRecDepth 20000 in
set_option maxHeartbeats 4000000 in
theorem token_r (l : List UInt8) (w : World) (hne : l ≠ []) (hl : l.length ≤ 104857600) : Calls Tryz.prog 20 #[.string (bsA l)] w fun e w' => e = .returned (.tuple #[tkV (tokP l).1 0, .int .i64 (tokP l).2.1, .int .i64 (tokP l).2.2]) ∧ Below w.heap.size w w' := by
  cases l with
  | nil => exact absurd rfl hne
  | cons c r =>
    have hz := bsA_size (c :: r)
    have h0 : 0 < (bsA (c :: r)).size := by rw [hz]; simp
    have hc : (bsA (c :: r))[0]'h0 = c := rfl
    have h1 := rletter_any c.toNat (w.alloc (.cells #[.int .i64 0, .string ⟨#[]⟩, .int .i64 0, .int .i64 0] 37))
    have h2 := rdigit_any c.toNat (w.alloc (.cells #[.int .i64 0, .string ⟨#[]⟩, .int .i64 0, .int .i64 0] 37))
    have h4 := fun h => number_r (c :: r) (w.alloc (.cells #[.int .i64 0, .string ⟨#[]⟩, .int .i64 0, .int .i64 0] 37)) hne h hl
    have h5 := rtext_any (c :: r) (w.alloc (.cells #[.int .i64 0, .string ⟨#[]⟩, .int .i64 0, .int .i64 0] 37)) (by simp) hl
    have t1 : ltB c.toNat = true → tokP (c :: r) = namP (c :: r) := fun h => by unfold tokP; rw [List.headD_cons, if_pos h]
    have t2 : ltB c.toNat = false → dgB c.toNat = true → tokP (c :: r) = numP (c :: r) := fun h h' => by unfold tokP; rw [List.headD_cons, if_neg (by simp [h]), if_pos h']
    have t3 : ltB c.toNat = false → dgB c.toNat = false → c = 39 → tokP (c :: r) = txtP (c :: r) := fun h h' h'' => by unfold tokP; rw [List.headD_cons, if_neg (by simp [h]), if_neg (by simp [h']), if_pos h'']
    have t4 : ltB c.toNat = false → dgB c.toNat = false → ¬ c = 39 → tokP (c :: r) = sgnP (c :: r) := fun h h' h'' => by unfold tokP; rw [List.headD_cons, if_neg (by simp [h]), if_neg (by simp [h']), if_neg h'']
    rw [List.headD_cons] at h4
    cases hlt : ltB c.toNat with
    | true =>
      rw [hlt] at h1
      clear h2 h4 h5
      have HN0 : Hid (tokP (c :: r) = namP (c :: r)) := t1 hlt
      have hn1 := ldN_le ptB (c :: r)
      have hxt : (bsA (c :: r)).extract 0 (ldN ptB (c :: r)) = bsA ((c :: r).take (ldN ptB (c :: r))) := ext_take _ _
      have hp0 : 1 ≤ ldN ptB (c :: r) := ldN_pos (by simp) (pt_lt hlt)
      have hs := small_r ((c :: r).take (ldN ptB (c :: r))) (w.alloc (.cells #[.int .i64 0, .string ⟨#[]⟩, .int .i64 0, .int .i64 0] 37)) (by rw [List.length_take]; omega)
      have hwd := fun w => word_any (Lib.toLowerA ((c :: r).take (ldN ptB (c :: r)))) w
      have hlz : ((c :: r).take (ldN ptB (c :: r))).length = ldN ptB (c :: r) := by rw [List.length_take, Nat.min_eq_left hn1]
      have HNm : Hid (namP (c :: r) = if wdL.contains (Lib.toLowerA ((c :: r).take (ldN ptB (c :: r)))) then ((2, Lib.toLowerA ((c :: r).take (ldN ptB (c :: r))), 0), ((ldN ptB (c :: r) : Nat) : Int), 0) else ((1, (c :: r).take (ldN ptB (c :: r)), 0), ((ldN ptB (c :: r) : Nat) : Int), 0)) := by show _ = _; unfold namP; rw [hlz]
      clear t1 t2 t3 t4
      go_enter Tryz.func20, Tryz.ntmps20
      go_wp2_with fail
      refine h1.mono ?_
      rintro e w' ⟨rfl, rfl⟩
      clear h1
      go_upto_block 1 with (fail)
      go_cut [5] (fun y wx => y = .int .i64 ((ldN ptB (c :: r) : Nat) : Int) ∧ wx = w.alloc (.cells #[.int .i64 0, .string ⟨#[]⟩, .int .i64 0, .int .i64 0] 37))
      case first =>
        have HLl : Hid (ltB c.toNat = true) := hlt
        clear hs hwd hxt HNm HN0 hlt
        generalize hLL : (c :: r) = l at *
        have HLL : Hid _ := hLL
        clear hLL hc
        go_wp2_with fail
        go_loopw [5] (fun y wr => ∃ m : Nat, 1 ≤ m ∧ m ≤ l.length ∧ y = .int .i64 m ∧ m + ldN ptB (l.drop m) = ldN ptB l ∧ wr = w.alloc (.cells #[.int .i64 0, .string ⟨#[]⟩, .int .i64 0, .int .i64 0] 37)) (fun y _ => l.length - (intOf y).toNat)
        case atStart =>
          refine ⟨1, Nat.le_refl _, by omega, rfl, ?_, rfl⟩
          rw [← HLL.out, List.drop_one, List.tail_cons, ldN_pos_cons (pt_lt HLl.out)]; omega
        case round =>
          obtain ⟨m, hm0, hm, rfl, hH, rfl⟩ := hrel
          have HH : Hid (m + ldN ptB (l.drop m) = ldN ptB l) := hH
          clear hH
          rcases Nat.lt_or_ge m l.length with hlt | hge
          · have hi : m < (bsA l).size := by rw [hz]; exact hlt
            have e0 : ((bsA l)[m]'hi) = l[m] := rfl
            have hg1 := rletter_any (l[m]).toNat (w.alloc (.cells #[.int .i64 0, .string ⟨#[]⟩, .int .i64 0, .int .i64 0] 37))
            have hg2 := rdigit_any (l[m]).toNat (w.alloc (.cells #[.int .i64 0, .string ⟨#[]⟩, .int .i64 0, .int .i64 0] 37))
            cases hd1 : ltB (l[m]).toNat with
            | true =>
              have HN : Hid (m + 1 + ldN ptB (l.drop (m + 1)) = ldN ptB l) := (ldN_drop hlt (pt_lt hd1)).symm.trans HH.out
              rw [hd1] at hg1
              clear hd1 HH hg2
              generalize l[m] = d at e0 hg1
              go_wp2_with fail
              refine hg1.mono ?_
              rintro e w' ⟨rfl, rfl⟩
              go_wp2
              go_roundw
              case rel => exact ⟨m + 1, by omega, hlt, by go_num, HN.out, trivial⟩
              case measure => simp [intOf]; omega
            | false =>
              rw [hd1] at hg1
              cases hd2 : dgB (l[m]).toNat with
              | true =>
                have HN : Hid (m + 1 + ldN ptB (l.drop (m + 1)) = ldN ptB l) := (ldN_drop hlt (pt_dg hd2)).symm.trans HH.out
                rw [hd2] at hg2
                clear hd1 hd2 HH
                generalize l[m] = d at e0 hg1 hg2
                go_wp2_with fail
                refine hg1.mono ?_
                rintro e w' ⟨rfl, rfl⟩
                go_wp2_with fail
                refine hg2.mono ?_
                rintro e w' ⟨rfl, rfl⟩
                go_wp2
                go_roundw
                case rel => exact ⟨m + 1, by omega, hlt, by go_num, HN.out, trivial⟩
                case measure => simp [intOf]; omega
              | false =>
                have HN : Hid (m = ldN ptB l) := by have h1 := HH.out; rw [ldN_stop hlt (pt_no hd1 hd2)] at h1; exact h1
                rw [hd2] at hg2
                clear hd1 hd2 HH
                generalize l[m] = d at e0 hg1 hg2
                go_wp2_with fail
                refine hg1.mono ?_
                rintro e w' ⟨rfl, rfl⟩
                go_wp2_with fail
                refine hg2.mono ?_
                rintro e w' ⟨rfl, rfl⟩
                go_wp2
                go_meet
                exact ⟨congrArg (fun k : Nat => Value.int .i64 (k : Int)) HN.out, rfl⟩
          · have HN : Hid (m = ldN ptB l) := by have h1 := HH.out; rw [List.drop_eq_nil_of_le hge] at h1; exact h1
            go_wp2
            go_meet
            exact ⟨congrArg (fun k : Nat => Value.int .i64 (k : Int)) HN.out, rfl⟩
      case rest =>
        obtain ⟨rfl, rfl⟩ := hcut
        generalize (c :: r).take (ldN ptB (c :: r)) = x at hs hwd HNm hxt
        generalize ldN ptB (c :: r) = n at *
        generalize Lib.toLowerA x = y at hs hwd HNm
        go_wp2_with fail
        refine hs.mono ?_
        rintro e w1 ⟨rfl, hb1⟩
        have hwd := hwd w1
        cases hq : wdL.contains y with
        | true =>
          rw [hq] at hwd
          have HN : Hid _ := HN0.out.trans (HNm.out.trans (if_pos hq))
          clear HN0 HNm hs hq
          go_wp2_with fail
          refine hwd.mono ?_
          rintro e w2 ⟨rfl, hb2⟩
          have hb := hb1.trans (hb2.mono hb1.size)
          obtain ⟨y0, y1, y2, y3, f0, f1, f2, f3⟩ := tokBox hb
          have hB : Below w.heap.size w w2 := ((Below.refl _ _).alloc (Nat.le_refl _) _).trans (hb.mono (by simp))
          clear hwd hb hb1 hb2
          go_wp2
          refine bodyPost_ret (v := .tuple #[.agg #[.int .i64 2, .string (bsA y), .int .i64 0, .int .i64 0], .int .i64 (n : Int), .int .i64 0]) (by simp [results, Tryz.results20, go_sem, y0, y1, y2, y3]) rfl ⟨by rw [HN.out]; rfl, (((hB.setCell (p := ⟨w.heap.size, 0, none⟩) (Nat.le_refl _) _).setCell (p := ⟨w.heap.size, 1, none⟩) (Nat.le_refl _) _).setCell (p := ⟨w.heap.size, 2, none⟩) (Nat.le_refl _) _).setCell (p := ⟨w.heap.size, 3, none⟩) (Nat.le_refl _) _⟩
        | false =>
          rw [hq] at hwd
          have HN : Hid _ := HN0.out.trans (HNm.out.trans (if_neg (by rw [hq]; simp)))
          clear HN0 HNm hs hq
          go_wp2_with fail
          refine hwd.mono ?_
          rintro e w2 ⟨rfl, hb2⟩
          have hb := hb1.trans (hb2.mono hb1.size)
          obtain ⟨y0, y1, y2, y3, f0, f1, f2, f3⟩ := tokBox hb
          have hB : Below w.heap.size w w2 := ((Below.refl _ _).alloc (Nat.le_refl _) _).trans (hb.mono (by simp))
          clear hwd hb hb1 hb2
          go_wp2
          refine bodyPost_ret (v := .tuple #[.agg #[.int .i64 1, .string (bsA x), .int .i64 0, .int .i64 0], .int .i64 (n : Int), .int .i64 0]) (by simp [results, Tryz.results20, go_sem, y0, y1, y2, y3]) rfl ⟨by rw [HN.out]; rfl, (((hB.setCell (p := ⟨w.heap.size, 0, none⟩) (Nat.le_refl _) _).setCell (p := ⟨w.heap.size, 1, none⟩) (Nat.le_refl _) _).setCell (p := ⟨w.heap.size, 2, none⟩) (Nat.le_refl _) _).setCell (p := ⟨w.heap.size, 3, none⟩) (Nat.le_refl _) _⟩
    | false =>
      rw [hlt] at h1
      cases hdg : dgB c.toNat with
      | true =>
        rw [hdg] at h2
        have h4' := h4 hdg
        rw [t2 hlt hdg]
        clear h4 h5 t1 t2 t3 t4
        generalize numP (c :: r) = q at h4' ⊢
        obtain ⟨⟨q1, q2, q3⟩, n, q4⟩ := q
        unfold tkV at h4' ⊢
        dsimp only at h4' ⊢
        go_enter Tryz.func20, Tryz.ntmps20
        go_wp2_with fail
        refine h1.mono ?_
        rintro e w' ⟨rfl, rfl⟩
        go_wp2_with fail
        refine h2.mono ?_
        rintro e w' ⟨rfl, rfl⟩
        go_wp2_with fail
        refine h4'.mono ?_
        rintro e w2 ⟨rfl, hb⟩
        obtain ⟨y0, y1, y2, y3, f0, f1, f2, f3⟩ := tokBox hb
        have hB : Below w.heap.size w w2 := ((Below.refl _ _).alloc (Nat.le_refl _) _).trans (hb.mono (by simp))
        clear hb h4'
        go_wp2
        refine bodyPost_ret (v := .tuple #[.agg #[.int .i64 q1, .string (bsA q2), .int .i64 q3, .int .i64 0], .int .i64 n, .int .i64 q4]) (by simp [results, Tryz.results20, go_sem, y0, y1, y2, y3]) rfl ⟨rfl, (((hB.setCell (p := ⟨w.heap.size, 0, none⟩) (Nat.le_refl _) _).setCell (p := ⟨w.heap.size, 1, none⟩) (Nat.le_refl _) _).setCell (p := ⟨w.heap.size, 2, none⟩) (Nat.le_refl _) _).setCell (p := ⟨w.heap.size, 3, none⟩) (Nat.le_refl _) _⟩
      | false =>
        rw [hdg] at h2
        by_cases hq : c = 39
        · rw [t3 hlt hdg hq]
          clear t1 t2 t3 t4 h4
          subst hq
          change Calls Tryz.prog 34 #[.int .u8 39] _ _ at h1
          change Calls Tryz.prog 35 #[.int .u8 39] _ _ at h2
          generalize txtP (39 :: r) = q at h5 ⊢
          obtain ⟨⟨q1, q2, q3⟩, n, q4⟩ := q
          unfold tkV at h5 ⊢
          dsimp only at h5 ⊢
          go_enter Tryz.func20, Tryz.ntmps20
          go_wp2_with fail
          refine h1.mono ?_
          rintro e w' ⟨rfl, rfl⟩
          go_wp2_with fail
          refine h2.mono ?_
          rintro e w' ⟨rfl, rfl⟩
          go_wp2_with fail
          refine h5.mono ?_
          rintro e w2 ⟨rfl, hb⟩
          obtain ⟨y0, y1, y2, y3, f0, f1, f2, f3⟩ := tokBox hb
          have hB : Below w.heap.size w w2 := ((Below.refl _ _).alloc (Nat.le_refl _) _).trans (hb.mono (by simp))
          clear hb h5
          go_wp2
          refine bodyPost_ret (v := .tuple #[.agg #[.int .i64 q1, .string (bsA q2), .int .i64 q3, .int .i64 0], .int .i64 n, .int .i64 q4]) (by simp [results, Tryz.results20, go_sem, y0, y1, y2, y3]) rfl ⟨rfl, (((hB.setCell (p := ⟨w.heap.size, 0, none⟩) (Nat.le_refl _) _).setCell (p := ⟨w.heap.size, 1, none⟩) (Nat.le_refl _) _).setCell (p := ⟨w.heap.size, 2, none⟩) (Nat.le_refl _) _).setCell (p := ⟨w.heap.size, 3, none⟩) (Nat.le_refl _) _⟩
        · skip
          clear h4 h5
          have HN0 : Hid _ := t4 hlt hdg hq
          have hqb : ((c.toNat : Int) == 39) = false := by rw [beq_eq_false_iff_ne]; intro h; exact hq (UInt8.toNat_inj.1 (Int.ofNat.inj h))
          clear t1 t2 t3 t4 hq hlt hdg
          have HNo : Hid (_ → sgnP (c :: r) = _) := sg_no (c := c) (r := r)
          have HYs : Hid (∀ m, m < 20 → _ → _ → sgnP (c :: r) = _) := fun m hm h hy => sg_yes (c := c) (r := r) (m := m) hm h hy
          have HC : Hid _ := sgC w
          have Hbo : Hid _ := (Box.new w (.int .i64 0) (.string ⟨#[]⟩) (.int .i64 0) (.int .i64 0)).below ((Below.refl _ _).alloc (Nat.le_refl _) (.cells #[.string ⟨#[60, 61]⟩, .string ⟨#[62, 61]⟩, .string ⟨#[33, 61]⟩, .string ⟨#[45, 62]⟩, .string ⟨#[60]⟩, .string ⟨#[62]⟩, .string ⟨#[61]⟩, .string ⟨#[43]⟩, .string ⟨#[45]⟩, .string ⟨#[42]⟩, .string ⟨#[47]⟩, .string ⟨#[37]⟩, .string ⟨#[40]⟩, .string ⟨#[41]⟩, .string ⟨#[44]⟩, .string ⟨#[46]⟩, .string ⟨#[59]⟩, .string ⟨#[91]⟩, .string ⟨#[93]⟩, .string ⟨#[35]⟩] 9))
          have Hb : Hid (Below w.heap.size w ((w.alloc (.cells #[.int .i64 0, .string ⟨#[]⟩, .int .i64 0, .int .i64 0] 37)).alloc (.cells #[.string ⟨#[60, 61]⟩, .string ⟨#[62, 61]⟩, .string ⟨#[33, 61]⟩, .string ⟨#[45, 62]⟩, .string ⟨#[60]⟩, .string ⟨#[62]⟩, .string ⟨#[61]⟩, .string ⟨#[43]⟩, .string ⟨#[45]⟩, .string ⟨#[42]⟩, .string ⟨#[47]⟩, .string ⟨#[37]⟩, .string ⟨#[40]⟩, .string ⟨#[41]⟩, .string ⟨#[44]⟩, .string ⟨#[46]⟩, .string ⟨#[59]⟩, .string ⟨#[91]⟩, .string ⟨#[93]⟩, .string ⟨#[35]⟩] 9))) := ((Below.refl _ _).alloc (Nat.le_refl _) _).alloc (by simp) _
          have hbg := fun t w => begins_any (c :: r) t w
          have HBG : Hid _ := hbg
          clear hbg
          go_enter Tryz.func20, Tryz.ntmps20
          go_wp2_with fail
          refine h1.mono ?_
          rintro e w' ⟨rfl, rfl⟩
          go_wp2_with fail
          refine h2.mono ?_
          rintro e w' ⟨rfl, rfl⟩
          go_wp2
          generalize (w.alloc (.cells #[.int .i64 0, .string ⟨#[]⟩, .int .i64 0, .int .i64 0] 37)).alloc (.cells #[.string ⟨#[60, 61]⟩, .string ⟨#[62, 61]⟩, .string ⟨#[33, 61]⟩, .string ⟨#[45, 62]⟩, .string ⟨#[60]⟩, .string ⟨#[62]⟩, .string ⟨#[61]⟩, .string ⟨#[43]⟩, .string ⟨#[45]⟩, .string ⟨#[42]⟩, .string ⟨#[47]⟩, .string ⟨#[37]⟩, .string ⟨#[40]⟩, .string ⟨#[41]⟩, .string ⟨#[44]⟩, .string ⟨#[46]⟩, .string ⟨#[59]⟩, .string ⟨#[91]⟩, .string ⟨#[93]⟩, .string ⟨#[35]⟩] 9) = W at HC Hbo Hb ⊢
          go_loopw [8] (fun y wr => ∃ m : Nat, m ≤ 20 ∧ y = .int .i64 m ∧ (∀ j, j < m → Lib.hasPrefix (c :: r) (sg j) = false) ∧ wr = W) (fun y _ => 20 - (intOf y).toNat)
          case atStart => exact ⟨0, Nat.zero_le _, rfl, fun j hj => absurd hj (Nat.not_lt_zero _), rfl⟩
          case round =>
            obtain ⟨m, hm, rfl, hH, rfl⟩ := hrel
            have HH : Hid _ := hH
            clear hH
            rcases Nat.lt_or_ge m 20 with hlt | hge
            · have c1 := HC.out m hlt
              have hbg := HBG.out (sg m) wr
              have hs2 := (sg_le2 m hlt).1
              have hzs := bsA_size (sg m)
              clear HC HNo HBG
              cases hq : Lib.hasPrefix (c :: r) (sg m) with
              | false =>
                rw [hq] at hbg
                have HX : Hid (∀ j, j < m + 1 → Lib.hasPrefix (c :: r) (sg j) = false) := fun j hj => by
                  by_cases hjm : j < m
                  · exact HH.out j hjm
                  · obtain rfl : j = m := by omega
                    exact hq
                clear HH HYs hq
                generalize sg m = t at c1 hbg hs2 hzs
                go_wp2_with fail
                refine hbg.mono ?_
                rintro e w' ⟨rfl, rfl⟩
                go_wp2
                go_roundw
                case rel => exact ⟨m + 1, hlt, by go_num, HX.out, trivial⟩
                case measure => simp [intOf]; omega
              | true =>
                rw [hq] at hbg
                have HN : Hid _ := HN0.out.trans (HYs.out m hlt HH.out hq)
                obtain ⟨y0, y1, y2, y3, f0, f1, f2, f3⟩ := Hbo.out
                have hB := Hb.out
                clear HH HYs hq HN0 Hbo Hb
                generalize sg m = t at c1 hbg hs2 hzs HN
                go_wp2_with fail
                refine hbg.mono ?_
                rintro e w' ⟨rfl, rfl⟩
                go_wp2
                go_region
                all_goals
                  go_wp2
                  refine bodyPost_ret (v := .tuple #[.agg #[.int .i64 6, .string (bsA t), .int .i64 0, .int .i64 0], .int .i64 (t.length : Int), .int .i64 0]) (by simp [results, Tryz.results20, go_sem, y0, y1, y2, y3]) rfl ⟨by rw [HN.out]; rfl, by repeat (first | exact (((hB.setCell (p := ⟨w.heap.size, 0, none⟩) (Nat.le_refl _) _).setCell (p := ⟨w.heap.size, 1, none⟩) (Nat.le_refl _) _).setCell (p := ⟨w.heap.size, 2, none⟩) (Nat.le_refl _) _).setCell (p := ⟨w.heap.size, 3, none⟩) (Nat.le_refl _) _ | refine Below.drew ?_)⟩
            · obtain rfl : m = 20 := by omega
              have HN : Hid _ := HN0.out.trans (HNo.out HH.out)
              obtain ⟨y0, y1, y2, y3, f0, f1, f2, f3⟩ := Hbo.out
              have hB := Hb.out
              clear HH HYs HN0 Hbo Hb HNo HC HBG
              go_wp2
              refine bodyPost_ret (v := .tuple #[.agg #[.int .i64 0, .string ⟨#[]⟩, .int .i64 0, .int .i64 0], .int .i64 0, .int .i64 50]) (by simp [results, Tryz.results20, go_sem, y0, y1, y2, y3]) rfl ⟨by rw [HN.out]; rfl, (((hB.setCell (p := ⟨w.heap.size, 0, none⟩) (Nat.le_refl _) _).setCell (p := ⟨w.heap.size, 1, none⟩) (Nat.le_refl _) _).setCell (p := ⟨w.heap.size, 2, none⟩) (Nat.le_refl _) _).setCell (p := ⟨w.heap.size, 3, none⟩) (Nat.le_refl _) _⟩
end Go.Proofs.YthhbeejfnpcbhaaGreatDoor
