/- ZRNu. -/
import Derived.Deep.CutBlock
import Derived.Test.YtgdndahhledikaaGreatDoorK41
namespace Go.Proofs.YtgdndahhledikaaGreatDoor
open Go.ChangeShapes Go.WideShapes Go.ChangeAt Go.RowKit
set_option linter.unusedSimpArgs false
set_option maxRecDepth 20000
set_option maxHeartbeats 4000000
theorem whR_nonneg (d : List UInt8) : 0 ≤ (whR d).1 := by
 unfold whR
 split
 · exact Int.natCast_nonneg _
 · exact Int.le_refl _
theorem ld_not0 {p : Nat → Bool} {l : List UInt8} (h : ldN p l < l.length) : p (l[ldN p l]).toNat = false := by
 have h1 := ldN_after p l
 rw [List.drop_eq_getElem_cons h] at h1
 cases hc : p (l[ldN p l]).toNat with
 | false => rfl
 | true => rw [ldN_pos_cons hc] at h1; omega
theorem frc_eq {l : List UInt8} (hf : frcL (rst l) ≠ []) : ldN dgB l + 1 < l.length ∧ frcL (rst l) = (l.drop (ldN dgB l + 1)).take (ldN dgB (l.drop (ldN dgB l + 1))) := by
 rcases Nat.lt_or_ge (ldN dgB l + 1) l.length with h | h
 ·
  refine ⟨h, ?_⟩
  by_cases hc : l[ldN dgB l] = 46
  ·
   cases hd : dgB (l[ldN dgB l + 1]).toNat with
   | true => exact (frc_yes h hc hd).1
   | false => exact absurd (frc_no3 h hd) hf
  · exact absurd (frc_no2 (by omega) hc) hf
 · exact absurd (frc_no1 h) hf
def slen : Value → Nat
 | .string b => b.size
 | _ => 0
def frB (l : List UInt8) : Bool := decide (frcL (rst l) ≠ [])
def b3 (l : List UInt8) : Bool := badN l || decide (0 < ldN ptB (rst l))
def b2 (l : List UInt8) : Bool := badN l || decide (4 < (frcL (rst l)).length) || decide (0 < ldN ptB (l.drop (ldN dgB l + 1 + (frcL (rst l)).length)))
set_option maxRecDepth 20000 in
set_option maxHeartbeats 4000000 in
theorem number_r (l : List UInt8) (w : World) (hne : l ≠ []) (hd0 : dgB (l.headD 0).toNat = true) (hl : l.length ≤ 104857600) : Calls Tryz.prog 37 #[.string (bsA l)] w fun e w' => e = .returned (.tuple #[tkV (numP l).1 0, .int .i64 (numP l).2.1, .int .i64 (numP l).2.2]) ∧ Below w.heap.size w w' := by
 have hz := bsA_size l
 have HP : Hid _ := num_per hne hd0
 have HD : Hid _ := num_dec hne hd0
 have HI : Hid _ := num_int hne hd0
 go_enter Tryz.func37, Tryz.ntmps37
 go_upto_block 0 with (fail)
 go_cut [5] (fun y wx => y = .int .i64 ((ldN dgB l : Nat) : Int) ∧ wx = w.alloc (.cells #[.int .i64 0, .string ⟨#[]⟩, .int .i64 0, .int .i64 0] 26))
 case first =>
  go_wp2_with fail
  go_loopw [5] (fun y wr => ∃ m : Nat, 0 ≤ m ∧ m ≤ l.length ∧ y = .int .i64 m ∧ m + ldN dgB (l.drop m) = ldN dgB l ∧ wr = w.alloc (.cells #[.int .i64 0, .string ⟨#[]⟩, .int .i64 0, .int .i64 0] 26)) (fun y _ => l.length - (intOf y).toNat)
  case atStart => exact ⟨0, Nat.zero_le _, Nat.zero_le _, rfl, by simp, rfl⟩
  case round =>
   obtain ⟨m, hm0, hm, rfl, hH, rfl⟩ := hrel
   have HH : Hid (m + ldN dgB (l.drop m) = ldN dgB l) := hH
   clear hH
   rcases Nat.lt_or_ge m l.length with hlt | hge
   ·
    have hi : m < (bsA l).size := by rw [hz]; exact hlt
    have e0 : ((bsA l)[m]'hi) = l[m] := rfl
    have hg := rdigit_any (l[m]).toNat (w.alloc (.cells #[.int .i64 0, .string ⟨#[]⟩, .int .i64 0, .int .i64 0] 26))
    cases hd : dgB (l[m]).toNat with
    | true =>
     have HN : Hid (m + 1 + ldN dgB (l.drop (m + 1)) = ldN dgB l) := (ldN_drop hlt hd).symm.trans HH.out
     rw [hd] at hg
     clear hd HH
     generalize l[m] = c at e0 hg
     go_wp2_with fail
     refine hg.mono ?_
     rintro e w' ⟨rfl, rfl⟩
     go_wp2
     go_roundw
     case rel => exact ⟨m + 1, by omega, hlt, by go_num, HN.out, trivial⟩
     case measure => simp [intOf]; omega
    | false =>
     have HN : Hid (m = ldN dgB l) := by have h1 := HH.out; rw [ldN_stop hlt hd] at h1; exact h1
     rw [hd] at hg
     clear hd HH
     generalize l[m] = c at e0 hg
     go_wp2_with fail
     refine hg.mono ?_
     rintro e w' ⟨rfl, rfl⟩
     go_wp2
     go_meet
     exact ⟨congrArg (fun k : Nat => Value.int .i64 (k : Int)) HN.out, rfl⟩
   ·
    have HN : Hid (m = ldN dgB l) := by have h1 := HH.out; rw [List.drop_eq_nil_of_le hge] at h1; exact h1
    go_wp2
    go_meet
    exact ⟨congrArg (fun k : Nat => Value.int .i64 (k : Int)) HN.out, rfl⟩
 case rest =>
  obtain ⟨rfl, rfl⟩ := hcut
  have hn1 := ldN_le dgB l
  have hxd : (bsA l).extract 0 (ldN dgB l) = bsA (dgs l) := ext_take l _
  have hxr : (bsA l).extract (ldN dgB l) l.length = bsA (rst l) := ext_drop' l _
  have hu := unit_r (rst l) (w.alloc (.cells #[.int .i64 0, .string ⟨#[]⟩, .int .i64 0, .int .i64 0] 26))
  have hw := fun w => whole_r (dgs l) w (dgs_Dgs l) (by rw [dgs_len]; omega)
  have hzd : (bsA (dgs l)).size = ldN dgB l := by rw [bsA_size, dgs_len]
  go_upto_region 5 with (fail)
  go_cut [7] (fun y wx => y = .bool (badN l) ∧ wx = w.alloc (.cells #[.int .i64 0, .string ⟨#[]⟩, .int .i64 0, .int .i64 0] 26))
  case first =>
   have h0 : 0 < (bsA l).size := by rw [hz]; exact List.length_pos_iff.2 hne
   have e0 : ((bsA l)[0]'h0) = l.headD 0 := by cases l with
    | nil => exact absurd rfl hne
    | cons c r => rfl
   have HBd : Hid (∀ n, ldN dgB l = n → badN l = (decide (1 < n) && (((l.headD 0).toNat : Int) == 48))) := fun n hn => by subst hn; rfl
   clear hw hu hxr hxd
   generalize l.headD 0 = c at e0 HBd
   by_cases h1 : 1 < ldN dgB l
   ·
    have HB2 : Hid (((c.toNat : Int) == 48) = badN l) := by show _ = _; rw [HBd.out _ rfl, decide_eq_true h1, Bool.true_and]
    clear HBd
    go_wp2
    go_meet
    exact ⟨congrArg Value.bool HB2.out, rfl⟩
   ·
    have HB2 : Hid (false = badN l) := by show _ = _; rw [HBd.out _ rfl, decide_eq_false h1, Bool.false_and]
    clear HBd
    go_wp2
    go_meet
    exact ⟨congrArg Value.bool HB2.out, rfl⟩
  case rest =>
   obtain ⟨rfl, rfl⟩ := hcut
   by_cases hk : 0 < msN (unt l)
   ·
    have hHP := HP.out hk
    obtain ⟨hz0, hz1⟩ := msN_range (unt l)
    have hul : 0 < (unt l).length := by
     rcases Nat.eq_zero_or_pos (unt l).length with h | h
     · rw [List.length_eq_zero_iff.1 h] at hk; cases hk
     · exact h
    have hun : (unt l).length ≤ l.length := by
     unfold unt rst; rw [List.length_take, List.length_drop]; omega
    have huP : unP (rst l) = (((unt l).length : Int), msN (unt l)) := by unfold unP; exact if_pos hk
    rw [huP] at hu
    have hx0 := whR_nonneg (dgs l)
    clear huP HP HD HI
    generalize msN (unt l) = z at hHP hk hz0 hz1 hu
    generalize (unt l).length = k at hHP hul hun hu
    generalize whR (dgs l) = W at hHP hw hx0
    obtain ⟨x, ok⟩ := W
    dsimp only at hHP hw hx0 hu
    have hq : Int.tdiv 1099511627776 z = 1099511627776 / z := Int.tdiv_eq_ediv_of_nonneg (by omega)
    have hq0 : 0 ≤ 1099511627776 / z := Int.ediv_nonneg (by omega) (by omega)
    have hq1 : 1099511627776 / z ≤ 1099511627776 := Int.ediv_le_self _ (by omega)
    have HQ : Hid (x ≤ 1099511627776 / z → x * z ≤ 1099511627776) := fun h => Int.le_trans (Int.mul_le_mul_of_nonneg_right h (by omega)) (Int.ediv_mul_le _ (by omega))
    generalize 1099511627776 / z = Q at hHP hq hq0 hq1 HQ
    have hqw : wrap64 Q = Q := by unfold wrap64; omega
    have HHP : Hid _ := hHP
    clear hHP
    generalize badN l = bad at HHP ⊢
    cases bad with
    | true =>
     have HN : Hid (numP l = (tk0, 0, 50)) := HHP.out.trans (if_pos rfl)
     clear HHP hq
     go_wp2_with fail
     refine hu.mono ?_
     rintro e w2 ⟨rfl, hb⟩
     obtain ⟨y0, y1, y2, y3, f0, f1, f2, f3⟩ := tokBox hb
     have hB : Below w.heap.size w w2 := ((Below.refl _ _).alloc (Nat.le_refl _) _).trans (hb.mono (by simp))
     clear hu hb
     go_wp2_with fail
     refine (hw w2).mono ?_
     rintro e w' ⟨rfl, rfl⟩
     clear hw
     go_wp2
     refine bodyPost_ret (v := .tuple #[.agg #[.int .i64 0, .string ⟨#[]⟩, .int .i64 0, .int .i64 0], .int .i64 0, .int .i64 50]) (by simp [results, Tryz.results37, go_sem, y0, y1, y2, y3]) rfl ⟨by rw [HN.out]; rfl, (((hB.setCell (p := ⟨w.heap.size, 0, none⟩) (Nat.le_refl _) _).setCell (p := ⟨w.heap.size, 1, none⟩) (Nat.le_refl _) _).setCell (p := ⟨w.heap.size, 2, none⟩) (Nat.le_refl _) _).setCell (p := ⟨w.heap.size, 3, none⟩) (Nat.le_refl _) _⟩
    | false =>
     have hHP := HHP.out.trans (if_neg (by simp))
     have HHP : Hid _ := hHP
     clear hHP
     cases ok with
     | false =>
      have HN : Hid (numP l = (tk0, 0, 51)) := HHP.out.trans (if_pos (Or.inl rfl))
      clear HHP hq
      go_wp2_with fail
      refine hu.mono ?_
      rintro e w2 ⟨rfl, hb⟩
      obtain ⟨y0, y1, y2, y3, f0, f1, f2, f3⟩ := tokBox hb
      have hB : Below w.heap.size w w2 := ((Below.refl _ _).alloc (Nat.le_refl _) _).trans (hb.mono (by simp))
      clear hu hb
      go_wp2_with fail
      refine (hw w2).mono ?_
      rintro e w' ⟨rfl, rfl⟩
      clear hw
      go_wp2
      refine bodyPost_ret (v := .tuple #[.agg #[.int .i64 0, .string ⟨#[]⟩, .int .i64 0, .int .i64 0], .int .i64 0, .int .i64 51]) (by simp [results, Tryz.results37, go_sem, y0, y1, y2, y3]) rfl ⟨by rw [HN.out]; rfl, (((hB.setCell (p := ⟨w.heap.size, 0, none⟩) (Nat.le_refl _) _).setCell (p := ⟨w.heap.size, 1, none⟩) (Nat.le_refl _) _).setCell (p := ⟨w.heap.size, 2, none⟩) (Nat.le_refl _) _).setCell (p := ⟨w.heap.size, 3, none⟩) (Nat.le_refl _) _⟩
     | true =>
      by_cases hx : x > Q
      ·
       have HN : Hid (numP l = (tk0, 0, 51)) := HHP.out.trans (if_pos (Or.inr hx))
       clear HHP
       go_wp2_with fail
       refine hu.mono ?_
       rintro e w2 ⟨rfl, hb⟩
       obtain ⟨y0, y1, y2, y3, f0, f1, f2, f3⟩ := tokBox hb
       have hB : Below w.heap.size w w2 := ((Below.refl _ _).alloc (Nat.le_refl _) _).trans (hb.mono (by simp))
       clear hu hb
       go_wp2_with fail
       refine (hw w2).mono ?_
       rintro e w' ⟨rfl, rfl⟩
       clear hw
       go_wp2
       refine bodyPost_ret (v := .tuple #[.agg #[.int .i64 0, .string ⟨#[]⟩, .int .i64 0, .int .i64 0], .int .i64 0, .int .i64 51]) (by simp [results, Tryz.results37, go_sem, y0, y1, y2, y3]) rfl ⟨by rw [HN.out]; rfl, (((hB.setCell (p := ⟨w.heap.size, 0, none⟩) (Nat.le_refl _) _).setCell (p := ⟨w.heap.size, 1, none⟩) (Nat.le_refl _) _).setCell (p := ⟨w.heap.size, 2, none⟩) (Nat.le_refl _) _).setCell (p := ⟨w.heap.size, 3, none⟩) (Nat.le_refl _) _⟩
      ·
       have HN : Hid (numP l = ((7, [], x * z), ((ldN dgB l : Int) + k), 0)) := HHP.out.trans (if_neg (by simp; omega))
       have hm1 : x * z ≤ 1099511627776 := HQ.out (by omega)
       have hm2 : 0 ≤ x * z := Int.mul_nonneg hx0 (by omega)
       have hw64 : wrap64 (x * z) = x * z := by unfold wrap64; omega
       clear HHP
       go_wp2_with fail
       refine hu.mono ?_
       rintro e w2 ⟨rfl, hb⟩
       obtain ⟨y0, y1, y2, y3, f0, f1, f2, f3⟩ := tokBox hb
       have hB : Below w.heap.size w w2 := ((Below.refl _ _).alloc (Nat.le_refl _) _).trans (hb.mono (by simp))
       clear hu hb
       go_wp2_with fail
       refine (hw w2).mono ?_
       rintro e w' ⟨rfl, rfl⟩
       clear hw
       go_wp2
       refine bodyPost_ret (v := .tuple #[.agg #[.int .i64 7, .string ⟨#[]⟩, .int .i64 (x * z), .int .i64 0], .int .i64 ((ldN dgB l : Int) + k), .int .i64 0]) (by simp [results, Tryz.results37, go_sem, y0, y1, y2, y3]) rfl ⟨by rw [HN.out]; rfl, (((hB.setCell (p := ⟨w.heap.size, 0, none⟩) (Nat.le_refl _) _).setCell (p := ⟨w.heap.size, 1, none⟩) (Nat.le_refl _) _).setCell (p := ⟨w.heap.size, 2, none⟩) (Nat.le_refl _) _).setCell (p := ⟨w.heap.size, 3, none⟩) (Nat.le_refl _) _⟩
   ·
    have huP : unP (rst l) = (0, 0) := by unfold unP; exact if_neg hk
    rw [huP] at hu
    clear huP
    go_wp2_with fail
    refine hu.mono ?_
    rintro e w2 ⟨rfl, hb⟩
    obtain ⟨y0, y1, y2, y3, f0, f1, f2, f3⟩ := tokBox hb
    have hB : Below w.heap.size w w2 := ((Below.refl _ _).alloc (Nat.le_refl _) _).trans (hb.mono (by simp))
    clear hu hb
    go_upto_region 14 with (fail)
    go_cut [89] (fun c wx => c = .bool (frB l) ∧ wx = w2)
    case first =>
     clear HP HD HI hw
     rcases Nat.lt_or_ge (ldN dgB l + 1) l.length with hn2 | hn2
     ·
      have hi : ldN dgB l < (bsA l).size := by rw [hz]; omega
      have e0 : ((bsA l)[ldN dgB l]'hi) = l[ldN dgB l] := rfl
      by_cases hc : l[ldN dgB l] = 46
      ·
       have hcb : (((l[ldN dgB l]).toNat : Int) == 46) = true := by rw [hc]; rfl
       have hi1 : ldN dgB l + 1 < (bsA l).size := by rw [hz]; exact hn2
       have e1 : ((bsA l)[ldN dgB l + 1]'hi1) = l[ldN dgB l + 1] := rfl
       have hg := rdigit_any (l[ldN dgB l + 1]).toNat w2
       have HF : Hid (dgB (l[ldN dgB l + 1]).toNat = frB l) := by
        show _ = _
        cases hd : dgB (l[ldN dgB l + 1]).toNat with
        | true => unfold frB; rw [decide_eq_true (frc_yes hn2 hc hd).2]
        | false => unfold frB; rw [frc_no3 hn2 hd]; rfl
       clear hc
       generalize l[ldN dgB l] = c at e0 hcb
       generalize l[ldN dgB l + 1] = d at e1 hg HF
       go_wp2_with fail
       refine hg.mono ?_
       rintro e w' ⟨rfl, rfl⟩
       clear hg
       go_wp2
       go_meet
       exact ⟨congrArg Value.bool HF.out, rfl⟩
      ·
       have hcb : (((l[ldN dgB l]).toNat : Int) == 46) = false := by rw [beq_eq_false_iff_ne]; intro h; exact hc (UInt8.toNat_inj.1 (Int.ofNat.inj h))
       have HF : Hid (false = frB l) := by show _ = _; unfold frB; rw [frc_no2 (by omega) hc]; rfl
       clear hc
       generalize l[ldN dgB l] = c at e0 hcb
       go_wp2
       go_meet
       exact ⟨congrArg Value.bool HF.out, rfl⟩
     ·
      have HF : Hid (false = frB l) := by show _ = _; unfold frB; rw [frc_no1 hn2]; rfl
      go_wp2
      go_meet
      exact ⟨congrArg Value.bool HF.out, rfl⟩
    case rest =>
     obtain ⟨rfl, rfl⟩ := hcut
     cases hfb : frB l with
     | false =>
      have hf : frcL (rst l) = [] := by unfold frB at hfb; simpa using hfb
      clear hfb
      have HI2 : Hid _ := HI.out hk hf
      clear HP HD HI
      go_upto_region 28 with (fail)
      go_cut [7, 159] (fun b c wx => b = .bool (badN l) ∧ c = .bool (b3 l) ∧ wx = wc)
      case first =>
       cases hb : badN l with
       | true =>
        have Hbb : Hid (badN l = true) := hb
        have HB3 : Hid (true = b3 l) := by show _ = _; unfold b3; rw [hb]; rfl
        clear hb
        go_wp2
        go_meet
        exact ⟨(by first | rfl | exact congrArg Value.bool Hbb.out.symm), congrArg Value.bool HB3.out, rfl⟩
       | false =>
        have Hbb : Hid (badN l = false) := hb
        have HB3 : Hid (decide (0 < ldN ptB (l.drop (ldN dgB l))) = b3 l) := by show _ = _; unfold b3 rst; rw [hb, Bool.false_or]
        clear hb
        rcases Nat.lt_or_ge (ldN dgB l) l.length with hlt | hge
        ·
         have hi : ldN dgB l < (bsA l).size := by rw [hz]; exact hlt
         have e0 : ((bsA l)[ldN dgB l]'hi) = l[ldN dgB l] := rfl
         have hd : dgB (l[ldN dgB l]).toNat = false := ld_not0 hlt
         have HB4 : Hid _ := (lt_at hlt hd).symm.trans HB3.out
         have hg := rletter_any (l[ldN dgB l]).toNat wc
         clear hd HB3
         generalize l[ldN dgB l] = c at e0 hg HB4
         go_wp2_with fail
         refine hg.mono ?_
         rintro e w' ⟨rfl, rfl⟩
         clear hg
         go_wp2
         go_meet
         exact ⟨(by first | rfl | exact congrArg Value.bool Hbb.out.symm), congrArg Value.bool HB4.out, rfl⟩
        ·
         have HB4 : Hid _ := (lt_end hge).symm.trans HB3.out
         go_wp2
         go_meet
         exact ⟨(by first | rfl | exact congrArg Value.bool Hbb.out.symm), congrArg Value.bool HB4.out, rfl⟩
      case rest =>
       obtain ⟨rfl, rfl, rfl⟩ := hcut
       have HI3 : Hid (numP l = if b3 l = true then (tk0, 0, 50) else if (whR (dgs l)).2 = false then (tk0, 0, 51) else ((3, [], (whR (dgs l)).1), (ldN dgB l : Int), 0)) := HI2.out
       clear HI2
       generalize whR (dgs l) = W at HI3 hw
       obtain ⟨x, ok⟩ := W
       dsimp only at hw HI3
       generalize b3 l = bad at HI3 ⊢
       cases bad with
       | true =>
        have HN : Hid (numP l = (tk0, 0, 50)) := HI3.out.trans (if_pos rfl)
        clear HI3
        go_wp2
        refine bodyPost_ret (v := .tuple #[.agg #[.int .i64 0, .string ⟨#[]⟩, .int .i64 0, .int .i64 0], .int .i64 0, .int .i64 50]) (by simp [results, Tryz.results37, go_sem, y0, y1, y2, y3]) rfl ⟨by rw [HN.out]; rfl, (((hB.setCell (p := ⟨w.heap.size, 0, none⟩) (Nat.le_refl _) _).setCell (p := ⟨w.heap.size, 1, none⟩) (Nat.le_refl _) _).setCell (p := ⟨w.heap.size, 2, none⟩) (Nat.le_refl _) _).setCell (p := ⟨w.heap.size, 3, none⟩) (Nat.le_refl _) _⟩
       | false =>
        have HI4 : Hid _ := HI3.out.trans (if_neg (by simp))
        clear HI3
        cases ok with
        | false =>
         have HN : Hid (numP l = (tk0, 0, 51)) := HI4.out.trans (if_pos rfl)
         clear HI4
         go_wp2_with fail
         refine (hw wc).mono ?_
         rintro e w' ⟨rfl, rfl⟩
         clear hw
         go_wp2
         refine bodyPost_ret (v := .tuple #[.agg #[.int .i64 0, .string ⟨#[]⟩, .int .i64 0, .int .i64 0], .int .i64 0, .int .i64 51]) (by simp [results, Tryz.results37, go_sem, y0, y1, y2, y3]) rfl ⟨by rw [HN.out]; rfl, (((hB.setCell (p := ⟨w.heap.size, 0, none⟩) (Nat.le_refl _) _).setCell (p := ⟨w.heap.size, 1, none⟩) (Nat.le_refl _) _).setCell (p := ⟨w.heap.size, 2, none⟩) (Nat.le_refl _) _).setCell (p := ⟨w.heap.size, 3, none⟩) (Nat.le_refl _) _⟩
        | true =>
         have HN : Hid (numP l = ((3, [], x), (ldN dgB l : Int), 0)) := HI4.out.trans (if_neg (by simp))
         clear HI4
         go_wp2_with fail
         refine (hw wc).mono ?_
         rintro e w' ⟨rfl, rfl⟩
         clear hw
         go_wp2
         refine bodyPost_ret (v := .tuple #[.agg #[.int .i64 3, .string ⟨#[]⟩, .int .i64 x, .int .i64 0], .int .i64 (ldN dgB l : Int), .int .i64 0]) (by simp [results, Tryz.results37, go_sem, y0, y1, y2, y3]) rfl ⟨by rw [HN.out]; rfl, (((hB.setCell (p := ⟨w.heap.size, 0, none⟩) (Nat.le_refl _) _).setCell (p := ⟨w.heap.size, 1, none⟩) (Nat.le_refl _) _).setCell (p := ⟨w.heap.size, 2, none⟩) (Nat.le_refl _) _).setCell (p := ⟨w.heap.size, 3, none⟩) (Nat.le_refl _) _⟩
     | true =>
      have hf : frcL (rst l) ≠ [] := by unfold frB at hfb; simpa using hfb
      clear hfb
      have HD2 : Hid _ := HD.out hk hf
      obtain ⟨hn2, hfe⟩ := frc_eq hf
      clear HP HD HI hk hf hxr
      have hq1 : ldN dgB (l.drop (ldN dgB l + 1)) ≤ l.length - (ldN dgB l + 1) := by have := ldN_le dgB (l.drop (ldN dgB l + 1)); rwa [List.length_drop] at this
      have hxf : (bsA l).extract (ldN dgB l + 1) (ldN dgB l + 1 + ldN dgB (l.drop (ldN dgB l + 1))) = bsA (frcL (rst l)) := by rw [ext_mid, hfe]; congr 2; omega
      have hfl : (frcL (rst l)).length = ldN dgB (l.drop (ldN dgB l + 1)) := by rw [hfe, List.length_take, List.length_drop]; omega
      have hzf : (bsA (frcL (rst l))).size = ldN dgB (l.drop (ldN dgB l + 1)) := by rw [bsA_size, hfl]
      have HNd : Hid (∀ h : ldN dgB l + 1 + ldN dgB (l.drop (ldN dgB l + 1)) < l.length, dgB (l[ldN dgB l + 1 + ldN dgB (l.drop (ldN dgB l + 1))]).toNat = false) := fun h => ld_not h
      have hw4 := fun w => whole_r (dgs l ++ (frcL (rst l) ++ Lib.repeatL [48] (4 - (frcL (rst l)).length))) w (dgs_two (dgs_Dgs l) (dgs_two frc_dgs (rep_dgs _))) (by rw [List.length_append, List.length_append, Lib.repeatL_length, dgs_len, hfl]; simp; omega)
      clear hfe hw
      go_upto_block 2 with (fail)
      go_cut [12] (fun y wx => y = .int .i64 ((ldN dgB l + 1 + ldN dgB (l.drop (ldN dgB l + 1)) : Nat) : Int) ∧ wx = wc)
      case first =>
       clear HD2 hw4 hxf hfl hzf HNd
       go_wp2_with fail
       go_loopw [12] (fun y wr => ∃ m : Nat, ldN dgB l + 1 ≤ m ∧ m ≤ l.length ∧ y = .int .i64 m ∧ m + ldN dgB (l.drop m) = ldN dgB l + 1 + ldN dgB (l.drop (ldN dgB l + 1)) ∧ wr = wc) (fun y _ => l.length - (intOf y).toNat)
       case atStart => exact ⟨ldN dgB l + 1, Nat.le_refl _, by omega, rfl, rfl, rfl⟩
       case round =>
        obtain ⟨m, hm0, hm, rfl, hH, rfl⟩ := hrel
        have HH : Hid (m + ldN dgB (l.drop m) = ldN dgB l + 1 + ldN dgB (l.drop (ldN dgB l + 1))) := hH
        clear hH
        rcases Nat.lt_or_ge m l.length with hlt | hge
        ·
         have hi : m < (bsA l).size := by rw [hz]; exact hlt
         have e0 : ((bsA l)[m]'hi) = l[m] := rfl
         have hg := rdigit_any (l[m]).toNat wr
         cases hd : dgB (l[m]).toNat with
         | true =>
          have HN : Hid (m + 1 + ldN dgB (l.drop (m + 1)) = ldN dgB l + 1 + ldN dgB (l.drop (ldN dgB l + 1))) := (ldN_drop hlt hd).symm.trans HH.out
          rw [hd] at hg
          clear hd HH
          generalize l[m] = c at e0 hg
          go_wp2_with fail
          refine hg.mono ?_
          rintro e w' ⟨rfl, rfl⟩
          go_wp2
          go_roundw
          case rel => exact ⟨m + 1, by omega, hlt, by go_num, HN.out, trivial⟩
          case measure => simp [intOf]; omega
         | false =>
          have HN : Hid (m = ldN dgB l + 1 + ldN dgB (l.drop (ldN dgB l + 1))) := by have h1 := HH.out; rw [ldN_stop hlt hd] at h1; exact h1
          rw [hd] at hg
          clear hd HH
          generalize l[m] = c at e0 hg
          go_wp2_with fail
          refine hg.mono ?_
          rintro e w' ⟨rfl, rfl⟩
          go_wp2
          go_meet
          exact ⟨congrArg (fun k : Nat => Value.int .i64 (k : Int)) HN.out, rfl⟩
        ·
         have HN : Hid (m = ldN dgB l + 1 + ldN dgB (l.drop (ldN dgB l + 1))) := by have h1 := HH.out; rw [List.drop_eq_nil_of_le hge] at h1; exact h1
         go_wp2
         go_meet
         exact ⟨congrArg (fun k : Nat => Value.int .i64 (k : Int)) HN.out, rfl⟩
      case rest =>
       obtain ⟨rfl, rfl⟩ := hcut
       have HHQ : Hid (∀ P : Nat → Prop, P (frcL (rst l)).length → P (ldN dgB (l.drop (ldN dgB l + 1)))) := fun P h => hfl ▸ h
       generalize ldN dgB (l.drop (ldN dgB l + 1)) = q at hq1 hxf hfl hzf HNd ⊢
       go_upto_region 19 with (fail)
       rw [hxf]
       go_cut [7] (fun b wx => b = .bool (b2 l) ∧ wx = wc)
       case first =>
        clear hw4 HD2
        cases hb : badN l with
        | true =>
         have HB3 : Hid (true = b2 l) := by show _ = _; unfold b2; rw [hb]; rfl
         clear hb
         go_wp2
         go_meet
         exact ⟨congrArg Value.bool HB3.out, rfl⟩
        | false =>
         have HB3 : Hid ((decide (4 < q) || decide (0 < ldN ptB (l.drop (ldN dgB l + 1 + q)))) = b2 l) := by show _ = _; unfold b2; rw [hb, Bool.false_or, hfl]
         clear hb
         by_cases h4 : 4 < q
         ·
          have HB4 : Hid (true = b2 l) := by show _ = _; rw [← HB3.out, decide_eq_true h4]; rfl
          clear HB3
          go_wp2
          go_meet
          exact ⟨congrArg Value.bool HB4.out, rfl⟩
         ·
          rw [decide_eq_false h4, Bool.false_or] at HB3
          have H4d : Hid (decide ((4 : Int) < (q : Int)) = false) := decide_eq_false (by omega)
          rcases Nat.lt_or_ge (ldN dgB l + 1 + q) l.length with hlt | hge
          ·
           have hi : ldN dgB l + 1 + q < (bsA l).size := by rw [hz]; exact hlt
           have e0 : ((bsA l)[ldN dgB l + 1 + q]'hi) = l[ldN dgB l + 1 + q] := rfl
           have hd := HNd.out hlt
           have HB4 : Hid _ := (lt_at hlt hd).symm.trans HB3.out
           have hg := rletter_any (l[ldN dgB l + 1 + q]).toNat wc
           clear hd HB3 HNd
           generalize l[ldN dgB l + 1 + q] = c at e0 hg HB4
           go_wp2_with fail
           refine hg.mono ?_
           rintro e w' ⟨rfl, rfl⟩
           clear hg
           go_wp2
           go_meet
           exact ⟨congrArg Value.bool (by first | (rw [H4d.out, Bool.false_or]; exact HB4.out) | (rw [H4d.out]; exact HB4.out)), rfl⟩
          ·
           have HB4 : Hid _ := (lt_end hge).symm.trans HB3.out
           clear HB3 HNd
           go_wp2
           go_meet
           exact ⟨congrArg Value.bool (by first | (rw [H4d.out, Bool.false_or]; exact HB4.out) | (rw [H4d.out]; exact HB4.out)), rfl⟩
       case rest =>
        obtain ⟨rfl, rfl⟩ := hcut
        clear HNd
        go_upto_block 4 with (fail)
        go_cut [13] (fun y wx => y = .string (bsA (frcL (rst l) ++ Lib.repeatL [48] (4 - q))) ∧ wx = wc)
        case first =>
         clear hw4 HD2
         go_wp2_with fail
         go_loopw [13] (fun y wr => ∃ j : Nat, j ≤ 4 - q ∧ y = .string (bsA (frcL (rst l) ++ Lib.repeatL [48] j)) ∧ wr = wc) (fun y _ => 4 - slen y)
         case atStart => exact ⟨0, Nat.zero_le _, by simp [Lib.repeatL], rfl⟩
         case round =>
          obtain ⟨j, hj, rfl, rfl⟩ := hrel
          have hzj : (bsA (frcL (rst l) ++ Lib.repeatL [48] j)).size = q + j := by rw [bsA_size, List.length_append, Lib.repeatL_length, hfl]; simp
          rcases Nat.lt_or_ge (q + j) 4 with hlt | hge
          ·
           have HR : Hid (bsA (frcL (rst l) ++ Lib.repeatL [48] j) ++ ⟨#[48]⟩ = bsA (frcL (rst l) ++ Lib.repeatL [48] (j + 1))) := by
            show _ = _
            rw [Lib.repeatL_add, Lib.repeatL_one, ← List.append_assoc]
            exact app_bsA _ [48]
           have HZ : Hid ((bsA (frcL (rst l) ++ Lib.repeatL [48] (j + 1))).size = q + j + 1) := by show _ = _; rw [bsA_size, List.length_append, Lib.repeatL_length, hfl]; simp; omega
           generalize bsA (frcL (rst l) ++ Lib.repeatL [48] j) = F at hzj HR
           go_wp2
           refine ⟨⟨j + 1, by omega, congrArg Value.string HR.out, trivial⟩, ?_⟩
           have e1 := HR.out
           have e2 := HZ.out
           rw [← e1] at e2
           simp only [slen]
           omega
          ·
           obtain rfl : j = 4 - q := by omega
           go_wp2
           go_meet
           exact ⟨rfl, rfl⟩
        case rest =>
         obtain ⟨rfl, rfl⟩ := hcut
         have HD3 : Hid (numP l = if b2 l = true then (tk0, 0, 50) else if (whR (dgs l ++ (frcL (rst l) ++ Lib.repeatL [48] (4 - q)))).2 = false then (tk0, 0, 51) else ((4, [], (whR (dgs l ++ (frcL (rst l) ++ Lib.repeatL [48] (4 - q)))).1), ((ldN dgB l : Int) + 1 + q), 0)) := by have h := HD2.out; rw [hfl] at h; show _ = _; unfold b2; rw [hfl]; exact h
         rw [hfl] at hw4
         have hzF : (bsA (frcL (rst l) ++ Lib.repeatL [48] (4 - q))).size ≤ q + 4 := by rw [bsA_size, List.length_append, Lib.repeatL_length, hfl]; simp <;> omega
         have happ := app_bsA (dgs l) (frcL (rst l) ++ Lib.repeatL [48] (4 - q))
         clear HD2 hxf hfl hzf hxd HHQ
         generalize frcL (rst l) ++ Lib.repeatL [48] (4 - q) = F at happ hzF hw4 HD3 ⊢
         generalize whR (dgs l ++ F) = W at hw4 HD3
         generalize bsA (dgs l ++ F) = DF at happ hw4
         obtain ⟨x, ok⟩ := W
         dsimp only at hw4 HD3
         generalize b2 l = bad at HD3 ⊢
         cases bad with
         | true =>
          have HN : Hid (numP l = (tk0, 0, 50)) := HD3.out.trans (if_pos rfl)
          clear HD3 hw4
          go_wp2
          refine bodyPost_ret (v := .tuple #[.agg #[.int .i64 0, .string ⟨#[]⟩, .int .i64 0, .int .i64 0], .int .i64 0, .int .i64 50]) (by simp [results, Tryz.results37, go_sem, y0, y1, y2, y3]) rfl ⟨by rw [HN.out]; rfl, (((hB.setCell (p := ⟨w.heap.size, 0, none⟩) (Nat.le_refl _) _).setCell (p := ⟨w.heap.size, 1, none⟩) (Nat.le_refl _) _).setCell (p := ⟨w.heap.size, 2, none⟩) (Nat.le_refl _) _).setCell (p := ⟨w.heap.size, 3, none⟩) (Nat.le_refl _) _⟩
         | false =>
          have HD4 : Hid _ := HD3.out.trans (if_neg (by simp))
          clear HD3
          cases ok with
          | false =>
           have HN : Hid (numP l = (tk0, 0, 51)) := HD4.out.trans (if_pos rfl)
           clear HD4
           go_wp2_with fail
           refine (hw4 wc).mono ?_
           rintro e w' ⟨rfl, rfl⟩
           clear hw4
           go_wp2
           refine bodyPost_ret (v := .tuple #[.agg #[.int .i64 0, .string ⟨#[]⟩, .int .i64 0, .int .i64 0], .int .i64 0, .int .i64 51]) (by simp [results, Tryz.results37, go_sem, y0, y1, y2, y3]) rfl ⟨by rw [HN.out]; rfl, (((hB.setCell (p := ⟨w.heap.size, 0, none⟩) (Nat.le_refl _) _).setCell (p := ⟨w.heap.size, 1, none⟩) (Nat.le_refl _) _).setCell (p := ⟨w.heap.size, 2, none⟩) (Nat.le_refl _) _).setCell (p := ⟨w.heap.size, 3, none⟩) (Nat.le_refl _) _⟩
          | true =>
           have HN : Hid (numP l = ((4, [], x), ((ldN dgB l : Int) + 1 + q), 0)) := HD4.out.trans (if_neg (by simp))
           clear HD4
           go_wp2_with fail
           refine (hw4 wc).mono ?_
           rintro e w' ⟨rfl, rfl⟩
           clear hw4
           go_wp2
           refine bodyPost_ret (v := .tuple #[.agg #[.int .i64 4, .string ⟨#[]⟩, .int .i64 x, .int .i64 0], .int .i64 ((ldN dgB l : Int) + 1 + q), .int .i64 0]) (by simp [results, Tryz.results37, go_sem, y0, y1, y2, y3]) rfl ⟨by rw [HN.out]; rfl, (((hB.setCell (p := ⟨w.heap.size, 0, none⟩) (Nat.le_refl _) _).setCell (p := ⟨w.heap.size, 1, none⟩) (Nat.le_refl _) _).setCell (p := ⟨w.heap.size, 2, none⟩) (Nat.le_refl _) _).setCell (p := ⟨w.heap.size, 3, none⟩) (Nat.le_refl _) _⟩
end Go.Proofs.YtgdndahhledikaaGreatDoor
