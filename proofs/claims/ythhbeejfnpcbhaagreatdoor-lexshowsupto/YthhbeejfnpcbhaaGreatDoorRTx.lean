/- The document's answer: texts in quotes (text). -/
import Derived.Test.YthhbeejfnpcbhaaGreatDoorRCl
import Derived.Test.YthhbeejfnpcbhaaGreatDoorRunes
namespace Go.Proofs.YthhbeejfnpcbhaaGreatDoor
open Go.ChangeShapes Go.WideShapes Go.ChangeAt Go.RowKit

def quA (acc : List UInt8) (i : Nat) (l : List UInt8) : Option (List UInt8 × Nat) := (quF (l.drop i)).map fun p => (acc ++ p.1, i + p.2)
theorem quA_end {acc l : List UInt8} {i : Nat} (h : l.length ≤ i) : quA acc i l = none := by
  unfold quA; rw [List.drop_eq_nil_of_le h]; rfl
theorem quA_other {acc l : List UInt8} {i : Nat} (h : i < l.length) (hc : l[i] ≠ 39) : quA acc i l = quA (acc ++ [l[i]]) (i + 1) l := by
  unfold quA
  rw [List.drop_eq_getElem_cons h]
  cases hd : l.drop (i + 1) with
  | nil =>
    have e : quF [l[i]] = none := by rw [quF, if_neg hc]
    rw [e]; rfl
  | cons d r =>
    rw [quF, if_neg hc]
    cases quF (d :: r) with
    | none => rfl
    | some p => simp; omega
theorem quA_last {acc l : List UInt8} {i : Nat} (h : i < l.length) (hc : l[i] = 39) (he : i + 1 = l.length) : quA acc i l = some (acc, i + 1) := by
  unfold quA
  rw [List.drop_eq_getElem_cons h, List.drop_eq_nil_of_le (by omega), quF, if_pos hc]
  simp
theorem quA_quote {acc l : List UInt8} {i : Nat} (h : i < l.length) (hc : l[i] = 39) (h1 : i + 1 < l.length) (hd : l[i + 1] ≠ 39) : quA acc i l = some (acc, i + 1) := by
  unfold quA
  rw [List.drop_eq_getElem_cons h, List.drop_eq_getElem_cons h1, quF, if_pos hc, if_neg hd]
  simp
theorem quA_two {acc l : List UInt8} {i : Nat} (h : i < l.length) (hc : l[i] = 39) (h1 : i + 1 < l.length) (hd : l[i + 1] = 39) : quA acc i l = quA (acc ++ [39]) (i + 2) l := by
  unfold quA
  rw [List.drop_eq_getElem_cons h, List.drop_eq_getElem_cons h1, quF, if_pos hc, if_pos hd]
  cases quF (l.drop (i + 1 + 1)) with
  | none => rfl
  | some p => simp; omega
theorem txtP_quA (l : List UInt8) : txtP l = match quA [] 1 l with
    | none => (tk0, 0, 52)
    | some (x, n) => if 1024 < x.length ∨ Lib.validD x = false then (tk0, 0, 52) else ((5, x, 0), (n : Int), 0) := by
  unfold txtP quA
  rw [List.drop_one]
  cases quF l.tail with
  | none => rfl
  | some p =>
    simp only [Option.map_some, List.nil_append]
    split
    · rfl
    · simp; omega
set_option maxRecDepth 20000 in
set_option maxHeartbeats 4000000 in
theorem rtext_any (l : List UInt8) (w : World) (hne : 1 ≤ l.length) (hl : l.length ≤ 104857600) : Calls Tryz.prog 39 #[.string (bsA l)] w fun e w' => e = .returned (.tuple #[tkV (txtP l).1 0, .int .i64 (txtP l).2.1, .int .i64 (txtP l).2.2]) ∧ Below w.heap.size w w' := by
  have hz := bsA_size l
  have HT : Hid (∀ q, quA [] 1 l = q → txtP l = _) := fun q hq => by rw [txtP_quA l, hq]
  go_enter Tryz.func39, Tryz.ntmps39
  go_wp2
  go_loopw [5, 6] (fun x y wr => ∃ (acc : List UInt8) (m : Nat), m ≤ l.length ∧ acc.length < m ∧ x = .string (bsA acc) ∧ y = .int .i64 m ∧ quA acc m l = quA [] 1 l ∧ wr = w.alloc (.cells #[.int .i64 0, .string ⟨#[]⟩, .int .i64 0, .int .i64 0] 37)) (fun _ y _ => l.length - (intOf y).toNat)
  case atStart => exact ⟨[], 1, hne, Nat.zero_lt_one, rfl, rfl, rfl, rfl⟩
  case round =>
    obtain ⟨acc, m, hm, hal, rfl, rfl, hH, rfl⟩ := hrel
    have HH : Hid (quA acc m l = quA [] 1 l) := hH
    clear hH
    have hza := bsA_size acc
    rcases Nat.lt_or_ge m l.length with hlt | hge
    · have hi : m < (bsA l).size := by rw [hz]; exact hlt
      have e0 : ((bsA l)[m]'hi) = l[m] := rfl
      by_cases hc : l[m] = 39
      · have hcb : (((l[m]).toNat : Int) == 39) = true := by rw [hc]; rfl
        rcases Nat.lt_or_ge (m + 1) l.length with h1 | h1
        · have hi1 : m + 1 < (bsA l).size := by rw [hz]; exact h1
          have e1 : ((bsA l)[m + 1]'hi1) = l[m + 1] := rfl
          by_cases hd : l[m + 1] = 39
          · have hdb : (((l[m + 1]).toNat : Int) == 39) = true := by rw [hd]; rfl
            have HN : Hid (quA (acc ++ [39]) (m + 2) l = quA [] 1 l) := (quA_two hlt hc h1 hd).symm.trans HH.out
            clear hc hd
            generalize l[m] = c at e0 hcb
            generalize l[m + 1] = d at e1 hdb
            go_wp2
            refine ⟨⟨acc ++ [39], m + 2, h1, by simp; omega, congrArg Value.string (app_bsA acc [39]), by go_num, HN.out, trivial⟩, ?_⟩
            simp [intOf]; omega
          · have hdb : (((l[m + 1]).toNat : Int) == 39) = false := by rw [beq_eq_false_iff_ne]; intro h; exact hd (UInt8.toNat_inj.1 (Int.ofNat.inj h))
            have HN : Hid _ := HT.out _ (HH.out.symm.trans (quA_quote hlt hc h1 hd))
            clear hc hd
            generalize l[m] = c at e0 hcb
            generalize l[m + 1] = d at e1 hdb
            by_cases hlen : 1024 < acc.length
            · have HN : Hid _ := HN.out.trans (if_pos (Or.inl hlen))
              go_wp2
              refine bodyPost_ret (v := .tuple #[.agg #[.int .i64 0, .string ⟨#[]⟩, .int .i64 0, .int .i64 0], .int .i64 0, .int .i64 52]) (by simp [results, Tryz.results39, go_sem]) rfl ⟨by rw [HN.out]; rfl, Bel.out (by repeat (first | exact Bel.refl _ | assumption | refine Bel.drew ?_ | refine Bel.drewN ?_ _ | refine Bel.alloc ?_ _ | refine Bel.setCell ?_ (by simp <;> omega) _ | refine Bel.step ?_ (by assumption)))⟩
            · have hr := runes_any (bsA acc) (w.alloc (.cells #[.int .i64 0, .string ⟨#[]⟩, .int .i64 0, .int .i64 0] 37)) (by rw [hza]; omega)
              rw [bsA_list] at hr
              cases hv : Lib.validD acc with
              | false =>
                rw [hv] at hr
                have HN : Hid _ := HN.out.trans (if_pos (Or.inr hv))
                go_wp2_with fail
                refine hr.mono ?_
                rintro e w' ⟨rfl, rfl⟩
                go_wp2
                refine bodyPost_ret (v := .tuple #[.agg #[.int .i64 0, .string ⟨#[]⟩, .int .i64 0, .int .i64 0], .int .i64 0, .int .i64 52]) (by simp [results, Tryz.results39, go_sem]) rfl ⟨by rw [HN.out]; rfl, Bel.out (by repeat (first | exact Bel.refl _ | assumption | refine Bel.drew ?_ | refine Bel.drewN ?_ _ | refine Bel.alloc ?_ _ | refine Bel.setCell ?_ (by simp <;> omega) _ | refine Bel.step ?_ (by assumption)))⟩
              | true =>
                rw [hv] at hr
                have HN : Hid _ := HN.out.trans (if_neg (by rw [hv]; simp; omega))
                go_wp2_with fail
                refine hr.mono ?_
                rintro e w' ⟨rfl, rfl⟩
                go_wp2
                refine bodyPost_ret (v := .tuple #[.agg #[.int .i64 5, .string (bsA acc), .int .i64 0, .int .i64 0], .int .i64 ((m : Int) + 1), .int .i64 0]) (by simp [results, Tryz.results39, go_sem]) rfl ⟨by rw [HN.out]; rfl, Bel.out (by repeat (first | exact Bel.refl _ | assumption | refine Bel.drew ?_ | refine Bel.drewN ?_ _ | refine Bel.alloc ?_ _ | refine Bel.setCell ?_ (by simp <;> omega) _ | refine Bel.step ?_ (by assumption)))⟩
        · have HN : Hid _ := HT.out _ (HH.out.symm.trans (quA_last hlt hc (by omega)))
          clear hc
          generalize l[m] = c at e0 hcb
          by_cases hlen : 1024 < acc.length
          · have HN : Hid _ := HN.out.trans (if_pos (Or.inl hlen))
            go_wp2
            refine bodyPost_ret (v := .tuple #[.agg #[.int .i64 0, .string ⟨#[]⟩, .int .i64 0, .int .i64 0], .int .i64 0, .int .i64 52]) (by simp [results, Tryz.results39, go_sem]) rfl ⟨by rw [HN.out]; rfl, Bel.out (by repeat (first | exact Bel.refl _ | assumption | refine Bel.drew ?_ | refine Bel.drewN ?_ _ | refine Bel.alloc ?_ _ | refine Bel.setCell ?_ (by simp <;> omega) _ | refine Bel.step ?_ (by assumption)))⟩
          · have hr := runes_any (bsA acc) (w.alloc (.cells #[.int .i64 0, .string ⟨#[]⟩, .int .i64 0, .int .i64 0] 37)) (by rw [hza]; omega)
            rw [bsA_list] at hr
            cases hv : Lib.validD acc with
            | false =>
              rw [hv] at hr
              have HN : Hid _ := HN.out.trans (if_pos (Or.inr hv))
              go_wp2_with fail
              refine hr.mono ?_
              rintro e w' ⟨rfl, rfl⟩
              go_wp2
              refine bodyPost_ret (v := .tuple #[.agg #[.int .i64 0, .string ⟨#[]⟩, .int .i64 0, .int .i64 0], .int .i64 0, .int .i64 52]) (by simp [results, Tryz.results39, go_sem]) rfl ⟨by rw [HN.out]; rfl, Bel.out (by repeat (first | exact Bel.refl _ | assumption | refine Bel.drew ?_ | refine Bel.drewN ?_ _ | refine Bel.alloc ?_ _ | refine Bel.setCell ?_ (by simp <;> omega) _ | refine Bel.step ?_ (by assumption)))⟩
            | true =>
              rw [hv] at hr
              have HN : Hid _ := HN.out.trans (if_neg (by rw [hv]; simp; omega))
              go_wp2_with fail
              refine hr.mono ?_
              rintro e w' ⟨rfl, rfl⟩
              go_wp2
              refine bodyPost_ret (v := .tuple #[.agg #[.int .i64 5, .string (bsA acc), .int .i64 0, .int .i64 0], .int .i64 ((m : Int) + 1), .int .i64 0]) (by simp [results, Tryz.results39, go_sem]) rfl ⟨by rw [HN.out]; rfl, Bel.out (by repeat (first | exact Bel.refl _ | assumption | refine Bel.drew ?_ | refine Bel.drewN ?_ _ | refine Bel.alloc ?_ _ | refine Bel.setCell ?_ (by simp <;> omega) _ | refine Bel.step ?_ (by assumption)))⟩
      · have hcb : (((l[m]).toNat : Int) == 39) = false := by rw [beq_eq_false_iff_ne]; intro h; exact hc (UInt8.toNat_inj.1 (Int.ofNat.inj h))
        have HN : Hid (quA (acc ++ [l[m]]) (m + 1) l = quA [] 1 l) := (quA_other hlt hc).symm.trans HH.out
        have hx : (bsA l).extract m (m + 1) = bsA [l[m]] := by rw [ext_mid, List.drop_eq_getElem_cons hlt, show m + 1 - m = 1 by omega]; rfl
        clear hc
        have hzc : (bsA [l[m]]).size = 1 := rfl
        generalize l[m] = c at e0 hcb hx HN hzc
        go_wp2
        refine ⟨⟨acc ++ [c], m + 1, hlt, by simp; omega, congrArg Value.string (app_bsA acc [c]), by go_num, HN.out, trivial⟩, ?_⟩
        simp [intOf]; omega
    · have HN : Hid _ := HT.out _ (HH.out.symm.trans (quA_end hge))
      go_wp2
      refine bodyPost_ret (v := .tuple #[.agg #[.int .i64 0, .string ⟨#[]⟩, .int .i64 0, .int .i64 0], .int .i64 0, .int .i64 52]) (by simp [results, Tryz.results39, go_sem]) rfl ⟨by rw [HN.out]; rfl, Bel.out (by repeat (first | exact Bel.refl _ | assumption | refine Bel.drew ?_ | refine Bel.drewN ?_ _ | refine Bel.alloc ?_ _ | refine Bel.setCell ?_ (by simp <;> omega) _ | refine Bel.step ?_ (by assumption)))⟩
end Go.Proofs.YthhbeejfnpcbhaaGreatDoor
