/- ZRLx. -/
import Derived.Deep.CutBlock
import Derived.Test.YtgdndahhledikaaGreatDoorK42
import Derived.BigRegion
import Derived.Test.YtgdndahhledikaaGreatDoorK43
namespace Go.Proofs.YtgdndahhledikaaGreatDoor
section
open Go.ChangeShapes Go.WideShapes Go.ChangeAt Go.RowKit
set_option linter.unusedSimpArgs false
set_option maxRecDepth 20000
set_option maxHeartbeats 4000000
def quA (acc : List UInt8) (i : Nat) (l : List UInt8) : Option (List UInt8 × Nat) := (quF (l.drop i)).map fun p => (acc ++ p.1, i + p.2)
theorem quA_end {acc l : List UInt8} {i : Nat} (h : l.length ≤ i) : quA acc i l = none := by
 unfold quA; rw [List.drop_eq_nil_of_le h]; rfl
theorem quA_other {acc l : List UInt8} {i : Nat} (h : i < l.length) (hc : l[i] ≠ 39) : quA acc i l = quA (acc ++ [l[i]]) (i + 1) l := by
 unfold quA
 rw [List.drop_eq_getElem_cons h]
 cases hd : l.drop (i + 1) with
 | nil =>
  have e : quF [l[i]] = none := by rw [quF, if_neg hc]
  rw [e]; rfl
 | cons d r =>
  rw [quF, if_neg hc]
  cases quF (d :: r) with
  | none => rfl
  | some p => simp; omega
theorem quA_last {acc l : List UInt8} {i : Nat} (h : i < l.length) (hc : l[i] = 39) (he : i + 1 = l.length) : quA acc i l = some (acc, i + 1) := by
 unfold quA
 rw [List.drop_eq_getElem_cons h, List.drop_eq_nil_of_le (by omega), quF, if_pos hc]
 simp
theorem quA_quote {acc l : List UInt8} {i : Nat} (h : i < l.length) (hc : l[i] = 39) (h1 : i + 1 < l.length) (hd : l[i + 1] ≠ 39) : quA acc i l = some (acc, i + 1) := by
 unfold quA
 rw [List.drop_eq_getElem_cons h, List.drop_eq_getElem_cons h1, quF, if_pos hc, if_neg hd]
 simp
theorem quA_two {acc l : List UInt8} {i : Nat} (h : i < l.length) (hc : l[i] = 39) (h1 : i + 1 < l.length) (hd : l[i + 1] = 39) : quA acc i l = quA (acc ++ [39]) (i + 2) l := by
 unfold quA
 rw [List.drop_eq_getElem_cons h, List.drop_eq_getElem_cons h1, quF, if_pos hc, if_pos hd]
 cases quF (l.drop (i + 1 + 1)) with
 | none => rfl
 | some p => simp; omega
theorem txtP_quA (l : List UInt8) : txtP l = match quA [] 1 l with
  | none => (tk0, 0, 52)
  | some (x, n) => if 1024 < x.length ∨ Lib.validD x = false then (tk0, 0, 52) else ((5, x, 0), (n : Int), 0) := by
 unfold txtP quA
 rw [List.drop_one]
 cases quF l.tail with
 | none => rfl
 | some p =>
  simp only [Option.map_some, List.nil_append]
  split
  · rfl
  · simp; omega
set_option maxRecDepth 20000 in
set_option maxHeartbeats 4000000 in
theorem rtext_any (l : List UInt8) (w : World) (hne : 1 ≤ l.length) (hl : l.length ≤ 104857600) : Calls Tryz.prog 38 #[.string (bsA l)] w fun e w' => e = .returned (.tuple #[tkV (txtP l).1 0, .int .i64 (txtP l).2.1, .int .i64 (txtP l).2.2]) ∧ Below w.heap.size w w' := by
 have hz := bsA_size l
 have HT : Hid (∀ q, quA [] 1 l = q → txtP l = _) := fun q hq => by rw [txtP_quA l, hq]
 go_enter Tryz.func38, Tryz.ntmps38
 go_wp2
 go_loopw [5, 6] (fun x y wr => ∃ (acc : List UInt8) (m : Nat), m ≤ l.length ∧ acc.length < m ∧ x = .string (bsA acc) ∧ y = .int .i64 m ∧ quA acc m l = quA [] 1 l ∧ wr = w.alloc (.cells #[.int .i64 0, .string ⟨#[]⟩, .int .i64 0, .int .i64 0] 26)) (fun _ y _ => l.length - (intOf y).toNat)
 case atStart => exact ⟨[], 1, hne, Nat.zero_lt_one, rfl, rfl, rfl, rfl⟩
 case round =>
  obtain ⟨acc, m, hm, hal, rfl, rfl, hH, rfl⟩ := hrel
  have HH : Hid (quA acc m l = quA [] 1 l) := hH
  clear hH
  have hza := bsA_size acc
  rcases Nat.lt_or_ge m l.length with hlt | hge
  ·
   have hi : m < (bsA l).size := by rw [hz]; exact hlt
   have e0 : ((bsA l)[m]'hi) = l[m] := rfl
   by_cases hc : l[m] = 39
   ·
    have hcb : (((l[m]).toNat : Int) == 39) = true := by rw [hc]; rfl
    rcases Nat.lt_or_ge (m + 1) l.length with h1 | h1
    ·
     have hi1 : m + 1 < (bsA l).size := by rw [hz]; exact h1
     have e1 : ((bsA l)[m + 1]'hi1) = l[m + 1] := rfl
     by_cases hd : l[m + 1] = 39
     ·
      have hdb : (((l[m + 1]).toNat : Int) == 39) = true := by rw [hd]; rfl
      have HN : Hid (quA (acc ++ [39]) (m + 2) l = quA [] 1 l) := (quA_two hlt hc h1 hd).symm.trans HH.out
      clear hc hd
      generalize l[m] = c at e0 hcb
      generalize l[m + 1] = d at e1 hdb
      go_wp2
      refine ⟨⟨acc ++ [39], m + 2, h1, by simp; omega, congrArg Value.string (app_bsA acc [39]), by go_num, HN.out, trivial⟩, ?_⟩
      simp [intOf]; omega
     ·
      have hdb : (((l[m + 1]).toNat : Int) == 39) = false := by rw [beq_eq_false_iff_ne]; intro h; exact hd (UInt8.toNat_inj.1 (Int.ofNat.inj h))
      have HN : Hid _ := HT.out _ (HH.out.symm.trans (quA_quote hlt hc h1 hd))
      clear hc hd
      generalize l[m] = c at e0 hcb
      generalize l[m + 1] = d at e1 hdb
      by_cases hlen : 1024 < acc.length
      ·
       have HN : Hid _ := HN.out.trans (if_pos (Or.inl hlen))
       go_wp2
       refine bodyPost_ret (v := .tuple #[.agg #[.int .i64 0, .string ⟨#[]⟩, .int .i64 0, .int .i64 0], .int .i64 0, .int .i64 52]) (by simp [results, Tryz.results38, go_sem]) rfl ⟨by rw [HN.out]; rfl, Bel.out (by repeat (first | exact Bel.refl _ | assumption | refine Bel.drew ?_ | refine Bel.drewN ?_ _ | refine Bel.alloc ?_ _ | refine Bel.setCell ?_ (by simp <;> omega) _ | refine Bel.step ?_ (by assumption)))⟩
      ·
       have hr := runes_any (bsA acc) (w.alloc (.cells #[.int .i64 0, .string ⟨#[]⟩, .int .i64 0, .int .i64 0] 26)) (by rw [hza]; omega)
       rw [bsA_list] at hr
       cases hv : Lib.validD acc with
       | false =>
        rw [hv] at hr
        have HN : Hid _ := HN.out.trans (if_pos (Or.inr hv))
        go_wp2_with fail
        refine hr.mono ?_
        rintro e w' ⟨rfl, rfl⟩
        go_wp2
        refine bodyPost_ret (v := .tuple #[.agg #[.int .i64 0, .string ⟨#[]⟩, .int .i64 0, .int .i64 0], .int .i64 0, .int .i64 52]) (by simp [results, Tryz.results38, go_sem]) rfl ⟨by rw [HN.out]; rfl, Bel.out (by repeat (first | exact Bel.refl _ | assumption | refine Bel.drew ?_ | refine Bel.drewN ?_ _ | refine Bel.alloc ?_ _ | refine Bel.setCell ?_ (by simp <;> omega) _ | refine Bel.step ?_ (by assumption)))⟩
       | true =>
        rw [hv] at hr
        have HN : Hid _ := HN.out.trans (if_neg (by rw [hv]; simp; omega))
        go_wp2_with fail
        refine hr.mono ?_
        rintro e w' ⟨rfl, rfl⟩
        go_wp2
        refine bodyPost_ret (v := .tuple #[.agg #[.int .i64 5, .string (bsA acc), .int .i64 0, .int .i64 0], .int .i64 ((m : Int) + 1), .int .i64 0]) (by simp [results, Tryz.results38, go_sem]) rfl ⟨by rw [HN.out]; rfl, Bel.out (by repeat (first | exact Bel.refl _ | assumption | refine Bel.drew ?_ | refine Bel.drewN ?_ _ | refine Bel.alloc ?_ _ | refine Bel.setCell ?_ (by simp <;> omega) _ | refine Bel.step ?_ (by assumption)))⟩
    ·
     have HN : Hid _ := HT.out _ (HH.out.symm.trans (quA_last hlt hc (by omega)))
     clear hc
     generalize l[m] = c at e0 hcb
     by_cases hlen : 1024 < acc.length
     ·
      have HN : Hid _ := HN.out.trans (if_pos (Or.inl hlen))
      go_wp2
      refine bodyPost_ret (v := .tuple #[.agg #[.int .i64 0, .string ⟨#[]⟩, .int .i64 0, .int .i64 0], .int .i64 0, .int .i64 52]) (by simp [results, Tryz.results38, go_sem]) rfl ⟨by rw [HN.out]; rfl, Bel.out (by repeat (first | exact Bel.refl _ | assumption | refine Bel.drew ?_ | refine Bel.drewN ?_ _ | refine Bel.alloc ?_ _ | refine Bel.setCell ?_ (by simp <;> omega) _ | refine Bel.step ?_ (by assumption)))⟩
     ·
      have hr := runes_any (bsA acc) (w.alloc (.cells #[.int .i64 0, .string ⟨#[]⟩, .int .i64 0, .int .i64 0] 26)) (by rw [hza]; omega)
      rw [bsA_list] at hr
      cases hv : Lib.validD acc with
      | false =>
       rw [hv] at hr
       have HN : Hid _ := HN.out.trans (if_pos (Or.inr hv))
       go_wp2_with fail
       refine hr.mono ?_
       rintro e w' ⟨rfl, rfl⟩
       go_wp2
       refine bodyPost_ret (v := .tuple #[.agg #[.int .i64 0, .string ⟨#[]⟩, .int .i64 0, .int .i64 0], .int .i64 0, .int .i64 52]) (by simp [results, Tryz.results38, go_sem]) rfl ⟨by rw [HN.out]; rfl, Bel.out (by repeat (first | exact Bel.refl _ | assumption | refine Bel.drew ?_ | refine Bel.drewN ?_ _ | refine Bel.alloc ?_ _ | refine Bel.setCell ?_ (by simp <;> omega) _ | refine Bel.step ?_ (by assumption)))⟩
      | true =>
       rw [hv] at hr
       have HN : Hid _ := HN.out.trans (if_neg (by rw [hv]; simp; omega))
       go_wp2_with fail
       refine hr.mono ?_
       rintro e w' ⟨rfl, rfl⟩
       go_wp2
       refine bodyPost_ret (v := .tuple #[.agg #[.int .i64 5, .string (bsA acc), .int .i64 0, .int .i64 0], .int .i64 ((m : Int) + 1), .int .i64 0]) (by simp [results, Tryz.results38, go_sem]) rfl ⟨by rw [HN.out]; rfl, Bel.out (by repeat (first | exact Bel.refl _ | assumption | refine Bel.drew ?_ | refine Bel.drewN ?_ _ | refine Bel.alloc ?_ _ | refine Bel.setCell ?_ (by simp <;> omega) _ | refine Bel.step ?_ (by assumption)))⟩
   ·
    have hcb : (((l[m]).toNat : Int) == 39) = false := by rw [beq_eq_false_iff_ne]; intro h; exact hc (UInt8.toNat_inj.1 (Int.ofNat.inj h))
    have HN : Hid (quA (acc ++ [l[m]]) (m + 1) l = quA [] 1 l) := (quA_other hlt hc).symm.trans HH.out
    have hx : (bsA l).extract m (m + 1) = bsA [l[m]] := by rw [ext_mid, List.drop_eq_getElem_cons hlt, show m + 1 - m = 1 by omega]; rfl
    clear hc
    have hzc : (bsA [l[m]]).size = 1 := rfl
    generalize l[m] = c at e0 hcb hx HN hzc
    go_wp2
    refine ⟨⟨acc ++ [c], m + 1, hlt, by simp; omega, congrArg Value.string (app_bsA acc [c]), by go_num, HN.out, trivial⟩, ?_⟩
    simp [intOf]; omega
  ·
   have HN : Hid _ := HT.out _ (HH.out.symm.trans (quA_end hge))
   go_wp2
   refine bodyPost_ret (v := .tuple #[.agg #[.int .i64 0, .string ⟨#[]⟩, .int .i64 0, .int .i64 0], .int .i64 0, .int .i64 52]) (by simp [results, Tryz.results38, go_sem]) rfl ⟨by rw [HN.out]; rfl, Bel.out (by repeat (first | exact Bel.refl _ | assumption | refine Bel.drew ?_ | refine Bel.drewN ?_ _ | refine Bel.alloc ?_ _ | refine Bel.setCell ?_ (by simp <;> omega) _ | refine Bel.step ?_ (by assumption)))⟩
end
section
open Go.ChangeShapes Go.WideShapes Go.ChangeAt Go.RowKit
set_option linter.unusedSimpArgs false
set_option maxRecDepth 20000
set_option maxHeartbeats 4000000
theorem info5 : (Tryz.prog.info? 5).map (fun i => (i.zero, i.size, i.bytes)) = some (some (.int .u8 0), 1, 1) := by kernel_rfl
def byC (bs : List UInt8) : List Value := bs.map fun b => .int .u8 b.toNat
theorem byC_app (a b : List UInt8) : byC (a ++ b) = byC a ++ byC b := by simp [byC]
theorem cell_one_new (w : World) (v : Value) (t : TypeId) : ∀ j u, ([v] : List Value)[j]? = some u → (w.alloc (.cells #[v] t)).cell? ((⟨w.heap.size, 0, none⟩ : Addr).add j) = some u := by
 intro j u hj
 match j, hj with
 | 0, hj =>
  simp only [List.getElem?_cons_zero, Option.some.injEq] at hj
  subst hj
  rw [add_plain]
  exact (World.cell?_alloc_mark w #[v] t _ 0).trans rfl
 | j + 1, hj => simp at hj
theorem convert_own {w : World} {base : Nat} {v : Value} {bs : List UInt8} (h : w.ownsRow base 5 1 v bs.length (byC bs)) : (convert 38 9 v).run Tryz.prog w = .ok (.string (bsA bs)) w := by
 have h' := h
 obtain ⟨h0, ⟨rfl, h1⟩ | ⟨g, cap, cur, rfl, hbg, hg, hnc, hcm, hcs, htake⟩⟩ := h
 ·
  obtain rfl := List.length_eq_zero_iff.1 h1
  rw [run_convert_bytes_string w 38 9 5 none 0 0 Tryz.underlying38 Tryz.underlying5 Tryz.underlying9]
  rfl
 ·
  refine run_convert_bytes_back w 38 9 5 ⟨g, 0, none⟩ cap bs Tryz.underlying38 Tryz.underlying5 Tryz.underlying9 (fun j hj => ?_)
  exact h'.cells (g := g) rfl j _ (by simp [byC, hj])
theorem low_take {l : List UInt8} {m : Nat} (h : m < l.length) : Lib.toLowerA (l.take (m + 1)) = Lib.toLowerA (l.take m) ++ [Lib.lowerB l[m]] := by
 rw [List.take_add_one, List.getElem?_eq_getElem h]; unfold Lib.toLowerA; rw [List.map_append]; rfl
theorem low_len (l : List UInt8) : (Lib.toLowerA l).length = l.length := by simp [Lib.toLowerA]
theorem low_up {c : UInt8} (h1 : 65 ≤ c.toNat) (h2 : c.toNat ≤ 90) : (Lib.lowerB c).toNat = c.toNat + 32 := by
 have h : Lib.isUpperB c = true := by
  unfold Lib.isUpperB
  rw [Bool.and_eq_true, decide_eq_true_eq, decide_eq_true_eq]
  exact ⟨UInt8.le_iff_toNat_le.2 h1, UInt8.le_iff_toNat_le.2 h2⟩
 unfold Lib.lowerB
 rw [h, if_pos rfl, UInt8.toNat_add]
 show (c.toNat + 32) % 256 = _
 omega
theorem low_no {c : UInt8} (h : ¬ (65 ≤ c.toNat ∧ c.toNat ≤ 90)) : Lib.lowerB c = c := by
 have h : Lib.isUpperB c = false := by
  unfold Lib.isUpperB
  rw [Bool.and_eq_false_iff, decide_eq_false_iff_not, decide_eq_false_iff_not, UInt8.le_iff_toNat_le, UInt8.le_iff_toNat_le]
  have e1 : (65 : UInt8).toNat = 65 := rfl
  have e2 : (90 : UInt8).toNat = 90 := rfl
  omega
 unfold Lib.lowerB
 rw [h]; rfl
set_option maxRecDepth 20000 in
set_option maxHeartbeats 4000000 in
theorem small_r (l : List UInt8) (w : World) (hl : l.length ≤ 104857600) : Calls Tryz.prog 35 #[.string (bsA l)] w fun e w' => e = .returned (.string (bsA (Lib.toLowerA l))) ∧ Below w.heap.size w w' := by
 obtain ⟨i0, hi, hz⟩ := Option.map_eq_some_iff.1 info5
 simp only [Prod.mk.injEq] at hz
 obtain ⟨hz0, hz1, hz2⟩ := hz
 have hz := bsA_size l
 go_enter Tryz.func35, Tryz.ntmps35
 go_wp2
 go_loopw [3, 4] (fun x y wr => ∃ (m : Nat) (v1 : Value), m ≤ l.length ∧ x = v1 ∧ y = .int .i64 m ∧ wr.ownsRow w.heap.size 5 1 v1 m (byC (Lib.toLowerA (l.take m))) ∧ Bel w.heap.size w wr) (fun _ y _ => l.length - (intOf y).toNat)
 case atStart => exact ⟨0, _, Nat.zero_le _, rfl, rfl, World.ownsRow_nil _ _ _ _, Bel.refl _⟩
 case round =>
  obtain ⟨m, v1, hm, hy1, rfl, hO, HB⟩ := hrel
  have hy2 := hy1.symm
  clear hy1
  subst hy2
  have HO : Hid (wr.ownsRow w.heap.size 5 1 v1 m (byC (Lib.toLowerA (l.take m)))) := hO
  clear hO
  rcases Nat.lt_or_ge m l.length with hlt | hge
  ·
   have hii : m < (bsA l).size := by rw [hz]; exact hlt
   have e0 : ((bsA l)[m]'hii) = l[m] := rfl
   have HS : Hid _ := low_take hlt
   by_cases hup : 65 ≤ l[m].toNat ∧ l[m].toNat ≤ 90
   ·
    have hd := low_up hup.1 hup.2
    have e1 : ((65 : Int) ≤ (l[m].toNat : Int)) = True := eq_true (by omega)
    have e2 : ((l[m].toNat : Int) ≤ (90 : Int)) = True := eq_true (by omega)
    have hw : IntKind.u8.wrap ((l[m].toNat : Int) + 32) = ((Lib.lowerB l[m]).toNat : Int) := by rw [IntKind.wrap_u8]; omega
    clear hd hup
    generalize Lib.lowerB l[m] = d at HS hw
    generalize l[m] = c at e0 e1 e2 hw
    have hnl : m + 1 ≤ maxLen := by unfold maxLen; omega
    have hby : (m + 1) * 1 ≤ 140737488355328 := by omega
    have hone : Hid (∀ u ∈ [Value.int .u8 (d.toNat : Int)], u.oneCell' = true) := by intro u hu; simp only [List.mem_singleton] at hu; subst hu; rfl
    have hcel : Hid _ := cell_one_new wr (.int .u8 (d.toNat : Int)) 5
    have hrow : Hid ((wr.alloc (.cells #[.int .u8 (d.toNat : Int)] 5)).ownsRow w.heap.size 5 1 v1 m (byC (Lib.toLowerA (l.take m)))) := HO.out.alloc _
    have hbw2 : w.heap.size ≤ (wr.alloc (.cells #[.int .u8 (d.toNat : Int)] 5)).heap.size := by have := HB.le; rw [World.size_alloc]; omega
    go_wp2_with (at_builtin; refine wpList_append_own _ rfl _ _ 38 rfl w.heap.size 5 i0 (.int .u8 0) 1 1 Tryz.underlying38 hi hz0 hz1 hz2 rfl (by decide) _ _ _ rfl hrow.out ⟨wr.heap.size, 0, none⟩ 1 1 [.int .u8 (d.toNat : Int)] rfl rfl hcel.out hone.out hnl hby hbw2 ?_)
    intro v2 w2 hown2 hgrow2 hj2
    clear hj2
    have HO2 : Hid (w2.ownsRow w.heap.size 5 1 v2 (m + 1) (byC (Lib.toLowerA (l.take (m + 1))))) := by
     show World.ownsRow _ _ _ _ _ _ _
     rw [HS.out, byC_app]; exact hown2
    have hB2 : Bel w.heap.size w w2 := by
     have h2 := (HB.out.alloc HB.le (.cells #[.int .u8 (d.toNat : Int)] 5)).grown hgrow2 hbw2 (fun j hj => (hrow.out.lt j hj).1)
     exact ⟨h2, h2.size⟩
    clear hown2 hgrow2 hone hcel hrow HO HB
    go_wp2
    go_roundw
    case rel => exact ⟨m + 1, v2, hlt, rfl, by go_num, HO2.out, hB2⟩
    case measure => simp [intOf]; omega
   ·
    have hd := low_no hup
    have HS : Hid (Lib.toLowerA (l.take (m + 1)) = Lib.toLowerA (l.take m) ++ [l[m]]) := HS.out.trans (congrArg (fun x => Lib.toLowerA (l.take m) ++ [x]) hd)
    clear hd
    rcases Nat.lt_or_ge l[m].toNat 65 with h65 | h65
    ·
     have e1 : ((65 : Int) ≤ (l[m].toNat : Int)) = False := eq_false (by omega)
     clear hup h65
     generalize l[m] = d at e0 e1 HS
     have hnl : m + 1 ≤ maxLen := by unfold maxLen; omega
     have hby : (m + 1) * 1 ≤ 140737488355328 := by omega
     have hone : Hid (∀ u ∈ [Value.int .u8 (d.toNat : Int)], u.oneCell' = true) := by intro u hu; simp only [List.mem_singleton] at hu; subst hu; rfl
     have hcel : Hid _ := cell_one_new wr (.int .u8 (d.toNat : Int)) 5
     have hrow : Hid ((wr.alloc (.cells #[.int .u8 (d.toNat : Int)] 5)).ownsRow w.heap.size 5 1 v1 m (byC (Lib.toLowerA (l.take m)))) := HO.out.alloc _
     have hbw2 : w.heap.size ≤ (wr.alloc (.cells #[.int .u8 (d.toNat : Int)] 5)).heap.size := by have := HB.le; rw [World.size_alloc]; omega
     go_wp2_with (at_builtin; refine wpList_append_own _ rfl _ _ 38 rfl w.heap.size 5 i0 (.int .u8 0) 1 1 Tryz.underlying38 hi hz0 hz1 hz2 rfl (by decide) _ _ _ rfl hrow.out ⟨wr.heap.size, 0, none⟩ 1 1 [.int .u8 (d.toNat : Int)] rfl rfl hcel.out hone.out hnl hby hbw2 ?_)
     intro v2 w2 hown2 hgrow2 hj2
     clear hj2
     have HO2 : Hid (w2.ownsRow w.heap.size 5 1 v2 (m + 1) (byC (Lib.toLowerA (l.take (m + 1))))) := by
      show World.ownsRow _ _ _ _ _ _ _
      rw [HS.out, byC_app]; exact hown2
     have hB2 : Bel w.heap.size w w2 := by
      have h2 := (HB.out.alloc HB.le (.cells #[.int .u8 (d.toNat : Int)] 5)).grown hgrow2 hbw2 (fun j hj => (hrow.out.lt j hj).1)
      exact ⟨h2, h2.size⟩
     clear hown2 hgrow2 hone hcel hrow HO HB
     go_wp2
     go_roundw
     case rel => exact ⟨m + 1, v2, hlt, rfl, by go_num, HO2.out, hB2⟩
     case measure => simp [intOf]; omega
    ·
     have e1 : ((65 : Int) ≤ (l[m].toNat : Int)) = True := eq_true (by omega)
     have e2 : ((l[m].toNat : Int) ≤ (90 : Int)) = False := eq_false (by omega)
     clear hup h65
     generalize l[m] = d at e0 e1 e2 HS
     have hnl : m + 1 ≤ maxLen := by unfold maxLen; omega
     have hby : (m + 1) * 1 ≤ 140737488355328 := by omega
     have hone : Hid (∀ u ∈ [Value.int .u8 (d.toNat : Int)], u.oneCell' = true) := by intro u hu; simp only [List.mem_singleton] at hu; subst hu; rfl
     have hcel : Hid _ := cell_one_new wr (.int .u8 (d.toNat : Int)) 5
     have hrow : Hid ((wr.alloc (.cells #[.int .u8 (d.toNat : Int)] 5)).ownsRow w.heap.size 5 1 v1 m (byC (Lib.toLowerA (l.take m)))) := HO.out.alloc _
     have hbw2 : w.heap.size ≤ (wr.alloc (.cells #[.int .u8 (d.toNat : Int)] 5)).heap.size := by have := HB.le; rw [World.size_alloc]; omega
     go_wp2_with (at_builtin; refine wpList_append_own _ rfl _ _ 38 rfl w.heap.size 5 i0 (.int .u8 0) 1 1 Tryz.underlying38 hi hz0 hz1 hz2 rfl (by decide) _ _ _ rfl hrow.out ⟨wr.heap.size, 0, none⟩ 1 1 [.int .u8 (d.toNat : Int)] rfl rfl hcel.out hone.out hnl hby hbw2 ?_)
     intro v2 w2 hown2 hgrow2 hj2
     clear hj2
     have HO2 : Hid (w2.ownsRow w.heap.size 5 1 v2 (m + 1) (byC (Lib.toLowerA (l.take (m + 1))))) := by
      show World.ownsRow _ _ _ _ _ _ _
      rw [HS.out, byC_app]; exact hown2
     have hB2 : Bel w.heap.size w w2 := by
      have h2 := (HB.out.alloc HB.le (.cells #[.int .u8 (d.toNat : Int)] 5)).grown hgrow2 hbw2 (fun j hj => (hrow.out.lt j hj).1)
      exact ⟨h2, h2.size⟩
     clear hown2 hgrow2 hone hcel hrow HO HB
     go_wp2
     go_roundw
     case rel => exact ⟨m + 1, v2, hlt, rfl, by go_num, HO2.out, hB2⟩
     case measure => simp [intOf]; omega
  ·
   obtain rfl : m = l.length := by omega
   have hO2 := HO.out
   rw [List.take_of_length_le (Nat.le_refl _)] at hO2
   have hcv := convert_own (bs := Lib.toLowerA l) (by rw [low_len]; exact hO2)
   have hBo := HB.out
   clear HO hO2 HB
   have HLL : Hid (∀ L, Lib.toLowerA l = L → Ending.returned (.string (bsA L)) = Ending.returned (.string (bsA (Lib.toLowerA l)))) := fun L h => by rw [h]
   generalize hLe : Lib.toLowerA l = L at hcv
   have HLE : Hid _ := hLe
   clear hLe
   go_wp2
   go_ret
   exact ⟨HLL.out L HLE.out, hBo⟩
end
section
open Go.ChangeShapes Go.WideShapes Go.ChangeAt Go.RowKit
set_option linter.unusedSimpArgs false
set_option maxRecDepth 20000
set_option maxHeartbeats 4000000
def sgT : List (List UInt8) := [[60, 61], [62, 61], [33, 61], [45, 62], [60], [62], [61], [43], [45], [42], [47], [37], [40], [41], [44], [46], [59], [91], [93], [35]]
def sg (m : Nat) : List UInt8 := sgT.getD m []
theorem sg_le2 : ∀ m, m < 20 → (sg m).length ≤ 2 ∧ (m < 4 → (sg m).length = 2) ∧ (4 ≤ m → sg m = [(sg m).headD 0] ∧ 0 ≤ Lib.indexByte shortS ((sg m).headD 0)) := by decide
theorem sg_mem {c : UInt8} (h : 0 ≤ Lib.indexByte shortS c) : ∃ j, j < 20 ∧ sg j = [c] := by
 obtain ⟨o, ho⟩ : ∃ o : Nat, Lib.indexByte shortS c = o := ⟨_, (Int.toNat_of_nonneg h).symm⟩
 obtain ⟨h1, _⟩ := Lib.indexByte_some ho
 have h2 : o < 16 := by
  rcases Nat.lt_or_ge o 16 with h | h
  · exact h
  · rw [List.getElem?_eq_none (by show shortS.length ≤ o; exact h)] at h1; cases h1
 have h3 : ∀ o : Nat, o < 16 → ∀ d, shortS[o]? = some d → sg (o + 4) = [d] := by decide
 exact ⟨o + 4, by omega, h3 o h2 c h1⟩
theorem sgn2_pre (l : List UInt8) : sgn2 l = (Lib.hasPrefix l [60, 61] || Lib.hasPrefix l [62, 61] || Lib.hasPrefix l [33, 61] || Lib.hasPrefix l [45, 62]) := by
 unfold sgn2
 by_cases h : 2 ≤ l.length
 ·
  rw [pre_take (by simpa using h), pre_take (by simpa using h), pre_take (by simpa using h), pre_take (by simpa using h), decide_eq_true (by omega)]
  rfl
 ·
  rw [pre_short (by simpa using h), pre_short (by simpa using h), pre_short (by simpa using h), pre_short (by simpa using h), decide_eq_false (by omega)]
  rfl
theorem pre_head {c x : UInt8} {r : List UInt8} : Lib.hasPrefix (c :: r) [x] = (c == x) := by
 rw [pre_take (by simp)]; simp
theorem sg_yes {c : UInt8} {r : List UInt8} {m : Nat} (hm : m < 20) (h : ∀ j, j < m → Lib.hasPrefix (c :: r) (sg j) = false) (hy : Lib.hasPrefix (c :: r) (sg m) = true) : sgnP (c :: r) = ((6, sg m, 0), ((sg m).length : Int), 0) := by
 obtain ⟨i1, i2, i3⟩ := sg_le2 m hm
 have ht : (c :: r).take (sg m).length = sg m := by
  have := hy
  rw [pre_take (pre_le hy)] at this
  exact eq_of_beq this
 have hn : sgnN (c :: r) = (sg m).length := by
  unfold sgnN
  rcases Nat.lt_or_ge m 4 with h4 | h4
  ·
   rw [i2 h4, sgn2_pre]
   have hq : m = 0 ∨ m = 1 ∨ m = 2 ∨ m = 3 := by omega
   have : (Lib.hasPrefix (c :: r) [60, 61] || Lib.hasPrefix (c :: r) [62, 61] || Lib.hasPrefix (c :: r) [33, 61] || Lib.hasPrefix (c :: r) [45, 62]) = true := by
    rcases hq with rfl | rfl | rfl | rfl
    ·
     have hy : Lib.hasPrefix (c :: r) [60, 61] = true := hy
     rw [hy]; rfl
    ·
     have hy : Lib.hasPrefix (c :: r) [62, 61] = true := hy
     rw [hy]; simp
    ·
     have hy : Lib.hasPrefix (c :: r) [33, 61] = true := hy
     rw [hy]; simp
    ·
     have hy : Lib.hasPrefix (c :: r) [45, 62] = true := hy
     rw [hy]; simp
   rw [this]; rfl
  ·
   obtain ⟨j1, j2⟩ := i3 h4
   have n0 : Lib.hasPrefix (c :: r) [60, 61] = false := h 0 (by omega)
   have n1 : Lib.hasPrefix (c :: r) [62, 61] = false := h 1 (by omega)
   have n2 : Lib.hasPrefix (c :: r) [33, 61] = false := h 2 (by omega)
   have n3 : Lib.hasPrefix (c :: r) [45, 62] = false := h 3 (by omega)
   rw [sgn2_pre, n0, n1, n2, n3]
   rw [j1, pre_head] at hy
   have hc := eq_of_beq hy
   rw [List.headD_cons, hc, if_neg (by simp), if_pos j2, j1]
   rfl
 unfold sgnP
 rw [hn, ht, if_neg]
 intro h0
 have e := List.length_eq_zero_iff.1 h0
 rcases Nat.lt_or_ge m 4 with h4 | h4
 · rw [i2 h4] at h0; cases h0
 · have := (i3 h4).1; rw [e] at this; cases this
theorem sg_no {c : UInt8} {r : List UInt8} (h : ∀ j, j < 20 → Lib.hasPrefix (c :: r) (sg j) = false) : sgnP (c :: r) = (tk0, 0, 50) := by
 have n0 : Lib.hasPrefix (c :: r) [60, 61] = false := h 0 (by omega)
 have n1 : Lib.hasPrefix (c :: r) [62, 61] = false := h 1 (by omega)
 have n2 : Lib.hasPrefix (c :: r) [33, 61] = false := h 2 (by omega)
 have n3 : Lib.hasPrefix (c :: r) [45, 62] = false := h 3 (by omega)
 have hn : sgnN (c :: r) = 0 := by
  unfold sgnN
  rw [sgn2_pre, n0, n1, n2, n3, if_neg (by simp), List.headD_cons, if_neg]
  intro hx
  obtain ⟨j, hj, he⟩ := sg_mem hx
  have := h j hj
  rw [he, pre_head] at this
  simp at this
 unfold sgnP
 rw [hn, if_pos rfl]
theorem sgC (w : World) : ∀ m, m < 20 → ((w.alloc (.cells #[.int .i64 0, .string ⟨#[]⟩, .int .i64 0, .int .i64 0] 26)).alloc (.cells #[.string ⟨#[60, 61]⟩, .string ⟨#[62, 61]⟩, .string ⟨#[33, 61]⟩, .string ⟨#[45, 62]⟩, .string ⟨#[60]⟩, .string ⟨#[62]⟩, .string ⟨#[61]⟩, .string ⟨#[43]⟩, .string ⟨#[45]⟩, .string ⟨#[42]⟩, .string ⟨#[47]⟩, .string ⟨#[37]⟩, .string ⟨#[40]⟩, .string ⟨#[41]⟩, .string ⟨#[44]⟩, .string ⟨#[46]⟩, .string ⟨#[59]⟩, .string ⟨#[91]⟩, .string ⟨#[93]⟩, .string ⟨#[35]⟩] 9)).cell? ⟨w.heap.size + 1, m, none⟩ = some (.string (bsA (sg m))) := by
 intro m hm
 match m, hm with
 | 0, _ => simp [go_sem]; rfl
 | 1, _ => simp [go_sem]; rfl
 | 2, _ => simp [go_sem]; rfl
 | 3, _ => simp [go_sem]; rfl
 | 4, _ => simp [go_sem]; rfl
 | 5, _ => simp [go_sem]; rfl
 | 6, _ => simp [go_sem]; rfl
 | 7, _ => simp [go_sem]; rfl
 | 8, _ => simp [go_sem]; rfl
 | 9, _ => simp [go_sem]; rfl
 | 10, _ => simp [go_sem]; rfl
 | 11, _ => simp [go_sem]; rfl
 | 12, _ => simp [go_sem]; rfl
 | 13, _ => simp [go_sem]; rfl
 | 14, _ => simp [go_sem]; rfl
 | 15, _ => simp [go_sem]; rfl
 | 16, _ => simp [go_sem]; rfl
 | 17, _ => simp [go_sem]; rfl
 | 18, _ => simp [go_sem]; rfl
 | 19, _ => simp [go_sem]; rfl
 | n + 20, h => exact absurd h (by omega)
set_option maxRecDepth 20000 in
set_option maxHeartbeats 4000000 in
theorem token_r (l : List UInt8) (w : World) (hne : l ≠ []) (hl : l.length ≤ 104857600) : Calls Tryz.prog 19 #[.string (bsA l)] w fun e w' => e = .returned (.tuple #[tkV (tokP l).1 0, .int .i64 (tokP l).2.1, .int .i64 (tokP l).2.2]) ∧ Below w.heap.size w w' := by
 cases l with
 | nil => exact absurd rfl hne
 | cons c r =>
  have hz := bsA_size (c :: r)
  have h0 : 0 < (bsA (c :: r)).size := by rw [hz]; simp
  have hc : (bsA (c :: r))[0]'h0 = c := rfl
  have h1 := rletter_any c.toNat (w.alloc (.cells #[.int .i64 0, .string ⟨#[]⟩, .int .i64 0, .int .i64 0] 26))
  have h2 := rdigit_any c.toNat (w.alloc (.cells #[.int .i64 0, .string ⟨#[]⟩, .int .i64 0, .int .i64 0] 26))
  have h4 := fun h => number_r (c :: r) (w.alloc (.cells #[.int .i64 0, .string ⟨#[]⟩, .int .i64 0, .int .i64 0] 26)) hne h hl
  have h5 := rtext_any (c :: r) (w.alloc (.cells #[.int .i64 0, .string ⟨#[]⟩, .int .i64 0, .int .i64 0] 26)) (by simp) hl
  have t1 : ltB c.toNat = true → tokP (c :: r) = namP (c :: r) := fun h => by unfold tokP; rw [List.headD_cons, if_pos h]
  have t2 : ltB c.toNat = false → dgB c.toNat = true → tokP (c :: r) = numP (c :: r) := fun h h' => by unfold tokP; rw [List.headD_cons, if_neg (by simp [h]), if_pos h']
  have t3 : ltB c.toNat = false → dgB c.toNat = false → c = 39 → tokP (c :: r) = txtP (c :: r) := fun h h' h'' => by unfold tokP; rw [List.headD_cons, if_neg (by simp [h]), if_neg (by simp [h']), if_pos h'']
  have t4 : ltB c.toNat = false → dgB c.toNat = false → ¬ c = 39 → tokP (c :: r) = sgnP (c :: r) := fun h h' h'' => by unfold tokP; rw [List.headD_cons, if_neg (by simp [h]), if_neg (by simp [h']), if_neg h'']
  rw [List.headD_cons] at h4
  cases hlt : ltB c.toNat with
  | true =>
   rw [hlt] at h1
   clear h2 h4 h5
   have HN0 : Hid (tokP (c :: r) = namP (c :: r)) := t1 hlt
   have hn1 := ldN_le ptB (c :: r)
   have hxt : (bsA (c :: r)).extract 0 (ldN ptB (c :: r)) = bsA ((c :: r).take (ldN ptB (c :: r))) := ext_take _ _
   have hp0 : 1 ≤ ldN ptB (c :: r) := ldN_pos (by simp) (pt_lt hlt)
   have hs := small_r ((c :: r).take (ldN ptB (c :: r))) (w.alloc (.cells #[.int .i64 0, .string ⟨#[]⟩, .int .i64 0, .int .i64 0] 26)) (by rw [List.length_take]; omega)
   have hwd := fun w => word_any (Lib.toLowerA ((c :: r).take (ldN ptB (c :: r)))) w
   have hlz : ((c :: r).take (ldN ptB (c :: r))).length = ldN ptB (c :: r) := by rw [List.length_take, Nat.min_eq_left hn1]
   have HNm : Hid (namP (c :: r) = if wdL.contains (Lib.toLowerA ((c :: r).take (ldN ptB (c :: r)))) then ((2, Lib.toLowerA ((c :: r).take (ldN ptB (c :: r))), 0), ((ldN ptB (c :: r) : Nat) : Int), 0) else ((1, (c :: r).take (ldN ptB (c :: r)), 0), ((ldN ptB (c :: r) : Nat) : Int), 0)) := by show _ = _; unfold namP; rw [hlz]
   clear t1 t2 t3 t4
   go_enter Tryz.func19, Tryz.ntmps19
   go_wp2_with fail
   refine h1.mono ?_
   rintro e w' ⟨rfl, rfl⟩
   clear h1
   go_upto_block 1 with (fail)
   go_cut [5] (fun y wx => y = .int .i64 ((ldN ptB (c :: r) : Nat) : Int) ∧ wx = w.alloc (.cells #[.int .i64 0, .string ⟨#[]⟩, .int .i64 0, .int .i64 0] 26))
   case first =>
    have HLl : Hid (ltB c.toNat = true) := hlt
    clear hs hwd hxt HNm HN0 hlt
    generalize hLL : (c :: r) = l at *
    have HLL : Hid _ := hLL
    clear hLL hc
    go_wp2_with fail
    go_loopw [5] (fun y wr => ∃ m : Nat, 1 ≤ m ∧ m ≤ l.length ∧ y = .int .i64 m ∧ m + ldN ptB (l.drop m) = ldN ptB l ∧ wr = w.alloc (.cells #[.int .i64 0, .string ⟨#[]⟩, .int .i64 0, .int .i64 0] 26)) (fun y _ => l.length - (intOf y).toNat)
    case atStart =>
     refine ⟨1, Nat.le_refl _, by omega, rfl, ?_, rfl⟩
     rw [← HLL.out, List.drop_one, List.tail_cons, ldN_pos_cons (pt_lt HLl.out)]; omega
    case round =>
     obtain ⟨m, hm0, hm, rfl, hH, rfl⟩ := hrel
     have HH : Hid (m + ldN ptB (l.drop m) = ldN ptB l) := hH
     clear hH
     rcases Nat.lt_or_ge m l.length with hlt | hge
     ·
      have hi : m < (bsA l).size := by rw [hz]; exact hlt
      have e0 : ((bsA l)[m]'hi) = l[m] := rfl
      have hg1 := rletter_any (l[m]).toNat (w.alloc (.cells #[.int .i64 0, .string ⟨#[]⟩, .int .i64 0, .int .i64 0] 26))
      have hg2 := rdigit_any (l[m]).toNat (w.alloc (.cells #[.int .i64 0, .string ⟨#[]⟩, .int .i64 0, .int .i64 0] 26))
      cases hd1 : ltB (l[m]).toNat with
      | true =>
       have HN : Hid (m + 1 + ldN ptB (l.drop (m + 1)) = ldN ptB l) := (ldN_drop hlt (pt_lt hd1)).symm.trans HH.out
       rw [hd1] at hg1
       clear hd1 HH hg2
       generalize l[m] = d at e0 hg1
       go_wp2_with fail
       refine hg1.mono ?_
       rintro e w' ⟨rfl, rfl⟩
       go_wp2
       go_roundw
       case rel => exact ⟨m + 1, by omega, hlt, by go_num, HN.out, trivial⟩
       case measure => simp [intOf]; omega
      | false =>
       rw [hd1] at hg1
       cases hd2 : dgB (l[m]).toNat with
       | true =>
        have HN : Hid (m + 1 + ldN ptB (l.drop (m + 1)) = ldN ptB l) := (ldN_drop hlt (pt_dg hd2)).symm.trans HH.out
        rw [hd2] at hg2
        clear hd1 hd2 HH
        generalize l[m] = d at e0 hg1 hg2
        go_wp2_with fail
        refine hg1.mono ?_
        rintro e w' ⟨rfl, rfl⟩
        go_wp2_with fail
        refine hg2.mono ?_
        rintro e w' ⟨rfl, rfl⟩
        go_wp2
        go_roundw
        case rel => exact ⟨m + 1, by omega, hlt, by go_num, HN.out, trivial⟩
        case measure => simp [intOf]; omega
       | false =>
        have HN : Hid (m = ldN ptB l) := by have h1 := HH.out; rw [ldN_stop hlt (pt_no hd1 hd2)] at h1; exact h1
        rw [hd2] at hg2
        clear hd1 hd2 HH
        generalize l[m] = d at e0 hg1 hg2
        go_wp2_with fail
        refine hg1.mono ?_
        rintro e w' ⟨rfl, rfl⟩
        go_wp2_with fail
        refine hg2.mono ?_
        rintro e w' ⟨rfl, rfl⟩
        go_wp2
        go_meet
        exact ⟨congrArg (fun k : Nat => Value.int .i64 (k : Int)) HN.out, rfl⟩
     ·
      have HN : Hid (m = ldN ptB l) := by have h1 := HH.out; rw [List.drop_eq_nil_of_le hge] at h1; exact h1
      go_wp2
      go_meet
      exact ⟨congrArg (fun k : Nat => Value.int .i64 (k : Int)) HN.out, rfl⟩
   case rest =>
    obtain ⟨rfl, rfl⟩ := hcut
    generalize (c :: r).take (ldN ptB (c :: r)) = x at hs hwd HNm hxt
    generalize ldN ptB (c :: r) = n at *
    generalize Lib.toLowerA x = y at hs hwd HNm
    go_wp2_with fail
    refine hs.mono ?_
    rintro e w1 ⟨rfl, hb1⟩
    have hwd := hwd w1
    cases hq : wdL.contains y with
    | true =>
     rw [hq] at hwd
     have HN : Hid _ := HN0.out.trans (HNm.out.trans (if_pos hq))
     clear HN0 HNm hs hq
     go_wp2_with fail
     refine hwd.mono ?_
     rintro e w2 ⟨rfl, hb2⟩
     have hb := hb1.trans (hb2.mono hb1.size)
     obtain ⟨y0, y1, y2, y3, f0, f1, f2, f3⟩ := tokBox hb
     have hB : Below w.heap.size w w2 := ((Below.refl _ _).alloc (Nat.le_refl _) _).trans (hb.mono (by simp))
     clear hwd hb hb1 hb2
     go_wp2
     refine bodyPost_ret (v := .tuple #[.agg #[.int .i64 2, .string (bsA y), .int .i64 0, .int .i64 0], .int .i64 (n : Int), .int .i64 0]) (by simp [results, Tryz.results19, go_sem, y0, y1, y2, y3]) rfl ⟨by rw [HN.out]; rfl, (((hB.setCell (p := ⟨w.heap.size, 0, none⟩) (Nat.le_refl _) _).setCell (p := ⟨w.heap.size, 1, none⟩) (Nat.le_refl _) _).setCell (p := ⟨w.heap.size, 2, none⟩) (Nat.le_refl _) _).setCell (p := ⟨w.heap.size, 3, none⟩) (Nat.le_refl _) _⟩
    | false =>
     rw [hq] at hwd
     have HN : Hid _ := HN0.out.trans (HNm.out.trans (if_neg (by rw [hq]; simp)))
     clear HN0 HNm hs hq
     go_wp2_with fail
     refine hwd.mono ?_
     rintro e w2 ⟨rfl, hb2⟩
     have hb := hb1.trans (hb2.mono hb1.size)
     obtain ⟨y0, y1, y2, y3, f0, f1, f2, f3⟩ := tokBox hb
     have hB : Below w.heap.size w w2 := ((Below.refl _ _).alloc (Nat.le_refl _) _).trans (hb.mono (by simp))
     clear hwd hb hb1 hb2
     go_wp2
     refine bodyPost_ret (v := .tuple #[.agg #[.int .i64 1, .string (bsA x), .int .i64 0, .int .i64 0], .int .i64 (n : Int), .int .i64 0]) (by simp [results, Tryz.results19, go_sem, y0, y1, y2, y3]) rfl ⟨by rw [HN.out]; rfl, (((hB.setCell (p := ⟨w.heap.size, 0, none⟩) (Nat.le_refl _) _).setCell (p := ⟨w.heap.size, 1, none⟩) (Nat.le_refl _) _).setCell (p := ⟨w.heap.size, 2, none⟩) (Nat.le_refl _) _).setCell (p := ⟨w.heap.size, 3, none⟩) (Nat.le_refl _) _⟩
  | false =>
   rw [hlt] at h1
   cases hdg : dgB c.toNat with
   | true =>
    rw [hdg] at h2
    have h4' := h4 hdg
    rw [t2 hlt hdg]
    clear h4 h5 t1 t2 t3 t4
    generalize numP (c :: r) = q at h4' ⊢
    obtain ⟨⟨q1, q2, q3⟩, n, q4⟩ := q
    unfold tkV at h4' ⊢
    dsimp only at h4' ⊢
    go_enter Tryz.func19, Tryz.ntmps19
    go_wp2_with fail
    refine h1.mono ?_
    rintro e w' ⟨rfl, rfl⟩
    go_wp2_with fail
    refine h2.mono ?_
    rintro e w' ⟨rfl, rfl⟩
    go_wp2_with fail
    refine h4'.mono ?_
    rintro e w2 ⟨rfl, hb⟩
    obtain ⟨y0, y1, y2, y3, f0, f1, f2, f3⟩ := tokBox hb
    have hB : Below w.heap.size w w2 := ((Below.refl _ _).alloc (Nat.le_refl _) _).trans (hb.mono (by simp))
    clear hb h4'
    go_wp2
    refine bodyPost_ret (v := .tuple #[.agg #[.int .i64 q1, .string (bsA q2), .int .i64 q3, .int .i64 0], .int .i64 n, .int .i64 q4]) (by simp [results, Tryz.results19, go_sem, y0, y1, y2, y3]) rfl ⟨rfl, (((hB.setCell (p := ⟨w.heap.size, 0, none⟩) (Nat.le_refl _) _).setCell (p := ⟨w.heap.size, 1, none⟩) (Nat.le_refl _) _).setCell (p := ⟨w.heap.size, 2, none⟩) (Nat.le_refl _) _).setCell (p := ⟨w.heap.size, 3, none⟩) (Nat.le_refl _) _⟩
   | false =>
    rw [hdg] at h2
    by_cases hq : c = 39
    ·
     rw [t3 hlt hdg hq]
     clear t1 t2 t3 t4 h4
     subst hq
     change Calls Tryz.prog 33 #[.int .u8 39] _ _ at h1
     change Calls Tryz.prog 34 #[.int .u8 39] _ _ at h2
     generalize txtP (39 :: r) = q at h5 ⊢
     obtain ⟨⟨q1, q2, q3⟩, n, q4⟩ := q
     unfold tkV at h5 ⊢
     dsimp only at h5 ⊢
     go_enter Tryz.func19, Tryz.ntmps19
     go_wp2_with fail
     refine h1.mono ?_
     rintro e w' ⟨rfl, rfl⟩
     go_wp2_with fail
     refine h2.mono ?_
     rintro e w' ⟨rfl, rfl⟩
     go_wp2_with fail
     refine h5.mono ?_
     rintro e w2 ⟨rfl, hb⟩
     obtain ⟨y0, y1, y2, y3, f0, f1, f2, f3⟩ := tokBox hb
     have hB : Below w.heap.size w w2 := ((Below.refl _ _).alloc (Nat.le_refl _) _).trans (hb.mono (by simp))
     clear hb h5
     go_wp2
     refine bodyPost_ret (v := .tuple #[.agg #[.int .i64 q1, .string (bsA q2), .int .i64 q3, .int .i64 0], .int .i64 n, .int .i64 q4]) (by simp [results, Tryz.results19, go_sem, y0, y1, y2, y3]) rfl ⟨rfl, (((hB.setCell (p := ⟨w.heap.size, 0, none⟩) (Nat.le_refl _) _).setCell (p := ⟨w.heap.size, 1, none⟩) (Nat.le_refl _) _).setCell (p := ⟨w.heap.size, 2, none⟩) (Nat.le_refl _) _).setCell (p := ⟨w.heap.size, 3, none⟩) (Nat.le_refl _) _⟩
    ·
     clear h4 h5
     have HN0 : Hid _ := t4 hlt hdg hq
     have hqb : ((c.toNat : Int) == 39) = false := by rw [beq_eq_false_iff_ne]; intro h; exact hq (UInt8.toNat_inj.1 (Int.ofNat.inj h))
     clear t1 t2 t3 t4 hq hlt hdg
     have HNo : Hid (_ → sgnP (c :: r) = _) := sg_no (c := c) (r := r)
     have HYs : Hid (∀ m, m < 20 → _ → _ → sgnP (c :: r) = _) := fun m hm h hy => sg_yes (c := c) (r := r) (m := m) hm h hy
     have HC : Hid _ := sgC w
     have Hbo : Hid _ := (Box.new w (.int .i64 0) (.string ⟨#[]⟩) (.int .i64 0) (.int .i64 0)).below ((Below.refl _ _).alloc (Nat.le_refl _) (.cells #[.string ⟨#[60, 61]⟩, .string ⟨#[62, 61]⟩, .string ⟨#[33, 61]⟩, .string ⟨#[45, 62]⟩, .string ⟨#[60]⟩, .string ⟨#[62]⟩, .string ⟨#[61]⟩, .string ⟨#[43]⟩, .string ⟨#[45]⟩, .string ⟨#[42]⟩, .string ⟨#[47]⟩, .string ⟨#[37]⟩, .string ⟨#[40]⟩, .string ⟨#[41]⟩, .string ⟨#[44]⟩, .string ⟨#[46]⟩, .string ⟨#[59]⟩, .string ⟨#[91]⟩, .string ⟨#[93]⟩, .string ⟨#[35]⟩] 9))
     have Hb : Hid (Below w.heap.size w ((w.alloc (.cells #[.int .i64 0, .string ⟨#[]⟩, .int .i64 0, .int .i64 0] 26)).alloc (.cells #[.string ⟨#[60, 61]⟩, .string ⟨#[62, 61]⟩, .string ⟨#[33, 61]⟩, .string ⟨#[45, 62]⟩, .string ⟨#[60]⟩, .string ⟨#[62]⟩, .string ⟨#[61]⟩, .string ⟨#[43]⟩, .string ⟨#[45]⟩, .string ⟨#[42]⟩, .string ⟨#[47]⟩, .string ⟨#[37]⟩, .string ⟨#[40]⟩, .string ⟨#[41]⟩, .string ⟨#[44]⟩, .string ⟨#[46]⟩, .string ⟨#[59]⟩, .string ⟨#[91]⟩, .string ⟨#[93]⟩, .string ⟨#[35]⟩] 9))) := ((Below.refl _ _).alloc (Nat.le_refl _) _).alloc (by simp) _
     have hbg := fun t w => begins_any (c :: r) t w
     have HBG : Hid _ := hbg
     clear hbg
     go_enter Tryz.func19, Tryz.ntmps19
     go_wp2_with fail
     refine h1.mono ?_
     rintro e w' ⟨rfl, rfl⟩
     go_wp2_with fail
     refine h2.mono ?_
     rintro e w' ⟨rfl, rfl⟩
     go_wp2
     generalize (w.alloc (.cells #[.int .i64 0, .string ⟨#[]⟩, .int .i64 0, .int .i64 0] 26)).alloc (.cells #[.string ⟨#[60, 61]⟩, .string ⟨#[62, 61]⟩, .string ⟨#[33, 61]⟩, .string ⟨#[45, 62]⟩, .string ⟨#[60]⟩, .string ⟨#[62]⟩, .string ⟨#[61]⟩, .string ⟨#[43]⟩, .string ⟨#[45]⟩, .string ⟨#[42]⟩, .string ⟨#[47]⟩, .string ⟨#[37]⟩, .string ⟨#[40]⟩, .string ⟨#[41]⟩, .string ⟨#[44]⟩, .string ⟨#[46]⟩, .string ⟨#[59]⟩, .string ⟨#[91]⟩, .string ⟨#[93]⟩, .string ⟨#[35]⟩] 9) = W at HC Hbo Hb ⊢
     go_loopw [8] (fun y wr => ∃ m : Nat, m ≤ 20 ∧ y = .int .i64 m ∧ (∀ j, j < m → Lib.hasPrefix (c :: r) (sg j) = false) ∧ wr = W) (fun y _ => 20 - (intOf y).toNat)
     case atStart => exact ⟨0, Nat.zero_le _, rfl, fun j hj => absurd hj (Nat.not_lt_zero _), rfl⟩
     case round =>
      obtain ⟨m, hm, rfl, hH, rfl⟩ := hrel
      have HH : Hid _ := hH
      clear hH
      rcases Nat.lt_or_ge m 20 with hlt | hge
      ·
       have c1 := HC.out m hlt
       have hbg := HBG.out (sg m) wr
       have hs2 := (sg_le2 m hlt).1
       have hzs := bsA_size (sg m)
       clear HC HNo HBG
       cases hq : Lib.hasPrefix (c :: r) (sg m) with
       | false =>
        rw [hq] at hbg
        have HX : Hid (∀ j, j < m + 1 → Lib.hasPrefix (c :: r) (sg j) = false) := fun j hj => by
         by_cases hjm : j < m
         · exact HH.out j hjm
         ·
          obtain rfl : j = m := by omega
          exact hq
        clear HH HYs hq
        generalize sg m = t at c1 hbg hs2 hzs
        go_wp2_with fail
        refine hbg.mono ?_
        rintro e w' ⟨rfl, rfl⟩
        go_wp2
        go_roundw
        case rel => exact ⟨m + 1, hlt, by go_num, HX.out, trivial⟩
        case measure => simp [intOf]; omega
       | true =>
        rw [hq] at hbg
        have HN : Hid _ := HN0.out.trans (HYs.out m hlt HH.out hq)
        obtain ⟨y0, y1, y2, y3, f0, f1, f2, f3⟩ := Hbo.out
        have hB := Hb.out
        clear HH HYs hq HN0 Hbo Hb
        generalize sg m = t at c1 hbg hs2 hzs HN
        go_wp2_with fail
        refine hbg.mono ?_
        rintro e w' ⟨rfl, rfl⟩
        go_wp2
        go_region
        all_goals
         go_wp2
         refine bodyPost_ret (v := .tuple #[.agg #[.int .i64 6, .string (bsA t), .int .i64 0, .int .i64 0], .int .i64 (t.length : Int), .int .i64 0]) (by simp [results, Tryz.results19, go_sem, y0, y1, y2, y3]) rfl ⟨by rw [HN.out]; rfl, by repeat (first | exact (((hB.setCell (p := ⟨w.heap.size, 0, none⟩) (Nat.le_refl _) _).setCell (p := ⟨w.heap.size, 1, none⟩) (Nat.le_refl _) _).setCell (p := ⟨w.heap.size, 2, none⟩) (Nat.le_refl _) _).setCell (p := ⟨w.heap.size, 3, none⟩) (Nat.le_refl _) _ | refine Below.drew ?_)⟩
      ·
       obtain rfl : m = 20 := by omega
       have HN : Hid _ := HN0.out.trans (HNo.out HH.out)
       obtain ⟨y0, y1, y2, y3, f0, f1, f2, f3⟩ := Hbo.out
       have hB := Hb.out
       clear HH HYs HN0 Hbo Hb HNo HC HBG
       go_wp2
       refine bodyPost_ret (v := .tuple #[.agg #[.int .i64 0, .string ⟨#[]⟩, .int .i64 0, .int .i64 0], .int .i64 0, .int .i64 50]) (by simp [results, Tryz.results19, go_sem, y0, y1, y2, y3]) rfl ⟨by rw [HN.out]; rfl, (((hB.setCell (p := ⟨w.heap.size, 0, none⟩) (Nat.le_refl _) _).setCell (p := ⟨w.heap.size, 1, none⟩) (Nat.le_refl _) _).setCell (p := ⟨w.heap.size, 2, none⟩) (Nat.le_refl _) _).setCell (p := ⟨w.heap.size, 3, none⟩) (Nat.le_refl _) _⟩
end
section
open Go.ChangeShapes Go.WideShapes Go.ChangeAt Go.RowKit
set_option linter.unusedSimpArgs false
set_option maxRecDepth 20000
set_option maxHeartbeats 4000000
def skR (s : List UInt8) (a : Nat) : Int × Bool := ((a : Int) + (sk (s.drop a)).1, (sk (s.drop a)).2)
theorem skR_step {s : List UInt8} {a k : Nat} (h : stp (s.drop a) = k) (hk : 0 < k) : skR s (a + k) = skR s a := by
 have e := sk_step (l := s.drop a) (by omega)
 rw [h, Int.toNat_natCast, List.drop_drop] at e
 unfold skR
 rw [e]
 simp only [Prod.mk.injEq, and_true]
 omega
theorem skR_stop {s : List UInt8} {a : Nat} (h : stp (s.drop a) = 0) : skR s a = ((a : Int), true) := by
 unfold skR; rw [sk_stop (by omega), h]; simp
theorem skR_bad {s : List UInt8} {a : Nat} (h : stp (s.drop a) = -1) : skR s a = ((a : Int), false) := by
 unfold skR; rw [sk_stop (by omega), h]; simp
theorem skR_end {s : List UInt8} {a : Nat} (h : a = s.length) : skR s a = ((a : Int), true) := by
 subst h
 unfold skR
 rw [List.drop_length]
 simp [sk, skF, stp]
set_option maxRecDepth 20000 in
set_option maxHeartbeats 4000000 in
theorem skip_any (s : List UInt8) (a : Nat) (w : World) (ha : a ≤ s.length) (hl : s.length ≤ 104857600) : Calls Tryz.prog 18 #[.string (bsA s), .int .i64 a] w fun e w' => e = .returned (.tuple #[.int .i64 (skR s a).1, .bool (skR s a).2]) ∧ w' = w := by
 have hz := bsA_size s
 go_enter Tryz.func18, Tryz.ntmps18
 go_wp2
 go_loopw [1] (fun y wr => ∃ m : Nat, m ≤ s.length ∧ y = .int .i64 m ∧ skR s m = skR s a ∧ wr = w) (fun y _ => s.length - (intOf y).toNat)
 case atStart => exact ⟨a, ha, rfl, rfl, rfl⟩
 case round =>
  obtain ⟨m, hm, rfl, hH, rfl⟩ := hrel
  have HH : Hid (skR s m = skR s a) := hH
  clear hH
  rcases Nat.lt_or_ge m s.length with hlt | hge
  ·
   have hi : m < (bsA s).size := by rw [hz]; exact hlt
   have e0 : ((bsA s)[m]'hi) = s[m] := rfl
   have hx : (bsA s).extract m s.length = bsA (s.drop m) := ext_drop' s m
   have hd := List.drop_eq_getElem_cons hlt
   have hlen : (s.drop m).length = s.length - m := List.length_drop ..
   have hp1 := begins_any (s.drop m) [45, 45] wr
   have hp2 := begins_any (s.drop m) [47, 42] wr
   have hf1 := find_any (s.drop m) [10] wr (by omega) (by simp) (by simp)
   have hstep := fun k h hk => (skR_step (s := s) (a := m) (k := k) h hk).trans HH.out
   have hstop := fun h => (skR_stop (s := s) (a := m) h).symm.trans HH.out
   have hbad := fun h => (skR_bad (s := s) (a := m) h).symm.trans HH.out
   have hle := stp_le (s.drop m)
   cases hbl : blB (s[m]).toNat with
   | true =>
    have HP : Hid _ := hstep 1 (by rw [hd]; exact stp_bl hbl _) (by omega)
    have hbl4 : (s[m]).toNat = 9 ∨ (s[m]).toNat = 10 ∨ (s[m]).toNat = 13 ∨ (s[m]).toNat = 32 := by unfold blB at hbl; simpa [or_assoc] using hbl
    generalize s[m] = c at e0 hbl4
    clear hp1 hp2 hf1 hstep hstop hbad hle hd hbl hx
    rcases hbl4 with hc | hc | hc | hc
    all_goals
     go_wp2
     refine ⟨⟨m + 1, hlt, by go_num, HP.out, trivial⟩, ?_⟩
     simp [intOf]; omega
   | false =>
    have hs0 : stp (s.drop m) = if Lib.hasPrefix (s.drop m) [45, 45] then lineN (s.drop m) else if Lib.hasPrefix (s.drop m) [47, 42] then (if noteN (s.drop m) = 0 then -1 else noteN (s.drop m)) else 0 := by
     have hhd : (s.drop m).headD 0 = s[m] := by rw [hd]; rfl
     unfold stp
     rw [if_neg (by intro h; rw [hd] at h; cases h), hhd, if_neg (by rw [hbl]; simp)]
    have n9 : (((s[m]).toNat : Int) == 9) = false := by rw [beq_eq_false_iff_ne]; unfold blB at hbl; simp at hbl; omega
    have n10 : (((s[m]).toNat : Int) == 10) = false := by rw [beq_eq_false_iff_ne]; unfold blB at hbl; simp at hbl; omega
    have n13 : (((s[m]).toNat : Int) == 13) = false := by rw [beq_eq_false_iff_ne]; unfold blB at hbl; simp at hbl; omega
    have n32 : (((s[m]).toNat : Int) == 32) = false := by rw [beq_eq_false_iff_ne]; unfold blB at hbl; simp at hbl; omega
    have hx2 : (bsA s).extract (m + 2) s.length = bsA (s.drop (m + 2)) := ext_drop' s (m + 2)
    have hf2 := find_any (s.drop (m + 2)) [42, 47] wr (by rw [List.length_drop]; omega) (by simp) (by simp)
    have hdd : (s.drop m).drop 2 = s.drop (m + 2) := List.drop_drop ..
    have hend : skR s s.length = ((s.length : Int), true) := skR_end rfl
    change Calls Tryz.prog 31 #[.string (bsA (s.drop m)), .string ⟨#[45, 45]⟩] wr _ at hp1
    change Calls Tryz.prog 31 #[.string (bsA (s.drop m)), .string ⟨#[47, 42]⟩] wr _ at hp2
    change Calls Tryz.prog 32 #[.string (bsA (s.drop m)), .string ⟨#[10]⟩] wr _ at hf1
    change Calls Tryz.prog 32 #[.string (bsA (s.drop (m + 2))), .string ⟨#[42, 47]⟩] wr _ at hf2
    generalize s[m] = c at e0 n9 n10 n13 n32
    clear hd hbl
    cases hq1 : Lib.hasPrefix (s.drop m) [45, 45] with
    | true =>
     rw [hq1] at hp1
     rw [if_pos hq1] at hs0
     obtain ⟨r', hr'⟩ := two_of hq1
     have h2 := lineN_dash r'
     rw [← hr'] at h2
     rw [Lib.index_one] at hf1
     have hge := Lib.indexByte_ge (s.drop m) 10
     unfold lineN at hs0 h2
     clear hp2 hf2 hstop hbad hr' hq1 hdd
     by_cases hix : Lib.indexByte (s.drop m) 10 ≥ 0
     ·
      rw [if_pos hix] at hs0 h2
      obtain ⟨k, hk⟩ : ∃ k : Nat, Lib.indexByte (s.drop m) 10 = k := ⟨_, (Int.toNat_of_nonneg hix).symm⟩
      rw [hk] at hs0 h2 hf1
      have HP : Hid _ := hstep k hs0 (by omega)
      have hkl : m + k ≤ s.length := by rw [hs0] at hle; omega
      clear hstep hle hs0 hix hge hk hend
      go_wp2_with fail
      refine hp1.mono ?_
      rintro e w' ⟨rfl, rfl⟩
      go_wp2_with fail
      refine hf1.mono ?_
      rintro e w' ⟨rfl, rfl⟩
      go_wp2
      refine ⟨⟨m + k, hkl, by go_num, HP.out, trivial⟩, ?_⟩
      simp [intOf]; omega
     ·
      rw [if_neg hix] at hs0
      have hm1 : Lib.indexByte (s.drop m) 10 = -1 := by omega
      rw [hm1] at hf1
      have HP : Hid _ := hstep (s.drop m).length hs0 (by omega)
      rw [hlen, show m + (s.length - m) = s.length by omega, hend] at HP
      clear hstep hle hs0 hix hge hm1 hend h2
      go_wp2_with fail
      refine hp1.mono ?_
      rintro e w' ⟨rfl, rfl⟩
      go_wp2_with fail
      refine hf1.mono ?_
      rintro e w' ⟨rfl, rfl⟩
      go_wp2
      go_ret2
      exact ⟨by rw [← HP.out]; rfl, rfl⟩
    | false =>
     rw [hq1] at hp1
     rw [if_neg (by simp [hq1])] at hs0
     cases hq2 : Lib.hasPrefix (s.drop m) [47, 42] with
     | true =>
      rw [hq2] at hp2
      rw [if_pos hq2] at hs0
      obtain ⟨r', hr'⟩ := two_of hq2
      have h2l : m + 2 ≤ s.length := by have := congrArg List.length hr'; simp at this; omega
      unfold noteN at hs0
      rw [hdd] at hs0
      have hge := Lib.index_ge (s.drop (m + 2)) [42, 47]
      clear hf1 hstop hr' hq2 hq1 hdd hend
      by_cases hix : Lib.index (s.drop (m + 2)) [42, 47] < 0
      ·
       rw [if_pos hix, if_pos rfl] at hs0
       have hm1 : Lib.index (s.drop (m + 2)) [42, 47] = -1 := by omega
       rw [hm1] at hf2
       have HP : Hid _ := hbad hs0
       clear hstep hle hs0 hix hge hm1 hbad
       go_wp2_with fail
       refine hp1.mono ?_
       rintro e w' ⟨rfl, rfl⟩
       go_wp2_with fail
       refine hp2.mono ?_
       rintro e w' ⟨rfl, rfl⟩
       go_wp2_with fail
       refine hf2.mono ?_
       rintro e w' ⟨rfl, rfl⟩
       go_wp2
       go_ret2
       exact ⟨by rw [← HP.out]; rfl, rfl⟩
      ·
       rw [if_neg hix, if_neg (by omega)] at hs0
       obtain ⟨k, hk⟩ : ∃ k : Nat, Lib.index (s.drop (m + 2)) [42, 47] = k := ⟨_, (Int.toNat_of_nonneg (by omega)).symm⟩
       rw [hk] at hs0 hf2
       have HP : Hid _ := hstep (k + 4) (by rw [hs0]; simp; omega) (by omega)
       have hkl : m + (k + 4) ≤ s.length := by rw [hs0] at hle; omega
       clear hstep hle hs0 hix hge hk hbad
       go_wp2_with fail
       refine hp1.mono ?_
       rintro e w' ⟨rfl, rfl⟩
       go_wp2_with fail
       refine hp2.mono ?_
       rintro e w' ⟨rfl, rfl⟩
       go_wp2_with fail
       refine hf2.mono ?_
       rintro e w' ⟨rfl, rfl⟩
       go_wp2
       refine ⟨⟨m + (k + 4), hkl, by go_num, HP.out, trivial⟩, ?_⟩
       simp [intOf]; omega
     | false =>
      rw [hq2] at hp2
      rw [if_neg (by simp [hq2])] at hs0
      have HP : Hid _ := hstop hs0
      clear hstep hle hs0 hbad hf1 hf2 hdd hend hstop
      go_wp2_with fail
      refine hp1.mono ?_
      rintro e w' ⟨rfl, rfl⟩
      go_wp2_with fail
      refine hp2.mono ?_
      rintro e w' ⟨rfl, rfl⟩
      go_wp2
      go_ret2
      exact ⟨by rw [← HP.out]; rfl, rfl⟩
  ·
   have HN : Hid _ := (skR_end (s := s) (a := m) (by omega)).symm.trans HH.out
   have hml : (m : Int) = s.length := by omega
   go_wp2
   go_ret2
   exact ⟨by rw [← HN.out]; rfl, rfl⟩
end
section
open Go.ChangeShapes Go.WideShapes Go.ChangeAt Go.RowKit
set_option linter.unusedSimpArgs false
set_option maxRecDepth 20000
set_option maxHeartbeats 4000000
theorem skR_nat (s : List UInt8) (m : Nat) (hm : m ≤ s.length) : ∃ nx : Nat, (skR s m).1 = nx ∧ m ≤ nx ∧ nx ≤ s.length ∧ (sk (s.drop m)).1 = nx - m := by
 have h := sk_le (s.drop m)
 rw [List.length_drop] at h
 exact ⟨m + (sk (s.drop m)).1, by unfold skR; simp, by omega, by omega, by omega⟩
theorem rl_bad {s : List UInt8} {m : Nat} (h : (skR s m).2 = false) : lx (s.drop m) m = ([], (skR s m).1, 50) := lx_bad h
theorem rl_end {s : List UInt8} {m nx : Nat} (h : (skR s m).2 = true) (hk : (sk (s.drop m)).1 = nx - m) (h1 : m ≤ nx) (hn : s.length ≤ nx) : lx (s.drop m) m = ([], 0, 0) :=
 lx_end h (by rw [List.drop_drop]; exact List.drop_eq_nil_of_le (by omega))
theorem rl_err {s : List UInt8} {m nx : Nat} (h : (skR s m).2 = true) (hk : (sk (s.drop m)).1 = nx - m) (h1 : m ≤ nx) (hn : nx < s.length) (he : (tokP (s.drop nx)).2.2 ≠ 0) : lx (s.drop m) m = ([], (nx : Int), (tokP (s.drop nx)).2.2) := by
 have e : (s.drop m).drop (sk (s.drop m)).1 = s.drop nx := by rw [List.drop_drop]; congr 1; omega
 have hne : s.drop nx ≠ [] := fun h => by have := List.drop_eq_nil_iff.1 h; omega
 rw [lx_err h (by rw [e]; exact hne) (by rw [e]; exact he), e, hk]
 congr 2; omega
theorem rl_go {s : List UInt8} {m nx : Nat} (h : (skR s m).2 = true) (hk : (sk (s.drop m)).1 = nx - m) (h1 : m ≤ nx) (hn : nx < s.length) (he : (tokP (s.drop nx)).2.2 = 0) : ∃ k : Nat, (nx : Int) + (tokP (s.drop nx)).2.1 = k ∧ m < k ∧ k ≤ s.length ∧ lx (s.drop m) m = if (lx (s.drop k) k).2.2 ≠ 0 then lx (s.drop k) k else (((tokP (s.drop nx)).1, (nx : Int)) :: (lx (s.drop k) k).1, 0, 0) := by
 have e : (s.drop m).drop (sk (s.drop m)).1 = s.drop nx := by rw [List.drop_drop]; congr 1; omega
 have hne : s.drop nx ≠ [] := fun h => by have := List.drop_eq_nil_iff.1 h; omega
 have ht := tok_ok hne he
 have hl : (s.drop nx).length = s.length - nx := List.length_drop ..
 refine ⟨nx + (tokP (s.drop nx)).2.1.toNat, by omega, by omega, by omega, ?_⟩
 rw [lx_go h (by rw [e]; exact hne) (by rw [e]; exact he), e, hk]
 have e1 : (s.drop m).drop (nx - m + (tokP (s.drop nx)).2.1.toNat) = s.drop (nx + (tokP (s.drop nx)).2.1.toNat) := by rw [List.drop_drop]; congr 1; omega
 have e2 : (m : Int) + ((nx - m : Nat) : Int) = (nx : Int) := by omega
 have e3 : ((nx + (tokP (s.drop nx)).2.1.toNat : Nat) : Int) = (nx : Int) + (tokP (s.drop nx)).2.1 := by omega
 rw [e1, e2, e3]
set_option maxRecDepth 20000 in
set_option maxHeartbeats 4000000 in
def LexPost2 (base : Nat) (q : List Tt × Int × Int) (e : Ending) (w' : World) : Prop :=
 if q.2.2 ≠ 0 then e = .returned (.tuple #[.slice none 0 0, .int .i64 q.2.1, .int .i64 q.2.2])
 else ∃ a cap, e = .returned (.tuple #[.slice a q.1.length cap, .int .i64 0, .int .i64 0]) ∧ TksAt w' a q.1 ∧ (∀ g o, a = some ⟨g, o, none⟩ → base ≤ g ∧ g < w'.heap.size) ∧ q.1.length ≤ cap
theorem tks_of_owns2 {w : World} {base : Nat} {vv : Value} {r : List Tt} (h : w.ownsRow base 26 4 vv r.length (rtC r)) : ∃ a cap, vv = .slice a r.length cap ∧ TksAt w a r ∧ (∀ g o, a = some ⟨g, o, none⟩ → base ≤ g ∧ g < w.heap.size) ∧ r.length ≤ cap := by
 obtain ⟨a, cap, rfl, h1, h2, h3⟩ := tks_of_owns h
 exact ⟨a, cap, rfl, h1, fun g o e => ⟨h2 g o e, (h.lt g (by rw [e]; rfl)).2⟩, h3⟩
theorem RLex_any (s : List UInt8) (w : World) (hl : s.length ≤ 104857600) : Calls Tryz.prog 11 #[.string (bsA s)] w fun e w' => LexPost2 w.heap.size (lx s 0) e w' ∧ Below w.heap.size w w' := by
 obtain ⟨i0, hi, hz0⟩ := Option.map_eq_some_iff.1 info37
 simp only [Prod.mk.injEq] at hz0
 obtain ⟨hz, hs, hb3⟩ := hz0
 have hzs := bsA_size s
 have HX : Hid (lx s 0 = cmb [] (lx (s.drop 0) ((0 : Nat) : Int))) := lx_cmb s 0
 generalize lx s 0 = D at HX ⊢
 go_enter Tryz.func11, Tryz.ntmps11
 go_wp2
 go_loopw [5, 6] (fun x y wr => ∃ (m : Nat) (acc : List Tt) (v1 : Value), x = v1 ∧ y = .int .i64 m ∧ m ≤ s.length ∧ acc.length ≤ m ∧ D = cmb acc (lx (s.drop m) m) ∧ wr.ownsRow w.heap.size 26 4 v1 acc.length (rtC acc) ∧ Bel w.heap.size w wr) (fun _ y _ => s.length - (intOf y).toNat)
 case atStart => exact ⟨0, [], _, rfl, rfl, Nat.zero_le _, Nat.le_refl _, HX.out, World.ownsRow_nil _ _ _ _, Bel.refl _⟩
 case round =>
  obtain ⟨m, acc, v1, hy1, rfl, hm, hac, hD, hO, HB⟩ := hrel
  have hy2 := hy1.symm
  clear hy1
  subst hy2
  have HD : Hid _ := hD
  have HO : Hid (wr.ownsRow w.heap.size 26 4 v1 acc.length (rtC acc)) := hO
  have hW := HB.out
  have h1 := skip_any s m wr hm hl
  obtain ⟨nx, hnx, hm1, hm2, hk⟩ := skR_nat s m hm
  have hP0 := rl_bad (s := s) (m := m)
  have hP1 := rl_end (s := s) (m := m) (nx := nx)
  have hP2 := rl_err (s := s) (m := m) (nx := nx)
  have hP3 := rl_go (s := s) (m := m) (nx := nx)
  rw [hnx] at h1 hP0
  clear hD hO HX hnx
  cases hok : (skR s m).2 with
  | false =>
   have HN : Hid (D = ([], (nx : Int), 50)) := by show D = _; rw [HD.out, hP0 hok]; simp [cmb]
   rw [hok] at h1
   clear HD HO hP0 hP1 hP2 hP3 hok
   go_wp2_with fail
   refine h1.mono ?_
   rintro e w0 ⟨rfl, rfl⟩
   clear h1
   go_wp2
   refine bodyPost_ret (v := .tuple #[.slice none 0 0, .int .i64 nx, .int .i64 50]) (by simp [results, Tryz.results11, go_sem]) rfl ⟨?_, hW⟩
   rw [HN.out]
   unfold LexPost2
   rw [if_pos (by simp)]
  | true =>
   rw [hok] at h1
   rcases Nat.lt_or_ge nx s.length with hlt | hge
   ·
    have hx : (bsA s).extract nx s.length = bsA (s.drop nx) := ext_drop' s nx
    have h2 := token_r (s.drop nx) wr (fun h => by have := List.drop_eq_nil_iff.1 h; omega) (by rw [List.length_drop]; omega)
    have hP2 := hP2 hok hk hm1 hlt
    have hP3 := hP3 hok hk hm1 hlt
    clear hP0 hP1 hok hk
    generalize tokP (s.drop nx) = q at h2 hP2 hP3
    obtain ⟨⟨q1, q2, q3⟩, n, er⟩ := q
    unfold tkV at h2
    dsimp only at h2 hP2 hP3
    generalize bsA (s.drop nx) = S2 at hx h2
    by_cases he : er = 0
    ·
     subst he
     obtain ⟨k, hkn, hmk, hks, hlx⟩ := hP3 rfl
     have HN : Hid (D = cmb (acc ++ [((q1, q2, q3), (nx : Int))]) (lx (s.drop k) k)) := by show D = _; rw [HD.out, hlx, cmb_cons]
     clear HD hP2 hP3 hlx
     go_wp2_with fail
     refine h1.mono ?_
     rintro e w0 ⟨rfl, rfl⟩
     clear h1
     go_wp2_with fail
     refine h2.mono ?_
     rintro e w1 ⟨rfl, hb1⟩
     clear h2
     have hB2 : Below w0.heap.size w0 (w1.alloc (Obj.cells #[Value.int IntKind.i64 q1, Value.string (bsA q2), Value.int IntKind.i64 q3, Value.int IntKind.i64 (nx : Int)] 26)) := below_new hb1 _
     obtain ⟨c0, c1, c2, c3, _, _, _, _⟩ := Box.new w1 (.int .i64 q1) (.string (bsA q2)) (.int .i64 q3) (.int .i64 nx)
     have hrow : Hid (((w1.alloc (Obj.cells #[Value.int IntKind.i64 q1, Value.string (bsA q2), Value.int IntKind.i64 q3, Value.int IntKind.i64 (nx : Int)] 26)).alloc (Obj.cells #[Value.int IntKind.i64 q1, Value.string (bsA q2), Value.int IntKind.i64 q3, Value.int IntKind.i64 (nx : Int)] 26)).ownsRow w.heap.size 26 4 v1 acc.length (rtC acc)) := (owns_below HO.out hB2).alloc _
     have hcel : Hid _ := tkCells_new (w1.alloc (Obj.cells #[Value.int IntKind.i64 q1, Value.string (bsA q2), Value.int IntKind.i64 q3, Value.int IntKind.i64 (nx : Int)] 26)) ((q1, q2, q3), (nx : Int))
     have hone : Hid (∀ u ∈ rtC [((q1, q2, q3), (nx : Int))], u.oneCell' = true) := rtC_one _
     have hnl : acc.length + 1 ≤ maxLen := by unfold maxLen; omega
     have hby : (acc.length + 1) * 40 ≤ 140737488355328 := by omega
     have hbw : w.heap.size ≤ (w1.alloc (Obj.cells #[Value.int IntKind.i64 q1, Value.string (bsA q2), Value.int IntKind.i64 q3, Value.int IntKind.i64 (nx : Int)] 26)).heap.size := Nat.le_trans hW.size hB2.size
     have hbw2 : w.heap.size ≤ ((w1.alloc (Obj.cells #[Value.int IntKind.i64 q1, Value.string (bsA q2), Value.int IntKind.i64 q3, Value.int IntKind.i64 (nx : Int)] 26)).alloc (Obj.cells #[Value.int IntKind.i64 q1, Value.string (bsA q2), Value.int IntKind.i64 q3, Value.int IntKind.i64 (nx : Int)] 26)).heap.size := by rw [World.size_alloc]; omega
     have hvl : Hid ((rtC [((q1, q2, q3), (nx : Int))]).length = 1 * 4) := rtC_len _
     have esz : (w1.alloc (Obj.cells #[Value.int IntKind.i64 q1, Value.string (bsA q2), Value.int IntKind.i64 q3, Value.int IntKind.i64 (nx : Int)] 26)).heap.size = w1.heap.size + 1 := World.size_alloc _ _
     rw [esz] at hcel
     clear HO
     go_wp2_with (at_builtin; refine wpList_append_own _ rfl _ _ 22 rfl w.heap.size 26 i0 (.agg #[.int .i64 0, .string ⟨#[]⟩, .int .i64 0, .int .i64 0]) 4 40 Tryz.underlying22 hi hz hs hb3 rfl (by decide) _ _ _ rfl hrow.out ⟨w1.heap.size + 1, 0, none⟩ 1 1 (rtC [((q1, q2, q3), (nx : Int))]) rfl hvl.out hcel.out hone.out hnl hby hbw2 ?_)
     intro v3 w3 hown3 hgrow3 hi3
     clear hi3
     have HO3 : Hid (w3.ownsRow w.heap.size 26 4 v3 (acc ++ [((q1, q2, q3), (nx : Int))]).length (rtC (acc ++ [((q1, q2, q3), (nx : Int))]))) := by
      show World.ownsRow _ _ _ _ _ _ _
      rw [rtC_snoc, List.length_append, List.length_singleton]; exact hown3
     have hB3 : Bel w.heap.size w w3 := by
      have h1 : Below w.heap.size w (w1.alloc (Obj.cells #[Value.int IntKind.i64 q1, Value.string (bsA q2), Value.int IntKind.i64 q3, Value.int IntKind.i64 (nx : Int)] 26)) := hW.trans (hB2.mono hW.size)
      have h2 := (h1.alloc hbw (Obj.cells #[Value.int IntKind.i64 q1, Value.string (bsA q2), Value.int IntKind.i64 q3, Value.int IntKind.i64 (nx : Int)] 26)).grown hgrow3 hbw2 (fun j hj => (hrow.out.lt j hj).1)
      exact ⟨h2, h2.size⟩
     clear hown3 hgrow3 hrow hcel hone hvl hB2 c0 c1 c2 c3 hb1
     go_wp2
     go_roundw
     case rel => exact ⟨k, acc ++ [((q1, q2, q3), (nx : Int))], v3, rfl, rfl, hks, by simp; omega, HN.out, HO3.out, hB3⟩
     case measure => simp [intOf]; omega
    ·
     have HN : Hid (D = ([], (nx : Int), er)) := by show D = _; rw [HD.out, hP2 he]; simp [cmb, he]
     have he' : (er != 0) = true := by simpa using he
     clear HD hP2 hP3 HO
     go_wp2_with fail
     refine h1.mono ?_
     rintro e w0 ⟨rfl, rfl⟩
     clear h1
     go_wp2_with fail
     refine h2.mono ?_
     rintro e w1 ⟨rfl, hb1⟩
     clear h2
     have hB2 := below_new (hW.trans (hb1.mono hW.size)) (Obj.cells #[Value.int IntKind.i64 q1, Value.string (bsA q2), Value.int IntKind.i64 q3, Value.int IntKind.i64 0] 26)
     go_wp2
     refine bodyPost_ret (v := .tuple #[.slice none 0 0, .int .i64 nx, .int .i64 er]) (by simp [results, Tryz.results11, go_sem]) rfl ⟨?_, hB2⟩
     rw [HN.out]
     unfold LexPost2
     rw [if_pos he]
   ·
    have HN : Hid (D = (acc, 0, 0)) := by show D = _; rw [HD.out, hP1 hok hk hm1 hge]; simp [cmb]
    obtain ⟨a, cap, rfl, hra, hga, hcap⟩ := tks_of_owns2 HO.out
    have HGA : Hid _ := hga
    have HRA : Hid _ := hra
    clear HD HO hP0 hP1 hP2 hP3 hra hga hok
    go_wp2_with fail
    refine h1.mono ?_
    rintro e w0 ⟨rfl, rfl⟩
    clear h1
    go_wp2
    refine bodyPost_ret (v := .tuple #[.slice a acc.length cap, .int .i64 0, .int .i64 0]) (by simp [results, Tryz.results11, go_sem]) rfl ⟨?_, hW⟩
    rw [HN.out]
    exact ⟨a, cap, rfl, HRA.out, HGA.out, hcap⟩
end
end Go.Proofs.YtgdndahhledikaaGreatDoor
