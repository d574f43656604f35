/- Arrivals by rising numbers, at times that do not fall (Fit). -/
import Derived.Test.YtfjpdflilmcnhaaDoorMgB
namespace Go.Proofs.YtfjpdflilmcnhaaDoor
open Go.ChangeShapes Go.WideShapes Go.ChangeAt Go.RowKit

/-- What Fit keeps. -/
structure FitOk (l o : List Arv) (sq tm : Int) : Prop where
  sub : o.Sublist l
  len : o.length ≤ 200
  seqs : o.Pairwise fun x y => x.seq < y.seq
  times : o.Pairwise fun x y => x.time ≤ y.time
  sq0 : 0 ≤ sq ∧ sq ≤ 1073741824
  tm0 : 0 ≤ tm ∧ tm ≤ 1099511627776
  each : ∀ x ∈ o, 0 < x.seq ∧ x.seq ≤ sq ∧ 0 ≤ x.time ∧ x.time ≤ tm ∧ 1 ≤ x.row.length ∧ x.row.length = (aAt o 0).row.length
theorem FitOk.start (l : List Arv) : FitOk l [] 0 0 := ⟨List.nil_sublist _, by simp, List.Pairwise.nil, List.Pairwise.nil, by omega, by omega, fun x hx => by cases hx⟩
theorem FitOk.skip {l o : List Arv} {m : Nat} {sq tm : Int} (h : FitOk (l.take m) o sq tm) (hm : m < l.length) : FitOk (l.take (m + 1)) o sq tm :=
  { h with sub := by rw [aAt_take hm]; exact h.sub.trans (List.sublist_append_left _ _) }
theorem FitOk.take {l o : List Arv} {m : Nat} {sq tm : Int} (h : FitOk (l.take m) o sq tm) (hm : m < l.length) (hn : o.length < 200) (h1 : sq < (aAt l m).seq) (h2 : (aAt l m).seq ≤ 1073741824) (h3 : tm ≤ (aAt l m).time) (h4 : (aAt l m).time ≤ 1099511627776)
    (h5 : o = [] ∨ (aAt l m).row.length = (aAt o 0).row.length) (h6 : 1 ≤ (aAt l m).row.length) : FitOk (l.take (m + 1)) (o ++ [aAt l m]) (aAt l m).seq (aAt l m).time where
  sub := by rw [aAt_take hm]; exact h.sub.append (List.Sublist.refl _)
  len := by simp; omega
  seqs := by
    rw [List.pairwise_append]
    refine ⟨h.seqs, List.pairwise_singleton _ _, fun x hx y hy => ?_⟩
    simp only [List.mem_singleton] at hy; subst hy
    have := h.each x hx; omega
  times := by
    rw [List.pairwise_append]
    refine ⟨h.times, List.pairwise_singleton _ _, fun x hx y hy => ?_⟩
    simp only [List.mem_singleton] at hy; subst hy
    have := h.each x hx; omega
  sq0 := by have := h.sq0; omega
  tm0 := by have := h.tm0; omega
  each := by
    intro x hx
    have q := h.sq0; have q2 := h.tm0
    have e0 : (aAt (o ++ [aAt l m]) 0).row.length = if o = [] then (aAt l m).row.length else (aAt o 0).row.length := by
      cases o with
      | nil => rfl
      | cons y o => rfl
    rw [e0]
    rw [List.mem_append] at hx
    rcases hx with hx | hx
    · have := h.each x hx
      rw [if_neg (by rintro rfl; cases hx)]
      omega
    · simp only [List.mem_singleton] at hx; subst hx
      refine ⟨by omega, by omega, by omega, by omega, h6, ?_⟩
      rcases h5 with rfl | h5
      · rfl
      · by_cases hn : o = []
        · rw [if_pos hn]
        · rw [if_neg hn]; exact h5
theorem arCells_new (w : World) (x : Arv) : ∀ j u, (arC [x])[j]? = some u → (w.alloc (.cells #[.int .i64 x.seq, .int .i64 x.time, .slice x.a x.row.length x.cap] 40)).cell? ((⟨w.heap.size, 0, none⟩ : Addr).add j) = some u := by
  rw [arC_single]
  intro j u hj
  rw [add_plain]
  match j, hj with
  | 0, hj => simp only [List.getElem?_cons_zero, Option.some.injEq] at hj; subst hj; simp only [Nat.zero_add]; go_simp
  | 1, hj => simp only [List.getElem?_cons_succ, List.getElem?_cons_zero, Option.some.injEq] at hj; subst hj; simp only [Nat.zero_add]; go_simp
  | 2, hj => simp only [List.getElem?_cons_succ, List.getElem?_cons_zero, Option.some.injEq] at hj; subst hj; simp only [Nat.zero_add]; go_simp
  | j + 3, hj => simp at hj
/-- What Fit tells. -/
def FitPost (w : World) (l : List Arv) (e : Ending) (w' : World) : Prop := ∃ a' cap' o sq tm nw, e = .returned (.tuple #[.slice a' o.length cap', .int .i64 nw]) ∧ tm ≤ nw ∧ nw ≤ 1099511627776 ∧ FitOk l o sq tm ∧ CelsAt w' a' o ∧ Below w.heap.size w w'
set_option maxRecDepth 20000 in
set_option maxHeartbeats 8000000 in
theorem Fit_any (a : Option Addr) (cap : Nat) (l : List Arv) (now : Int) (w : World) (hlen : l.length ≤ 9223372036854775807) (hl : CelsAt w a l) :
    Calls Tryd.prog 10 #[.slice a l.length cap, .int .i64 now] w fun e w' => FitPost w l e w' := by
  obtain ⟨i0, hi, hz0⟩ := Option.map_eq_some_iff.1 info40
  simp only [Prod.mk.injEq] at hz0
  obtain ⟨hz, hs, hb3⟩ := hz0
  go_enter Tryd.func10, Tryd.ntmps10
  go_wp2
  go_loopw [6, 7, 8, 9] (fun v x y i wr => ∃ (m : Nat) (acc : List Arv) (v1 : Value) (sq tm : Int), m ≤ l.length ∧ m ≤ 200 ∧ acc.length ≤ m ∧ v = v1 ∧ x = .int .i64 sq ∧ y = .int .i64 tm ∧ i = .int .i64 m ∧ FitOk (l.take m) acc sq tm ∧ wr.ownsRow w.heap.size 40 3 v1 acc.length (arC acc) ∧ Bel w.heap.size w wr) (fun _ _ _ i _ => l.length - (intOf i).toNat)
  case atStart => exact ⟨0, [], _, 0, 0, Nat.zero_le _, by omega, Nat.le_refl _, rfl, rfl, rfl, rfl, FitOk.start _, World.ownsRow_nil _ _ _ _, Bel.refl _⟩
  case round =>
    obtain ⟨m, acc, v1, sq, tm, hm, hm2, hacc, hv, rfl, rfl, rfl, hI, hO, HB⟩ := hrel
    have hv2 := hv.symm
    clear hv
    subst hv2
    have HI : Hid (FitOk (l.take m) acc sq tm) := hI
    have HO : Hid (wr.ownsRow w.heap.size 40 3 v1 acc.length (arC acc)) := hO
    have hW := HB.out
    clear hI
    obtain ⟨a1, cap1, rfl, hcel, hfr⟩ := ars_of_owns hO
    have HC : Hid (CelsAt wr a1 acc) := hcel
    clear hO hcel hfr
    rcases Nat.lt_or_ge m l.length with hlt | hge
    · rcases Nat.lt_or_ge m 200 with hlt2 | hge2
      · obtain ⟨b, off, rfl, hc⟩ : ∃ b off, a = some ⟨b, off, none⟩ ∧ ∀ i, i < l.length → w.cell? ⟨b, off + i * 3, none⟩ = some (.int .i64 (aAt l i).seq) ∧ w.cell? ⟨b, off + i * 3 + 1, none⟩ = some (.int .i64 (aAt l i).time) ∧ w.cell? ⟨b, off + i * 3 + 2, none⟩ = some (.slice (aAt l i).a (aAt l i).row.length (aAt l i).cap) := by
          rcases hl with rfl | hl
          · simp at hlt
          · exact hl
        have c0 := cell_below hW (hc m hlt).1
        have c1 := cell_below hW (hc m hlt).2.1
        have c2 := cell_below hW (hc m hlt).2.2
        clear hc hl
        generalize hxe : aAt l m = x at c0 c1 c2
        go_upto_region 7 with (fail)
        have HB1 : Hid (Bel w.heap.size w (wr.alloc (Obj.cells #[.int .i64 x.seq, .int .i64 x.time, .slice x.a x.row.length x.cap] 40))) := HB.alloc _
        have HO1 : Hid (World.ownsRow (wr.alloc (Obj.cells #[.int .i64 x.seq, .int .i64 x.time, .slice x.a x.row.length x.cap] 40)) w.heap.size 40 3 (.slice a1 acc.length cap1) acc.length (arC acc)) := HO.out.alloc _
        have HC1 : Hid (CelsAt (wr.alloc (Obj.cells #[.int .i64 x.seq, .int .i64 x.time, .slice x.a x.row.length x.cap] 40)) a1 acc) := HC.out.below ((Below.refl _ _).alloc (Nat.le_refl _) _)
        have y0 : World.cell? (wr.alloc (Obj.cells #[.int .i64 x.seq, .int .i64 x.time, .slice x.a x.row.length x.cap] 40)) ⟨wr.heap.size, 0, none⟩ = some (.int .i64 x.seq) := (World.cell?_alloc_mark wr #[.int .i64 x.seq, .int .i64 x.time, .slice x.a x.row.length x.cap] 40 (0, 0) 0).trans rfl
        have y1 : World.cell? (wr.alloc (Obj.cells #[.int .i64 x.seq, .int .i64 x.time, .slice x.a x.row.length x.cap] 40)) ⟨wr.heap.size, 1, none⟩ = some (.int .i64 x.time) := (World.cell?_alloc_mark wr #[.int .i64 x.seq, .int .i64 x.time, .slice x.a x.row.length x.cap] 40 (0, 0) 1).trans rfl
        have y2 : World.cell? (wr.alloc (Obj.cells #[.int .i64 x.seq, .int .i64 x.time, .slice x.a x.row.length x.cap] 40)) ⟨wr.heap.size, 2, none⟩ = some (.slice x.a x.row.length x.cap) := (World.cell?_alloc_mark wr #[.int .i64 x.seq, .int .i64 x.time, .slice x.a x.row.length x.cap] 40 (0, 0) 2).trans rfl
        clear HO HC HB hW c0 c1 c2
        obtain ⟨bx, hbx⟩ : ∃ bx, wr.heap.size = bx := ⟨_, rfl⟩
        rw [hbx] at y0 y1 y2
        rw [hbx]
        clear hbx
        generalize (wr.alloc (Obj.cells #[.int .i64 x.seq, .int .i64 x.time, .slice x.a x.row.length x.cap] 40)) = w1 at *
        have HO := HO1
        have HB := HB1.out
        clear HO1 HB1
        by_cases t1 : x.seq ≤ sq
        · clear HC1
          go_quiet (fail)
          go_wp2
          go_roundw
          case rel => exact ⟨m + 1, acc, _, sq, tm, by omega, by omega, by omega, rfl, rfl, rfl, by go_num, HI.out.skip hlt, owns_below HO.out (Bel.out (by repeat (first | exact Bel.refl _ | assumption | refine Bel.drew ?_ | refine Bel.drewN ?_ _ | refine Bel.alloc ?_ _ | refine Bel.setCell ?_ (by simp <;> omega) _ | refine Bel.step ?_ (by assumption)))), (by repeat (first | exact Bel.refl _ | assumption | refine Bel.drew ?_ | refine Bel.drewN ?_ _ | refine Bel.alloc ?_ _ | refine Bel.setCell ?_ (by simp <;> omega) _ | refine Bel.step ?_ (by assumption)))⟩
          case measure => simp [intOf]; omega
        by_cases t2 : x.seq > 1073741824
        · clear HC1
          go_quiet (fail)
          go_wp2
          go_roundw
          case rel => exact ⟨m + 1, acc, _, sq, tm, by omega, by omega, by omega, rfl, rfl, rfl, by go_num, HI.out.skip hlt, owns_below HO.out (Bel.out (by repeat (first | exact Bel.refl _ | assumption | refine Bel.drew ?_ | refine Bel.drewN ?_ _ | refine Bel.alloc ?_ _ | refine Bel.setCell ?_ (by simp <;> omega) _ | refine Bel.step ?_ (by assumption)))), (by repeat (first | exact Bel.refl _ | assumption | refine Bel.drew ?_ | refine Bel.drewN ?_ _ | refine Bel.alloc ?_ _ | refine Bel.setCell ?_ (by simp <;> omega) _ | refine Bel.step ?_ (by assumption)))⟩
          case measure => simp [intOf]; omega
        by_cases t3 : x.time < tm
        · clear HC1
          go_quiet (fail)
          go_wp2
          go_roundw
          case rel => exact ⟨m + 1, acc, _, sq, tm, by omega, by omega, by omega, rfl, rfl, rfl, by go_num, HI.out.skip hlt, owns_below HO.out (Bel.out (by repeat (first | exact Bel.refl _ | assumption | refine Bel.drew ?_ | refine Bel.drewN ?_ _ | refine Bel.alloc ?_ _ | refine Bel.setCell ?_ (by simp <;> omega) _ | refine Bel.step ?_ (by assumption)))), (by repeat (first | exact Bel.refl _ | assumption | refine Bel.drew ?_ | refine Bel.drewN ?_ _ | refine Bel.alloc ?_ _ | refine Bel.setCell ?_ (by simp <;> omega) _ | refine Bel.step ?_ (by assumption)))⟩
          case measure => simp [intOf]; omega
        by_cases t4 : x.time > 1099511627776
        · clear HC1
          go_quiet (fail)
          go_wp2
          go_roundw
          case rel => exact ⟨m + 1, acc, _, sq, tm, by omega, by omega, by omega, rfl, rfl, rfl, by go_num, HI.out.skip hlt, owns_below HO.out (Bel.out (by repeat (first | exact Bel.refl _ | assumption | refine Bel.drew ?_ | refine Bel.drewN ?_ _ | refine Bel.alloc ?_ _ | refine Bel.setCell ?_ (by simp <;> omega) _ | refine Bel.step ?_ (by assumption)))), (by repeat (first | exact Bel.refl _ | assumption | refine Bel.drew ?_ | refine Bel.drewN ?_ _ | refine Bel.alloc ?_ _ | refine Bel.setCell ?_ (by simp <;> omega) _ | refine Bel.step ?_ (by assumption)))⟩
          case measure => simp [intOf]; omega
        rcases Nat.eq_zero_or_pos acc.length with h5 | h5
        · obtain rfl := List.length_eq_zero_iff.1 h5
          clear h5 hacc
          by_cases t7 : x.row.length = 0
          · clear HC1
            go_quiet (fail)
            go_wp2
            go_roundw
            case rel => exact ⟨m + 1, [], _, sq, tm, by omega, by omega, by simp, rfl, rfl, rfl, by go_num, HI.out.skip hlt, owns_below HO.out (Bel.out (by repeat (first | exact Bel.refl _ | assumption | refine Bel.drew ?_ | refine Bel.drewN ?_ _ | refine Bel.alloc ?_ _ | refine Bel.setCell ?_ (by simp <;> omega) _ | refine Bel.step ?_ (by assumption)))), (by repeat (first | exact Bel.refl _ | assumption | refine Bel.drew ?_ | refine Bel.drewN ?_ _ | refine Bel.alloc ?_ _ | refine Bel.setCell ?_ (by simp <;> omega) _ | refine Bel.step ?_ (by assumption)))⟩
            case measure => simp [intOf]; omega
          · go_quiet (fail)
            revert nq; intro q1
            go_upto_region 8 with (fail)
            go_quiet (fail)
            revert nq; intro q2
            have HO2 : Hid (World.ownsRow (World.drewN (World.drewN w1 q1) q2) w.heap.size 40 3 (.slice a1 0 cap1) 0 (arC [])) := owns_below HO.out (Bel.out (by repeat (first | exact Bel.refl _ | assumption | refine Bel.drew ?_ | refine Bel.drewN ?_ _ | refine Bel.alloc ?_ _ | refine Bel.setCell ?_ (by simp <;> omega) _ | refine Bel.step ?_ (by assumption))))
            have HB2 : Hid (Bel w.heap.size w (World.drewN (World.drewN w1 q1) q2)) := (by repeat (first | exact Bel.refl _ | assumption | refine Bel.drew ?_ | refine Bel.drewN ?_ _ | refine Bel.alloc ?_ _ | refine Bel.setCell ?_ (by simp <;> omega) _ | refine Bel.step ?_ (by assumption)))
            have z0 : (World.drewN (World.drewN w1 q1) q2).cell? ⟨bx, 0, none⟩ = some (.int .i64 x.seq) := by go_simp
            have z1 : (World.drewN (World.drewN w1 q1) q2).cell? ⟨bx, 1, none⟩ = some (.int .i64 x.time) := by go_simp
            have z2 : (World.drewN (World.drewN w1 q1) q2).cell? ⟨bx, 2, none⟩ = some (.slice x.a x.row.length x.cap) := by go_simp
            clear HO HB y0 y1 y2 HC1
            generalize World.drewN (World.drewN w1 q1) q2 = w2 at *
            have HT := HI.out.take hlt (by simp) (by rw [hxe]; omega) (by rw [hxe]; omega) (by rw [hxe]; omega) (by rw [hxe]; omega) (Or.inl rfl) (by rw [hxe]; omega)
            rw [hxe] at HT
            have HTT : Hid _ := HT
            clear HT
            have hrow : Hid ((w2.alloc (.cells #[.int .i64 x.seq, .int .i64 x.time, .slice x.a x.row.length x.cap] 40)).ownsRow w.heap.size 40 3 (.slice a1 0 cap1) 0 (arC [])) := HO2.out.alloc _
            have hcel : Hid _ := arCells_new w2 x
            have hone : Hid (∀ u ∈ arC [x], u.oneCell' = true) := arC_one _
            have hnl : 0 + 1 ≤ maxLen := by unfold maxLen; omega
            have hby : (0 + 1) * 40 ≤ 140737488355328 := by omega
            have hbw2 : w.heap.size ≤ (w2.alloc (.cells #[.int .i64 x.seq, .int .i64 x.time, .slice x.a x.row.length x.cap] 40)).heap.size := by rw [World.size_alloc]; have := HB2.out.le; omega
            have hvl : Hid ((arC [x]).length = 1 * 3) := arC_len [x]
            go_wp2_with (at_builtin; refine wpList_append_own _ rfl _ _ 31 rfl w.heap.size 40 i0 (.agg #[.int .i64 0, .int .i64 0, .slice none 0 0]) 3 40 Tryd.underlying31 hi hz hs hb3 rfl (by decide) _ _ _ rfl hrow.out ⟨w2.heap.size, 0, none⟩ 1 1 (arC [x]) rfl hvl.out hcel.out hone.out hnl hby hbw2 ?_)
            intro v3 w3 hown3 hgrow3 hi3
            clear hi3
            have HO3 : Hid (w3.ownsRow w.heap.size 40 3 v3 ([x] : List Arv).length (arC ([x] : List Arv))) := by
              show World.ownsRow _ _ _ _ _ _ _
              exact hown3
            have hB3 : Bel w.heap.size w w3 := by
              have h2 := (HB2.out.alloc (.cells #[.int .i64 x.seq, .int .i64 x.time, .slice x.a x.row.length x.cap] 40)).out.grown hgrow3 hbw2 (fun j hj => (hrow.out.lt j hj).1)
              exact ⟨h2, h2.size⟩
            clear hown3 hgrow3 hrow hcel hone hvl z0 z1 z2 HO2 HB2
            go_wp2
            go_roundw
            case rel => exact ⟨m + 1, [x], v3, x.seq, x.time, by omega, by omega, by simp, rfl, rfl, rfl, by go_num, HTT.out, HO3.out, hB3⟩
            case measure => simp [intOf]; omega
        · obtain ⟨b1, off1, rfl, hc1⟩ : ∃ b1 off1, a1 = some ⟨b1, off1, none⟩ ∧ w1.cell? ⟨b1, off1 + 2, none⟩ = some (.slice (aAt acc 0).a (aAt acc 0).row.length (aAt acc 0).cap) := by
            rcases HC1.out with h | ⟨b1, off1, e, h⟩
            · rw [h] at h5; cases h5
            · refine ⟨b1, off1, e, ?_⟩
              have := (h 0 h5).2.2
              simpa using this
          cases t6 : ((x.row.length : Int) != ((aAt acc 0).row.length : Int))
          · by_cases t7 : x.row.length = 0
            · clear HC1
              rw [t7, show ((0 : Nat) : Int) = 0 from rfl] at t6
              go_quiet (fail)
              go_wp2
              go_roundw
              case rel => exact ⟨m + 1, acc, _, sq, tm, by omega, by omega, by omega, rfl, rfl, rfl, by go_num, HI.out.skip hlt, owns_below HO.out (Bel.out (by repeat (first | exact Bel.refl _ | assumption | refine Bel.drew ?_ | refine Bel.drewN ?_ _ | refine Bel.alloc ?_ _ | refine Bel.setCell ?_ (by simp <;> omega) _ | refine Bel.step ?_ (by assumption)))), (by repeat (first | exact Bel.refl _ | assumption | refine Bel.drew ?_ | refine Bel.drewN ?_ _ | refine Bel.alloc ?_ _ | refine Bel.setCell ?_ (by simp <;> omega) _ | refine Bel.step ?_ (by assumption)))⟩
              case measure => simp [intOf]; omega
            · have T6 : Hid (x.row.length = (aAt acc 0).row.length) := by
                show _ = _
                have := bne_eq_false_iff_eq.1 t6; omega
              go_quiet (fail)
              revert nq; intro q1
              clear t6
              go_upto_region 8 with (fail)
              go_quiet (fail)
              revert nq; intro q2
              have HO2 : Hid (World.ownsRow (World.drewN (World.drewN w1 q1) q2) w.heap.size 40 3 (.slice (some ⟨b1, off1, none⟩) acc.length cap1) acc.length (arC acc)) := owns_below HO.out (Bel.out (by repeat (first | exact Bel.refl _ | assumption | refine Bel.drew ?_ | refine Bel.drewN ?_ _ | refine Bel.alloc ?_ _ | refine Bel.setCell ?_ (by simp <;> omega) _ | refine Bel.step ?_ (by assumption))))
              have HB2 : Hid (Bel w.heap.size w (World.drewN (World.drewN w1 q1) q2)) := (by repeat (first | exact Bel.refl _ | assumption | refine Bel.drew ?_ | refine Bel.drewN ?_ _ | refine Bel.alloc ?_ _ | refine Bel.setCell ?_ (by simp <;> omega) _ | refine Bel.step ?_ (by assumption)))
              have z0 : (World.drewN (World.drewN w1 q1) q2).cell? ⟨bx, 0, none⟩ = some (.int .i64 x.seq) := by go_simp
              have z1 : (World.drewN (World.drewN w1 q1) q2).cell? ⟨bx, 1, none⟩ = some (.int .i64 x.time) := by go_simp
              have z2 : (World.drewN (World.drewN w1 q1) q2).cell? ⟨bx, 2, none⟩ = some (.slice x.a x.row.length x.cap) := by go_simp
              clear HO HB y0 y1 y2 HC1
              generalize World.drewN (World.drewN w1 q1) q2 = w2 at *
              have HT := HI.out.take hlt (by omega) (by rw [hxe]; omega) (by rw [hxe]; omega) (by rw [hxe]; omega) (by rw [hxe]; omega) (Or.inr (by rw [hxe]; exact T6.out)) (by rw [hxe]; omega)
              rw [hxe] at HT
              have HTT : Hid _ := HT
              clear HT
              have hrow : Hid ((w2.alloc (.cells #[.int .i64 x.seq, .int .i64 x.time, .slice x.a x.row.length x.cap] 40)).ownsRow w.heap.size 40 3 (.slice (some ⟨b1, off1, none⟩) acc.length cap1) acc.length (arC acc)) := HO2.out.alloc _
              have hcel : Hid _ := arCells_new w2 x
              have hone : Hid (∀ u ∈ arC [x], u.oneCell' = true) := arC_one _
              have hnl : acc.length + 1 ≤ maxLen := by unfold maxLen; omega
              have hby : (acc.length + 1) * 40 ≤ 140737488355328 := by omega
              have hbw2 : w.heap.size ≤ (w2.alloc (.cells #[.int .i64 x.seq, .int .i64 x.time, .slice x.a x.row.length x.cap] 40)).heap.size := by rw [World.size_alloc]; have := HB2.out.le; omega
              have hvl : Hid ((arC [x]).length = 1 * 3) := arC_len [x]
              generalize Value.slice (some ⟨b1, off1, none⟩) acc.length cap1 = v1 at hrow ⊢
              go_wp2_with (at_builtin; refine wpList_append_own _ rfl _ _ 31 rfl w.heap.size 40 i0 (.agg #[.int .i64 0, .int .i64 0, .slice none 0 0]) 3 40 Tryd.underlying31 hi hz hs hb3 rfl (by decide) _ _ _ rfl hrow.out ⟨w2.heap.size, 0, none⟩ 1 1 (arC [x]) rfl hvl.out hcel.out hone.out hnl hby hbw2 ?_)
              intro v3 w3 hown3 hgrow3 hi3
              clear hi3
              have HO3 : Hid (w3.ownsRow w.heap.size 40 3 v3 (acc ++ [x]).length (arC (acc ++ [x]))) := by
                show World.ownsRow _ _ _ _ _ _ _
                rw [arC_snoc, ← arC_single, List.length_append, List.length_singleton]; exact hown3
              have hB3 : Bel w.heap.size w w3 := by
                have h2 := (HB2.out.alloc (.cells #[.int .i64 x.seq, .int .i64 x.time, .slice x.a x.row.length x.cap] 40)).out.grown hgrow3 hbw2 (fun j hj => (hrow.out.lt j hj).1)
                exact ⟨h2, h2.size⟩
              clear hown3 hgrow3 hrow hcel hone hvl z0 z1 z2 HO2 HB2
              go_wp2
              go_roundw
              case rel => exact ⟨m + 1, acc ++ [x], v3, x.seq, x.time, by omega, by omega, by simp; omega, rfl, rfl, rfl, by go_num, HTT.out, HO3.out, hB3⟩
              case measure => simp [intOf]; omega
          · clear HC1
            go_quiet (fail)
            go_wp2
            go_roundw
            case rel => exact ⟨m + 1, acc, _, sq, tm, by omega, by omega, by omega, rfl, rfl, rfl, by go_num, HI.out.skip hlt, owns_below HO.out (Bel.out (by repeat (first | exact Bel.refl _ | assumption | refine Bel.drew ?_ | refine Bel.drewN ?_ _ | refine Bel.alloc ?_ _ | refine Bel.setCell ?_ (by simp <;> omega) _ | refine Bel.step ?_ (by assumption)))), (by repeat (first | exact Bel.refl _ | assumption | refine Bel.drew ?_ | refine Bel.drewN ?_ _ | refine Bel.alloc ?_ _ | refine Bel.setCell ?_ (by simp <;> omega) _ | refine Bel.step ?_ (by assumption)))⟩
            case measure => simp [intOf]; omega
      · have hfin : FitOk l acc sq tm := { HI.out with sub := HI.out.sub.trans (List.take_sublist _ _) }
        have HF : Hid _ := hfin
        clear hfin
        have ht := HF.out.tm0
        go_wp2
        all_goals go_ret2
        all_goals exact ⟨a1, cap1, acc, sq, tm, _, rfl, by omega, by omega, HF.out, HC.out, (Bel.out (by repeat (first | exact Bel.refl _ | assumption | refine Bel.drew ?_ | refine Bel.drewN ?_ _ | refine Bel.alloc ?_ _ | refine Bel.setCell ?_ (by simp <;> omega) _ | refine Bel.step ?_ (by assumption))))⟩
    · have hfin : FitOk l acc sq tm := { HI.out with sub := HI.out.sub.trans (List.take_sublist _ _) }
      have HF : Hid _ := hfin
      clear hfin
      have ht := HF.out.tm0
      go_wp2
      all_goals go_ret2
      all_goals exact ⟨a1, cap1, acc, sq, tm, _, rfl, by omega, by omega, HF.out, HC.out, (Bel.out (by repeat (first | exact Bel.refl _ | assumption | refine Bel.drew ?_ | refine Bel.drewN ?_ _ | refine Bel.alloc ?_ _ | refine Bel.setCell ?_ (by simp <;> omega) _ | refine Bel.step ?_ (by assumption))))⟩
end Go.Proofs.YtfjpdflilmcnhaaDoor
