/- The law ContentBounds, walked. -/
import Derived.Deep.RegionWith
import Derived.Deep.DeepCutAuto
import Derived.Test.YtfjpdflilmcnhaaDoorMgN
import Derived.Test.YtfjpdflilmcnhaaDoorFit
import Derived.Test.YtfjpdflilmcnhaaDoorMgG
import Derived.Test.YtfjpdflilmcnhaaDoorMgS
namespace Go.Proofs.YtfjpdflilmcnhaaDoor
open Go.ChangeShapes Go.WideShapes Go.ChangeAt Go.RowKit

theorem FitOk.tms {l o : List Arv} {sq tm : Int} (h : FitOk l o sq tm) : Tms o := by
  intro x hx
  obtain ⟨_, _, h1, h2, _, _⟩ := h.each x hx
  have := h.tm0
  refine ⟨h1, by omega, ?_⟩
  cases o with
  | nil => cases hx
  | cons y o =>
    rcases List.mem_cons.1 hx with rfl | hx
    · exact Int.le_refl _
    · exact (List.pairwise_cons.1 h.times).1 x hx
theorem FitOk.hd {l o : List Arv} {sq tm : Int} {w w' : World} {a la fa : Option Addr} {zs : List Int} (h : FitOk l o sq tm) (hA : ArsAt w la l) (hZ : NsAt w a zs) (hb : Below w.heap.size w w') (hc : CelsAt w' fa o)
    (hG : Rng l) (hR : Ranks w) (hw : ∀ x ∈ l, x.row.length * 32 ≤ 140737488355328) : HdOk w' a zs fa o :=
  ⟨⟨hc, fun x hx => (hA.rows x (h.sub.subset hx)).below hb⟩, hZ.below hb, h.len, h.tms, fun x hx => hG x (h.sub.subset hx), tabBelow hR hb, fun x hx => hw x (h.sub.subset hx)⟩
set_option maxRecDepth 20000 in
set_option maxHeartbeats 16000000 in
theorem bounds_walk (k n : Int) (a : Option Addr) (cap : Nat) (b : Bool) (zs : List Int) (la : Option Addr) (lc : Nat) (l : List Arv) (now : Int) (w : World) (hreach : zs.length * 8 ≤ 140737488351232) (hZ : NsAt w a zs) (hln : l.length ≤ 9223372036854775807) (hA : ArsAt w la l) (hw : ∀ x ∈ l, x.row.length * 32 ≤ 140737488355328) (hG : Rng l) (hR : Ranks w) :
    Calls Tryd.prog 5 #[vwV k n a zs.length cap b, .slice la l.length lc, .int .i64 now] w fun e w' => e = .returned (.bool true) ∧ Below w.heap.size w w' := by
  have hfit := fun wx (hb : Below w.heap.size w wx) => Fit_any la lc l now wx hln (hA.cels.below hb)
  have hone := fun fa fc o nw wy (hO : HdOk wy a zs fa o) => One_any k n a cap b fa fc nw zs o wy hreach hO
  have hchk := fun wx (hb : Below w.heap.size w wx) c => rCheck_any k n a cap b c zs wx (by omega) (hZ.below hb)
  have hawk := awake_any
  have HA : Hid (ArsAt w la l) := hA
  have HZ : Hid (NsAt w a zs) := hZ
  have HG : Hid (Rng l) := hG
  have HR : Hid (Ranks w) := hR
  have HW : Hid (∀ x ∈ l, x.row.length * 32 ≤ 140737488355328) := hw
  clear hA hZ hw hG hR
  obtain ⟨zn, hzn⟩ : ∃ zn, zs.length = zn := ⟨_, rfl⟩
  simp only [hzn] at hone hchk hreach ⊢
  have HN : Hid (zs.length = zn) := hzn
  clear hzn
  unfold vwV at hone hchk ⊢
  go_enter Tryd.func5, Tryd.ntmps5
  go_wp2_with fail
  refine (hfit _ (Bel.out (by repeat (first | exact Bel.refl _ | assumption | refine Bel.drew ?_ | refine Bel.drewN ?_ _ | refine Bel.alloc ?_ _ | refine Bel.setCell ?_ (by simp <;> omega) _ | refine Bel.step ?_ (by assumption))))).mono ?_
  rintro e w1 ⟨fa, fc, L, sq, tm, nw, rfl, h1, h2, hok, hcel, hb1⟩
  have HOK : Hid (FitOk l L sq tm) := hok
  have HCE : Hid (CelsAt w1 fa L) := hcel
  have hL : L.length ≤ 200 := hok.len
  clear hok hcel hfit
  have x0 := cell_below hb1 (show World.cell? (w.alloc (.cells #[.int .i64 k, .int .i64 n, .slice a zn cap, .bool b] 24)) ⟨w.heap.size, 0, none⟩ = some (.int .i64 k) by go_simp)
  have x1 := cell_below hb1 (show World.cell? (w.alloc (.cells #[.int .i64 k, .int .i64 n, .slice a zn cap, .bool b] 24)) ⟨w.heap.size, 1, none⟩ = some (.int .i64 n) by go_simp)
  have x2 := cell_below hb1 (show World.cell? (w.alloc (.cells #[.int .i64 k, .int .i64 n, .slice a zn cap, .bool b] 24)) ⟨w.heap.size, 2, none⟩ = some (.slice a zn cap) by go_simp)
  have x3 := cell_below hb1 (show World.cell? (w.alloc (.cells #[.int .i64 k, .int .i64 n, .slice a zn cap, .bool b] 24)) ⟨w.heap.size, 3, none⟩ = some (.bool b) by go_simp)
  have hb0 : Below w.heap.size w (w.alloc (.cells #[.int .i64 k, .int .i64 n, .slice a zn cap, .bool b] 24)) := (Below.refl _ _).alloc (Nat.le_refl _) _
  have hbw1 : Below w.heap.size w w1 := hb0.trans (hb1.mono (by simp))
  have HO : Hid (HdOk w1 a zs fa L) := HOK.out.hd (HA.out.below hb0) (HZ.out.below hb0) hb1 HCE.out HG.out (tabBelow HR.out hb0) HW.out
  go_wp2_with fail
  refine (hone fa fc L nw w1 HO.out).mono ?_
  rintro e w2 ⟨oa, o, rfl, ho, hoA, hb2⟩
  have hbw2 : Below w.heap.size w w2 := hbw1.trans (hb2.mono hbw1.size)
  have y0 := cell_below hb2 x0
  have y1 := cell_below hb2 x1
  have y2 := cell_below hb2 x2
  have y3 := cell_below hb2 x3
  have hol : o.length = (hlP k n zs b L nw).length := by
    have := congrArg List.length ho
    simpa using this
  have HOL : Hid (o.length = (hlP k n zs b L nw).length) := hol
  have HKA : Hid (o.map kA = (hlP k n zs b L nw).map (fun p => kA (aAt L p))) := ho
  have HOA : Hid (ArsAt w2 oa o) := hoA
  clear hone ho hoA hb1 x0 x1 x2 x3
  by_cases h0 : L.length = 0
  · have ho0 : o.length = 0 := by
      rw [hol]; unfold hlP; rw [if_neg (by omega)]; rfl
    rw [h0, ho0]
    clear hol
    go_upto_region 3 with fail
    go_quiet (fail)
    go_wp2_with (go_at_call 9; refine (hawk _).mono ?_; rintro e w4 ⟨rfl, hb4⟩)
    go_ret
    exact ⟨rfl, (Bel.out (by repeat (first | exact Bel.refl _ | assumption | refine Bel.drew ?_ | refine Bel.drewN ?_ _ | refine Bel.alloc ?_ _ | refine Bel.setCell ?_ (by simp <;> omega) _ | refine Bel.step ?_ (by assumption))))⟩
  · clear hol
    obtain ⟨fb, fo, rfl, hcl⟩ : ∃ fb fo, fa = some ⟨fb, fo, none⟩ ∧ ∀ i, i < L.length → w1.cell? ⟨fb, fo + i * 3, none⟩ = some (.int .i64 (aAt L i).seq) ∧ w1.cell? ⟨fb, fo + i * 3 + 1, none⟩ = some (.int .i64 (aAt L i).time) ∧ w1.cell? ⟨fb, fo + i * 3 + 2, none⟩ = some (.slice (aAt L i).a (aAt L i).row.length (aAt L i).cap) := by
      rcases HCE.out with h | ⟨b, off, h1, h2⟩
      · exact absurd (by rw [h]; rfl) h0
      · exact ⟨b, off, h1, h2⟩
    have z2 : w2.cell? ⟨fb, fo + 2, none⟩ = some (.slice (aAt L 0).a (aAt L 0).row.length (aAt L 0).cap) := by
      have := cell_below hb2 (hcl 0 (by omega)).2.2
      rwa [Nat.zero_mul, Nat.add_zero] at this
    have f0 : ((L.length : Int) == 0) = false := beq_eq_false_iff_ne.2 (by omega)
    have hLp : 0 < L.length := by omega
    cases hm : mayB k n zs b ((aAt L 0).row.length : Nat)
    · have ho0 : o.length = 0 := by
        rw [HOL.out]; unfold hlP; rw [if_neg (by rw [hm]; simp)]; rfl
      have hc1 := fun wx (hb : Below w.heap.size w wx) => hchk wx hb ((aAt L 0).row.length : Nat)
      rw [hm] at hc1
      have e150 : ckE false = 150 := rfl
      rw [e150] at hc1
      rw [ho0]
      clear hm hchk hcl h0
      generalize (aAt L 0).row.length = C at *
      go_upto_region 3 with fail
      go_cut [34] (fun v w' => v = .bool true ∧ Below w2.heap.size w2 w')
      case first =>
        go_region_with (go_at_call 8; refine (hc1 _ (Bel.out (by repeat (first | exact Bel.refl _ | assumption | refine Bel.drew ?_ | refine Bel.drewN ?_ _ | refine Bel.alloc ?_ _ | refine Bel.setCell ?_ (by simp <;> omega) _ | refine Bel.step ?_ (by assumption))))).mono ?_; rintro e w3 ⟨rfl, hb3⟩)
        all_goals (go_wp2_with fail; go_meet; exact ⟨rfl, Bel.out (by repeat (first | exact Bel.refl _ | assumption | refine Bel.drew ?_ | refine Bel.step ?_ (by assumption)))⟩)
      case rest =>
        obtain ⟨rfl, hb3⟩ := hcut
        have hbw3 : Below w.heap.size w wc := hbw2.trans (hb3.mono hbw2.size)
        go_wp2_with (go_at_call 9; refine (hawk _).mono ?_; rintro e w4 ⟨rfl, hb4⟩)
        go_ret
        exact ⟨rfl, (Bel.out (by repeat (first | exact Bel.refl _ | assumption | refine Bel.drew ?_ | refine Bel.drewN ?_ _ | refine Bel.alloc ?_ _ | refine Bel.setCell ?_ (by simp <;> omega) _ | refine Bel.step ?_ (by assumption))))⟩
    · have hps : hlP k n zs b L nw = hdC (clsI k) n zs b L nw := by unfold hlP; rw [if_pos ⟨hLp, hm⟩]
      have hk : k = 1 ∨ k = 2 ∨ k = 3 ∨ k = 4 ∨ k = 5 ∨ k = 6 ∨ k = 7 ∨ k = 8 ∨ k = 9 := by
        by_cases h : k < 1 ∨ 9 < k
        · rw [mayB_no h] at hm; cases hm
        · omega
      have hc1 := fun wx (hb : Below w.heap.size w wx) => hchk wx hb ((aAt L 0).row.length : Nat)
      rw [hm] at hc1
      have e0 : ckE true = 0 := rfl
      rw [e0] at hc1
      have HOL2 : Hid (o.length = (hdC (clsI k) n zs b L nw).length) := by
        have := HOL.out; rw [hps] at this; exact this
      have HKA2 : Hid (o.map kA = (hdC (clsI k) n zs b L nw).map (fun p => kA (aAt L p))) := by
        have := HKA.out; rw [hps] at this; exact this
      have HM : Hid (evB (kM (clsI k)) n zs b ((aAt L 0).row.length : Nat) = true) := hm
      clear hm hchk hps HOL HKA
      have HCL : Hid _ := hcl
      clear hcl
      have HAT : Hid (∃ C, (aAt L 0).row.length = C) := ⟨_, rfl⟩
      generalize hC : (aAt L 0).row.length = C at z2 hc1
      clear hC
      go_upto_region 3 with fail
      go_cut [34] (fun v w' => v = .bool false ∧ Below w2.heap.size w2 w')
      case first =>
        go_region_with (go_at_call 8; refine (hc1 _ (Bel.out (by repeat (first | exact Bel.refl _ | assumption | refine Bel.drew ?_ | refine Bel.drewN ?_ _ | refine Bel.alloc ?_ _ | refine Bel.setCell ?_ (by simp <;> omega) _ | refine Bel.step ?_ (by assumption))))).mono ?_; rintro e w3 ⟨rfl, hb3⟩)
        all_goals (go_wp2_with fail; go_meet; exact ⟨rfl, Bel.out (by repeat (first | exact Bel.refl _ | assumption | refine Bel.drew ?_ | refine Bel.step ?_ (by assumption)))⟩)
      case rest =>
        obtain ⟨rfl, hb3⟩ := hcut
        have hbw3 : Below w.heap.size w wc := hbw2.trans (hb3.mono hbw2.size)
        have c0 := cell_below hb3 y0
        have c1 := cell_below hb3 y1
        have c2 := cell_below hb3 y2
        clear hc1 z2 y0 y1 y2 y3
        rcases hk with rfl | rfl | rfl | rfl | rfl | rfl | rfl | rfl | rfl
        · go_wp2_with (go_at_call 9; refine (hawk _).mono ?_; rintro e w4 ⟨rfl, hb4⟩)
          go_ret
          exact ⟨rfl, (Bel.out (by repeat (first | exact Bel.refl _ | assumption | refine Bel.drew ?_ | refine Bel.drewN ?_ _ | refine Bel.alloc ?_ _ | refine Bel.setCell ?_ (by simp <;> omega) _ | refine Bel.step ?_ (by assumption))))⟩
        · have hn : 1 ≤ n ∧ n ≤ 65536 := by
            have : (utB n 65536 && plB zs.length b) = true := HM.out
            unfold utB at this; simp at this; omega
          have hlen : o.length = L.length - (L.length - n.toNat) := by
            have h := HOL2.out
            rw [show hdC (clsI 2) n zs b L nw = List.range' (L.length - n.toNat) (L.length - (L.length - n.toNat)) from rfl, List.length_range'] at h
            exact h
          have e1 : (o.length : Int) ≤ n := by omega
          have e2 : min n (L.length : Int) = (o.length : Int) := by omega
          go_wp2_with (go_at_call 9; refine (hawk _).mono ?_; rintro e w4 ⟨rfl, hb4⟩)
          go_ret
          exact ⟨rfl, (Bel.out (by repeat (first | exact Bel.refl _ | assumption | refine Bel.drew ?_ | refine Bel.drewN ?_ _ | refine Bel.alloc ?_ _ | refine Bel.setCell ?_ (by simp <;> omega) _ | refine Bel.step ?_ (by assumption))))⟩
        · go_wp2_with (go_at_call 9; refine (hawk _).mono ?_; rintro e w4 ⟨rfl, hb4⟩)
          go_ret
          exact ⟨rfl, (Bel.out (by repeat (first | exact Bel.refl _ | assumption | refine Bel.drew ?_ | refine Bel.drewN ?_ _ | refine Bel.alloc ?_ _ | refine Bel.setCell ?_ (by simp <;> omega) _ | refine Bel.step ?_ (by assumption))))⟩
        · have hn : 1 ≤ n ∧ n ≤ 65536 := by
            have : (utB n 65536 && plB zs.length b) = true := HM.out
            unfold utB at this; simp at this; omega
          have hlen : o.length = L.length / n.toNat * n.toNat - (L.length / n.toNat * n.toNat - n.toNat) := by
            have h := HOL2.out
            rw [show hdC (clsI 4) n zs b L nw = List.range' (L.length / n.toNat * n.toNat - n.toNat) (L.length / n.toNat * n.toNat - (L.length / n.toNat * n.toNat - n.toNat)) from rfl, List.length_range'] at h
            exact h
          have e1 : (o.length : Int) ≤ n := by
            generalize L.length / n.toNat * n.toNat = q at hlen
            omega
          clear hlen
          go_wp2_with (go_at_call 9; refine (hawk _).mono ?_; rintro e w4 ⟨rfl, hb4⟩)
          go_ret
          exact ⟨rfl, (Bel.out (by repeat (first | exact Bel.refl _ | assumption | refine Bel.drew ?_ | refine Bel.drewN ?_ _ | refine Bel.alloc ?_ _ | refine Bel.setCell ?_ (by simp <;> omega) _ | refine Bel.step ?_ (by assumption))))⟩
        · go_wp2_with (go_at_call 9; refine (hawk _).mono ?_; rintro e w4 ⟨rfl, hb4⟩)
          go_ret
          exact ⟨rfl, (Bel.out (by repeat (first | exact Bel.refl _ | assumption | refine Bel.drew ?_ | refine Bel.drewN ?_ _ | refine Bel.alloc ?_ _ | refine Bel.setCell ?_ (by simp <;> omega) _ | refine Bel.step ?_ (by assumption))))⟩
        · have hlen : o.length = (ueP (fun i => keyP (aAt L i).row zs) L.length).length := HOL2.out
          have hN1 : 1 ≤ o.length := by rw [hlen]; exact ueP_pos _ hLp
          have hN2 : o.length ≤ 200 := by rw [hlen]; exact Nat.le_trans (ueP_len _ _) hL
          have hka : ∀ i, i < o.length → (aAt o i).row = (aAt L ((ueP (fun i => keyP (aAt L i).row zs) L.length).getD i 0)).row ∧ (ueP (fun i => keyP (aAt L i).row zs) L.length).getD i 0 < L.length := by
            intro i hi
            have h := HKA2.out
            have h1 := congrArg (fun (q : List (Int × Int × List Val)) => q[i]?) h
            simp only [List.getElem?_map] at h1
            have hi2 : i < (ueP (fun i => keyP (aAt L i).row zs) L.length).length := by omega
            rw [List.getElem?_eq_getElem hi, show hdC (clsI 6) n zs b L nw = ueP (fun i => keyP (aAt L i).row zs) L.length from rfl, List.getElem?_eq_getElem hi2] at h1
            simp only [Option.map_some, Option.some.injEq, kA, Prod.mk.injEq] at h1
            refine ⟨?_, ?_⟩
            · rw [aAt_lt hi, List.getD_eq_getElem?_getD, List.getElem?_eq_getElem hi2]
              exact h1.2.2
            · rw [List.getD_eq_getElem?_getD, List.getElem?_eq_getElem hi2]
              have := (List.mem_filter.1 (List.getElem_mem hi2)).1
              simpa using this
          have HDIF : Hid (∀ i j, j < i → i < o.length → smU (colV (aAt o i).row zs) (colV (aAt o j).row zs) zs.length = false) := by
            intro i j hij hi
            cases hsm : smU (colV (aAt o i).row zs) (colV (aAt o j).row zs) zs.length
            · rfl
            · have := smU_key hsm
              rw [(hka i hi).1, (hka j (by omega)).1] at this
              exact absurd this (ue_differ (key := fun i => keyP (aAt L i).row zs) (n := L.length) hij (by omega))
          have hz : arB zs ((aAt L 0).row.length : Nat) = true := by
            have : (((n == 0) && !b) && arB zs ((aAt L 0).row.length : Nat)) = true := HM.out
            simp at this; exact this.2
          obtain ⟨z1, z2, z3⟩ := arB_facts hz
          obtain ⟨zb, zo, rfl, hzc⟩ : ∃ zb zo, a = some ⟨zb, zo, none⟩ ∧ ∀ i, i < zs.length → w.cell? ⟨zb, zo + i, none⟩ = some (.int .i64 (zs[i]?.getD 0)) := by
            rcases HZ.out with h | h
            · rw [h] at z1; exact absurd z1 (by simp)
            · exact h
          obtain ⟨ob, oo, rfl, hoc⟩ : ∃ ob oo, oa = some ⟨ob, oo, none⟩ ∧ ∀ i, i < o.length → w2.cell? ⟨ob, oo + i * 3, none⟩ = some (.int .i64 (aAt o i).seq) ∧ w2.cell? ⟨ob, oo + i * 3 + 1, none⟩ = some (.int .i64 (aAt o i).time) ∧ w2.cell? ⟨ob, oo + i * 3 + 2, none⟩ = some (.slice (aAt o i).a (aAt o i).row.length (aAt o i).cap) := by
            rcases HOA.out.cels with h | h
            · rw [h] at hN1; exact absurd hN1 (by simp)
            · exact h
          have hrl : ∀ i, i < o.length → (aAt o i).row.length = (aAt L 0).row.length := by
            intro i hi
            obtain ⟨h1, h2⟩ := hka i hi
            rw [h1]
            exact (HOK.out.each _ (aAt_mem h2)).2.2.2.2.2
          obtain ⟨C, hC⟩ : ∃ C, (aAt L 0).row.length = C := ⟨_, rfl⟩
          rw [hC] at z2 z3 hrl
          have hrw : ∀ i, i < o.length → ∃ rb ro, (aAt o i).a = some ⟨rb, ro, none⟩ ∧ ∀ c, c < C → w2.cell? ⟨rb, ro + c * 3, none⟩ = some (.int .i64 (vAt (aAt o i).row c).1) ∧ w2.cell? ⟨rb, ro + c * 3 + 1, none⟩ = some (.int .i64 (vAt (aAt o i).row c).2.1) ∧ w2.cell? ⟨rb, ro + c * 3 + 2, none⟩ = some (.string (vAt (aAt o i).row c).2.2) := by
            intro i hi
            have h := HOA.out.rows (aAt o i) (aAt_mem hi)
            rcases h with h | ⟨rb, ro, h1, h2⟩
            · have := hrl i hi; omega
            · exact ⟨rb, ro, h1, fun c hc => h2 c (by rw [hrl i hi]; exact hc)⟩
          have HOC : Hid _ := hoc
          have HRW : Hid _ := hrw
          have HZC : Hid _ := hzc
          have HZ3 : Hid _ := z3
          have HRL : Hid _ := hrl

          clear hka hoc hrw hzc z3 hrl hlen hz hC
          generalize hNo : o.length = N at *
          have HBX : Hid (wc.cell? ⟨w.heap.size, 2, none⟩ = some (.slice (some ⟨zb, zo, none⟩) zn cap)) := c2
          have HB3 : Hid (Below w2.heap.size w2 wc) := hb3
          have HBW : Hid (Below w.heap.size w wc) := hbw3
          clear c1 c2
          go_wp2_with fail
          go_loopw [8] (fun iv wr => ∃ m : Nat, m ≤ N ∧ iv = .int .i64 m ∧ Bel wc.heap.size wc wr) (fun iv _ => N - (intOf iv).toNat)
          case atStart => exact ⟨0, Nat.zero_le _, rfl, Bel.refl _⟩
          case round =>
            obtain ⟨m, hm, rfl, HB⟩ := hrel
            rcases Nat.lt_or_ge m N with hlt | hge
            · have v1 : (m : Int) < N := by omega
              go_wp2_with fail
              go_loopw [9] (fun kv wq => ∃ q : Nat, q ≤ m ∧ kv = .int .i64 q ∧ Bel wc.heap.size wc wq) (fun kv _ => m - (intOf kv).toNat)
              case atStart => exact ⟨0, Nat.zero_le _, rfl, (by repeat (first | exact Bel.refl _ | assumption | refine Bel.drew ?_ | refine Bel.drewN ?_ _ | refine Bel.alloc ?_ _ | refine Bel.setCell ?_ (by simp <;> omega) _ | refine Bel.step ?_ (by assumption)))⟩
              case round =>
                obtain ⟨q, hq, rfl, HB2⟩ := hrel
                rcases Nat.lt_or_ge q m with hlq | hgq
                · have v2 : (q : Int) < m := by omega
                  have v3 : (q : Int) < N := by omega
                  go_wp2_with fail
                  go_loopw [10, 11] (fun sv jv wj => ∃ r : Nat, r ≤ zn ∧ sv = .bool (smU (colV (aAt o m).row zs) (colV (aAt o q).row zs) r) ∧ jv = .int .i64 r ∧ Bel wc.heap.size wc wj) (fun _ jv _ => zn - (intOf jv).toNat)
                  case atStart => exact ⟨0, Nat.zero_le _, rfl, rfl, (by repeat (first | exact Bel.refl _ | assumption | refine Bel.drew ?_ | refine Bel.drewN ?_ _ | refine Bel.alloc ?_ _ | refine Bel.setCell ?_ (by simp <;> omega) _ | refine Bel.step ?_ (by assumption)))⟩
                  case round =>
                    obtain ⟨r, hr, rfl, rfl, HB4⟩ := hrel
                    have b2 := cell_below HB4.out HBX.out
                    rcases Nat.lt_or_ge r zn with hlr | hgr
                    · have v4 : (r : Int) < zn := by omega
                      cases hsm : smU (colV (aAt o m).row zs) (colV (aAt o q).row zs) r
                      · have HS : Hid (smU (colV (aAt o m).row zs) (colV (aAt o q).row zs) (r + 1) = false) := by
                          show _ = _
                          rw [smU, hsm]; rfl
                        clear hsm
                        go_wp2_with fail
                        go_quiet (fail)
                        go_wp2_with fail
                        go_roundw
                        case rel => exact ⟨r + 1, by omega, by rw [HS.out], by go_num, (by repeat (first | exact Bel.refl _ | assumption | refine Bel.drew ?_ | refine Bel.drewN ?_ _ | refine Bel.alloc ?_ _ | refine Bel.setCell ?_ (by simp <;> omega) _ | refine Bel.step ?_ (by assumption)))⟩
                        case measure => simp [intOf]; omega
                      · have HS : Hid (smU (colV (aAt o m).row zs) (colV (aAt o q).row zs) (r + 1) = eqVv (colV (aAt o m).row zs r) (colV (aAt o q).row zs r)) := by
                          show _ = _
                          rw [smU, hsm]; rfl
                        clear hsm
                        obtain ⟨rb, ro, ra, rc⟩ := HRW.out m (by omega)
                        obtain ⟨sb, so, sa, sc⟩ := HRW.out q (by omega)
                        have hzn := HN.out
                        have hzr := HZ3.out (zs.getD r 0) (by rw [List.getD_eq_getElem?_getD, List.getElem?_eq_getElem (by omega)]; exact List.getElem_mem _)
                        obtain ⟨col, hcol⟩ : ∃ col : Nat, zs.getD r 0 = col := ⟨(zs.getD r 0).toNat, by omega⟩
                        have hcC : col < C := by omega
                        have hw2 : Below w2.heap.size w2 wr := HB3.out.trans (HB4.out.mono HB3.out.size)
                        have k1 := cell_below hw2 (HOC.out m (by omega)).2.2
                        have k2 := cell_below hw2 (HOC.out q (by omega)).2.2
                        rw [ra, HRL.out m (by omega)] at k1
                        rw [sa, HRL.out q (by omega)] at k2
                        have k3 := cell_below (HBW.out.trans (HB4.out.mono HBW.out.size)) (HZC.out r (by omega))
                        rw [← List.getD_eq_getElem?_getD, hcol] at k3
                        obtain ⟨m0, m1, m2⟩ := rc col hcC
                        obtain ⟨n0, n1, n2⟩ := sc col hcC
                        have p0 := cell_below hw2 m0
                        have p1 := cell_below hw2 m1
                        have p2 := cell_below hw2 m2
                        have q0 := cell_below hw2 n0
                        have q1 := cell_below hw2 n1
                        have q2 := cell_below hw2 n2
                        have v5 : (col : Int) < C := by omega
                        have hg := hg46
                        obtain ⟨p, hp⟩ : ∃ p, eqVv (vAt (aAt o m).row col) (vAt (aAt o q).row col) = p := ⟨_, rfl⟩
                        have hq : ∀ wx : World, (binOp .eql 46 (.agg #[.int .i64 (vAt (aAt o m).row col).1, .int .i64 (vAt (aAt o m).row col).2.1, .string (vAt (aAt o m).row col).2.2]) (.agg #[.int .i64 (vAt (aAt o q).row col).1, .int .i64 (vAt (aAt o q).row col).2.1, .string (vAt (aAt o q).row col).2.2])).run Tryd.prog wx = .ok (.bool p) wx := fun wx => by rw [eq46, ← hp]; rfl
                        have HS2 : Hid (smU (colV (aAt o m).row zs) (colV (aAt o q).row zs) (r + 1) = p) := by
                          show _ = _
                          rw [HS.out, ← hp]; unfold colV; rw [hcol]; rfl
                        clear rc sc m0 m1 m2 n0 n1 n2 hzr hp ra sa hzn
                        go_wp2_with fail
                        go_quiet (fail)
                        go_wp2_with fail
                        go_roundw
                        case rel => exact ⟨r + 1, by omega, by rw [HS2.out], by go_num, (by repeat (first | exact Bel.refl _ | assumption | refine Bel.drew ?_ | refine Bel.drewN ?_ _ | refine Bel.alloc ?_ _ | refine Bel.setCell ?_ (by simp <;> omega) _ | refine Bel.step ?_ (by assumption)))⟩
                        case measure => simp [intOf]; omega
                    · obtain rfl : r = zn := by omega
                      have hsf := HDIF.out m q hlq (by omega)
                      rw [HN.out] at hsf
                      rw [hsf]
                      clear hsf
                      go_wp2_with fail
                      go_roundw
                      case rel => exact ⟨q + 1, by omega, by go_num, (by repeat (first | exact Bel.refl _ | assumption | refine Bel.drew ?_ | refine Bel.drewN ?_ _ | refine Bel.alloc ?_ _ | refine Bel.setCell ?_ (by simp <;> omega) _ | refine Bel.step ?_ (by assumption)))⟩
                      case measure => simp [intOf]; omega
                · have v2 : ¬ ((q : Int) < m) := by omega
                  go_wp2_with fail
                  go_roundw
                  case rel => exact ⟨m + 1, by omega, by go_num, (by repeat (first | exact Bel.refl _ | assumption | refine Bel.drew ?_ | refine Bel.drewN ?_ _ | refine Bel.alloc ?_ _ | refine Bel.setCell ?_ (by simp <;> omega) _ | refine Bel.step ?_ (by assumption)))⟩
                  case measure => simp [intOf]; omega
            · have v1 : ¬ ((m : Int) < N) := by omega
              have v2 : (1 : Int) ≤ N := by omega
              go_wp2_with (go_at_call 9; refine (hawk _).mono ?_; rintro e w4 ⟨rfl, hb4⟩)
              go_ret
              have hbf : Below wc.heap.size wc w4 := (Bel.out (by repeat (first | exact Bel.refl _ | assumption | refine Bel.drew ?_ | refine Bel.drewN ?_ _ | refine Bel.alloc ?_ _ | refine Bel.setCell ?_ (by simp <;> omega) _ | refine Bel.step ?_ (by assumption))))
              exact ⟨rfl, HBW.out.trans (hbf.mono HBW.out.size)⟩
        · have hn : 1 ≤ n ∧ n ≤ 65536 := by
            have : ((utB n 65536 && ((zs.length : Int) == 1)) && arB zs ((aAt L 0).row.length : Nat)) = true := HM.out
            unfold utB at this; simp at this
            omega
          have hlen : o.length = min n.toNat L.length := by
            have h := HOL2.out
            rw [show hdC (clsI 7) n zs b L nw = ksP n L (zs.getD 0 0).toNat b from rfl, ks_len] at h
            exact h
          have e1 : (o.length : Int) ≤ n := by omega
          have e2 : min n (L.length : Int) = (o.length : Int) := by omega
          clear hlen
          go_wp2_with (go_at_call 9; refine (hawk _).mono ?_; rintro e w4 ⟨rfl, hb4⟩)
          go_ret
          exact ⟨rfl, (Bel.out (by repeat (first | exact Bel.refl _ | assumption | refine Bel.drew ?_ | refine Bel.drewN ?_ _ | refine Bel.alloc ?_ _ | refine Bel.setCell ?_ (by simp <;> omega) _ | refine Bel.step ?_ (by assumption))))⟩
        · have e1 : o.length = 1 := HOL2.out
          rw [e1]
          go_wp2_with (go_at_call 9; refine (hawk _).mono ?_; rintro e w4 ⟨rfl, hb4⟩)
          go_ret
          exact ⟨rfl, (Bel.out (by repeat (first | exact Bel.refl _ | assumption | refine Bel.drew ?_ | refine Bel.drewN ?_ _ | refine Bel.alloc ?_ _ | refine Bel.setCell ?_ (by simp <;> omega) _ | refine Bel.step ?_ (by assumption))))⟩
        · have e1 : o.length = 1 := HOL2.out
          rw [e1]
          go_wp2_with (go_at_call 9; refine (hawk _).mono ?_; rintro e w4 ⟨rfl, hb4⟩)
          go_ret
          exact ⟨rfl, (Bel.out (by repeat (first | exact Bel.refl _ | assumption | refine Bel.drew ?_ | refine Bel.drewN ?_ _ | refine Bel.alloc ?_ _ | refine Bel.setCell ?_ (by simp <;> omega) _ | refine Bel.step ?_ (by assumption))))⟩
end Go.Proofs.YtfjpdflilmcnhaaDoor
