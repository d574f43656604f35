/- The fields of a schema: the document's. -/
import Derived.Test.YtemfgdhcmeimoaaGreatDoorFls
import Derived.Deep.AppendLies
namespace Go.Proofs.YtemfgdhcmeimoaaGreatDoor
open Go.ChangeShapes Go.WideShapes Go.ChangeAt Go.RowKit
set_option linter.unusedSimpArgs false
set_option maxRecDepth 20000
set_option maxHeartbeats 4000000

theorem rfields_any (nm sn : ByteArray) (r : List Cl) (a : Option Addr) (cap : Nat) (w : World) (hr : CsAt w a r) (hl : r.length ≤ 1099511627776) :
    Calls Tryz.prog 5 #[.agg #[.string nm, .slice a r.length cap], .string sn] w (FlPost sn r w) := by
  obtain ⟨i0, hi, hz0⟩ := Option.map_eq_some_iff.1 info28
  simp only [Prod.mk.injEq] at hz0
  obtain ⟨hz, hs, hb3⟩ := hz0
  have HR : Hid (CsAt w a r) := hr
  have HL : Hid (r.length ≤ 1099511627776) := hl
  have HFL : Hid ((fdsF sn r).length = r.length) := by show _ = _; unfold fdsF; rw [List.length_map]
  clear hr hl
  obtain ⟨n, hn⟩ : ∃ n, r.length = n := ⟨_, rfl⟩
  have HN : Hid (r.length = n) := hn
  have HPV : Hid (∀ e w', (∃ a cap, e = .returned (.slice a n cap) ∧ FsAt w' a (fdsF sn r)) ∧ Below w.heap.size w w' → FlPost sn r w e w') := fun e w' h => by unfold FlPost; rw [hn]; exact h
  rw [hn]
  clear hn
  go_enter Tryz.func5, Tryz.ntmps5
  go_upto_region 2 with (fail)
  have hB : Below w.heap.size w (w.alloc (.cells #[.string nm, .slice a n cap] 24)) := (Below.refl _ _).alloc (Nat.le_refl _) _
  have y1 : (w.alloc (.cells #[.string nm, .slice a n cap] 24)).cell? ⟨w.heap.size, 1, none⟩ = some (.slice a n cap) := (World.cell?_alloc_mark w #[.string nm, .slice a n cap] 24 (0, 0) 1).trans rfl
  have HB : Hid (Bel w.heap.size w (w.alloc (.cells #[.string nm, .slice a n cap] 24))) := Bel.of hB
  obtain ⟨bx, hbx⟩ : ∃ bx, w.heap.size = bx := ⟨_, rfl⟩
  rw [hbx] at y1
  rw [hbx]
  clear hB hbx
  generalize (w.alloc (.cells #[.string nm, .slice a n cap] 24)) = w1 at *
  have HY1 : Hid (w1.cell? ⟨bx, 1, none⟩ = some (.slice a n cap)) := y1
  clear y1
  go_wp2
  go_loopw [5, 6] (fun x y wr => ∃ (m : Nat) (v1 : Value), x = v1 ∧ y = .int .i64 m ∧ m ≤ n ∧ wr.ownsRow w1.heap.size 28 3 v1 m (rfC ((fdsF sn r).take m)) ∧ Bel w1.heap.size w1 wr) (fun _ y _ => n - (intOf y).toNat)
  case atStart => exact ⟨0, _, rfl, rfl, Nat.zero_le _, World.ownsRow_nil _ _ _ _, Bel.refl _⟩
  case round =>
    obtain ⟨m, v1, hy1, rfl, hm, hO, hBL⟩ := hrel
    have hy2 := hy1.symm
    clear hy1
    subst hy2
    have HO : Hid (wr.ownsRow w1.heap.size 28 3 v1 m (rfC ((fdsF sn r).take m))) := hO
    have HBL : Hid (Bel w1.heap.size w1 wr) := hBL
    have hnb : n ≤ 1099511627776 := by have := HN.out; have := HL.out; omega
    have z1 := cell_bel HBL.out.out HY1.out
    clear hO hBL
    rcases Nat.lt_or_ge m n with hlt | hge
    · have hlr : m < r.length := by have := HN.out; omega
      obtain ⟨c, hc⟩ : ∃ c, r[m]? = some c := ⟨_, List.getElem?_eq_getElem hlr⟩
      rcases HR.out.below HB.out.out with h0 | ⟨b, off, rfl, hcs⟩
      · rw [h0] at hlr; simp at hlr
      obtain ⟨c0, c1⟩ := hcs m _ hc
      have HT : Hid _ := fds_take (sn := sn) hc
      clear hcs hc hlr
      obtain ⟨k1, k2⟩ := c
      dsimp only at c0 c1 HT
      go_upto_region 5 with (fail)
      clear z1
      have y1 := HY1.out
      refine wp_region_held_drew (S := (fun wS => Bel w1.heap.size w1 wS)) (by kernel_rfl) ?_ (fun hHeld => ?_)
      · (try dsimp only); exact HBL.out.drew
      refine tk 0 (some 14) (v := ?_) rfl ?_ ?_
      rotate_left
      · intro wS hSw; (try dsimp only at hSw); have x1 := cell_bel hSw.out y1; have x2 := cell_bel hSw.out c0; have x3 := cell_bel hSw.out c1; go_simp; (try with_reducible rfl)
      (try simp only [Act.put, List.setIfInBounds_toArray, List.set_cons_zero, List.set_cons_succ])
      refine tk 1 (some 15) (v := ?_) rfl ?_ ?_
      rotate_left
      · intro wS hSw; (try dsimp only at hSw); have x1 := cell_bel hSw.out y1; have x2 := cell_bel hSw.out c0; have x3 := cell_bel hSw.out c1; go_simp; (try with_reducible rfl)
      (try simp only [Act.put, List.setIfInBounds_toArray, List.set_cons_zero, List.set_cons_succ])
      refine tk 2 (some 16) (v := ?_) rfl ?_ ?_
      rotate_left
      · intro wS hSw; (try dsimp only at hSw); have x1 := cell_bel hSw.out y1; have x2 := cell_bel hSw.out c0; have x3 := cell_bel hSw.out c1; go_simp; (try with_reducible rfl)
      (try simp only [Act.put, List.setIfInBounds_toArray, List.set_cons_zero, List.set_cons_succ])
      refine tk 3 (some 17) (v := ?_) rfl ?_ ?_
      rotate_left
      · intro wS hSw; (try dsimp only at hSw); have x1 := cell_bel hSw.out y1; have x2 := cell_bel hSw.out c0; have x3 := cell_bel hSw.out c1; go_simp; (try with_reducible rfl)
      (try simp only [Act.put, List.setIfInBounds_toArray, List.set_cons_zero, List.set_cons_succ])
      refine tk 4 (some 18) (v := ?_) rfl ?_ ?_
      rotate_left
      · intro wS hSw; (try dsimp only at hSw); have x1 := cell_bel hSw.out y1; have x2 := cell_bel hSw.out c0; have x3 := cell_bel hSw.out c1; go_simp; (try with_reducible rfl)
      (try simp only [Act.put, List.setIfInBounds_toArray, List.set_cons_zero, List.set_cons_succ])
      refine tk 5 (some 19) (v := ?_) rfl ?_ ?_
      rotate_left
      · intro wS hSw; (try dsimp only at hSw); have x1 := cell_bel hSw.out y1; have x2 := cell_bel hSw.out c0; have x3 := cell_bel hSw.out c1; go_simp; (try with_reducible rfl)
      (try simp only [Act.put, List.setIfInBounds_toArray, List.set_cons_zero, List.set_cons_succ])
      refine tk 6 (some 20) (v := ?_) rfl ?_ ?_
      rotate_left
      · intro wS hSw; (try dsimp only at hSw); have x1 := cell_bel hSw.out y1; have x2 := cell_bel hSw.out c0; have x3 := cell_bel hSw.out c1; go_simp; (try with_reducible rfl)
      (try simp only [Act.put, List.setIfInBounds_toArray, List.set_cons_zero, List.set_cons_succ])
      refine tk 7 (some 21) (v := ?_) rfl ?_ ?_
      rotate_left
      · intro wS hSw; (try dsimp only at hSw); have x1 := cell_bel hSw.out y1; have x2 := cell_bel hSw.out c0; have x3 := cell_bel hSw.out c1; go_simp; (try with_reducible rfl)
      (try simp only [Act.put, List.setIfInBounds_toArray, List.set_cons_zero, List.set_cons_succ])
      refine tk 8 (some 22) (v := ?_) rfl ?_ ?_
      rotate_left
      · intro wS hSw; (try dsimp only at hSw); have x1 := cell_bel hSw.out y1; have x2 := cell_bel hSw.out c0; have x3 := cell_bel hSw.out c1; go_simp; (try with_reducible rfl)
      (try simp only [Act.put, List.setIfInBounds_toArray, List.set_cons_zero, List.set_cons_succ])
      refine tk 9 (some 23) (v := ?_) rfl ?_ ?_
      rotate_left
      · intro wS hSw; (try dsimp only at hSw); have x1 := cell_bel hSw.out y1; have x2 := cell_bel hSw.out c0; have x3 := cell_bel hSw.out c1; go_simp; (try with_reducible rfl)
      (try simp only [Act.put, List.setIfInBounds_toArray, List.set_cons_zero, List.set_cons_succ])
      refine tk 10 (some 24) (v := ?_) rfl ?_ ?_
      rotate_left
      · intro wS hSw; (try dsimp only at hSw); have x1 := cell_bel hSw.out y1; have x2 := cell_bel hSw.out c0; have x3 := cell_bel hSw.out c1; go_simp; (try with_reducible rfl)
      (try simp only [Act.put, List.setIfInBounds_toArray, List.set_cons_zero, List.set_cons_succ])
      refine tk 11 (some 25) (v := ?_) rfl ?_ ?_
      rotate_left
      · intro wS hSw; (try dsimp only at hSw); have x1 := cell_bel hSw.out y1; have x2 := cell_bel hSw.out c0; have x3 := cell_bel hSw.out c1; go_simp; (try with_reducible rfl)
      (try simp only [Act.put, List.setIfInBounds_toArray, List.set_cons_zero, List.set_cons_succ])
      refine tk 12 (some 26) (v := ?_) rfl ?_ ?_
      rotate_left
      · intro wS hSw; (try dsimp only at hSw); have x1 := cell_bel hSw.out y1; have x2 := cell_bel hSw.out c0; have x3 := cell_bel hSw.out c1; go_simp; (try with_reducible rfl)
      (try simp only [Act.put, List.setIfInBounds_toArray, List.set_cons_zero, List.set_cons_succ])
      refine tk 13 (some 27) (v := ?_) rfl ?_ ?_
      rotate_left
      · intro wS hSw; (try dsimp only at hSw); have x1 := cell_bel hSw.out y1; have x2 := cell_bel hSw.out c0; have x3 := cell_bel hSw.out c1; go_simp; (try with_reducible rfl)
      (try simp only [Act.put, List.setIfInBounds_toArray, List.set_cons_zero, List.set_cons_succ])
      refine tk 14 (some 28) (v := ?_) rfl ?_ ?_
      rotate_left
      · intro wS hSw; (try dsimp only at hSw); have x1 := cell_bel hSw.out y1; have x2 := cell_bel hSw.out c0; have x3 := cell_bel hSw.out c1; go_simp; (try with_reducible rfl)
      (try simp only [Act.put, List.setIfInBounds_toArray, List.set_cons_zero, List.set_cons_succ])
      have HO1 : Hid (wr.drew.ownsRow w1.heap.size 28 3 v1 m (rfC ((fdsF sn r).take m))) := HO.out.drew
      have HB1 : Hid (Bel w1.heap.size w1 wr.drew) := HBL.out.drew
      clear HO HBL
      generalize wr.drew = w3 at *
      refine wpAnyH_ready (rs := [15]) (by kernel_rfl) (by simp) ?_
      refine AllReadyH.cons rfl (fun K hK => ?_) AllReadyH.nil
      go_simp
      have hrow : Hid ((w3.alloc (.cells #[.string sn, .string k1, .int .i64 k2] 28)).ownsRow w1.heap.size 28 3 v1 m (rfC ((fdsF sn r).take m))) := HO1.out.alloc _
      have hcel : Hid (∀ j u, (rfC [(sn, k1, k2)])[j]? = some u → (w3.alloc (.cells #[.string sn, .string k1, .int .i64 k2] 28)).cell? ((⟨w3.heap.size, 0, none⟩ : Addr).add j) = some u) := fdCells_new w3 (sn, k1, k2)
      have HBn : Hid (Bel w1.heap.size w1 (w3.alloc (.cells #[.string sn, .string k1, .int .i64 k2] 28))) := HB1.out.alloc _
      refine hK.out _ _ HBn.out (fun hHz => ?_)
      clear hK K hHz
      (try simp only [Act.put, List.setIfInBounds_toArray, List.set_cons_zero, List.set_cons_succ])
      obtain ⟨g3, hg3⟩ : ∃ g, w3.heap.size = g := ⟨_, rfl⟩
      rw [hg3] at hcel
      rw [hg3]
      generalize (w3.alloc (.cells #[.string sn, .string k1, .int .i64 k2] 28)) = w4 at *
      refine wpAnyH_ready (rs := [16]) (by kernel_rfl) (by simp) ?_
      refine AllReadyH.cons rfl (fun K hK => ?_) AllReadyH.nil
      refine step_append_lies w4 rfl _ _ 25 rfl w1.heap.size 28 i0 (.agg #[.string ⟨#[]⟩, .string ⟨#[]⟩, .int .i64 0]) 3 40 Tryz.underlying25 hi hz hs hb3 rfl (by decide) v1 m (rfC ((fdsF sn r).take m)) rfl hrow.out ⟨g3, 0, none⟩ 1 1 (rfC [(sn, k1, k2)]) rfl (rfC_len _) hcel.out (rfC_one _) (by decide) (by unfold maxLen; omega) (by omega) HBn.out.le _ rfl ?_
      intro g2 cap2 w5 hown2 hgrow2 hlies hg2
      have HO2 : Hid (w5.ownsRow w1.heap.size 28 3 (.slice (some ⟨g2, 0, none⟩) (m + 1) cap2) (m + 1) (rfC ((fdsF sn r).take (m + 1)))) := by
        show World.ownsRow _ _ _ _ _ _ _
        rw [HT.out, rfC_snoc]; exact hown2
      have HB2 : Hid (Bel w1.heap.size w1 w5) := by
        have h2 := HBn.out.out.grown hgrow2 HBn.out.le (fun j hj => (hrow.out.lt j hj).1)
        exact ⟨h2, h2.size⟩
      refine hK.out _ _ HB2.out (fun hHz => ?_)
      clear hK K hHz hown2 hgrow2 hlies hcel hrow HBn HO1 HB1 HT
      (try simp only [Act.put, List.setIfInBounds_toArray, List.set_cons_zero, List.set_cons_succ])
      refine tk 17 (some 5) (v := ?_) rfl ?_ ?_ (hS := HB2.out)
      rotate_left
      · intro wS hSw; go_simp; (try with_reducible rfl)
      (try simp only [Act.put, List.setIfInBounds_toArray, List.set_cons_zero, List.set_cons_succ])
      refine wpAnyH_done (by kernel_rfl) ?_ _
      go_wp2
      go_roundw
      case rel => exact ⟨m + 1, _, rfl, by go_num, hlt, HO2.out, HB2.out⟩
      case measure => simp [intOf]; omega
    · obtain rfl : m = n := by omega
      have hO := HO.out
      rw [List.take_of_length_le (by rw [HFL.out, HN.out]; exact Nat.le_refl _)] at hO
      have hO2 : wr.ownsRow w1.heap.size 28 3 v1 (fdsF sn r).length (rfC (fdsF sn r)) := by rw [HFL.out, HN.out]; exact hO
      obtain ⟨a', cap', hv, hF⟩ := fs_of_owns hO2
      rw [HFL.out, HN.out] at hv
      subst hv
      have HP : Hid (FlPost sn r w (.returned (.slice a' m cap')) wr) := HPV.out _ _ ⟨⟨a', cap', rfl, hF⟩, HB.out.out.trans (HBL.out.out.mono HB.out.le)⟩
      clear hO hO2 hF HO HBL HPV
      go_wp2
      refine bodyPost_ret (v := .slice a' m cap') (by simp [results, Tryz.results5, go_sem]) rfl HP.out
end Go.Proofs.YtemfgdhcmeimoaaGreatDoor
