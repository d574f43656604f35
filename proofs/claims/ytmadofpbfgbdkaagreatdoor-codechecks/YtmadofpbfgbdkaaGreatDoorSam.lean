/- The document's Same: of two rows that read as the same. -/
import Derived.Test.YtmadofpbfgbdkaaGreatDoorChr
import Derived.Deep.RegionHeld3
namespace Go.Proofs.YtmadofpbfgbdkaaGreatDoor
open Go.ChangeShapes Go.WideShapes Go.ChangeAt Go.RowKit
set_option linter.unusedSimpArgs false
set_option maxRecDepth 20000
set_option maxHeartbeats 4000000

theorem hf33 : Tryz.prog.underlying 33 = some (.struct (Tryz.prog.fieldsOf 33)) := by kernel_rfl
theorem hs33 : Tryz.prog.stoodInHeld 33 = false := by kernel_rfl
theorem neq35 (a b c d : Int) (s t : ByteArray) (w : World) : (binOp .neq 35 (.agg #[.int .i64 a, .int .i64 b, .string s, .int .i64 c, .int .i64 d, .string t]) (.agg #[.int .i64 a, .int .i64 b, .string s, .int .i64 c, .int .i64 d, .string t])).run Tryz.prog w = .ok (.bool false) w := by
  rw [run_neq_struct, run_equalIn_agg w 9999 35 _ _ hf35 hs35]
  simp [Op.eqFields, Program.fieldsOf, Tryz.underlying35, go_sem, Tryz.underlying9, Tryz.underlying3]
theorem same_any (r : List Oq) (oa ob : Option Addr) (n ca cb : Nat) (hn : r.length = n) (w : World) (ha : OpsAt w oa r) (hb : OpsAt w ob r) (hlen : n ≤ 4611686018427387904) :
    Calls Tryz.prog 8 #[.slice oa n ca, .slice ob n cb] w fun e w' => e = .returned (.bool true) ∧ Below w.heap.size w w' := by
  have HA : Hid (OpsAt w oa r) := ha
  have HB : Hid (OpsAt w ob r) := hb
  have HN : Hid (r.length = n) := hn
  have hself : ((n : Int) != n) = false := by simp
  clear ha hb hn
  go_enter Tryz.func8, Tryz.ntmps8
  go_wp2
  go_loopw [5] (fun x wr => ∃ m : Nat, m ≤ n ∧ x = .int .i64 m ∧ Bel w.heap.size w wr) (fun x _ => n - (intOf x).toNat)
  case atStart => exact ⟨0, Nat.zero_le _, rfl, Bel.refl _⟩
  case round =>
    obtain ⟨m, hm, rfl, hBL⟩ := hrel
    have HBL : Hid (Bel w.heap.size w wr) := hBL
    clear hBL
    rcases Nat.lt_or_ge m n with hlt | hge
    · have hlr : m < r.length := by have := HN.out; omega
      obtain ⟨q, hq⟩ : ∃ q, r[m]? = some q := ⟨_, List.getElem?_eq_getElem hlr⟩
      rcases HA.out with h0 | ⟨b1, o1, rfl, hc1⟩
      · rw [h0] at hlr; simp at hlr
      rcases HB.out with h0 | ⟨b2, o2, rfl, hc2⟩
      · rw [h0] at hlr; simp at hlr
      obtain ⟨c0, c1, c2, c3, c4, c5⟩ := (hc1 m _ hq).below HBL.out.out
      obtain ⟨d0, d1, d2, d3, d4, d5⟩ := (hc2 m _ hq).below HBL.out.out
      clear hc1 hc2 hq hlr
      obtain ⟨⟨k, nn, t⟩, vk, vn, vt⟩ := q
      dsimp only at c0 c1 c2 c3 c4 c5 d0 d1 d2 d3 d4 d5
      have hneq := neq35 k nn vk vn t vt
      go_upto_region 6 with (fail)
      refine wp_region_held_drew (S := (fun wS => Bel wr.heap.size wr wS)) (by kernel_rfl) ?_ (fun hHeld => ?_)
      · (try dsimp only); exact (Bel.refl _).drew
      refine tk 0 (some 17) (v := ?_) rfl ?_ ?_
      rotate_left
      · intro wS hSw; (try dsimp only at hSw); have x0 := cell_bel hSw.out c0; have y0 := cell_bel hSw.out d0; have x1 := cell_bel hSw.out c1; have y1 := cell_bel hSw.out d1; have x2 := cell_bel hSw.out c2; have y2 := cell_bel hSw.out d2; have x3 := cell_bel hSw.out c3; have y3 := cell_bel hSw.out d3; have x4 := cell_bel hSw.out c4; have y4 := cell_bel hSw.out d4; have x5 := cell_bel hSw.out c5; have y5 := cell_bel hSw.out d5; go_simp; (try with_reducible rfl)
      (try simp only [Act.put, List.setIfInBounds_toArray, List.set_cons_zero, List.set_cons_succ])
      refine tk 1 (some 18) (v := ?_) rfl ?_ ?_
      rotate_left
      · intro wS hSw; (try dsimp only at hSw); have x0 := cell_bel hSw.out c0; have y0 := cell_bel hSw.out d0; have x1 := cell_bel hSw.out c1; have y1 := cell_bel hSw.out d1; have x2 := cell_bel hSw.out c2; have y2 := cell_bel hSw.out d2; have x3 := cell_bel hSw.out c3; have y3 := cell_bel hSw.out d3; have x4 := cell_bel hSw.out c4; have y4 := cell_bel hSw.out d4; have x5 := cell_bel hSw.out c5; have y5 := cell_bel hSw.out d5; go_simp; (try with_reducible rfl)
      (try simp only [Act.put, List.setIfInBounds_toArray, List.set_cons_zero, List.set_cons_succ])
      refine tk 2 (some 19) (v := ?_) rfl ?_ ?_
      rotate_left
      · intro wS hSw; (try dsimp only at hSw); have x0 := cell_bel hSw.out c0; have y0 := cell_bel hSw.out d0; have x1 := cell_bel hSw.out c1; have y1 := cell_bel hSw.out d1; have x2 := cell_bel hSw.out c2; have y2 := cell_bel hSw.out d2; have x3 := cell_bel hSw.out c3; have y3 := cell_bel hSw.out d3; have x4 := cell_bel hSw.out c4; have y4 := cell_bel hSw.out d4; have x5 := cell_bel hSw.out c5; have y5 := cell_bel hSw.out d5; go_simp; (try with_reducible rfl)
      (try simp only [Act.put, List.setIfInBounds_toArray, List.set_cons_zero, List.set_cons_succ])
      refine tk 3 (some 20) (v := ?_) rfl ?_ ?_
      rotate_left
      · intro wS hSw; (try dsimp only at hSw); have x0 := cell_bel hSw.out c0; have y0 := cell_bel hSw.out d0; have x1 := cell_bel hSw.out c1; have y1 := cell_bel hSw.out d1; have x2 := cell_bel hSw.out c2; have y2 := cell_bel hSw.out d2; have x3 := cell_bel hSw.out c3; have y3 := cell_bel hSw.out d3; have x4 := cell_bel hSw.out c4; have y4 := cell_bel hSw.out d4; have x5 := cell_bel hSw.out c5; have y5 := cell_bel hSw.out d5; go_simp; (try with_reducible rfl)
      (try simp only [Act.put, List.setIfInBounds_toArray, List.set_cons_zero, List.set_cons_succ])
      refine tk 4 (some 21) (v := ?_) rfl ?_ ?_
      rotate_left
      · intro wS hSw; (try dsimp only at hSw); have x0 := cell_bel hSw.out c0; have y0 := cell_bel hSw.out d0; have x1 := cell_bel hSw.out c1; have y1 := cell_bel hSw.out d1; have x2 := cell_bel hSw.out c2; have y2 := cell_bel hSw.out d2; have x3 := cell_bel hSw.out c3; have y3 := cell_bel hSw.out d3; have x4 := cell_bel hSw.out c4; have y4 := cell_bel hSw.out d4; have x5 := cell_bel hSw.out c5; have y5 := cell_bel hSw.out d5; go_simp; (try with_reducible rfl)
      (try simp only [Act.put, List.setIfInBounds_toArray, List.set_cons_zero, List.set_cons_succ])
      refine tk 5 (some 22) (v := ?_) rfl ?_ ?_
      rotate_left
      · intro wS hSw; (try dsimp only at hSw); have x0 := cell_bel hSw.out c0; have y0 := cell_bel hSw.out d0; have x1 := cell_bel hSw.out c1; have y1 := cell_bel hSw.out d1; have x2 := cell_bel hSw.out c2; have y2 := cell_bel hSw.out d2; have x3 := cell_bel hSw.out c3; have y3 := cell_bel hSw.out d3; have x4 := cell_bel hSw.out c4; have y4 := cell_bel hSw.out d4; have x5 := cell_bel hSw.out c5; have y5 := cell_bel hSw.out d5; go_simp; (try with_reducible rfl)
      (try simp only [Act.put, List.setIfInBounds_toArray, List.set_cons_zero, List.set_cons_succ])
      refine tk 6 (some 23) (v := ?_) rfl ?_ ?_
      rotate_left
      · intro wS hSw; (try dsimp only at hSw); have x0 := cell_bel hSw.out c0; have y0 := cell_bel hSw.out d0; have x1 := cell_bel hSw.out c1; have y1 := cell_bel hSw.out d1; have x2 := cell_bel hSw.out c2; have y2 := cell_bel hSw.out d2; have x3 := cell_bel hSw.out c3; have y3 := cell_bel hSw.out d3; have x4 := cell_bel hSw.out c4; have y4 := cell_bel hSw.out d4; have x5 := cell_bel hSw.out c5; have y5 := cell_bel hSw.out d5; go_simp; (try with_reducible rfl)
      (try simp only [Act.put, List.setIfInBounds_toArray, List.set_cons_zero, List.set_cons_succ])
      refine tk 7 (some 24) (v := ?_) rfl ?_ ?_
      rotate_left
      · intro wS hSw; (try dsimp only at hSw); have x0 := cell_bel hSw.out c0; have y0 := cell_bel hSw.out d0; have x1 := cell_bel hSw.out c1; have y1 := cell_bel hSw.out d1; have x2 := cell_bel hSw.out c2; have y2 := cell_bel hSw.out d2; have x3 := cell_bel hSw.out c3; have y3 := cell_bel hSw.out d3; have x4 := cell_bel hSw.out c4; have y4 := cell_bel hSw.out d4; have x5 := cell_bel hSw.out c5; have y5 := cell_bel hSw.out d5; go_simp; (try with_reducible rfl)
      (try simp only [Act.put, List.setIfInBounds_toArray, List.set_cons_zero, List.set_cons_succ])
      refine tk 8 (some 25) (v := ?_) rfl ?_ ?_
      rotate_left
      · intro wS hSw; (try dsimp only at hSw); have x0 := cell_bel hSw.out c0; have y0 := cell_bel hSw.out d0; have x1 := cell_bel hSw.out c1; have y1 := cell_bel hSw.out d1; have x2 := cell_bel hSw.out c2; have y2 := cell_bel hSw.out d2; have x3 := cell_bel hSw.out c3; have y3 := cell_bel hSw.out d3; have x4 := cell_bel hSw.out c4; have y4 := cell_bel hSw.out d4; have x5 := cell_bel hSw.out c5; have y5 := cell_bel hSw.out d5; go_simp; (try with_reducible rfl)
      (try simp only [Act.put, List.setIfInBounds_toArray, List.set_cons_zero, List.set_cons_succ])

      have HB6 : Hid (Bel w.heap.size w wr.drew) := HBL.out.drew
      refine wpAnyH_done (by kernel_rfl) ?_ _
      clear c0 c1 c2 c3 c4 c5 d0 d1 d2 d3 d4 d5 hneq HBL
      generalize wr.drew = wz at *
      go_wp2
      go_roundw
      case rel => exact ⟨m + 1, by omega, by go_num, HB6.out⟩
      case measure => simp [intOf]; omega
    · obtain rfl : m = n := by omega
      have HB6 := HBL.out.out
      go_wp2
      refine bodyPost_ret (v := .bool true) (by simp [results, Tryz.results8, go_sem]) rfl ⟨rfl, HB6⟩
end Go.Proofs.YtmadofpbfgbdkaaGreatDoor
