/- The fields of any schema; which of any fields a name says: the walk. -/
import Derived.Test.YtemfgdhcmeimoaaGreatDoorRfl
namespace Go.Proofs.YtemfgdhcmeimoaaGreatDoor
open Go.ChangeShapes Go.WideShapes Go.ChangeAt Go.RowKit
set_option linter.unusedSimpArgs false
set_option maxRecDepth 20000
set_option maxHeartbeats 4000000

theorem hf28 : Tryz.prog.underlying 28 = some (.struct (Tryz.prog.fieldsOf 28)) := by kernel_rfl
theorem hs28 : Tryz.prog.stoodInHeld 28 = false := by kernel_rfl
theorem neq28 (s t : ByteArray) (k : Int) (w : World) : (binOp .neq 28 (.agg #[.string s, .string t, .int .i64 k]) (.agg #[.string s, .string t, .int .i64 k])).run Tryz.prog w = .ok (.bool false) w := by
  rw [run_neq_struct, run_equalIn_agg w 9999 28 _ _ hf28 hs28]
  simp [Op.eqFields, Program.fieldsOf, Tryz.underlying28, go_sem, Tryz.underlying9, Tryz.underlying3]
theorem resolve_2 (r : List Fd) (a : Option Addr) (n cap : Nat) (hn : r.length = n) (s c : ByteArray) (w : World) (hr : FsAt w a r) (hl : r.length ≤ 4611686018427387904) (hcap : r.length ≤ cap) (p q : Int) (hp : (((rsF s c r).1 : Nat) : Int) = p) (hq : (rsF s c r).2 = q) :
    Calls Tryz.prog 6 #[.slice a n cap, .string s, .string c] w fun e w' => e = .returned (.tuple #[.int .i64 p, .int .i64 q]) ∧ Below w.heap.size w w' := by
  have h := resolve_any r a cap s c w hr hl hcap
  rw [hn, hp, hq] at h
  exact h
theorem rresolve_2 (r : List Fd) (a : Option Addr) (n cap : Nat) (hn : r.length = n) (s c : ByteArray) (w : World) (hr : FsAt w a r) (hl : r.length ≤ 4611686018427387904) (p q : Int) (hp : (((rsF s c r).1 : Nat) : Int) = p) (hq : (rsF s c r).2 = q) :
    Calls Tryz.prog 7 #[.slice a n cap, .string s, .string c] w fun e w' => e = .returned (.tuple #[.int .i64 p, .int .i64 q]) ∧ Below w.heap.size w w' := by
  have h := rresolve_any r a cap s c w hr hl
  rw [hn, hp, hq] at h
  exact h
theorem typesFields_walk (nm sn : ByteArray) (r : List Cl) (a : Option Addr) (cap : Nat) (fs : List Fd) (af : Option Addr) (capf : Nat) (w : World)
    (hr : CsAt w a r) (hl : r.length ≤ 1099511627776) (hf : FsAt w af fs) (hfl : fs.length ≤ 4611686018427387904) (hfc : fs.length ≤ capf)
    (hw : ∀ w', Below w.heap.size w w' → Calls Tryz.prog 8 #[] w' fun e w2 => e = .returned (.bool true) ∧ Below w'.heap.size w' w2) :
    Calls Tryz.prog 3 #[.agg #[.string nm, .slice a r.length cap], .string sn, .slice af fs.length capf] w fun e w' => e = .returned (.bool true) ∧ Below w.heap.size w w' := by
  have HR : Hid (CsAt w a r) := hr
  have HL : Hid (r.length ≤ 1099511627776) := hl
  have HF : Hid (FsAt w af fs) := hf
  have HFL : Hid (fs.length ≤ 4611686018427387904) := hfl
  have HFC : Hid (fs.length ≤ capf) := hfc
  have HW : Hid _ := hw
  clear hr hl hf hfl hfc hw
  obtain ⟨n, hn⟩ : ∃ n, r.length = n := ⟨_, rfl⟩
  have HN : Hid (r.length = n) := hn
  rw [hn]
  clear hn
  obtain ⟨nf, hnf⟩ : ∃ n, fs.length = n := ⟨_, rfl⟩
  have HNF : Hid (fs.length = nf) := hnf
  rw [hnf]
  clear hnf
  go_enter Tryz.func3, Tryz.ntmps3
  go_upto_region 1 with (fail)
  have hB : Below w.heap.size w (w.alloc (.cells #[.string nm, .slice a n cap] 24)) := (Below.refl _ _).alloc (Nat.le_refl _) _
  have y0 : (w.alloc (.cells #[.string nm, .slice a n cap] 24)).cell? ⟨w.heap.size, 0, none⟩ = some (.string nm) := (World.cell?_alloc_mark w #[.string nm, .slice a n cap] 24 (0, 0) 0).trans rfl
  have y1 : (w.alloc (.cells #[.string nm, .slice a n cap] 24)).cell? ⟨w.heap.size, 1, none⟩ = some (.slice a n cap) := (World.cell?_alloc_mark w #[.string nm, .slice a n cap] 24 (0, 0) 1).trans rfl
  have HB : Hid (Bel w.heap.size w (w.alloc (.cells #[.string nm, .slice a n cap] 24))) := Bel.of hB
  obtain ⟨bx, hbx⟩ : ∃ bx, w.heap.size = bx := ⟨_, rfl⟩
  rw [hbx] at y0 y1
  rw [hbx]
  clear hB hbx
  generalize (w.alloc (.cells #[.string nm, .slice a n cap] 24)) = w1 at *
  refine wp_region_held_drew (S := (fun wS => Bel w1.heap.size w1 wS)) (by kernel_rfl) ?_ (fun hHeld => ?_)
  · (try dsimp only); exact (Bel.refl _).drew
  refine tk 0 (some 21) (v := ?_) rfl ?_ ?_
  rotate_left
  · intro wS hSw; (try dsimp only at hSw); have x0 := cell_bel hSw.out y0; have x1 := cell_bel hSw.out y1; go_simp; (try with_reducible rfl)
  (try simp only [Act.put, List.setIfInBounds_toArray, List.set_cons_zero, List.set_cons_succ])
  refine tk 1 (some 22) (v := ?_) rfl ?_ ?_
  rotate_left
  · intro wS hSw; (try dsimp only at hSw); have x0 := cell_bel hSw.out y0; have x1 := cell_bel hSw.out y1; go_simp; (try with_reducible rfl)
  (try simp only [Act.put, List.setIfInBounds_toArray, List.set_cons_zero, List.set_cons_succ])
  refine tk 3 (some 24) (v := ?_) rfl ?_ ?_
  rotate_left
  · intro wS hSw; (try dsimp only at hSw); have x0 := cell_bel hSw.out y0; have x1 := cell_bel hSw.out y1; go_simp; (try with_reducible rfl)
  (try simp only [Act.put, List.setIfInBounds_toArray, List.set_cons_zero, List.set_cons_succ])
  refine tk 4 (some 25) (v := ?_) rfl ?_ ?_
  rotate_left
  · intro wS hSw; (try dsimp only at hSw); have x0 := cell_bel hSw.out y0; have x1 := cell_bel hSw.out y1; go_simp; (try with_reducible rfl)
  (try simp only [Act.put, List.setIfInBounds_toArray, List.set_cons_zero, List.set_cons_succ])
  have HB1 : Hid (Bel w1.heap.size w1 w1.drew) := (Bel.refl _).drew
  generalize w1.drew = w2 at *
  have hcA := fields_any nm sn r a cap w2 (HR.out.below (HB.out.out.trans (HB1.out.out.mono HB.out.le))) HL.out
  rw [HN.out] at hcA
  refine wpAnyH_ready (rs := [2]) (by kernel_rfl) (by simp) ?_
  refine AllReadyH.cons rfl (fun K hK => ?_) AllReadyH.nil
  have hc := hcA
  go_simp
  refine hc.mono ?_
  rintro e w3 ⟨⟨a1, cap1, rfl, hF1⟩, hb3⟩
  clear hc
  rw [HN.out]
  have HB2 : Hid (Bel w1.heap.size w1 w3) := HB1.out.step hb3
  have HF1 : Hid (FsAt w3 a1 (fdsF sn r)) := hF1
  refine hK.out _ _ HB2.out (fun hHz => ?_)
  clear hK K hHz hF1 hb3 hcA
  (try simp only [Act.put, List.setIfInBounds_toArray, List.set_cons_zero, List.set_cons_succ])
  have hcB := rfields_any nm sn r a cap w3 (HR.out.below (HB.out.out.trans (HB2.out.out.mono HB.out.le))) HL.out
  rw [HN.out] at hcB
  refine wpAnyH_ready (rs := [5]) (by kernel_rfl) (by simp) ?_
  refine AllReadyH.cons rfl (fun K hK => ?_) AllReadyH.nil
  have hc := hcB
  go_simp
  refine hc.mono ?_
  rintro e w4 ⟨⟨a2, cap2, rfl, hF2⟩, hb4⟩
  clear hc
  rw [HN.out]
  have HB3 : Hid (Bel w1.heap.size w1 w4) := HB2.out.step hb4
  have HF2 : Hid (FsAt w4 a2 (fdsF sn r)) := hF2
  have HF3 : Hid (FsAt w4 a1 (fdsF sn r)) := HF1.out.below hb4
  refine hK.out _ _ HB3.out (fun hHz => ?_)
  clear hK K hHz hF2 hb4 hcB HF1
  (try simp only [Act.put, List.setIfInBounds_toArray, List.set_cons_zero, List.set_cons_succ])
  refine tk 6 (some 7) (v := ?_) rfl ?_ ?_ (hS := HB3.out)
  rotate_left
  · intro wS hSw; (try dsimp only at hSw); go_simp; (try with_reducible rfl)
  (try simp only [Act.put, List.setIfInBounds_toArray, List.set_cons_zero, List.set_cons_succ])
  refine tk 7 (some 8) (v := ?_) rfl ?_ ?_ (hS := HB3.out)
  rotate_left
  · intro wS hSw; (try dsimp only at hSw); go_simp; (try with_reducible rfl)
  (try simp only [Act.put, List.setIfInBounds_toArray, List.set_cons_zero, List.set_cons_succ])
  refine wpAnyH_done (by kernel_rfl) ?_ _
  clear y0 y1 HB1 HB2
  go_wp2
  have HFD : Hid ((fdsF sn r).length = n) := by show _ = _; unfold fdsF; rw [List.length_map, HN.out]
  have HB5 : Hid (Bel w.heap.size w w4) := HB.out.step (HB3.out.out.mono (Nat.le_refl _))
  clear HB3 HB HR
  go_loopw [9] (fun x wr => ∃ m : Nat, m ≤ n ∧ x = .int .i64 m ∧ Bel w4.heap.size w4 wr) (fun x _ => n - (intOf x).toNat)
  case atStart => exact ⟨0, Nat.zero_le _, rfl, Bel.refl _⟩
  case round =>
    obtain ⟨m, hm, rfl, hBL⟩ := hrel
    have HBL : Hid (Bel w4.heap.size w4 wr) := hBL
    have hnb : n ≤ 1099511627776 := by have := HN.out; have := HL.out; omega
    clear hBL
    rcases Nat.lt_or_ge m n with hlt | hge
    · have hlr : m < (fdsF sn r).length := by have := HFD.out; omega
      obtain ⟨f, hf⟩ : ∃ f, (fdsF sn r)[m]? = some f := ⟨_, List.getElem?_eq_getElem hlr⟩
      rcases HF3.out with h0 | ⟨b1, o1, rfl, hc1⟩
      · rw [h0] at hlr; simp at hlr
      rcases HF2.out with h0 | ⟨b2, o2, rfl, hc2⟩
      · rw [h0] at hlr; simp at hlr
      obtain ⟨c0, c1, c2⟩ := hc1 m _ hf
      obtain ⟨d0, d1, d2⟩ := hc2 m _ hf
      clear hc1 hc2 hf hlr
      obtain ⟨f1, f2, f3⟩ := f
      dsimp only at c0 c1 c2 d0 d1 d2
      have hneq := neq28 f1 f2 f3
      go_upto_region 7 with (fail)
      refine wp_region_held_drew (S := (fun wS => Bel w4.heap.size w4 wS)) (by kernel_rfl) ?_ (fun hHeld => ?_)
      · (try dsimp only); exact HBL.out.drew
      refine tk 0 (some 38) (v := ?_) rfl ?_ ?_
      rotate_left
      · intro wS hSw; (try dsimp only at hSw); have x0 := cell_bel hSw.out c0; have x1 := cell_bel hSw.out c1; have x2 := cell_bel hSw.out c2; have x3 := cell_bel hSw.out d0; have x4 := cell_bel hSw.out d1; have x5 := cell_bel hSw.out d2; go_simp; (try with_reducible rfl)
      (try simp only [Act.put, List.setIfInBounds_toArray, List.set_cons_zero, List.set_cons_succ])
      refine tk 1 (some 39) (v := ?_) rfl ?_ ?_
      rotate_left
      · intro wS hSw; (try dsimp only at hSw); have x0 := cell_bel hSw.out c0; have x1 := cell_bel hSw.out c1; have x2 := cell_bel hSw.out c2; have x3 := cell_bel hSw.out d0; have x4 := cell_bel hSw.out d1; have x5 := cell_bel hSw.out d2; go_simp; (try with_reducible rfl)
      (try simp only [Act.put, List.setIfInBounds_toArray, List.set_cons_zero, List.set_cons_succ])
      refine tk 2 (some 40) (v := ?_) rfl ?_ ?_
      rotate_left
      · intro wS hSw; (try dsimp only at hSw); have x0 := cell_bel hSw.out c0; have x1 := cell_bel hSw.out c1; have x2 := cell_bel hSw.out c2; have x3 := cell_bel hSw.out d0; have x4 := cell_bel hSw.out d1; have x5 := cell_bel hSw.out d2; go_simp; (try with_reducible rfl)
      (try simp only [Act.put, List.setIfInBounds_toArray, List.set_cons_zero, List.set_cons_succ])
      refine tk 3 (some 41) (v := ?_) rfl ?_ ?_
      rotate_left
      · intro wS hSw; (try dsimp only at hSw); have x0 := cell_bel hSw.out c0; have x1 := cell_bel hSw.out c1; have x2 := cell_bel hSw.out c2; have x3 := cell_bel hSw.out d0; have x4 := cell_bel hSw.out d1; have x5 := cell_bel hSw.out d2; go_simp; (try with_reducible rfl)
      (try simp only [Act.put, List.setIfInBounds_toArray, List.set_cons_zero, List.set_cons_succ])
      refine tk 4 (some 42) (v := ?_) rfl ?_ ?_
      rotate_left
      · intro wS hSw; (try dsimp only at hSw); have x0 := cell_bel hSw.out c0; have x1 := cell_bel hSw.out c1; have x2 := cell_bel hSw.out c2; have x3 := cell_bel hSw.out d0; have x4 := cell_bel hSw.out d1; have x5 := cell_bel hSw.out d2; go_simp; (try with_reducible rfl)
      (try simp only [Act.put, List.setIfInBounds_toArray, List.set_cons_zero, List.set_cons_succ])
      refine tk 5 (some 43) (v := ?_) rfl ?_ ?_
      rotate_left
      · intro wS hSw; (try dsimp only at hSw); have x0 := cell_bel hSw.out c0; have x1 := cell_bel hSw.out c1; have x2 := cell_bel hSw.out c2; have x3 := cell_bel hSw.out d0; have x4 := cell_bel hSw.out d1; have x5 := cell_bel hSw.out d2; go_simp; (try with_reducible rfl)
      (try simp only [Act.put, List.setIfInBounds_toArray, List.set_cons_zero, List.set_cons_succ])
      refine tk 6 (some 44) (v := ?_) rfl ?_ ?_
      rotate_left
      · intro wS hSw; (try dsimp only at hSw); have x0 := cell_bel hSw.out c0; have x1 := cell_bel hSw.out c1; have x2 := cell_bel hSw.out c2; have x3 := cell_bel hSw.out d0; have x4 := cell_bel hSw.out d1; have x5 := cell_bel hSw.out d2; go_simp; (try with_reducible rfl)
      (try simp only [Act.put, List.setIfInBounds_toArray, List.set_cons_zero, List.set_cons_succ])
      refine tk 7 (some 45) (v := ?_) rfl ?_ ?_
      rotate_left
      · intro wS hSw; (try dsimp only at hSw); have x0 := cell_bel hSw.out c0; have x1 := cell_bel hSw.out c1; have x2 := cell_bel hSw.out c2; have x3 := cell_bel hSw.out d0; have x4 := cell_bel hSw.out d1; have x5 := cell_bel hSw.out d2; go_simp; (try with_reducible rfl)
      (try simp only [Act.put, List.setIfInBounds_toArray, List.set_cons_zero, List.set_cons_succ])
      refine tk 8 (some 46) (v := ?_) rfl ?_ ?_
      rotate_left
      · intro wS hSw; (try dsimp only at hSw); have x0 := cell_bel hSw.out c0; have x1 := cell_bel hSw.out c1; have x2 := cell_bel hSw.out c2; have x3 := cell_bel hSw.out d0; have x4 := cell_bel hSw.out d1; have x5 := cell_bel hSw.out d2; go_simp; (try with_reducible rfl)
      (try simp only [Act.put, List.setIfInBounds_toArray, List.set_cons_zero, List.set_cons_succ])
      have HB6 : Hid (Bel w4.heap.size w4 wr.drew) := HBL.out.drew
      refine wpAnyH_done (by kernel_rfl) ?_ _
      clear c0 c1 c2 d0 d1 d2 hneq HBL
      generalize wr.drew = wz at *
      go_wp2
      go_roundw
      case rel => exact ⟨m + 1, by omega, by go_num, HB6.out⟩
      case measure => simp [intOf]; omega
    · obtain rfl : m = n := by omega
      obtain ⟨n, hnn⟩ : ∃ n, n = m := ⟨_, rfl⟩
      subst hnn
      go_upto_region 10 with (fail)
      have hN5 : ∀ i : Nat, i < 5 → ∃ q, (wr.alloc (.cells #[.string ⟨#[97]⟩, .string ⟨#[112, 114, 105, 99, 101]⟩, .string ⟨#[115, 121, 109]⟩, .string ⟨#[120]⟩, .string ⟨#[]⟩] 9)).cell? ⟨wr.heap.size, i, none⟩ = some (.string q) := fun i hi => by
        have h := World.cell?_alloc_mark wr #[.string ⟨#[97]⟩, .string ⟨#[112, 114, 105, 99, 101]⟩, .string ⟨#[115, 121, 109]⟩, .string ⟨#[120]⟩, .string ⟨#[]⟩] 9 (0, 0) i
        match i, hi with
        | 0, _ => exact ⟨_, h.trans rfl⟩
        | 1, _ => exact ⟨_, h.trans rfl⟩
        | 2, _ => exact ⟨_, h.trans rfl⟩
        | 3, _ => exact ⟨_, h.trans rfl⟩
        | 4, _ => exact ⟨_, h.trans rfl⟩
      have HN5 : Hid _ := hN5
      have HB6 : Hid (Below w.heap.size w (wr.alloc (.cells #[.string ⟨#[97]⟩, .string ⟨#[112, 114, 105, 99, 101]⟩, .string ⟨#[115, 121, 109]⟩, .string ⟨#[120]⟩, .string ⟨#[]⟩] 9))) := (HB5.out.out.trans (HBL.out.out.mono HB5.out.le)).alloc (Nat.le_trans HB5.out.le HBL.out.out.size) _
      obtain ⟨bn, hbn⟩ : ∃ b, wr.heap.size = b := ⟨_, rfl⟩
      rw [hbn] at HN5
      rw [hbn]
      clear hN5 hbn HB5 HBL HF2 HF3 HFD hge hnb hm
      generalize (wr.alloc (.cells #[.string ⟨#[97]⟩, .string ⟨#[112, 114, 105, 99, 101]⟩, .string ⟨#[115, 121, 109]⟩, .string ⟨#[120]⟩, .string ⟨#[]⟩] 9)) = w5 at *
      have HF5 : Hid (FsAt w5 af fs) := HF.out.below HB6.out
      go_wp2
      go_loopw [11] (fun x wr => ∃ i : Nat, i ≤ 5 ∧ x = .int .i64 i ∧ Bel w5.heap.size w5 wr) (fun x _ => 5 - (intOf x).toNat)
      case atStart => exact ⟨0, by omega, rfl, Bel.refl _⟩
      case round =>
        obtain ⟨i, hi5, rfl, hBo⟩ := hrel
        have HBo : Hid (Bel w5.heap.size w5 wr) := hBo
        clear hBo
        rcases Nat.lt_or_ge i 5 with hi | hi
        · obtain ⟨sx, hsx⟩ := HN5.out i hi
          have HSX : Hid (w5.cell? ⟨bn, i, none⟩ = some (.string sx)) := hsx
          clear hsx
          have hid : ((i : Int) < 5) = True := eq_true (by omega)
          go_wp2
          go_loopw [12] (fun x wq => ∃ k : Nat, k ≤ nf ∧ x = .int .i64 k ∧ Bel w5.heap.size w5 wq) (fun x _ => nf - (intOf x).toNat)
          case atStart => exact ⟨0, Nat.zero_le _, rfl, HBo.out⟩
          case round =>
            obtain ⟨k, hk, rfl, hBq⟩ := hrel
            have HBq : Hid (Bel w5.heap.size w5 wr) := hBq
            have hnf : nf ≤ 4611686018427387904 := by have := HNF.out; have := HFL.out; omega
            clear hBq HBo
            rcases Nat.lt_or_ge k nf with hkn | hkn
            · rcases Nat.lt_or_ge k 8 with hk8 | hk8
              · have hlr : k < fs.length := by have := HNF.out; omega
                obtain ⟨f, hf⟩ : ∃ f, fs[k]? = some f := ⟨_, List.getElem?_eq_getElem hlr⟩
                rcases HF5.out with h0 | ⟨bf, of', hafe, hcf⟩
                · rw [h0] at hlr; simp at hlr
                obtain ⟨c0, c1, c2⟩ := hcf k _ hf
                have ch := HSX.out
                have HFX := HF5
                subst hafe
                clear hcf hf hlr
                obtain ⟨f1, f2, f3⟩ := f
                dsimp only at c0 c1 c2
                go_upto_region 16 with (fail)
                obtain ⟨p, hp⟩ : ∃ p : Int, (((rsF f1 sx fs).1 : Nat) : Int) = p := ⟨_, rfl⟩
                obtain ⟨q, hq⟩ : ∃ q : Int, (rsF f1 sx fs).2 = q := ⟨_, rfl⟩
                refine wp_region_held_drew (S := (fun wS => Bel w5.heap.size w5 wS)) (by kernel_rfl) ?_ (fun hHeld => ?_)
                · (try dsimp only); exact HBq.out.drew
                refine tk 0 (some 65) (v := ?_) rfl ?_ ?_
                rotate_left
                · intro wS hSw; (try dsimp only at hSw); have x0 := cell_bel hSw.out c0; have x1 := cell_bel hSw.out ch; go_simp; (try with_reducible rfl)
                (try simp only [Act.put, List.setIfInBounds_toArray, List.set_cons_zero, List.set_cons_succ])
                refine tk 1 (some 66) (v := ?_) rfl ?_ ?_
                rotate_left
                · intro wS hSw; (try dsimp only at hSw); have x0 := cell_bel hSw.out c0; have x1 := cell_bel hSw.out ch; go_simp; (try with_reducible rfl)
                (try simp only [Act.put, List.setIfInBounds_toArray, List.set_cons_zero, List.set_cons_succ])
                refine tk 2 (some 67) (v := ?_) rfl ?_ ?_
                rotate_left
                · intro wS hSw; (try dsimp only at hSw); have x0 := cell_bel hSw.out c0; have x1 := cell_bel hSw.out ch; go_simp; (try with_reducible rfl)
                (try simp only [Act.put, List.setIfInBounds_toArray, List.set_cons_zero, List.set_cons_succ])
                refine tk 3 (some 68) (v := ?_) rfl ?_ ?_
                rotate_left
                · intro wS hSw; (try dsimp only at hSw); have x0 := cell_bel hSw.out c0; have x1 := cell_bel hSw.out ch; go_simp; (try with_reducible rfl)
                (try simp only [Act.put, List.setIfInBounds_toArray, List.set_cons_zero, List.set_cons_succ])
                refine tk 4 (some 69) (v := ?_) rfl ?_ ?_
                rotate_left
                · intro wS hSw; (try dsimp only at hSw); have x0 := cell_bel hSw.out c0; have x1 := cell_bel hSw.out ch; go_simp; (try with_reducible rfl)
                (try simp only [Act.put, List.setIfInBounds_toArray, List.set_cons_zero, List.set_cons_succ])
                refine tk 5 (some 70) (v := ?_) rfl ?_ ?_
                rotate_left
                · intro wS hSw; (try dsimp only at hSw); have x0 := cell_bel hSw.out c0; have x1 := cell_bel hSw.out ch; go_simp; (try with_reducible rfl)
                (try simp only [Act.put, List.setIfInBounds_toArray, List.set_cons_zero, List.set_cons_succ])
                refine tk 6 (some 71) (v := ?_) rfl ?_ ?_
                rotate_left
                · intro wS hSw; (try dsimp only at hSw); have x0 := cell_bel hSw.out c0; have x1 := cell_bel hSw.out ch; go_simp; (try with_reducible rfl)
                (try simp only [Act.put, List.setIfInBounds_toArray, List.set_cons_zero, List.set_cons_succ])
                refine tk 7 (some 72) (v := ?_) rfl ?_ ?_
                rotate_left
                · intro wS hSw; (try dsimp only at hSw); have x0 := cell_bel hSw.out c0; have x1 := cell_bel hSw.out ch; go_simp; (try with_reducible rfl)
                (try simp only [Act.put, List.setIfInBounds_toArray, List.set_cons_zero, List.set_cons_succ])
                refine tk 8 (some 73) (v := ?_) rfl ?_ ?_
                rotate_left
                · intro wS hSw; (try dsimp only at hSw); have x0 := cell_bel hSw.out c0; have x1 := cell_bel hSw.out ch; go_simp; (try with_reducible rfl)
                (try simp only [Act.put, List.setIfInBounds_toArray, List.set_cons_zero, List.set_cons_succ])
                refine tk 9 (some 74) (v := ?_) rfl ?_ ?_
                rotate_left
                · intro wS hSw; (try dsimp only at hSw); have x0 := cell_bel hSw.out c0; have x1 := cell_bel hSw.out ch; go_simp; (try with_reducible rfl)
                (try simp only [Act.put, List.setIfInBounds_toArray, List.set_cons_zero, List.set_cons_succ])
                have HBa : Hid (Bel w5.heap.size w5 wr.drew) := HBq.out.drew
                clear HBq
                generalize wr.drew = wa at *
                refine wpAnyH_ready (rs := [10]) (by kernel_rfl) (by simp) ?_
                refine AllReadyH.cons rfl (fun K hK => ?_) AllReadyH.nil
                have hc := resolve_2 fs _ nf capf HNF.out f1 sx wa (HFX.out.below HBa.out.out) HFL.out HFC.out p q hp hq
                go_simp
                refine hc.mono ?_
                rintro e wb ⟨rfl, hbb⟩
                clear hc
                have HBq : Hid (Bel w5.heap.size w5 wb) := HBa.out.step hbb
                refine hK.out _ _ HBq.out (fun hHz => ?_)
                clear hK K hHz hbb HBa
                (try simp only [Act.put, List.setIfInBounds_toArray, List.set_cons_zero, List.set_cons_succ])
                refine tk 11 (some 64) (v := ?_) rfl ?_ ?_ (hS := HBq.out)
                rotate_left
                · intro wS hSw; (try dsimp only at hSw); go_simp; (try with_reducible rfl)
                (try simp only [Act.put, List.setIfInBounds_toArray, List.set_cons_zero, List.set_cons_succ])
                refine tk 12 (some 76) (v := ?_) rfl ?_ ?_ (hS := HBq.out)
                rotate_left
                · intro wS hSw; (try dsimp only at hSw); go_simp; (try with_reducible rfl)
                (try simp only [Act.put, List.setIfInBounds_toArray, List.set_cons_zero, List.set_cons_succ])
                refine tk 13 (some 77) (v := ?_) rfl ?_ ?_ (hS := HBq.out)
                rotate_left
                · intro wS hSw; (try dsimp only at hSw); go_simp; (try with_reducible rfl)
                (try simp only [Act.put, List.setIfInBounds_toArray, List.set_cons_zero, List.set_cons_succ])
                refine tk 14 (some 13) (v := ?_) rfl ?_ ?_ (hS := HBq.out)
                rotate_left
                · intro wS hSw; (try dsimp only at hSw); go_simp; (try with_reducible rfl)
                (try simp only [Act.put, List.setIfInBounds_toArray, List.set_cons_zero, List.set_cons_succ])
                refine tk 15 (some 14) (v := ?_) rfl ?_ ?_ (hS := HBq.out)
                rotate_left
                · intro wS hSw; (try dsimp only at hSw); go_simp; (try with_reducible rfl)
                (try simp only [Act.put, List.setIfInBounds_toArray, List.set_cons_zero, List.set_cons_succ])
                refine wpAnyH_done (by kernel_rfl) ?_ _
                go_upto_region 17 with (fail)
                generalize wb = wr at *
                refine wp_region_held_drew (S := (fun wS => Bel w5.heap.size w5 wS)) (by kernel_rfl) ?_ (fun hHeld => ?_)
                · (try dsimp only); exact HBq.out.drew
                refine tk 0 (some 79) (v := ?_) rfl ?_ ?_
                rotate_left
                · intro wS hSw; (try dsimp only at hSw); have x0 := cell_bel hSw.out c0; have x1 := cell_bel hSw.out ch; go_simp; (try with_reducible rfl)
                (try simp only [Act.put, List.setIfInBounds_toArray, List.set_cons_zero, List.set_cons_succ])
                refine tk 1 (some 80) (v := ?_) rfl ?_ ?_
                rotate_left
                · intro wS hSw; (try dsimp only at hSw); have x0 := cell_bel hSw.out c0; have x1 := cell_bel hSw.out ch; go_simp; (try with_reducible rfl)
                (try simp only [Act.put, List.setIfInBounds_toArray, List.set_cons_zero, List.set_cons_succ])
                refine tk 2 (some 81) (v := ?_) rfl ?_ ?_
                rotate_left
                · intro wS hSw; (try dsimp only at hSw); have x0 := cell_bel hSw.out c0; have x1 := cell_bel hSw.out ch; go_simp; (try with_reducible rfl)
                (try simp only [Act.put, List.setIfInBounds_toArray, List.set_cons_zero, List.set_cons_succ])
                refine tk 3 (some 82) (v := ?_) rfl ?_ ?_
                rotate_left
                · intro wS hSw; (try dsimp only at hSw); have x0 := cell_bel hSw.out c0; have x1 := cell_bel hSw.out ch; go_simp; (try with_reducible rfl)
                (try simp only [Act.put, List.setIfInBounds_toArray, List.set_cons_zero, List.set_cons_succ])
                refine tk 4 (some 83) (v := ?_) rfl ?_ ?_
                rotate_left
                · intro wS hSw; (try dsimp only at hSw); have x0 := cell_bel hSw.out c0; have x1 := cell_bel hSw.out ch; go_simp; (try with_reducible rfl)
                (try simp only [Act.put, List.setIfInBounds_toArray, List.set_cons_zero, List.set_cons_succ])
                refine tk 5 (some 84) (v := ?_) rfl ?_ ?_
                rotate_left
                · intro wS hSw; (try dsimp only at hSw); have x0 := cell_bel hSw.out c0; have x1 := cell_bel hSw.out ch; go_simp; (try with_reducible rfl)
                (try simp only [Act.put, List.setIfInBounds_toArray, List.set_cons_zero, List.set_cons_succ])
                refine tk 6 (some 85) (v := ?_) rfl ?_ ?_
                rotate_left
                · intro wS hSw; (try dsimp only at hSw); have x0 := cell_bel hSw.out c0; have x1 := cell_bel hSw.out ch; go_simp; (try with_reducible rfl)
                (try simp only [Act.put, List.setIfInBounds_toArray, List.set_cons_zero, List.set_cons_succ])
                refine tk 7 (some 86) (v := ?_) rfl ?_ ?_
                rotate_left
                · intro wS hSw; (try dsimp only at hSw); have x0 := cell_bel hSw.out c0; have x1 := cell_bel hSw.out ch; go_simp; (try with_reducible rfl)
                (try simp only [Act.put, List.setIfInBounds_toArray, List.set_cons_zero, List.set_cons_succ])
                refine tk 8 (some 87) (v := ?_) rfl ?_ ?_
                rotate_left
                · intro wS hSw; (try dsimp only at hSw); have x0 := cell_bel hSw.out c0; have x1 := cell_bel hSw.out ch; go_simp; (try with_reducible rfl)
                (try simp only [Act.put, List.setIfInBounds_toArray, List.set_cons_zero, List.set_cons_succ])
                refine tk 9 (some 88) (v := ?_) rfl ?_ ?_
                rotate_left
                · intro wS hSw; (try dsimp only at hSw); have x0 := cell_bel hSw.out c0; have x1 := cell_bel hSw.out ch; go_simp; (try with_reducible rfl)
                (try simp only [Act.put, List.setIfInBounds_toArray, List.set_cons_zero, List.set_cons_succ])
                have HBa : Hid (Bel w5.heap.size w5 wr.drew) := HBq.out.drew
                clear HBq
                generalize wr.drew = wa at *
                refine wpAnyH_ready (rs := [10]) (by kernel_rfl) (by simp) ?_
                refine AllReadyH.cons rfl (fun K hK => ?_) AllReadyH.nil
                have hc := rresolve_2 fs _ nf capf HNF.out f1 sx wa (HFX.out.below HBa.out.out) HFL.out p q hp hq
                go_simp
                refine hc.mono ?_
                rintro e wb ⟨rfl, hbb⟩
                clear hc
                have HBq : Hid (Bel w5.heap.size w5 wb) := HBa.out.step hbb
                refine hK.out _ _ HBq.out (fun hHz => ?_)
                clear hK K hHz hbb HBa
                (try simp only [Act.put, List.setIfInBounds_toArray, List.set_cons_zero, List.set_cons_succ])
                refine tk 11 (some 78) (v := ?_) rfl ?_ ?_ (hS := HBq.out)
                rotate_left
                · intro wS hSw; (try dsimp only at hSw); go_simp; (try with_reducible rfl)
                (try simp only [Act.put, List.setIfInBounds_toArray, List.set_cons_zero, List.set_cons_succ])
                refine tk 12 (some 90) (v := ?_) rfl ?_ ?_ (hS := HBq.out)
                rotate_left
                · intro wS hSw; (try dsimp only at hSw); go_simp; (try with_reducible rfl)
                (try simp only [Act.put, List.setIfInBounds_toArray, List.set_cons_zero, List.set_cons_succ])
                refine tk 13 (some 91) (v := ?_) rfl ?_ ?_ (hS := HBq.out)
                rotate_left
                · intro wS hSw; (try dsimp only at hSw); go_simp; (try with_reducible rfl)
                (try simp only [Act.put, List.setIfInBounds_toArray, List.set_cons_zero, List.set_cons_succ])
                refine tk 14 (some 15) (v := ?_) rfl ?_ ?_ (hS := HBq.out)
                rotate_left
                · intro wS hSw; (try dsimp only at hSw); go_simp; (try with_reducible rfl)
                (try simp only [Act.put, List.setIfInBounds_toArray, List.set_cons_zero, List.set_cons_succ])
                refine tk 15 (some 16) (v := ?_) rfl ?_ ?_ (hS := HBq.out)
                rotate_left
                · intro wS hSw; (try dsimp only at hSw); go_simp; (try with_reducible rfl)
                (try simp only [Act.put, List.setIfInBounds_toArray, List.set_cons_zero, List.set_cons_succ])
                refine wpAnyH_done (by kernel_rfl) ?_ _
                clear c0 c1 c2 ch hp hq
                go_wp2
                go_roundw
                case rel => exact ⟨k + 1, by omega, by go_num, HBq.out⟩
                case measure => simp [intOf]; omega
              · have HBQ := HBq
                clear HBq
                have HBq := HBQ
                clear HBQ
                have ch := cell_bel HBq.out.out HSX.out
                obtain ⟨p, hp⟩ : ∃ p : Int, (((rsF ⟨#[]⟩ sx fs).1 : Nat) : Int) = p := ⟨_, rfl⟩
                obtain ⟨q, hq⟩ : ∃ q : Int, (rsF ⟨#[]⟩ sx fs).2 = q := ⟨_, rfl⟩
                have hcA := resolve_2 fs af nf capf HNF.out ⟨#[]⟩ sx wr (HF5.out.below HBq.out.out) HFL.out HFC.out p q hp hq
                go_wp2_with fail
                refine hcA.mono ?_
                rintro e wa ⟨rfl, hba⟩
                have HBa : Hid (Bel w5.heap.size w5 wa) := HBq.out.step hba
                have ch := cell_bel HBa.out.out HSX.out
                have hcB := rresolve_2 fs af nf capf HNF.out ⟨#[]⟩ sx wa (HF5.out.below HBa.out.out) HFL.out p q hp hq
                clear hcA hba HBq
                go_wp2_with fail
                refine hcB.mono ?_
                rintro e wb ⟨rfl, hbb⟩
                have HBb : Hid (Bel w5.heap.size w5 wb) := HBa.out.step hbb
                clear hcB hbb HBa ch hp hq
                go_wp2
                go_roundw
                case rel => exact ⟨i + 1, by omega, by go_num, HBb.out⟩
                case measure => simp [intOf]; omega
            · have HBQ := HBq
              clear HBq
              have HBq := HBQ
              clear HBQ
              have ch := cell_bel HBq.out.out HSX.out
              obtain ⟨p, hp⟩ : ∃ p : Int, (((rsF ⟨#[]⟩ sx fs).1 : Nat) : Int) = p := ⟨_, rfl⟩
              obtain ⟨q, hq⟩ : ∃ q : Int, (rsF ⟨#[]⟩ sx fs).2 = q := ⟨_, rfl⟩
              have hcA := resolve_2 fs af nf capf HNF.out ⟨#[]⟩ sx wr (HF5.out.below HBq.out.out) HFL.out HFC.out p q hp hq
              go_wp2_with fail
              refine hcA.mono ?_
              rintro e wa ⟨rfl, hba⟩
              have HBa : Hid (Bel w5.heap.size w5 wa) := HBq.out.step hba
              have ch := cell_bel HBa.out.out HSX.out
              have hcB := rresolve_2 fs af nf capf HNF.out ⟨#[]⟩ sx wa (HF5.out.below HBa.out.out) HFL.out p q hp hq
              clear hcA hba HBq
              go_wp2_with fail
              refine hcB.mono ?_
              rintro e wb ⟨rfl, hbb⟩
              have HBb : Hid (Bel w5.heap.size w5 wb) := HBa.out.step hbb
              clear hcB hbb HBa ch hp hq
              go_wp2
              go_roundw
              case rel => exact ⟨i + 1, by omega, by go_num, HBb.out⟩
              case measure => simp [intOf]; omega
        · obtain rfl : i = 5 := by omega
          have hww := HW.out wr (HB6.out.trans (HBo.out.out.mono HB6.out.size))
          have HB7 : Hid (Below w.heap.size w wr) := HB6.out.trans (HBo.out.out.mono HB6.out.size)
          clear HBo HW
          go_wp2_with fail
          refine hww.mono ?_
          rintro e w8 ⟨rfl, hb8⟩
          have HB8 := HB7.out.trans (hb8.mono HB7.out.size)
          clear hww hb8
          go_wp2
          refine bodyPost_ret (v := .bool true) (by simp [results, Tryz.results3, go_sem]) rfl ⟨rfl, HB8⟩
end Go.Proofs.YtemfgdhcmeimoaaGreatDoor
