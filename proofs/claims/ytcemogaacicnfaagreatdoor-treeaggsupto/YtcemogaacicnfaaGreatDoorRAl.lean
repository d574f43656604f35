/- Whether trees side by side are the same, by the document (its SameAll); its sizes and depths. -/
import Derived.Test.YtcemogaacicnfaaGreatDoorRSa
import Derived.Test.YtcemogaacicnfaaGreatDoorSiz
namespace Go.Proofs.YtcemogaacicnfaaGreatDoor
open Go.ChangeShapes Go.WideShapes Go.ChangeAt Go.RowKit

set_option maxRecDepth 20000 in
set_option maxHeartbeats 4000000 in
theorem SameAll_go (n : Nat) (l l' : List (Tr n)) (b off b' off' c c' : Nat) (w : World) (hn : l.length = l'.length) (hlen : l.length ≤ 9223372036854775807)
    (hc : ∀ i y, l[i]? = some y → ∃ s c, (w.cell? ⟨b, off + i * 5, none⟩ = some (.int .i64 (kd n y)) ∧ w.cell? ⟨b, off + i * 5 + 1, none⟩ = some (.string (bsA (tx n y))) ∧ w.cell? ⟨b, off + i * 5 + 2, none⟩ = some (.int .i64 (nu n y)) ∧ w.cell? ⟨b, off + i * 5 + 3, none⟩ = some (.int .i64 (pl n y)) ∧ w.cell? ⟨b, off + i * 5 + 4, none⟩ = some (.slice s (ks n y).length c)) ∧ NdAt w n y s)
    (hd : ∀ i y, l'[i]? = some y → ∃ s c, (w.cell? ⟨b', off' + i * 5, none⟩ = some (.int .i64 (kd n y)) ∧ w.cell? ⟨b', off' + i * 5 + 1, none⟩ = some (.string (bsA (tx n y))) ∧ w.cell? ⟨b', off' + i * 5 + 2, none⟩ = some (.int .i64 (nu n y)) ∧ w.cell? ⟨b', off' + i * 5 + 3, none⟩ = some (.int .i64 (pl n y)) ∧ w.cell? ⟨b', off' + i * 5 + 4, none⟩ = some (.slice s (ks n y).length c)) ∧ NdAt w n y s) :
    Calls Tryz.prog 21 #[.slice (some ⟨b, off, none⟩) l.length c, .slice (some ⟨b', off', none⟩) l.length c'] w fun e w' => e = .returned (.bool (samL n l l')) ∧ Below w.heap.size w w' := by
  have HC : Hid _ := hc
  have HD : Hid _ := hd
  have HS : Hid (samL n l l' = (l.zip l').all fun p => samP n p.1 p.2) := by show _ = _; unfold samL; rw [decide_eq_true hn]; rfl
  have HNN : Hid (l.length = l'.length) := hn
  clear hc hd hn
  go_enter Tryz.func21, Tryz.ntmps21
  go_wp2
  go_loopw [5] (fun i wr => ∃ k : Nat, k ≤ l.length ∧ i = .int .i64 k ∧ ((l.zip l').take k).all (fun p => samP n p.1 p.2) = true ∧ Bel w.heap.size w wr) (fun i _ => l.length - (intOf i).toNat)
  case atStart => exact ⟨0, Nat.zero_le _, rfl, rfl, Bel.refl _⟩
  case round =>
    obtain ⟨i, hi, rfl, hV, HB⟩ := hrel
    have HV : Hid (((l.zip l').take i).all (fun p => samP n p.1 p.2) = true) := hV
    clear hV
    have hBr := HB.out
    rcases Nat.lt_or_ge i l.length with hlt | hge
    · have gc : l[i]? = some l[i] := List.getElem?_eq_getElem hlt
      have gd : l'[i]? = some (l'[i]'(by rw [← HNN.out]; exact hlt)) := List.getElem?_eq_getElem _
      obtain ⟨s, cs, ⟨c0, c1, c2, c3, c4⟩, hp⟩ := HC.out i _ gc
      obtain ⟨s', cs', ⟨d0, d1, d2, d3, d4⟩, hp'⟩ := HD.out i _ gd
      have c0 := cell_below hBr c0
      have c1 := cell_below hBr c1
      have c2 := cell_below hBr c2
      have c3 := cell_below hBr c3
      have c4 := cell_below hBr c4
      have d0 := cell_below hBr d0
      have d1 := cell_below hBr d1
      have d2 := cell_below hBr d2
      have d3 := cell_below hBr d3
      have d4 := cell_below hBr d4
      have HP : Hid _ := NdAt.below hBr hp
      have HP' : Hid _ := NdAt.below hBr hp'
      have HZ : Hid _ := zip_snoc (samP n) gc gd
      have HZ2 : Hid _ := zip_no (samP n) gc gd
      clear hp hp' gc gd
      generalize l[i] = x at *
      generalize l'[i]'(by rw [← HNN.out]; exact hlt) = y at *
      have h1 := fun W (hb : Below wr.heap.size wr W) => RSame_any n x y s s' cs cs' W (NdAt.below hb HP.out) (NdAt.below hb HP'.out)
      unfold ndV at h1
      have HH : Hid _ := h1
      clear h1
      cases hxy : samP n x y with
      | false =>
        have HN : Hid (samL n l l' = false) := HS.out.trans (HZ2.out hxy)
        rw [hxy] at HH
        clear HZ HZ2 HV hxy HP HP' HC HD
        go_wp2_with fail
        refine wp_region_held_drew (S := (fun wS => Bel wr.heap.size wr wS)) (by kernel_rfl) ?_ (fun hHeld => ?_)
        · (try dsimp only); exact (Bel.refl _).drew
        refine wpAnyH_take (i := 0) (oi := { dst := some 17, op := Op.move (Operand.tmp 0), type := 22, pos := "ref.go:411", after := #[], guard := none }) (v := ?_) rfl (by kernel_rfl) (by kernel_rfl) (by kernel_rfl) (fun _ _ _ h => h) (Or.inl ⟨by kernel_rfl, ?_⟩) (by assumption) ?_
        rotate_left
        · intro wS hSw; (try dsimp only at hSw); go_simp; (try with_reducible rfl)
        try simp only [Act.put, List.setIfInBounds_toArray, List.set_cons_zero, List.set_cons_succ]
        refine wpAnyH_take (i := 1) (oi := { dst := some 18, op := Op.move (Operand.tmp 5), type := 3, pos := "ref.go:411", after := #[], guard := none }) (v := ?_) rfl (by kernel_rfl) (by kernel_rfl) (by kernel_rfl) (fun _ _ _ h => h) (Or.inl ⟨by kernel_rfl, ?_⟩) (by assumption) ?_
        rotate_left
        · intro wS hSw; (try dsimp only at hSw); go_simp; (try with_reducible rfl)
        try simp only [Act.put, List.setIfInBounds_toArray, List.set_cons_zero, List.set_cons_succ]
        refine wpAnyH_take (i := 2) (oi := { dst := some 19, op := Op.indexAddr 22 (Operand.tmp 17) (Operand.tmp 18), type := 0, pos := "ref.go:411", after := #[{ on := 0, ground := Ground.data }, { on := 1, ground := Ground.data }], guard := none }) (v := ?_) rfl (by kernel_rfl) (by kernel_rfl) (by kernel_rfl) (fun _ _ _ h => h) (Or.inl ⟨by kernel_rfl, ?_⟩) (by assumption) ?_
        rotate_left
        · intro wS hSw; (try dsimp only at hSw); go_simp; (try with_reducible rfl)
        try simp only [Act.put, List.setIfInBounds_toArray, List.set_cons_zero, List.set_cons_succ]
        refine wpAnyH_take (i := 3) (oi := { dst := some 20, op := Op.load 24 (Operand.tmp 19), type := 24, pos := "ref.go:411", after := #[{ on := 2, ground := Ground.data }], guard := none }) (v := ?_) rfl (by kernel_rfl) (by kernel_rfl) (by kernel_rfl) (fun _ _ _ h => h) (Or.inl ⟨by kernel_rfl, ?_⟩) (by assumption) ?_
        rotate_left
        · intro wS hSw; (try dsimp only at hSw); have xm0 := cell_below hSw.out c0; have xm1 := cell_below hSw.out c1; have xm2 := cell_below hSw.out c2; have xm3 := cell_below hSw.out c3; have xm4 := cell_below hSw.out c4; go_simp; (try with_reducible rfl)
        try simp only [Act.put, List.setIfInBounds_toArray, List.set_cons_zero, List.set_cons_succ]
        refine wpAnyH_take (i := 4) (oi := { dst := some 21, op := Op.move (Operand.tmp 1), type := 22, pos := "ref.go:411", after := #[], guard := none }) (v := ?_) rfl (by kernel_rfl) (by kernel_rfl) (by kernel_rfl) (fun _ _ _ h => h) (Or.inl ⟨by kernel_rfl, ?_⟩) (by assumption) ?_
        rotate_left
        · intro wS hSw; (try dsimp only at hSw); go_simp; (try with_reducible rfl)
        try simp only [Act.put, List.setIfInBounds_toArray, List.set_cons_zero, List.set_cons_succ]
        refine wpAnyH_take (i := 5) (oi := { dst := some 22, op := Op.move (Operand.tmp 5), type := 3, pos := "ref.go:411", after := #[], guard := none }) (v := ?_) rfl (by kernel_rfl) (by kernel_rfl) (by kernel_rfl) (fun _ _ _ h => h) (Or.inl ⟨by kernel_rfl, ?_⟩) (by assumption) ?_
        rotate_left
        · intro wS hSw; (try dsimp only at hSw); go_simp; (try with_reducible rfl)
        try simp only [Act.put, List.setIfInBounds_toArray, List.set_cons_zero, List.set_cons_succ]
        refine wpAnyH_take (i := 6) (oi := { dst := some 23, op := Op.indexAddr 22 (Operand.tmp 21) (Operand.tmp 22), type := 0, pos := "ref.go:411", after := #[{ on := 4, ground := Ground.data }, { on := 5, ground := Ground.data }], guard := none }) (v := ?_) rfl (by kernel_rfl) (by kernel_rfl) (by kernel_rfl) (fun _ _ _ h => h) (Or.inl ⟨by kernel_rfl, ?_⟩) (by assumption) ?_
        rotate_left
        · intro wS hSw; (try dsimp only at hSw); go_simp; (try with_reducible rfl)
        try simp only [Act.put, List.setIfInBounds_toArray, List.set_cons_zero, List.set_cons_succ]
        refine wpAnyH_take (i := 7) (oi := { dst := some 24, op := Op.load 24 (Operand.tmp 23), type := 24, pos := "ref.go:411", after := #[{ on := 6, ground := Ground.data }], guard := none }) (v := ?_) rfl (by kernel_rfl) (by kernel_rfl) (by kernel_rfl) (fun _ _ _ h => h) (Or.inl ⟨by kernel_rfl, ?_⟩) (by assumption) ?_
        rotate_left
        · intro wS hSw; (try dsimp only at hSw); have ym0 := cell_below hSw.out d0; have ym1 := cell_below hSw.out d1; have ym2 := cell_below hSw.out d2; have ym3 := cell_below hSw.out d3; have ym4 := cell_below hSw.out d4; go_simp; (try with_reducible rfl)
        try simp only [Act.put, List.setIfInBounds_toArray, List.set_cons_zero, List.set_cons_succ]
        refine wpAnyH_ready (rs := [8]) (by kernel_rfl) (by simp) ?_
        refine AllReadyH.cons (o := { dst := some 25, op := Op.call { callee := Callee.value (Operand.func 19), args := #[Operand.tmp 20, Operand.tmp 24], argTypes := #[24, 24] }, type := 4, pos := "ref.go:411", after := #[{ on := 3, ground := Ground.data }, { on := 7, ground := Ground.data }], guard := none }) rfl (fun K hK => ?_) AllReadyH.nil
        go_simp
        go_at_call 19
        refine (HH.out _ (Below.refl wr.heap.size wr).drew).mono ?_
        rintro e w3 ⟨rfl, hb3⟩
        refine hK.out _ _ ?_ (fun hH8 => ?_)
        · (try dsimp only); exact Bel.step (Bel.refl _).drew hb3
        clear hK K
        try simp only [Act.put, List.setIfInBounds_toArray, List.set_cons_zero, List.set_cons_succ]
        refine wpAnyH_take (i := 9) (oi := { dst := some 26, op := Op.unOp UnOp.not 4 (Operand.tmp 25), type := 4, pos := "ref.go:411", after := #[{ on := 8, ground := Ground.data }], guard := none }) (v := ?_) rfl (by kernel_rfl) (by kernel_rfl) (by kernel_rfl) (fun _ _ _ h => h) (Or.inl ⟨by kernel_rfl, ?_⟩) (by assumption) ?_
        rotate_left
        · intro wS hSw; (try dsimp only at hSw); go_simp; (try with_reducible rfl)
        try simp only [Act.put, List.setIfInBounds_toArray, List.set_cons_zero, List.set_cons_succ]
        refine wpAnyH_done (by kernel_rfl) ?_ _
        have hB3 := hBr.trans ((Bel.step (Bel.refl wr).drew hb3).out.mono hBr.size)
        go_wp2
        go_ret
        exact ⟨ret_bool HN.out.symm, hB3⟩
      | true =>
        have HN : Hid (((l.zip l').take (i + 1)).all (fun p => samP n p.1 p.2) = true) := by show _ = _; rw [HZ.out, HV.out, hxy]; rfl
        rw [hxy] at HH
        clear HZ HZ2 HV hxy HP HP' HC HD
        go_wp2_with fail
        refine wp_region_held_drew (S := (fun wS => Bel wr.heap.size wr wS)) (by kernel_rfl) ?_ (fun hHeld => ?_)
        · (try dsimp only); exact (Bel.refl _).drew
        refine wpAnyH_take (i := 0) (oi := { dst := some 17, op := Op.move (Operand.tmp 0), type := 22, pos := "ref.go:411", after := #[], guard := none }) (v := ?_) rfl (by kernel_rfl) (by kernel_rfl) (by kernel_rfl) (fun _ _ _ h => h) (Or.inl ⟨by kernel_rfl, ?_⟩) (by assumption) ?_
        rotate_left
        · intro wS hSw; (try dsimp only at hSw); go_simp; (try with_reducible rfl)
        try simp only [Act.put, List.setIfInBounds_toArray, List.set_cons_zero, List.set_cons_succ]
        refine wpAnyH_take (i := 1) (oi := { dst := some 18, op := Op.move (Operand.tmp 5), type := 3, pos := "ref.go:411", after := #[], guard := none }) (v := ?_) rfl (by kernel_rfl) (by kernel_rfl) (by kernel_rfl) (fun _ _ _ h => h) (Or.inl ⟨by kernel_rfl, ?_⟩) (by assumption) ?_
        rotate_left
        · intro wS hSw; (try dsimp only at hSw); go_simp; (try with_reducible rfl)
        try simp only [Act.put, List.setIfInBounds_toArray, List.set_cons_zero, List.set_cons_succ]
        refine wpAnyH_take (i := 2) (oi := { dst := some 19, op := Op.indexAddr 22 (Operand.tmp 17) (Operand.tmp 18), type := 0, pos := "ref.go:411", after := #[{ on := 0, ground := Ground.data }, { on := 1, ground := Ground.data }], guard := none }) (v := ?_) rfl (by kernel_rfl) (by kernel_rfl) (by kernel_rfl) (fun _ _ _ h => h) (Or.inl ⟨by kernel_rfl, ?_⟩) (by assumption) ?_
        rotate_left
        · intro wS hSw; (try dsimp only at hSw); go_simp; (try with_reducible rfl)
        try simp only [Act.put, List.setIfInBounds_toArray, List.set_cons_zero, List.set_cons_succ]
        refine wpAnyH_take (i := 3) (oi := { dst := some 20, op := Op.load 24 (Operand.tmp 19), type := 24, pos := "ref.go:411", after := #[{ on := 2, ground := Ground.data }], guard := none }) (v := ?_) rfl (by kernel_rfl) (by kernel_rfl) (by kernel_rfl) (fun _ _ _ h => h) (Or.inl ⟨by kernel_rfl, ?_⟩) (by assumption) ?_
        rotate_left
        · intro wS hSw; (try dsimp only at hSw); have xm0 := cell_below hSw.out c0; have xm1 := cell_below hSw.out c1; have xm2 := cell_below hSw.out c2; have xm3 := cell_below hSw.out c3; have xm4 := cell_below hSw.out c4; go_simp; (try with_reducible rfl)
        try simp only [Act.put, List.setIfInBounds_toArray, List.set_cons_zero, List.set_cons_succ]
        refine wpAnyH_take (i := 4) (oi := { dst := some 21, op := Op.move (Operand.tmp 1), type := 22, pos := "ref.go:411", after := #[], guard := none }) (v := ?_) rfl (by kernel_rfl) (by kernel_rfl) (by kernel_rfl) (fun _ _ _ h => h) (Or.inl ⟨by kernel_rfl, ?_⟩) (by assumption) ?_
        rotate_left
        · intro wS hSw; (try dsimp only at hSw); go_simp; (try with_reducible rfl)
        try simp only [Act.put, List.setIfInBounds_toArray, List.set_cons_zero, List.set_cons_succ]
        refine wpAnyH_take (i := 5) (oi := { dst := some 22, op := Op.move (Operand.tmp 5), type := 3, pos := "ref.go:411", after := #[], guard := none }) (v := ?_) rfl (by kernel_rfl) (by kernel_rfl) (by kernel_rfl) (fun _ _ _ h => h) (Or.inl ⟨by kernel_rfl, ?_⟩) (by assumption) ?_
        rotate_left
        · intro wS hSw; (try dsimp only at hSw); go_simp; (try with_reducible rfl)
        try simp only [Act.put, List.setIfInBounds_toArray, List.set_cons_zero, List.set_cons_succ]
        refine wpAnyH_take (i := 6) (oi := { dst := some 23, op := Op.indexAddr 22 (Operand.tmp 21) (Operand.tmp 22), type := 0, pos := "ref.go:411", after := #[{ on := 4, ground := Ground.data }, { on := 5, ground := Ground.data }], guard := none }) (v := ?_) rfl (by kernel_rfl) (by kernel_rfl) (by kernel_rfl) (fun _ _ _ h => h) (Or.inl ⟨by kernel_rfl, ?_⟩) (by assumption) ?_
        rotate_left
        · intro wS hSw; (try dsimp only at hSw); go_simp; (try with_reducible rfl)
        try simp only [Act.put, List.setIfInBounds_toArray, List.set_cons_zero, List.set_cons_succ]
        refine wpAnyH_take (i := 7) (oi := { dst := some 24, op := Op.load 24 (Operand.tmp 23), type := 24, pos := "ref.go:411", after := #[{ on := 6, ground := Ground.data }], guard := none }) (v := ?_) rfl (by kernel_rfl) (by kernel_rfl) (by kernel_rfl) (fun _ _ _ h => h) (Or.inl ⟨by kernel_rfl, ?_⟩) (by assumption) ?_
        rotate_left
        · intro wS hSw; (try dsimp only at hSw); have ym0 := cell_below hSw.out d0; have ym1 := cell_below hSw.out d1; have ym2 := cell_below hSw.out d2; have ym3 := cell_below hSw.out d3; have ym4 := cell_below hSw.out d4; go_simp; (try with_reducible rfl)
        try simp only [Act.put, List.setIfInBounds_toArray, List.set_cons_zero, List.set_cons_succ]
        refine wpAnyH_ready (rs := [8]) (by kernel_rfl) (by simp) ?_
        refine AllReadyH.cons (o := { dst := some 25, op := Op.call { callee := Callee.value (Operand.func 19), args := #[Operand.tmp 20, Operand.tmp 24], argTypes := #[24, 24] }, type := 4, pos := "ref.go:411", after := #[{ on := 3, ground := Ground.data }, { on := 7, ground := Ground.data }], guard := none }) rfl (fun K hK => ?_) AllReadyH.nil
        go_simp
        go_at_call 19
        refine (HH.out _ (Below.refl wr.heap.size wr).drew).mono ?_
        rintro e w3 ⟨rfl, hb3⟩
        refine hK.out _ _ ?_ (fun hH8 => ?_)
        · (try dsimp only); exact Bel.step (Bel.refl _).drew hb3
        clear hK K
        try simp only [Act.put, List.setIfInBounds_toArray, List.set_cons_zero, List.set_cons_succ]
        refine wpAnyH_take (i := 9) (oi := { dst := some 26, op := Op.unOp UnOp.not 4 (Operand.tmp 25), type := 4, pos := "ref.go:411", after := #[{ on := 8, ground := Ground.data }], guard := none }) (v := ?_) rfl (by kernel_rfl) (by kernel_rfl) (by kernel_rfl) (fun _ _ _ h => h) (Or.inl ⟨by kernel_rfl, ?_⟩) (by assumption) ?_
        rotate_left
        · intro wS hSw; (try dsimp only at hSw); go_simp; (try with_reducible rfl)
        try simp only [Act.put, List.setIfInBounds_toArray, List.set_cons_zero, List.set_cons_succ]
        refine wpAnyH_done (by kernel_rfl) ?_ _
        have hB3 := hBr.trans ((Bel.step (Bel.refl wr).drew hb3).out.mono hBr.size)
        go_wp2
        go_roundw
        case rel => exact ⟨i + 1, by omega, by go_num, HN.out, ⟨hB3, hB3.size⟩⟩
        case measure => simp [intOf]; omega
    · have HN : Hid (samL n l l' = true) := by
        show _ = _
        rw [HS.out, ← HV.out, List.take_of_length_le (by rw [List.length_zip, ← HNN.out]; omega)]
      go_wp2
      go_ret
      exact ⟨ret_bool HN.out.symm, hBr⟩
set_option maxRecDepth 20000 in
set_option maxHeartbeats 4000000 in
theorem SameAll_ne (s s' : Option Addr) (l m c c' : Nat) (w : World) (h : ((l : Int) == (m : Int)) = false) : Calls Tryz.prog 21 #[.slice s l c, .slice s' m c'] w fun e w' => e = .returned (.bool false) ∧ Below w.heap.size w w' := by
  go_enter Tryz.func21, Tryz.ntmps21
  go_wp2
  go_ret
  exact ⟨rfl, Below.refl _ _⟩
set_option maxRecDepth 20000 in
set_option maxHeartbeats 4000000 in
theorem SameAll_0 (s s' : Option Addr) (c c' : Nat) (w : World) : Calls Tryz.prog 21 #[.slice s 0 c, .slice s' 0 c'] w fun e w' => e = .returned (.bool true) ∧ Below w.heap.size w w' := by
  go_enter Tryz.func21, Tryz.ntmps21
  go_wp2
  refine wp_loop_rounds 1 ?_
  rw [rounds_succ]
  go_wp2
  go_ret
  exact ⟨rfl, Below.refl _ _⟩
theorem SameAll_any (n : Nat) (l m : List (Tr n)) (s s' : Option Addr) (c c' : Nat) (w : World) (hl : KsAt w n s l) (hm : KsAt w n s' m) :
    Calls Tryz.prog 21 #[.slice s l.length c, .slice s' m.length c'] w fun e w' => e = .returned (.bool (samL n l m)) ∧ Below w.heap.size w w' := by
  by_cases hn : l.length = m.length
  · obtain ⟨hlen, hl⟩ := hl
    obtain ⟨_, hm⟩ := hm
    rcases hl with rfl | ⟨b, off, rfl, hc⟩
    · have hm0 : m = [] := List.length_eq_zero_iff.1 hn.symm
      subst hm0
      exact SameAll_0 s s' c c' w
    · rcases hm with rfl | ⟨b', off', rfl, hd⟩
      · have hl0 : l = [] := List.length_eq_zero_iff.1 hn
        subst hl0
        exact SameAll_0 _ s' c c' w
      · rw [← hn]
        exact SameAll_go n l m b off b' off' c c' w hn hlen hc hd
  · have e : samL n l m = false := by unfold samL; rw [decide_eq_false hn]; rfl
    rw [e]
    exact SameAll_ne s s' l.length m.length c c' w (by simpa using (fun h : (l.length : Int) = m.length => hn (by omega)))
end Go.Proofs.YtcemogaacicnfaaGreatDoor
