/- When two trees are the same, by the document (its Same). -/
import Derived.Test.YtcicdapccondkaaSam
namespace Go.Proofs.Ytcicdapccondkaa
set_option maxRecDepth 20000
set_option maxHeartbeats 4000000
open Go.ChangeShapes Go.WideShapes Go.ChangeAt Go.RowKit

theorem box4 (w : World) (v0 v1 v2 v3 v4 : Value) (T : TypeId) : (w.alloc (Obj.cells #[v0, v1, v2, v3, v4] T)).cell? ⟨w.heap.size, 4, none⟩ = some v4 := by go_simp
theorem RSame_go (n : Nat) (k : Int) (t : List UInt8) (m a a' : Int) (l l' : List (Tr n)) (b off b' off' c c' : Nat) (w : World) (hF : (∀ (x y : Tr n) (s s' : Option Addr) (c c' : Nat) (W : World), NdAt W n x s → NdAt W n y s' → Calls Try.prog 9 #[ndV n x s c, ndV n y s' c'] W fun e w' => e = .returned (.bool (samP n x y)) ∧ Below W.heap.size W w')) (hn : l.length = l'.length) (hlen : l.length ≤ 9223372036854775807)
    (hc : ∀ i y, l[i]? = some y → ∃ s c, (w.cell? ⟨b, off + i * 5, none⟩ = some (.int .i64 (kd n y)) ∧ w.cell? ⟨b, off + i * 5 + 1, none⟩ = some (.string (bsA (tx n y))) ∧ w.cell? ⟨b, off + i * 5 + 2, none⟩ = some (.int .i64 (nu n y)) ∧ w.cell? ⟨b, off + i * 5 + 3, none⟩ = some (.int .i64 (pl n y)) ∧ w.cell? ⟨b, off + i * 5 + 4, none⟩ = some (.slice s (ks n y).length c)) ∧ NdAt w n y s)
    (hd : ∀ i y, l'[i]? = some y → ∃ s c, (w.cell? ⟨b', off' + i * 5, none⟩ = some (.int .i64 (kd n y)) ∧ w.cell? ⟨b', off' + i * 5 + 1, none⟩ = some (.string (bsA (tx n y))) ∧ w.cell? ⟨b', off' + i * 5 + 2, none⟩ = some (.int .i64 (nu n y)) ∧ w.cell? ⟨b', off' + i * 5 + 3, none⟩ = some (.int .i64 (pl n y)) ∧ w.cell? ⟨b', off' + i * 5 + 4, none⟩ = some (.slice s (ks n y).length c)) ∧ NdAt w n y s) :
    Calls Try.prog 9 #[.agg #[.int .i64 k, .string (bsA t), .int .i64 m, .int .i64 a, .slice (some ⟨b, off, none⟩) l.length c], .agg #[.int .i64 k, .string (bsA t), .int .i64 m, .int .i64 a', .slice (some ⟨b', off', none⟩) l.length c']] w fun e w' => e = .returned (.bool (samL n l l')) ∧ Below w.heap.size w w' := by
  have HFF : Hid _ := hF
  have HC : Hid _ := hc
  have HD : Hid _ := hd
  have HS : Hid (samL n l l' = (l.zip l').all fun p => samP n p.1 p.2) := by show _ = _; unfold samL; rw [decide_eq_true hn]; rfl
  have HNN : Hid (l.length = l'.length) := hn
  clear hF hc hd hn
  have x4 : ((w.alloc (Obj.cells #[Value.int IntKind.i64 k, Value.string (bsA t), Value.int IntKind.i64 m, Value.int IntKind.i64 a, Value.slice (some ⟨b, off, none⟩) l.length c] 26)).alloc (Obj.cells #[Value.int IntKind.i64 k, Value.string (bsA t), Value.int IntKind.i64 m, Value.int IntKind.i64 a', Value.slice (some ⟨b', off', none⟩) l.length c'] 26)).cell? ⟨w.heap.size, 4, none⟩ = some (.slice (some ⟨b, off, none⟩) l.length c) := cell_below ((Below.refl _ _).alloc (Nat.le_refl _) _) (box4 _ _ _ _ _ _ _)
  have y4 : ((w.alloc (Obj.cells #[Value.int IntKind.i64 k, Value.string (bsA t), Value.int IntKind.i64 m, Value.int IntKind.i64 a, Value.slice (some ⟨b, off, none⟩) l.length c] 26)).alloc (Obj.cells #[Value.int IntKind.i64 k, Value.string (bsA t), Value.int IntKind.i64 m, Value.int IntKind.i64 a', Value.slice (some ⟨b', off', none⟩) l.length c'] 26)).cell? ⟨w.heap.size + 1, 4, none⟩ = some (.slice (some ⟨b', off', none⟩) l.length c') := by
    have := box4 (w.alloc (Obj.cells #[Value.int IntKind.i64 k, Value.string (bsA t), Value.int IntKind.i64 m, Value.int IntKind.i64 a, Value.slice (some ⟨b, off, none⟩) l.length c] 26)) (.int .i64 k) (.string (bsA t)) (.int .i64 m) (.int .i64 a') (.slice (some ⟨b', off', none⟩) l.length c') 26
    rw [World.size_alloc] at this
    exact this
  have hB0 : Below w.heap.size w ((w.alloc (Obj.cells #[Value.int IntKind.i64 k, Value.string (bsA t), Value.int IntKind.i64 m, Value.int IntKind.i64 a, Value.slice (some ⟨b, off, none⟩) l.length c] 26)).alloc (Obj.cells #[Value.int IntKind.i64 k, Value.string (bsA t), Value.int IntKind.i64 m, Value.int IntKind.i64 a', Value.slice (some ⟨b', off', none⟩) l.length c'] 26)) := ((Below.refl _ w).alloc (Nat.le_refl _) _).alloc (by simp) _
  go_enter Try.func9, Try.ntmps9
  go_wp2
  generalize (w.alloc (Obj.cells #[Value.int IntKind.i64 k, Value.string (bsA t), Value.int IntKind.i64 m, Value.int IntKind.i64 a, Value.slice (some ⟨b, off, none⟩) l.length c] 26)).alloc (Obj.cells #[Value.int IntKind.i64 k, Value.string (bsA t), Value.int IntKind.i64 m, Value.int IntKind.i64 a', Value.slice (some ⟨b', off', none⟩) l.length c'] 26) = W0 at *
  go_loopw [5] (fun i wr => ∃ k : Nat, k ≤ l.length ∧ i = .int .i64 k ∧ ((l.zip l').take k).all (fun p => samP n p.1 p.2) = true ∧ Bel W0.heap.size W0 wr) (fun i _ => l.length - (intOf i).toNat)
  case atStart => exact ⟨0, Nat.zero_le _, rfl, rfl, Bel.refl _⟩
  case round =>
    obtain ⟨i, hi, rfl, hV, HB⟩ := hrel
    have HV : Hid (((l.zip l').take i).all (fun p => samP n p.1 p.2) = true) := hV
    clear hV
    have hW := HB.out
    have hBr : Below w.heap.size w wr := hB0.trans (hW.mono hB0.size)
    have x4 := cell_below hW x4
    have y4 := cell_below hW y4
    rcases Nat.lt_or_ge i l.length with hlt | hge
    · have gc : l[i]? = some l[i] := List.getElem?_eq_getElem hlt
      have gd : l'[i]? = some (l'[i]'(by rw [← HNN.out]; exact hlt)) := List.getElem?_eq_getElem _
      obtain ⟨s, cs, ⟨c0, c1, c2, c3, c4⟩, hp⟩ := HC.out i _ gc
      obtain ⟨s', cs', ⟨d0, d1, d2, d3, d4⟩, hp'⟩ := HD.out i _ gd
      have c0 := cell_below hBr c0
      have c1 := cell_below hBr c1
      have c2 := cell_below hBr c2
      have c3 := cell_below hBr c3
      have c4 := cell_below hBr c4
      have d0 := cell_below hBr d0
      have d1 := cell_below hBr d1
      have d2 := cell_below hBr d2
      have d3 := cell_below hBr d3
      have d4 := cell_below hBr d4
      have HP : Hid _ := NdAt.below hBr hp
      have HP' : Hid _ := NdAt.below hBr hp'
      have HZ : Hid _ := zip_snoc (samP n) gc gd
      have HZ2 : Hid _ := zip_no (samP n) gc gd
      clear hp hp' gc gd
      generalize l[i] = x at *
      generalize l'[i]'(by rw [← HNN.out]; exact hlt) = y at *
      have h1 := fun W (hb : Below wr.heap.size wr W) => HFF.out x y s s' cs cs' W (NdAt.below hb HP.out) (NdAt.below hb HP'.out)
      unfold ndV at h1
      have HH : Hid _ := h1
      clear h1
      cases hxy : samP n x y with
      | false =>
        have HN : Hid (samL n l l' = false) := HS.out.trans (HZ2.out hxy)
        rw [hxy] at HH
        clear HZ HZ2 HV hxy HP HP' HC HD
        go_wp2_with fail
        refine wp_region_held_drew (S := (fun wS => Bel wr.heap.size wr wS)) (by kernel_rfl) ?_ (fun hHeld => ?_)
        · (try dsimp only); exact (Bel.refl _).drew
        refine tk 0 (some 41) (v := ?_) rfl ?_ ?_
        rotate_left
        · intro wS hSw; (try dsimp only at hSw); go_simp; (try with_reducible rfl)
        try simp only [Act.put, List.setIfInBounds_toArray, List.set_cons_zero, List.set_cons_succ]
        refine tk 1 (some 42) (v := ?_) rfl ?_ ?_
        rotate_left
        · intro wS hSw; (try dsimp only at hSw); have xm := cell_below hSw.out x4; go_simp; (try with_reducible rfl)
        try simp only [Act.put, List.setIfInBounds_toArray, List.set_cons_zero, List.set_cons_succ]
        refine tk 2 (some 43) (v := ?_) rfl ?_ ?_
        rotate_left
        · intro wS hSw; (try dsimp only at hSw); go_simp; (try with_reducible rfl)
        try simp only [Act.put, List.setIfInBounds_toArray, List.set_cons_zero, List.set_cons_succ]
        refine tk 3 (some 44) (v := ?_) rfl ?_ ?_
        rotate_left
        · intro wS hSw; (try dsimp only at hSw); go_simp; (try with_reducible rfl)
        try simp only [Act.put, List.setIfInBounds_toArray, List.set_cons_zero, List.set_cons_succ]
        refine tk 4 (some 45) (v := ?_) rfl ?_ ?_
        rotate_left
        · intro wS hSw; (try dsimp only at hSw); have xm0 := cell_below hSw.out c0; have xm1 := cell_below hSw.out c1; have xm2 := cell_below hSw.out c2; have xm3 := cell_below hSw.out c3; have xm4 := cell_below hSw.out c4; go_simp; (try with_reducible rfl)
        try simp only [Act.put, List.setIfInBounds_toArray, List.set_cons_zero, List.set_cons_succ]
        refine tk 5 (some 46) (v := ?_) rfl ?_ ?_
        rotate_left
        · intro wS hSw; (try dsimp only at hSw); go_simp; (try with_reducible rfl)
        try simp only [Act.put, List.setIfInBounds_toArray, List.set_cons_zero, List.set_cons_succ]
        refine tk 6 (some 47) (v := ?_) rfl ?_ ?_
        rotate_left
        · intro wS hSw; (try dsimp only at hSw); have xm := cell_below hSw.out y4; go_simp; (try with_reducible rfl)
        try simp only [Act.put, List.setIfInBounds_toArray, List.set_cons_zero, List.set_cons_succ]
        refine tk 7 (some 48) (v := ?_) rfl ?_ ?_
        rotate_left
        · intro wS hSw; (try dsimp only at hSw); go_simp; (try with_reducible rfl)
        try simp only [Act.put, List.setIfInBounds_toArray, List.set_cons_zero, List.set_cons_succ]
        refine tk 8 (some 49) (v := ?_) rfl ?_ ?_
        rotate_left
        · intro wS hSw; (try dsimp only at hSw); go_simp; (try with_reducible rfl)
        try simp only [Act.put, List.setIfInBounds_toArray, List.set_cons_zero, List.set_cons_succ]
        refine tk 9 (some 50) (v := ?_) rfl ?_ ?_
        rotate_left
        · intro wS hSw; (try dsimp only at hSw); have ym0 := cell_below hSw.out d0; have ym1 := cell_below hSw.out d1; have ym2 := cell_below hSw.out d2; have ym3 := cell_below hSw.out d3; have ym4 := cell_below hSw.out d4; go_simp; (try with_reducible rfl)
        try simp only [Act.put, List.setIfInBounds_toArray, List.set_cons_zero, List.set_cons_succ]
        refine wpAnyH_ready (rs := [10]) (by kernel_rfl) (by simp) ?_
        refine AllReadyH.cons rfl (fun K hK => ?_) AllReadyH.nil
        go_simp
        go_at_call 9
        refine (HH.out _ (Below.refl wr.heap.size wr).drew).mono ?_
        rintro e w3 ⟨rfl, hb3⟩
        refine hK.out _ _ ?_ (fun hH10 => ?_)
        · (try dsimp only); exact Bel.step (Bel.refl _).drew hb3
        clear hK K
        try simp only [Act.put, List.setIfInBounds_toArray, List.set_cons_zero, List.set_cons_succ]
        refine tk 11 (some 52) (v := ?_) rfl ?_ ?_
        rotate_left
        · intro wS hSw; (try dsimp only at hSw); go_simp; (try with_reducible rfl)
        try simp only [Act.put, List.setIfInBounds_toArray, List.set_cons_zero, List.set_cons_succ]
        refine wpAnyH_done (by kernel_rfl) ?_ _
        have hB3 := hBr.trans ((Bel.step (Bel.refl wr).drew hb3).out.mono hBr.size)
        go_wp2
        go_ret
        exact ⟨ret_bool HN.out.symm, hB3⟩
      | true =>
        have HN : Hid (((l.zip l').take (i + 1)).all (fun p => samP n p.1 p.2) = true) := by show _ = _; rw [HZ.out, HV.out, hxy]; rfl
        rw [hxy] at HH
        clear HZ HZ2 HV hxy HP HP' HC HD
        go_wp2_with fail
        refine wp_region_held_drew (S := (fun wS => Bel wr.heap.size wr wS)) (by kernel_rfl) ?_ (fun hHeld => ?_)
        · (try dsimp only); exact (Bel.refl _).drew
        refine tk 0 (some 41) (v := ?_) rfl ?_ ?_
        rotate_left
        · intro wS hSw; (try dsimp only at hSw); go_simp; (try with_reducible rfl)
        try simp only [Act.put, List.setIfInBounds_toArray, List.set_cons_zero, List.set_cons_succ]
        refine tk 1 (some 42) (v := ?_) rfl ?_ ?_
        rotate_left
        · intro wS hSw; (try dsimp only at hSw); have xm := cell_below hSw.out x4; go_simp; (try with_reducible rfl)
        try simp only [Act.put, List.setIfInBounds_toArray, List.set_cons_zero, List.set_cons_succ]
        refine tk 2 (some 43) (v := ?_) rfl ?_ ?_
        rotate_left
        · intro wS hSw; (try dsimp only at hSw); go_simp; (try with_reducible rfl)
        try simp only [Act.put, List.setIfInBounds_toArray, List.set_cons_zero, List.set_cons_succ]
        refine tk 3 (some 44) (v := ?_) rfl ?_ ?_
        rotate_left
        · intro wS hSw; (try dsimp only at hSw); go_simp; (try with_reducible rfl)
        try simp only [Act.put, List.setIfInBounds_toArray, List.set_cons_zero, List.set_cons_succ]
        refine tk 4 (some 45) (v := ?_) rfl ?_ ?_
        rotate_left
        · intro wS hSw; (try dsimp only at hSw); have xm0 := cell_below hSw.out c0; have xm1 := cell_below hSw.out c1; have xm2 := cell_below hSw.out c2; have xm3 := cell_below hSw.out c3; have xm4 := cell_below hSw.out c4; go_simp; (try with_reducible rfl)
        try simp only [Act.put, List.setIfInBounds_toArray, List.set_cons_zero, List.set_cons_succ]
        refine tk 5 (some 46) (v := ?_) rfl ?_ ?_
        rotate_left
        · intro wS hSw; (try dsimp only at hSw); go_simp; (try with_reducible rfl)
        try simp only [Act.put, List.setIfInBounds_toArray, List.set_cons_zero, List.set_cons_succ]
        refine tk 6 (some 47) (v := ?_) rfl ?_ ?_
        rotate_left
        · intro wS hSw; (try dsimp only at hSw); have xm := cell_below hSw.out y4; go_simp; (try with_reducible rfl)
        try simp only [Act.put, List.setIfInBounds_toArray, List.set_cons_zero, List.set_cons_succ]
        refine tk 7 (some 48) (v := ?_) rfl ?_ ?_
        rotate_left
        · intro wS hSw; (try dsimp only at hSw); go_simp; (try with_reducible rfl)
        try simp only [Act.put, List.setIfInBounds_toArray, List.set_cons_zero, List.set_cons_succ]
        refine tk 8 (some 49) (v := ?_) rfl ?_ ?_
        rotate_left
        · intro wS hSw; (try dsimp only at hSw); go_simp; (try with_reducible rfl)
        try simp only [Act.put, List.setIfInBounds_toArray, List.set_cons_zero, List.set_cons_succ]
        refine tk 9 (some 50) (v := ?_) rfl ?_ ?_
        rotate_left
        · intro wS hSw; (try dsimp only at hSw); have ym0 := cell_below hSw.out d0; have ym1 := cell_below hSw.out d1; have ym2 := cell_below hSw.out d2; have ym3 := cell_below hSw.out d3; have ym4 := cell_below hSw.out d4; go_simp; (try with_reducible rfl)
        try simp only [Act.put, List.setIfInBounds_toArray, List.set_cons_zero, List.set_cons_succ]
        refine wpAnyH_ready (rs := [10]) (by kernel_rfl) (by simp) ?_
        refine AllReadyH.cons rfl (fun K hK => ?_) AllReadyH.nil
        go_simp
        go_at_call 9
        refine (HH.out _ (Below.refl wr.heap.size wr).drew).mono ?_
        rintro e w3 ⟨rfl, hb3⟩
        refine hK.out _ _ ?_ (fun hH10 => ?_)
        · (try dsimp only); exact Bel.step (Bel.refl _).drew hb3
        clear hK K
        try simp only [Act.put, List.setIfInBounds_toArray, List.set_cons_zero, List.set_cons_succ]
        refine tk 11 (some 52) (v := ?_) rfl ?_ ?_
        rotate_left
        · intro wS hSw; (try dsimp only at hSw); go_simp; (try with_reducible rfl)
        try simp only [Act.put, List.setIfInBounds_toArray, List.set_cons_zero, List.set_cons_succ]
        refine wpAnyH_done (by kernel_rfl) ?_ _
        have hB3 := hW.trans ((Bel.step (Bel.refl wr).drew hb3).out.mono hW.size)
        go_wp2
        go_roundw
        case rel => exact ⟨i + 1, by omega, by go_num, HN.out, ⟨hB3, hB3.size⟩⟩
        case measure => simp [intOf]; omega
    · have HN : Hid (samL n l l' = true) := by
        show _ = _
        rw [HS.out, ← HV.out, List.take_of_length_le (by rw [List.length_zip, ← HNN.out]; omega)]
      go_wp2
      go_ret
      exact ⟨ret_bool HN.out.symm, hBr⟩
theorem RSame_0 (k : Int) (t : List UInt8) (m a a' : Int) (s s' : Option Addr) (c c' : Nat) (w : World) :
    Calls Try.prog 9 #[.agg #[.int .i64 k, .string (bsA t), .int .i64 m, .int .i64 a, .slice s 0 c], .agg #[.int .i64 k, .string (bsA t), .int .i64 m, .int .i64 a', .slice s' 0 c']] w fun e w' => e = .returned (.bool true) ∧ Below w.heap.size w w' := by
  go_enter Try.func9, Try.ntmps9
  go_wp2
  refine wp_loop_rounds 1 ?_
  rw [rounds_succ]
  go_wp2
  go_ret
  exact ⟨rfl, Bel.out (by repeat (first | exact Bel.refl _ | assumption | refine Bel.drew ?_ | refine Bel.drewN ?_ _ | refine Bel.alloc ?_ _ | refine Bel.setCell ?_ (by simp <;> omega) _ | refine Bel.step ?_ (by assumption)))⟩
theorem RSame_k (k k' : Int) (t t' : List UInt8) (m m' a a' : Int) (s s' : Option Addr) (l l' c c' : Nat) (w : World) (h : ¬ k = k') :
    Calls Try.prog 9 #[.agg #[.int .i64 k, .string (bsA t), .int .i64 m, .int .i64 a, .slice s l c], .agg #[.int .i64 k', .string (bsA t'), .int .i64 m', .int .i64 a', .slice s' l' c']] w fun e w' => e = .returned (.bool false) ∧ Below w.heap.size w w' := by
  go_enter Try.func9, Try.ntmps9
  go_wp2
  go_ret
  exact ⟨rfl, Bel.out (by repeat (first | exact Bel.refl _ | assumption | refine Bel.drew ?_ | refine Bel.drewN ?_ _ | refine Bel.alloc ?_ _ | refine Bel.setCell ?_ (by simp <;> omega) _ | refine Bel.step ?_ (by assumption)))⟩
theorem RSame_t (k : Int) (t t' : List UInt8) (m m' a a' : Int) (s s' : Option Addr) (l l' c c' : Nat) (w : World) (h : ¬ (bsA t).toList = (bsA t').toList) :
    Calls Try.prog 9 #[.agg #[.int .i64 k, .string (bsA t), .int .i64 m, .int .i64 a, .slice s l c], .agg #[.int .i64 k, .string (bsA t'), .int .i64 m', .int .i64 a', .slice s' l' c']] w fun e w' => e = .returned (.bool false) ∧ Below w.heap.size w w' := by
  go_enter Try.func9, Try.ntmps9
  go_wp2
  go_ret
  exact ⟨rfl, Bel.out (by repeat (first | exact Bel.refl _ | assumption | refine Bel.drew ?_ | refine Bel.drewN ?_ _ | refine Bel.alloc ?_ _ | refine Bel.setCell ?_ (by simp <;> omega) _ | refine Bel.step ?_ (by assumption)))⟩
theorem RSame_m (k : Int) (t : List UInt8) (m m' a a' : Int) (s s' : Option Addr) (l l' c c' : Nat) (w : World) (h : (m == m') = false) :
    Calls Try.prog 9 #[.agg #[.int .i64 k, .string (bsA t), .int .i64 m, .int .i64 a, .slice s l c], .agg #[.int .i64 k, .string (bsA t), .int .i64 m', .int .i64 a', .slice s' l' c']] w fun e w' => e = .returned (.bool false) ∧ Below w.heap.size w w' := by
  go_enter Try.func9, Try.ntmps9
  go_wp2
  go_ret
  exact ⟨rfl, Bel.out (by repeat (first | exact Bel.refl _ | assumption | refine Bel.drew ?_ | refine Bel.drewN ?_ _ | refine Bel.alloc ?_ _ | refine Bel.setCell ?_ (by simp <;> omega) _ | refine Bel.step ?_ (by assumption)))⟩
theorem RSame_l (k : Int) (t : List UInt8) (m a a' : Int) (s s' : Option Addr) (l l' c c' : Nat) (w : World) (h : ((l : Int) == (l' : Int)) = false) :
    Calls Try.prog 9 #[.agg #[.int .i64 k, .string (bsA t), .int .i64 m, .int .i64 a, .slice s l c], .agg #[.int .i64 k, .string (bsA t), .int .i64 m, .int .i64 a', .slice s' l' c']] w fun e w' => e = .returned (.bool false) ∧ Below w.heap.size w w' := by
  go_enter Try.func9, Try.ntmps9
  go_wp2
  go_ret
  exact ⟨rfl, Bel.out (by repeat (first | exact Bel.refl _ | assumption | refine Bel.drew ?_ | refine Bel.drewN ?_ _ | refine Bel.alloc ?_ _ | refine Bel.setCell ?_ (by simp <;> omega) _ | refine Bel.step ?_ (by assumption)))⟩
theorem RSame_kids (n : Nat) (k : Int) (t : List UInt8) (m a a' : Int) (l l' : List (Tr n)) (s s' : Option Addr) (c c' : Nat) (w : World) (hF : (∀ (x y : Tr n) (s s' : Option Addr) (c c' : Nat) (W : World), NdAt W n x s → NdAt W n y s' → Calls Try.prog 9 #[ndV n x s c, ndV n y s' c'] W fun e w' => e = .returned (.bool (samP n x y)) ∧ Below W.heap.size W w')) (hl : KsAt w n s l) (hm : KsAt w n s' l') :
    Calls Try.prog 9 #[.agg #[.int .i64 k, .string (bsA t), .int .i64 m, .int .i64 a, .slice s l.length c], .agg #[.int .i64 k, .string (bsA t), .int .i64 m, .int .i64 a', .slice s' l'.length c']] w fun e w' => e = .returned (.bool (samL n l l')) ∧ Below w.heap.size w w' := by
  by_cases hn : l.length = l'.length
  · obtain ⟨hlen, hl⟩ := hl
    obtain ⟨_, hm⟩ := hm
    rcases hl with rfl | ⟨b, off, rfl, hc⟩
    · have hm0 : l' = [] := List.length_eq_zero_iff.1 hn.symm
      subst hm0
      exact RSame_0 k t m a a' s s' c c' w
    · rcases hm with rfl | ⟨b', off', rfl, hd⟩
      · have hl0 : l = [] := List.length_eq_zero_iff.1 hn
        subst hl0
        exact RSame_0 k t m a a' _ s' c c' w
      · rw [← hn]
        exact RSame_go n k t m a a' l l' b off b' off' c c' w hF hn hlen hc hd
  · have e : samL n l l' = false := by unfold samL; rw [decide_eq_false hn]; rfl
    rw [e]
    exact RSame_l k t m a a' s s' l.length l'.length c c' w (by simpa using (fun h : (l.length : Int) = l'.length => hn (by omega)))
theorem RSame_any : ∀ (n : Nat) (x y : Tr n) (s s' : Option Addr) (c c' : Nat) (W : World), NdAt W n x s → NdAt W n y s' → Calls Try.prog 9 #[ndV n x s c, ndV n y s' c'] W fun e w' => e = .returned (.bool (samP n x y)) ∧ Below W.heap.size W w'
  | 0, _, _, _, _, _, _, _, h, _ => h.elim
  | n + 1, x, y, s, s', c, c', W, hx, hy => by
    have ih := fun x y s s' c c' W => RSame_any n x y s s' c c' W
    rw [samP_eq]
    unfold ndV
    have hl : KsAt W n s (ks (n + 1) x) := NdAt.kids hx
    have hm : KsAt W n s' (ks (n + 1) y) := NdAt.kids hy
    generalize kd (n + 1) x = k
    generalize kd (n + 1) y = k'
    generalize tx (n + 1) x = t
    generalize tx (n + 1) y = t'
    generalize nu (n + 1) x = m
    generalize nu (n + 1) y = m'
    generalize pl (n + 1) x = a
    generalize pl (n + 1) y = a'
    by_cases hk : k = k'
    · subst hk
      by_cases ht : t = t'
      · subst ht
        by_cases hmm : m = m'
        · subst hmm
          simp only [decide_true, Bool.true_and]
          exact RSame_kids n k t m a a' (ks (n + 1) x) (ks (n + 1) y) s s' c c' W ih hl hm
        · rw [decide_eq_false hmm]
          simp only [decide_true, Bool.true_and, Bool.false_and]
          exact RSame_m _ _ _ _ _ _ _ _ _ _ _ _ W (by simpa using hmm)
      · rw [decide_eq_false ht]
        simp only [decide_true, Bool.true_and, Bool.false_and]
        exact RSame_t _ _ _ _ _ _ _ _ _ _ _ _ _ W (by rw [bsA_tl, bsA_tl]; exact ht)
    · rw [decide_eq_false hk]
      simp only [Bool.false_and]
      exact RSame_k _ _ _ _ _ _ _ _ _ _ _ _ _ _ W hk
end Go.Proofs.Ytcicdapccondkaa
