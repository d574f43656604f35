/- Every row of additions and removals: the two maps do the same (KeyPlays). -/
import Derived.Test.YtbfodpmlmhkikaaDoorPMem
import Derived.Test.YtbfodpmlmhkikaaDoorSure
import Derived.Test.YtbfodpmlmhkikaaDoorRunes
import Derived.Deep.LoopGhost
import Derived.Deep.DeepCutAuto
namespace Go.Proofs.YtbfodpmlmhkikaaDoor
open Go.ChangeShapes Go.WideShapes Go.ChangeAt Go.RowKit

theorem Alike.set {W0 w : World} {M : Mb} {X m g j : Nat} {WL : List (Pce × Way)} {HL : List (Int × Ent)} {pl bi : Int} {v : Value} {P : List Ent} {u : Value} (h : Alike W0 w M X m WL HL pl bi v P) (ho : Off M X HL v P g) (hB : W0.heap.size ≤ g) : Alike W0 (w.setCell ⟨g, j, none⟩ u) M X m WL HL pl bi v P :=
  { h with two := h.two.set ho hB (Fr.cnt w g j u) }
theorem RfAt.shape {w : World} {X B : Nat} {v : Value} {P : List Ent} (h : RfAt w X B v P) : ∃ a c, v = .slice a P.length c := by
  obtain ⟨_, ⟨rfl, h0⟩ | ⟨g, cap, cur, rfl, _⟩⟩ := h.own
  · exact ⟨none, 0, by rw [h0]⟩
  · exact ⟨_, _, rfl⟩
theorem Alike.qshort {W0 w : World} {M : Mb} {X m : Nat} {WL : List (Pce × Way)} {HL : List (Int × Ent)} {pl bi : Int} {v : Value} {P : List Ent} (h : Alike W0 w M X m WL HL pl bi v P) (i : Nat) : ((rwH HL).getD i []).length ≤ 1048576 := by
  rcases Nat.lt_or_ge i HL.length with hi | hi
  · rw [rwH_at]
    obtain ⟨x, hx, hxe⟩ := ex_mem hi
    have := h.short _ (List.mem_map_of_mem (f := fun x : Int × Ent => (x.2.row, x.2.n)) hx)
    rw [← hxe]; exact this
  · rw [List.getD_eq_getElem?_getD, List.getElem?_eq_none (by rw [rwH_len]; exact hi)]; exact Nat.zero_le _
theorem KLeft.below {W0 w w' w'' : World} {M : Mb} {X : Nat} {HL : List (Int × Ent)} {v : Value} {P : List Ent} {L : List (List Val × Int)} {p b : Int} {WL' : List (Pce × Way)} {HL' : List (Int × Ent)} {pl' bi' : Int} (h : KLeft W0 w w' M X HL v P L p b WL' HL' pl' bi') (hb : Below w'.heap.size w' w'') : KLeft W0 w w'' M X HL v P L p b WL' HL' pl' bi' :=
  { h with two := h.two.below hb, fr := h.fr.step hb }

set_option maxRecDepth 20000 in
set_option maxHeartbeats 8000000 in
theorem keyPlays_some (hRu : RunesSaid) (b off cap len : Nat) (o : Nat → OpV) (W : World) (hR : Ready W) (hl : len ≤ 1048576) (ho : OpsAt W b off len o) :
    Calls Tryd.prog 4 #[.slice (some ⟨b, off, none⟩) len cap] W fun e W' => e = .returned (.bool true) ∧ Below W.heap.size W W' := by
  have hNew := New_any W
  have HO : Hid (OpsAt W b off len o) := ho
  have HRd : Hid (Ready W) := hR
  clear ho hR
  go_enter Tryd.func4, Tryd.ntmps4
  go_wp2_with fail
  refine hNew.mono ?_
  rintro e w1 ⟨M, rfl, hM, g1, g2, g3, hb1⟩
  have HS : Hid _ := Alike.start hM hb1 g1 g2 g3 42
  clear hNew hM g1 g2 g3 hb1
  go_wp2_with fail
  generalize w1.heap.size = X at HS ⊢
  go_loopg [5] len (fun k i wr => ∃ m : Nat, m + k = len ∧ i = .int .i64 m ∧ Play W wr M X m)
  case atStart => exact ⟨0, by omega, rfl, _, _, _, _, _, _, HS.out⟩
  case round =>
    obtain ⟨m, hmk, rfl, hPl⟩ := hrel
    clear HS
    obtain ⟨ka, hka⟩ : ∃ ka, ka = gk := ⟨_, rfl⟩
    subst hka
    rcases Nat.lt_or_ge m len with hlt | hge
    · obtain ⟨WL, HL, pl, bi, v, P, hA⟩ := hPl
      have hW := hA.two.bw
      have c0 := cell_below hW (HO.out.c0 m hlt)
      have c1 := cell_below hW (HO.out.c1 m hlt)
      have c2 := cell_below hW (HO.out.c2 m hlt)
      have hr0 := (HO.out.row m hlt).below hW
      have hI := HO.out.int m hlt
      have hsh := HO.out.short m hlt
      have hnm := HO.out.num m hlt
      have hrW := HO.out.row m hlt
      have hw0 := HO.out.c0 m hlt
      have hw1 := HO.out.c1 m hlt
      have hw2 := HO.out.c2 m hlt
      generalize o m = y at c0 c1 c2 hr0 hI hsh hnm hrW hw0 hw1 hw2
      have hTw := Twin_any y.a y.cap y.row wr (by omega) hr0
      have HA : Hid (Alike W wr M X m WL HL pl bi v P) := hA
      have HI : Hid (IntR y.row) := hI
      have HRW : Hid (RowAt W y.a y.row) := hrW
      clear hA hr0 hI hrW hW
      go_wp2_with fail
      refine hTw.mono ?_
      rintro e w2 ⟨a', cap', rfl, hr2, hg2, hb2⟩
      have HA2 : Hid (Alike W w2 M X m WL HL pl bi v P) := HA.out.below hb2
      have HMi : Hid (Mine W w2 M X HL v P a' y.row) := Mine.new HA.out.two hr2 hg2
      have d0 := cell_below hb2 c0
      have d1 := cell_below hb2 c1
      have d2 := cell_below hb2 c2
      clear c0 c1 c2 hTw hr2 hg2 hb2 HA
      go_upto_block 2 with (fail)
      go_cut [7] (fun _ wd => Mid W wd M X (m + 1) a' y.row)
      case first =>
        have hle := HA2.out.len
        have hp0 := HA2.out.pl0
        have hb0 := HA2.out.bi0
        have hpl := HA2.out.plen
        by_cases hk0 : y.kind = 0
        · have e0 : (y.kind == 0) = true := by rw [hk0]; rfl
          clear hk0
          have hkA := kAdd HA2.out.two HRd.out HA2.out.hold a' cap' y.row y.n HMi.out.row HMi.out.ne hnm hsh (by omega) (by omega) (by omega)
          have hx : Hid (∀ w3 WL' HL' pl' bi', KLeft W w2 w3 M X HL v P (adL (prs HL) y.row y.n).2.2 (pl + y.row.length) (bi + 1) WL' HL' pl' bi' → ∀ wS, Below w3.heap.size w3 wS → Calls Tryd.prog 16 #[.pointer (some ⟨X, 0, none⟩), .slice y.a y.row.length y.cap, .int .i64 y.n] wS fun e w' => e = .returned (.tuple #[.int .i64 (adL (prs HL) y.row y.n).1, .int .i64 (adL (prs HL) y.row y.n).2.1]) ∧ ∃ v' P', XLeft W wS w' M X WL' HL' pl' bi' v P (adL (prs HL) y.row y.n).2.2 v' P') := by
            intro w3 WL' HL' pl' bi' hK wS hb
            have h := xAdd hRu (hK.two.below hb) (by rw [HA2.out.same]; exact HA2.out.num) HA2.out.pshort y.a y.cap y.row y.n (HRW.out.below (hK.two.below hb).bw) HI.out hnm hsh (by omega)
            rw [HA2.out.same] at h
            exact h
          have hadd : Hid (∀ w3 w4 WL' HL' pl' bi' v' P', KLeft W w2 w3 M X HL v P (adL (prs HL) y.row y.n).2.2 (pl + y.row.length) (bi + 1) WL' HL' pl' bi' → XLeft W w3 w4 M X WL' HL' pl' bi' v P (adL (prs HL) y.row y.n).2.2 v' P' → Alike W w4 M X (m + 1) WL' HL' pl' bi' v' P') := fun _ _ _ _ _ _ _ _ hk hx => HA2.out.add hsh hk hx
          generalize adL (prs HL) y.row y.n = z at hkA hx hadd
          obtain ⟨z1, z2, z3⟩ := z
          dsimp only at hkA hx hadd
          go_wp2_with fail
          refine hkA.mono ?_
          rintro e w3 ⟨rfl, WL', HL', pl', bi', hK⟩
          have HK : Hid _ := hK
          clear hK hkA d0 d1 d2
          go_wp2_with fail
          refine wp_region_held_drew (S := (fun wS => Below W.heap.size W wS)) (by kernel_rfl) ?_ (fun hHeld => ?_)
          · (try dsimp only); exact HK.out.two.bw.drew
          refine wpAnyH_take (i := 0) (oi := { dst := some 55, op := Op.move (Operand.tmp 4), type := 39, pos := "law.go:66", after := #[], guard := none }) (v := ?_) rfl (by kernel_rfl) (by kernel_rfl) (by kernel_rfl) (fun _ _ _ h => h) (Or.inl ⟨by kernel_rfl, ?_⟩) (by assumption) ?_
          rotate_left
          · intro wS hSw; (try dsimp only at hSw); have k1 := cell_below hSw hw1; have k2 := cell_below hSw hw2; go_simp; (try with_reducible rfl)
          try simp only [Act.put, List.setIfInBounds_toArray, List.set_cons_zero, List.set_cons_succ]
          refine wpAnyH_take (i := 1) (oi := { dst := some 56, op := Op.move (Operand.tmp 0), type := 36, pos := "law.go:66", after := #[], guard := none }) (v := ?_) rfl (by kernel_rfl) (by kernel_rfl) (by kernel_rfl) (fun _ _ _ h => h) (Or.inl ⟨by kernel_rfl, ?_⟩) (by assumption) ?_
          rotate_left
          · intro wS hSw; (try dsimp only at hSw); have k1 := cell_below hSw hw1; have k2 := cell_below hSw hw2; go_simp; (try with_reducible rfl)
          try simp only [Act.put, List.setIfInBounds_toArray, List.set_cons_zero, List.set_cons_succ]
          refine wpAnyH_take (i := 2) (oi := { dst := some 57, op := Op.move (Operand.tmp 5), type := 3, pos := "law.go:66", after := #[], guard := none }) (v := ?_) rfl (by kernel_rfl) (by kernel_rfl) (by kernel_rfl) (fun _ _ _ h => h) (Or.inl ⟨by kernel_rfl, ?_⟩) (by assumption) ?_
          rotate_left
          · intro wS hSw; (try dsimp only at hSw); have k1 := cell_below hSw hw1; have k2 := cell_below hSw hw2; go_simp; (try with_reducible rfl)
          try simp only [Act.put, List.setIfInBounds_toArray, List.set_cons_zero, List.set_cons_succ]
          refine wpAnyH_take (i := 3) (oi := { dst := some 58, op := Op.indexAddr 36 (Operand.tmp 56) (Operand.tmp 57), type := 0, pos := "law.go:66", after := #[{ on := 1, ground := Ground.data }, { on := 2, ground := Ground.data }], guard := none }) (v := ?_) rfl (by kernel_rfl) (by kernel_rfl) (by kernel_rfl) (fun _ _ _ h => h) (Or.inl ⟨by kernel_rfl, ?_⟩) (by assumption) ?_
          rotate_left
          · intro wS hSw; (try dsimp only at hSw); have k1 := cell_below hSw hw1; have k2 := cell_below hSw hw2; go_simp; (try with_reducible rfl)
          try simp only [Act.put, List.setIfInBounds_toArray, List.set_cons_zero, List.set_cons_succ]
          refine wpAnyH_take (i := 4) (oi := { dst := some 59, op := Op.fieldAddr 44 (Operand.tmp 58) 2, type := 0, pos := "law.go:66", after := #[{ on := 3, ground := Ground.data }], guard := none }) (v := ?_) rfl (by kernel_rfl) (by kernel_rfl) (by kernel_rfl) (fun _ _ _ h => h) (Or.inl ⟨by kernel_rfl, ?_⟩) (by assumption) ?_
          rotate_left
          · intro wS hSw; (try dsimp only at hSw); have k1 := cell_below hSw hw1; have k2 := cell_below hSw hw2; go_simp; (try with_reducible rfl)
          try simp only [Act.put, List.setIfInBounds_toArray, List.set_cons_zero, List.set_cons_succ]
          refine wpAnyH_take (i := 5) (oi := { dst := some 60, op := Op.load 22 (Operand.tmp 59), type := 22, pos := "law.go:66", after := #[{ on := 4, ground := Ground.data }], guard := none }) (v := ?_) rfl (by kernel_rfl) (by kernel_rfl) (by kernel_rfl) (fun _ _ _ h => h) (Or.inl ⟨by kernel_rfl, ?_⟩) (by assumption) ?_
          rotate_left
          · intro wS hSw; (try dsimp only at hSw); have k1 := cell_below hSw hw1; have k2 := cell_below hSw hw2; go_simp; (try with_reducible rfl)
          try simp only [Act.put, List.setIfInBounds_toArray, List.set_cons_zero, List.set_cons_succ]
          refine wpAnyH_take (i := 6) (oi := { dst := some 61, op := Op.move (Operand.tmp 0), type := 36, pos := "law.go:66", after := #[], guard := none }) (v := ?_) rfl (by kernel_rfl) (by kernel_rfl) (by kernel_rfl) (fun _ _ _ h => h) (Or.inl ⟨by kernel_rfl, ?_⟩) (by assumption) ?_
          rotate_left
          · intro wS hSw; (try dsimp only at hSw); have k1 := cell_below hSw hw1; have k2 := cell_below hSw hw2; go_simp; (try with_reducible rfl)
          try simp only [Act.put, List.setIfInBounds_toArray, List.set_cons_zero, List.set_cons_succ]
          refine wpAnyH_take (i := 7) (oi := { dst := some 62, op := Op.move (Operand.tmp 5), type := 3, pos := "law.go:66", after := #[], guard := none }) (v := ?_) rfl (by kernel_rfl) (by kernel_rfl) (by kernel_rfl) (fun _ _ _ h => h) (Or.inl ⟨by kernel_rfl, ?_⟩) (by assumption) ?_
          rotate_left
          · intro wS hSw; (try dsimp only at hSw); have k1 := cell_below hSw hw1; have k2 := cell_below hSw hw2; go_simp; (try with_reducible rfl)
          try simp only [Act.put, List.setIfInBounds_toArray, List.set_cons_zero, List.set_cons_succ]
          refine wpAnyH_take (i := 8) (oi := { dst := some 63, op := Op.indexAddr 36 (Operand.tmp 61) (Operand.tmp 62), type := 0, pos := "law.go:66", after := #[{ on := 6, ground := Ground.data }, { on := 7, ground := Ground.data }], guard := none }) (v := ?_) rfl (by kernel_rfl) (by kernel_rfl) (by kernel_rfl) (fun _ _ _ h => h) (Or.inl ⟨by kernel_rfl, ?_⟩) (by assumption) ?_
          rotate_left
          · intro wS hSw; (try dsimp only at hSw); have k1 := cell_below hSw hw1; have k2 := cell_below hSw hw2; go_simp; (try with_reducible rfl)
          try simp only [Act.put, List.setIfInBounds_toArray, List.set_cons_zero, List.set_cons_succ]
          refine wpAnyH_take (i := 9) (oi := { dst := some 64, op := Op.fieldAddr 44 (Operand.tmp 63) 1, type := 0, pos := "law.go:66", after := #[{ on := 8, ground := Ground.data }], guard := none }) (v := ?_) rfl (by kernel_rfl) (by kernel_rfl) (by kernel_rfl) (fun _ _ _ h => h) (Or.inl ⟨by kernel_rfl, ?_⟩) (by assumption) ?_
          rotate_left
          · intro wS hSw; (try dsimp only at hSw); have k1 := cell_below hSw hw1; have k2 := cell_below hSw hw2; go_simp; (try with_reducible rfl)
          try simp only [Act.put, List.setIfInBounds_toArray, List.set_cons_zero, List.set_cons_succ]
          refine wpAnyH_take (i := 10) (oi := { dst := some 65, op := Op.load 3 (Operand.tmp 64), type := 3, pos := "law.go:66", after := #[{ on := 9, ground := Ground.data }], guard := none }) (v := ?_) rfl (by kernel_rfl) (by kernel_rfl) (by kernel_rfl) (fun _ _ _ h => h) (Or.inl ⟨by kernel_rfl, ?_⟩) (by assumption) ?_
          rotate_left
          · intro wS hSw; (try dsimp only at hSw); have k1 := cell_below hSw hw1; have k2 := cell_below hSw hw2; go_simp; (try with_reducible rfl)
          try simp only [Act.put, List.setIfInBounds_toArray, List.set_cons_zero, List.set_cons_succ]
          refine wpAnyH_ready (rs := [11]) (by kernel_rfl) (by simp) ?_
          refine AllReadyH.cons (o := { dst := some 66, op := Op.call { callee := Callee.value (Operand.func 16), args := #[Operand.tmp 55, Operand.tmp 60, Operand.tmp 65], argTypes := #[39, 22, 3] }, type := 47, pos := "law.go:66", after := #[{ on := 0, ground := Ground.data }, { on := 5, ground := Ground.data }, { on := 10, ground := Ground.data }], guard := none }) rfl (fun K hK => ?_) AllReadyH.nil
          go_simp
          refine (hx.out _ _ _ _ _ HK.out _ (Below.refl _ _).drew).mono ?_
          rintro e w4 ⟨rfl, v', P', hX⟩
          have HX : Hid _ := hX
          refine hK.out _ _ ?_ (fun hH11 => ?_)
          · (try dsimp only); exact HX.out.two.bw
          clear hK K
          try simp only [Act.put, List.setIfInBounds_toArray, List.set_cons_zero, List.set_cons_succ]
          refine wpAnyH_take (i := 12) (oi := { dst := some 54, op := Op.move (Operand.tmp 66), type := 47, pos := "law.go:66", after := #[{ on := 11, ground := Ground.data }], guard := none }) (v := ?_) rfl (by kernel_rfl) (by kernel_rfl) (by kernel_rfl) (fun _ _ _ h => h) (Or.inl ⟨by kernel_rfl, ?_⟩) (by assumption) ?_
          rotate_left
          · intro wS hSw; (try dsimp only at hSw); go_simp; (try with_reducible rfl)
          try simp only [Act.put, List.setIfInBounds_toArray, List.set_cons_zero, List.set_cons_succ]
          refine wpAnyH_take (i := 13) (oi := { dst := some 67, op := Op.extract (Operand.tmp 54) 0, type := 3, pos := "law.go:66", after := #[{ on := 12, ground := Ground.data }], guard := none }) (v := ?_) rfl (by kernel_rfl) (by kernel_rfl) (by kernel_rfl) (fun _ _ _ h => h) (Or.inl ⟨by kernel_rfl, ?_⟩) (by assumption) ?_
          rotate_left
          · intro wS hSw; (try dsimp only at hSw); go_simp; (try with_reducible rfl)
          try simp only [Act.put, List.setIfInBounds_toArray, List.set_cons_zero, List.set_cons_succ]
          refine wpAnyH_take (i := 14) (oi := { dst := some 68, op := Op.extract (Operand.tmp 54) 1, type := 3, pos := "law.go:66", after := #[{ on := 12, ground := Ground.data }, { on := 15, ground := Ground.gcOnly Departure.lateStores }], guard := none }) (v := ?_) rfl (by kernel_rfl) (by kernel_rfl) (by kernel_rfl) (fun _ _ _ h => h) (Or.inl ⟨by kernel_rfl, ?_⟩) (by assumption) ?_
          rotate_left
          · intro wS hSw; (try dsimp only at hSw); go_simp; (try with_reducible rfl)
          try simp only [Act.put, List.setIfInBounds_toArray, List.set_cons_zero, List.set_cons_succ]
          refine wpAnyH_take (i := 15) (oi := { dst := some 9, op := Op.assign (Operand.tmp 67), type := 3, pos := "law.go:66", after := #[{ on := 13, ground := Ground.data }, { on := 11, ground := Ground.chain }, { on := 0, ground := Ground.phase }, { on := 1, ground := Ground.phase }, { on := 2, ground := Ground.phase }, { on := 3, ground := Ground.phase }, { on := 4, ground := Ground.phase }, { on := 5, ground := Ground.phase }, { on := 6, ground := Ground.phase }, { on := 7, ground := Ground.phase }, { on := 8, ground := Ground.phase }, { on := 9, ground := Ground.phase }, { on := 10, ground := Ground.phase }, { on := 11, ground := Ground.phase }, { on := 12, ground := Ground.phase }, { on := 13, ground := Ground.phase }, { on := 14, ground := Ground.textOnly Departure.lateStores }], guard := none }) (v := ?_) rfl (by kernel_rfl) (by kernel_rfl) (by kernel_rfl) (fun _ _ _ h => h) (Or.inl ⟨by kernel_rfl, ?_⟩) (by assumption) ?_
          rotate_left
          · intro wS hSw; (try dsimp only at hSw); go_simp; (try with_reducible rfl)
          try simp only [Act.put, List.setIfInBounds_toArray, List.set_cons_zero, List.set_cons_succ]
          refine wpAnyH_take (i := 16) (oi := { dst := some 10, op := Op.assign (Operand.tmp 68), type := 3, pos := "law.go:66", after := #[{ on := 14, ground := Ground.data }, { on := 15, ground := Ground.chain }, { on := 0, ground := Ground.phase }, { on := 1, ground := Ground.phase }, { on := 2, ground := Ground.phase }, { on := 3, ground := Ground.phase }, { on := 4, ground := Ground.phase }, { on := 5, ground := Ground.phase }, { on := 6, ground := Ground.phase }, { on := 7, ground := Ground.phase }, { on := 8, ground := Ground.phase }, { on := 9, ground := Ground.phase }, { on := 10, ground := Ground.phase }, { on := 11, ground := Ground.phase }, { on := 12, ground := Ground.phase }, { on := 13, ground := Ground.phase }, { on := 14, ground := Ground.phase }, { on := 15, ground := Ground.phase }], guard := none }) (v := ?_) rfl (by kernel_rfl) (by kernel_rfl) (by kernel_rfl) (fun _ _ _ h => h) (Or.inl ⟨by kernel_rfl, ?_⟩) (by assumption) ?_
          rotate_left
          · intro wS hSw; (try dsimp only at hSw); go_simp; (try with_reducible rfl)
          try simp only [Act.put, List.setIfInBounds_toArray, List.set_cons_zero, List.set_cons_succ]
          refine wpAnyH_done (by kernel_rfl) ?_ _
          clear hX
          go_wp2_with fail
          go_meet
          exact ⟨_, _, _, _, _, _, hadd.out _ _ _ _ _ _ _ _ (HK.out.below (Below.refl _ _).drew) HX.out, ((HMi.out.k HK.out).below (Below.refl _ _).drew).x HX.out⟩
        · have e0 : (y.kind == 0) = false := by simpa using hk0
          by_cases hk1 : y.kind = 1
          · have e1 : (y.kind == 1) = true := by rw [hk1]; rfl
            clear hk0 hk1
            have hkA : ∀ wS, Below w2.heap.size w2 wS → Calls Tryd.prog 17 #[.pointer (some ⟨M.m, 0, none⟩), .slice a' y.row.length cap'] wS fun e w' => e = .returned (.bool (rmL (prs HL) y.row).1) ∧ ∃ WL' HL' pl' bi', KLeft W wS w' M X HL v P (rmL (prs HL) y.row).2 (pl + y.row.length) (bi + 1) WL' HL' pl' bi' := fun wS hb => kRemove (HA2.out.two.below hb) HA2.out.hold a' cap' y.row (HMi.out.row.below hb) HMi.out.ne hsh (by omega) (by omega) (by omega)
            have hx : Hid (∀ wS w3 WL' HL' pl' bi', KLeft W wS w3 M X HL v P (rmL (prs HL) y.row).2 (pl + y.row.length) (bi + 1) WL' HL' pl' bi' → Calls Tryd.prog 18 #[.pointer (some ⟨X, 0, none⟩), .slice y.a y.row.length y.cap] w3 fun e w' => e = .returned (.bool (rmL (prs HL) y.row).1) ∧ ∃ v' P', XLeft W w3 w' M X WL' HL' pl' bi' v P (rmL (prs HL) y.row).2 v' P') := by
              intro wS w3 WL' HL' pl' bi' hK
              have h := xRemove hK.two HA2.out.pshort y.a y.cap y.row (HRW.out.below hK.two.bw) (by omega)
              rw [HA2.out.same] at h
              exact h
            have hrem : Hid (∀ wS w3 w4 WL' HL' pl' bi' v' P', Below w2.heap.size w2 wS → KLeft W wS w3 M X HL v P (rmL (prs HL) y.row).2 (pl + y.row.length) (bi + 1) WL' HL' pl' bi' → XLeft W w3 w4 M X WL' HL' pl' bi' v P (rmL (prs HL) y.row).2 v' P' → Alike W w4 M X (m + 1) WL' HL' pl' bi' v' P') := fun _ _ _ _ _ _ _ _ _ hb hk hx => (HA2.out.below hb).rem hsh hk hx
            generalize rmL (prs HL) y.row = z at hkA hx hrem
            obtain ⟨z1, z2⟩ := z
            dsimp only at hkA hx hrem
            clear d0 d1 d2
            go_wp2_with fail
            refine wp_region_held_drew (S := (fun wS => Below W.heap.size W wS)) (by kernel_rfl) ?_ (fun hHeld => ?_)
            · (try dsimp only); exact HA2.out.two.bw.drew
            refine wpAnyH_take (i := 0) (oi := { dst := some 79, op := Op.move (Operand.tmp 3), type := 37, pos := "law.go:71", after := #[], guard := none }) (v := ?_) rfl (by kernel_rfl) (by kernel_rfl) (by kernel_rfl) (fun _ _ _ h => h) (Or.inl ⟨by kernel_rfl, ?_⟩) (by assumption) ?_
            rotate_left
            · intro wS hSw; (try dsimp only at hSw); go_simp; (try with_reducible rfl)
            try simp only [Act.put, List.setIfInBounds_toArray, List.set_cons_zero, List.set_cons_succ]
            refine wpAnyH_take (i := 1) (oi := { dst := some 80, op := Op.move (Operand.tmp 6), type := 22, pos := "law.go:71", after := #[], guard := none }) (v := ?_) rfl (by kernel_rfl) (by kernel_rfl) (by kernel_rfl) (fun _ _ _ h => h) (Or.inl ⟨by kernel_rfl, ?_⟩) (by assumption) ?_
            rotate_left
            · intro wS hSw; (try dsimp only at hSw); go_simp; (try with_reducible rfl)
            try simp only [Act.put, List.setIfInBounds_toArray, List.set_cons_zero, List.set_cons_succ]
            refine wpAnyH_take (i := 3) (oi := { dst := some 82, op := Op.move (Operand.tmp 4), type := 39, pos := "law.go:71", after := #[], guard := none }) (v := ?_) rfl (by kernel_rfl) (by kernel_rfl) (by kernel_rfl) (fun _ _ _ h => h) (Or.inl ⟨by kernel_rfl, ?_⟩) (by assumption) ?_
            rotate_left
            · intro wS hSw; (try dsimp only at hSw); have k1 := cell_below hSw hw1; have k2 := cell_below hSw hw2; go_simp; (try with_reducible rfl)
            try simp only [Act.put, List.setIfInBounds_toArray, List.set_cons_zero, List.set_cons_succ]
            refine wpAnyH_take (i := 4) (oi := { dst := some 83, op := Op.move (Operand.tmp 0), type := 36, pos := "law.go:71", after := #[], guard := none }) (v := ?_) rfl (by kernel_rfl) (by kernel_rfl) (by kernel_rfl) (fun _ _ _ h => h) (Or.inl ⟨by kernel_rfl, ?_⟩) (by assumption) ?_
            rotate_left
            · intro wS hSw; (try dsimp only at hSw); have k1 := cell_below hSw hw1; have k2 := cell_below hSw hw2; go_simp; (try with_reducible rfl)
            try simp only [Act.put, List.setIfInBounds_toArray, List.set_cons_zero, List.set_cons_succ]
            refine wpAnyH_take (i := 5) (oi := { dst := some 84, op := Op.move (Operand.tmp 5), type := 3, pos := "law.go:71", after := #[], guard := none }) (v := ?_) rfl (by kernel_rfl) (by kernel_rfl) (by kernel_rfl) (fun _ _ _ h => h) (Or.inl ⟨by kernel_rfl, ?_⟩) (by assumption) ?_
            rotate_left
            · intro wS hSw; (try dsimp only at hSw); have k1 := cell_below hSw hw1; have k2 := cell_below hSw hw2; go_simp; (try with_reducible rfl)
            try simp only [Act.put, List.setIfInBounds_toArray, List.set_cons_zero, List.set_cons_succ]
            refine wpAnyH_take (i := 6) (oi := { dst := some 85, op := Op.indexAddr 36 (Operand.tmp 83) (Operand.tmp 84), type := 0, pos := "law.go:71", after := #[{ on := 4, ground := Ground.data }, { on := 5, ground := Ground.data }], guard := none }) (v := ?_) rfl (by kernel_rfl) (by kernel_rfl) (by kernel_rfl) (fun _ _ _ h => h) (Or.inl ⟨by kernel_rfl, ?_⟩) (by assumption) ?_
            rotate_left
            · intro wS hSw; (try dsimp only at hSw); have k1 := cell_below hSw hw1; have k2 := cell_below hSw hw2; go_simp; (try with_reducible rfl)
            try simp only [Act.put, List.setIfInBounds_toArray, List.set_cons_zero, List.set_cons_succ]
            refine wpAnyH_take (i := 7) (oi := { dst := some 86, op := Op.fieldAddr 44 (Operand.tmp 85) 2, type := 0, pos := "law.go:71", after := #[{ on := 6, ground := Ground.data }], guard := none }) (v := ?_) rfl (by kernel_rfl) (by kernel_rfl) (by kernel_rfl) (fun _ _ _ h => h) (Or.inl ⟨by kernel_rfl, ?_⟩) (by assumption) ?_
            rotate_left
            · intro wS hSw; (try dsimp only at hSw); have k1 := cell_below hSw hw1; have k2 := cell_below hSw hw2; go_simp; (try with_reducible rfl)
            try simp only [Act.put, List.setIfInBounds_toArray, List.set_cons_zero, List.set_cons_succ]
            refine wpAnyH_take (i := 8) (oi := { dst := some 87, op := Op.load 22 (Operand.tmp 86), type := 22, pos := "law.go:71", after := #[{ on := 7, ground := Ground.data }], guard := none }) (v := ?_) rfl (by kernel_rfl) (by kernel_rfl) (by kernel_rfl) (fun _ _ _ h => h) (Or.inl ⟨by kernel_rfl, ?_⟩) (by assumption) ?_
            rotate_left
            · intro wS hSw; (try dsimp only at hSw); have k1 := cell_below hSw hw1; have k2 := cell_below hSw hw2; go_simp; (try with_reducible rfl)
            try simp only [Act.put, List.setIfInBounds_toArray, List.set_cons_zero, List.set_cons_succ]
            refine wpAnyH_ready (rs := [2]) (by kernel_rfl) (by simp) ?_
            refine AllReadyH.cons (o := { dst := some 81, op := Op.call { callee := Callee.value (Operand.func 17), args := #[Operand.tmp 79, Operand.tmp 80], argTypes := #[37, 22] }, type := 4, pos := "law.go:71", after := #[{ on := 0, ground := Ground.data }, { on := 1, ground := Ground.data }], guard := none }) rfl (fun K hK => ?_) AllReadyH.nil
            go_simp
            refine (hkA _ (Below.refl _ _).drew).mono ?_
            rintro e w3 ⟨rfl, WL', HL', pl', bi', hKl⟩
            have HK : Hid _ := hKl
            clear hKl
            refine hK.out _ _ ?_ (fun hH2 => ?_)
            · (try dsimp only); exact HK.out.two.bw
            clear hK K
            try simp only [Act.put, List.setIfInBounds_toArray, List.set_cons_zero, List.set_cons_succ]
            refine wpAnyH_ready (rs := [9]) (by kernel_rfl) (by simp) ?_
            refine AllReadyH.cons (o := { dst := some 88, op := Op.call { callee := Callee.value (Operand.func 18), args := #[Operand.tmp 82, Operand.tmp 87], argTypes := #[39, 22] }, type := 4, pos := "law.go:71", after := #[{ on := 3, ground := Ground.data }, { on := 8, ground := Ground.data }, { on := 2, ground := Ground.chain }], guard := none }) rfl (fun K hK => ?_) AllReadyH.nil
            go_simp
            refine (hx.out _ _ _ _ _ _ HK.out).mono ?_
            rintro e w4 ⟨rfl, v', P', hX⟩
            have HX : Hid _ := hX
            refine hK.out _ _ ?_ (fun hH9 => ?_)
            · (try dsimp only); exact HX.out.two.bw
            clear hK K
            try simp only [Act.put, List.setIfInBounds_toArray, List.set_cons_zero, List.set_cons_succ]
            refine wpAnyH_take (i := 10) (oi := { dst := some 89, op := Op.binOp BinOp.neq 4 (Operand.tmp 81) (Operand.tmp 88) 4, type := 4, pos := "law.go:71", after := #[{ on := 2, ground := Ground.data }, { on := 9, ground := Ground.data }], guard := none }) (v := ?_) rfl (by kernel_rfl) (by kernel_rfl) (by kernel_rfl) (fun _ _ _ h => h) (Or.inl ⟨by kernel_rfl, ?_⟩) (by assumption) ?_
            rotate_left
            · intro wS hSw; (try dsimp only at hSw); go_simp; (try with_reducible rfl)
            try simp only [Act.put, List.setIfInBounds_toArray, List.set_cons_zero, List.set_cons_succ]
            refine wpAnyH_done (by kernel_rfl) ?_ _
            clear hX hkA
            go_wp2_with fail
            go_meet
            exact ⟨_, _, _, _, _, _, hrem.out _ _ _ _ _ _ _ _ _ (Below.refl _ _).drew HK.out HX.out, ((HMi.out.below (Below.refl _ _).drew).k HK.out).x HX.out⟩
          · have e1 : (y.kind == 1) = false := by simpa using hk1
            clear hk0 hk1
            go_wp2_with fail
            go_meet
            exact ⟨_, _, _, _, _, _, HA2.out.more, HMi.out⟩
      case rest =>
        obtain ⟨WL2, HL2, pl2, bi2, v2, P2, hA, hMi⟩ := hcut
        have hG := kGet hA.two hA.hold a' cap' y.row hMi.row hsh
        have hlen := hA.len
        have hplen := hA.plen
        have HG2 : Hid (∀ wS, Below wc.heap.size wc wS → Calls Tryd.prog 20 #[.pointer (some ⟨X, 0, none⟩), .slice y.a y.row.length y.cap] wS fun e w' => e = .returned (.tuple #[.int .i64 (gtL (prs HL2) y.row).1, .bool (gtL (prs HL2) y.row).2]) ∧ Below wS.heap.size wS w') := fun wS hb => by
          have h := xGet (hA.two.below hb) hA.pshort y.a y.cap y.row (HRW.out.below (hA.two.below hb).bw) (by omega)
          rw [hA.same] at h
          exact h
        generalize gtL (prs HL2) y.row = z at hG HG2
        obtain ⟨z1, z2⟩ := z
        dsimp only at hG HG2
        have HA3 : Hid (Alike W wc M X (m + 1) WL2 HL2 pl2 bi2 v2 P2) := hA
        have HM3 : Hid (Mine W wc M X HL2 v2 P2 a' y.row) := hMi
        have k2 := cell_below hA.two.bw hw2
        clear hA hMi HA2 HMi d0 d1 d2 hw0 hw1 hw2
        go_wp2_with fail
        refine hG.mono ?_
        rintro e w5 ⟨rfl, hb5⟩
        have k5 := cell_below hb5 k2
        clear k2 hG
        go_wp2_with fail
        refine (HG2.out w5 hb5).mono ?_
        rintro e w6 ⟨rfl, hb6⟩
        have HA6 : Hid (Alike W w6 M X (m + 1) WL2 HL2 pl2 bi2 v2 P2) := (HA3.out.below hb5).below hb6
        have HM6 : Hid (y.row.length = 0 ∨ ∃ g, a' = some ⟨g, 0, none⟩ ∧ Off M X HL2 v2 P2 g ∧ W.heap.size ≤ g ∧ Warm w6 g (y.row.length * 3)) := by
          have h := (HM3.out.below hb5).below hb6
          rcases h.row with h0 | ⟨g, of, e, _⟩
          · exact Or.inl h0
          · obtain ⟨q1, q2, q3, q4, q5⟩ := h.off g of e
            subst q4
            exact Or.inr ⟨g, e, q1, q3, Warm.of h.row e q5⟩
        clear k5 HG2 HA3 HM3 hb5 hb6
        go_wp2_with fail
        go_loopg [15] y.row.length (fun k i wr => ∃ j : Nat, j + k = y.row.length ∧ i = .int .i64 j ∧ Alike W wr M X (m + 1) WL2 HL2 pl2 bi2 v2 P2 ∧ (y.row.length = 0 ∨ ∃ g, a' = some ⟨g, 0, none⟩ ∧ Off M X HL2 v2 P2 g ∧ W.heap.size ≤ g ∧ Warm wr g (y.row.length * 3)))
        case atStart => exact ⟨0, by omega, rfl, HA6.out, HM6.out⟩
        case round =>
          obtain ⟨j, hjk, rfl, hA7, hM7⟩ := hrel
          clear HA6 HM6
          rcases Nat.lt_or_ge j y.row.length with hjl | hjg
          · have HA7 : Hid _ := hA7
            clear hA7
            rcases hM7 with h0 | ⟨g, rfl, hof, hWg, hwm⟩
            · omega
            have HO7 : Hid (Off M X HL2 v2 P2 g) := hof
            have HW7 : Hid (Warm wr g (y.row.length * 3)) := hwm
            obtain ⟨⟨u0, q0⟩, f0⟩ := hwm (j * 3) (by omega)
            obtain ⟨⟨u1', q1⟩, f1⟩ := hwm (j * 3 + 1) (by omega)
            obtain ⟨⟨u2', q2⟩, f2⟩ := hwm (j * 3 + 2) (by omega)
            clear hof hwm
            go_wp2_with fail
            go_roundg (gk - 1)
            case measure => omega
            case rel => exact ⟨j + 1, by omega, by go_num, ((HA7.out.set HO7.out hWg).set HO7.out hWg).set HO7.out hWg, Or.inr ⟨g, rfl, HO7.out, hWg, HW7.out.set.set.set⟩⟩
          · obtain ⟨w7, hw7⟩ : ∃ w7, w7 = wr := ⟨_, rfl⟩
            subst hw7
            have hRw := Rows_any M WL2 HL2 pl2 bi2 w7 hA7.two.mp hA7.hold.rise (by omega) hA7.hshort
            obtain ⟨av, cv, hv2⟩ := hA7.two.rf.shape
            have hX7 := hA7.two.rf.c
            rw [hv2, hplen] at hX7
            have HA7 : Hid (Alike W w7 M X (m + 1) WL2 HL2 pl2 bi2 v2 P2) := hA7
            clear hA7 hM7 hv2
            go_wp2_with fail
            refine hRw.mono ?_
            rintro e w8 ⟨g8, cap8, rfl, hg1, hg2, hU, hb8⟩
            have hX8 := cell_below hb8 hX7
            have HA8 : Hid (Alike W w8 M X (m + 1) WL2 HL2 pl2 bi2 v2 P2) := HA7.out.below hb8
            have HWR : Hid (WarmRs w8 w7.heap.size g8 (rwH HL2)) := WarmRs.of hU (rwH_len HL2)
            have hLn : Hid (∀ wS, Below w8.heap.size w8 wS → Calls Tryd.prog 22 #[.pointer (some ⟨M.m, 0, none⟩)] wS fun e w' => e = .returned (.int .i64 HL2.length) ∧ Below wS.heap.size wS w') := fun wS hb => Len_any M WL2 HL2 pl2 bi2 wS (HA8.out.two.below hb).mp
            have hRr : Hid (∀ wS, Below w8.heap.size w8 wS → Calls Tryd.prog 24 #[.pointer (some ⟨X, 0, none⟩)] wS fun e w' => (∃ a cap, e = .returned (.slice a HL2.length cap) ∧ RsAt w' a (P2.map (·.row))) ∧ Below wS.heap.size wS w') := fun wS hb => by
              have h := RRows_any X W.heap.size v2 P2 wS (HA8.out.two.below hb).rf (by omega)
              rw [hplen] at h
              exact h
            have hSm : Hid (∀ wS a cap, Below w8.heap.size w8 wS → RsAt wS a (P2.map (·.row)) → Calls Tryd.prog 23 #[.slice (some ⟨g8, 0, none⟩) HL2.length cap8, .slice a HL2.length cap] wS fun e w' => e = .returned (.bool true) ∧ Below wS.heap.size wS w') := fun wS a cap hb hr => by
              have h := same_any (some ⟨g8, 0, none⟩) a cap8 cap (rwH HL2) (P2.map (·.row)) wS (by rw [rwH_len]; omega) (fun i => Nat.le_trans (HA8.out.qshort i) (by decide)) ((rs_upto2 hU (rwH_len HL2)).below hb) hr
              rw [rwH_len, List.length_map, hplen, decide_eq_true HA8.out.rows.symm] at h
              exact h
            clear hRw hX7 hU hplen
            go_wp2_with fail
            refine wp_region_held_drew (S := (fun wS => Bel w8.heap.size w8 wS)) (by kernel_rfl) ?_ (fun hHeld => ?_)
            · (try dsimp only); exact (Bel.refl _).drew
            refine wpAnyH_take (i := 0) (oi := { dst := some 118, op := Op.move (Operand.tmp 11), type := 3, pos := "law.go:81", after := #[], guard := none }) (v := ?_) rfl (by kernel_rfl) (by kernel_rfl) (by kernel_rfl) (fun _ _ _ h => h) (Or.inl ⟨by kernel_rfl, ?_⟩) (by assumption) ?_
            rotate_left
            · intro wS hSw; (try dsimp only at hSw); go_simp; (try with_reducible rfl)
            try simp only [Act.put, List.setIfInBounds_toArray, List.set_cons_zero, List.set_cons_succ]
            refine wpAnyH_take (i := 1) (oi := { dst := some 119, op := Op.move (Operand.tmp 13), type := 3, pos := "law.go:81", after := #[], guard := none }) (v := ?_) rfl (by kernel_rfl) (by kernel_rfl) (by kernel_rfl) (fun _ _ _ h => h) (Or.inl ⟨by kernel_rfl, ?_⟩) (by assumption) ?_
            rotate_left
            · intro wS hSw; (try dsimp only at hSw); go_simp; (try with_reducible rfl)
            try simp only [Act.put, List.setIfInBounds_toArray, List.set_cons_zero, List.set_cons_succ]
            refine wpAnyH_take (i := 2) (oi := { dst := some 120, op := Op.binOp BinOp.neq 3 (Operand.tmp 118) (Operand.tmp 119) 3, type := 4, pos := "law.go:81", after := #[{ on := 0, ground := Ground.data }, { on := 1, ground := Ground.data }], guard := none }) (v := ?_) rfl (by kernel_rfl) (by kernel_rfl) (by kernel_rfl) (fun _ _ _ h => h) (Or.inl ⟨by kernel_rfl, ?_⟩) (by assumption) ?_
            rotate_left
            · intro wS hSw; (try dsimp only at hSw); go_simp; (try with_reducible rfl)
            try simp only [Act.put, List.setIfInBounds_toArray, List.set_cons_zero, List.set_cons_succ]
            refine wpAnyH_take (i := 3) (oi := { dst := some 121, op := Op.move (Operand.tmp 120), type := 4, pos := "law.go:81", after := #[{ on := 2, ground := Ground.data }], guard := none }) (v := ?_) rfl (by kernel_rfl) (by kernel_rfl) (by kernel_rfl) (fun _ _ _ h => h) (Or.inl ⟨by kernel_rfl, ?_⟩) (by assumption) ?_
            rotate_left
            · intro wS hSw; (try dsimp only at hSw); go_simp; (try with_reducible rfl)
            try simp only [Act.put, List.setIfInBounds_toArray, List.set_cons_zero, List.set_cons_succ]
            refine wpAnyH_take (i := 4) (oi := { dst := some 122, op := Op.move (Operand.tmp 12), type := 4, pos := "law.go:81", after := #[{ on := 3, ground := Ground.guard }], guard := some (3, false) }) (v := ?_) rfl (by kernel_rfl) (by kernel_rfl) (by kernel_rfl) (fun _ _ _ h => h) (Or.inl ⟨by kernel_rfl, ?_⟩) (by assumption) ?_
            rotate_left
            · intro wS hSw; (try dsimp only at hSw); go_simp; (try with_reducible rfl)
            try simp only [Act.put, List.setIfInBounds_toArray, List.set_cons_zero, List.set_cons_succ]
            refine wpAnyH_take (i := 5) (oi := { dst := some 123, op := Op.move (Operand.tmp 14), type := 4, pos := "law.go:81", after := #[{ on := 3, ground := Ground.guard }], guard := some (3, false) }) (v := ?_) rfl (by kernel_rfl) (by kernel_rfl) (by kernel_rfl) (fun _ _ _ h => h) (Or.inl ⟨by kernel_rfl, ?_⟩) (by assumption) ?_
            rotate_left
            · intro wS hSw; (try dsimp only at hSw); go_simp; (try with_reducible rfl)
            try simp only [Act.put, List.setIfInBounds_toArray, List.set_cons_zero, List.set_cons_succ]
            refine wpAnyH_take (i := 6) (oi := { dst := some 124, op := Op.binOp BinOp.neq 4 (Operand.tmp 122) (Operand.tmp 123) 4, type := 4, pos := "law.go:81", after := #[{ on := 4, ground := Ground.data }, { on := 5, ground := Ground.data }, { on := 3, ground := Ground.guard }], guard := some (3, false) }) (v := ?_) rfl (by kernel_rfl) (by kernel_rfl) (by kernel_rfl) (fun _ _ _ h => h) (Or.inl ⟨by kernel_rfl, ?_⟩) (by assumption) ?_
            rotate_left
            · intro wS hSw; (try dsimp only at hSw); go_simp; (try with_reducible rfl)
            try simp only [Act.put, List.setIfInBounds_toArray, List.set_cons_zero, List.set_cons_succ]
            refine wpAnyH_take (i := 7) (oi := { dst := some 125, op := Op.pick (Operand.tmp 121) (Operand.const (Value.bool true)) (Operand.tmp 124), type := 4, pos := "law.go:81", after := #[{ on := 3, ground := Ground.data }, { on := 6, ground := Ground.data }], guard := none }) (v := ?_) rfl (by kernel_rfl) (by kernel_rfl) (by kernel_rfl) (fun _ _ _ h => h) (Or.inl ⟨by kernel_rfl, ?_⟩) (by assumption) ?_
            rotate_left
            · intro wS hSw; (try dsimp only at hSw); go_simp; (try with_reducible rfl)
            try simp only [Act.put, List.setIfInBounds_toArray, List.set_cons_zero, List.set_cons_succ]
            refine wpAnyH_take (i := 8) (oi := { dst := some 126, op := Op.move (Operand.tmp 125), type := 4, pos := "law.go:81", after := #[{ on := 7, ground := Ground.data }, { on := 3, ground := Ground.chain }], guard := none }) (v := ?_) rfl (by kernel_rfl) (by kernel_rfl) (by kernel_rfl) (fun _ _ _ h => h) (Or.inl ⟨by kernel_rfl, ?_⟩) (by assumption) ?_
            rotate_left
            · intro wS hSw; (try dsimp only at hSw); go_simp; (try with_reducible rfl)
            try simp only [Act.put, List.setIfInBounds_toArray, List.set_cons_zero, List.set_cons_succ]
            refine wpAnyH_take (i := 9) (oi := { dst := some 127, op := Op.move (Operand.tmp 3), type := 37, pos := "law.go:81", after := #[{ on := 8, ground := Ground.guard }], guard := some (8, false) }) (v := ?_) rfl (by kernel_rfl) (by kernel_rfl) (by kernel_rfl) (fun _ _ _ h => h) (Or.inl ⟨by kernel_rfl, ?_⟩) (by assumption) ?_
            rotate_left
            · intro wS hSw; (try dsimp only at hSw); go_simp; (try with_reducible rfl)
            try simp only [Act.put, List.setIfInBounds_toArray, List.set_cons_zero, List.set_cons_succ]
            refine wpAnyH_take (i := 11) (oi := { dst := some 129, op := Op.move (Operand.tmp 4), type := 39, pos := "law.go:81", after := #[{ on := 8, ground := Ground.guard }], guard := some (8, false) }) (v := ?_) rfl (by kernel_rfl) (by kernel_rfl) (by kernel_rfl) (fun _ _ _ h => h) (Or.inl ⟨by kernel_rfl, ?_⟩) (by assumption) ?_
            rotate_left
            · intro wS hSw; (try dsimp only at hSw); go_simp; (try with_reducible rfl)
            try simp only [Act.put, List.setIfInBounds_toArray, List.set_cons_zero, List.set_cons_succ]
            refine wpAnyH_take (i := 12) (oi := { dst := some 130, op := Op.nilCheck (Operand.tmp 129), type := 0, pos := "law.go:81", after := #[{ on := 11, ground := Ground.data }, { on := 8, ground := Ground.guard }], guard := some (8, false) }) (v := ?_) rfl (by kernel_rfl) (by kernel_rfl) (by kernel_rfl) (fun _ _ _ h => h) (Or.inl ⟨by kernel_rfl, ?_⟩) (by assumption) ?_
            rotate_left
            · intro wS hSw; (try dsimp only at hSw); go_simp; (try with_reducible rfl)
            try simp only [Act.put, List.setIfInBounds_toArray, List.set_cons_zero, List.set_cons_succ]
            refine wpAnyH_take (i := 13) (oi := { dst := some 131, op := Op.fieldAddr 42 (Operand.tmp 130) 0, type := 0, pos := "law.go:81", after := #[{ on := 12, ground := Ground.data }, { on := 8, ground := Ground.guard }], guard := some (8, false) }) (v := ?_) rfl (by kernel_rfl) (by kernel_rfl) (by kernel_rfl) (fun _ _ _ h => h) (Or.inl ⟨by kernel_rfl, ?_⟩) (by assumption) ?_
            rotate_left
            · intro wS hSw; (try dsimp only at hSw); go_simp; (try with_reducible rfl)
            try simp only [Act.put, List.setIfInBounds_toArray, List.set_cons_zero, List.set_cons_succ]
            refine wpAnyH_take (i := 14) (oi := { dst := some 132, op := Op.load 40 (Operand.tmp 131), type := 40, pos := "law.go:81", after := #[{ on := 13, ground := Ground.data }, { on := 8, ground := Ground.guard }], guard := some (8, false) }) (v := ?_) rfl (by kernel_rfl) (by kernel_rfl) (by kernel_rfl) (fun _ _ _ h => h) (Or.inl ⟨by kernel_rfl, ?_⟩) (by assumption) ?_
            rotate_left
            · intro wS hSw; (try dsimp only at hSw); have kX := cell_below hSw.out hX8; go_simp; (try with_reducible rfl)
            try simp only [Act.put, List.setIfInBounds_toArray, List.set_cons_zero, List.set_cons_succ]
            refine wpAnyH_take (i := 15) (oi := { dst := some 133, op := Op.call { callee := Callee.builtin Builtin.len, args := #[Operand.tmp 132], argTypes := #[40] }, type := 3, pos := "law.go:81", after := #[{ on := 14, ground := Ground.data }, { on := 8, ground := Ground.guard }], guard := some (8, false) }) (v := ?_) rfl (by kernel_rfl) (by kernel_rfl) (by kernel_rfl) (fun _ _ _ h => h) (Or.inl ⟨by kernel_rfl, ?_⟩) (by assumption) ?_
            rotate_left
            · intro wS hSw; (try dsimp only at hSw); go_simp; (try with_reducible rfl)
            try simp only [Act.put, List.setIfInBounds_toArray, List.set_cons_zero, List.set_cons_succ]
            refine wpAnyH_ready (rs := [10]) (by kernel_rfl) (by simp) ?_
            refine AllReadyH.cons (o := { dst := some 128, op := Op.call { callee := Callee.value (Operand.func 22), args := #[Operand.tmp 127], argTypes := #[37] }, type := 3, pos := "law.go:81", after := #[{ on := 9, ground := Ground.data }, { on := 8, ground := Ground.chain }, { on := 8, ground := Ground.guard }], guard := some (8, false) }) rfl (fun K hK => ?_) AllReadyH.nil
            go_simp
            refine (hLn.out _ (Bel.out (by repeat (first | exact Bel.refl _ | assumption | refine Bel.drew ?_ | refine Bel.drewN ?_ _ | refine Bel.alloc ?_ _ | refine Bel.step ?_ (by assumption))))).mono ?_
            rintro e w9 ⟨rfl, hb9⟩
            refine hK.out _ _ ?_ (fun hH10 => ?_)
            · (try dsimp only); exact (by repeat (first | exact Bel.refl _ | assumption | refine Bel.drew ?_ | refine Bel.drewN ?_ _ | refine Bel.alloc ?_ _ | refine Bel.setCell ?_ (by simp <;> omega) _ | refine Bel.step ?_ (by assumption)))
            clear hK K
            try simp only [Act.put, List.setIfInBounds_toArray, List.set_cons_zero, List.set_cons_succ]
            refine wpAnyH_take (i := 16) (oi := { dst := some 134, op := Op.binOp BinOp.neq 3 (Operand.tmp 128) (Operand.tmp 133) 3, type := 4, pos := "law.go:81", after := #[{ on := 10, ground := Ground.data }, { on := 15, ground := Ground.data }, { on := 8, ground := Ground.guard }], guard := some (8, false) }) (v := ?_) rfl (by kernel_rfl) (by kernel_rfl) (by kernel_rfl) (fun _ _ _ h => h) (Or.inl ⟨by kernel_rfl, ?_⟩) (by assumption) ?_
            rotate_left
            · intro wS hSw; (try dsimp only at hSw); go_simp; (try with_reducible rfl)
            try simp only [Act.put, List.setIfInBounds_toArray, List.set_cons_zero, List.set_cons_succ]
            refine wpAnyH_take (i := 17) (oi := { dst := some 135, op := Op.pick (Operand.tmp 126) (Operand.const (Value.bool true)) (Operand.tmp 134), type := 4, pos := "law.go:81", after := #[{ on := 8, ground := Ground.data }, { on := 16, ground := Ground.data }], guard := none }) (v := ?_) rfl (by kernel_rfl) (by kernel_rfl) (by kernel_rfl) (fun _ _ _ h => h) (Or.inl ⟨by kernel_rfl, ?_⟩) (by assumption) ?_
            rotate_left
            · intro wS hSw; (try dsimp only at hSw); go_simp; (try with_reducible rfl)
            try simp only [Act.put, List.setIfInBounds_toArray, List.set_cons_zero, List.set_cons_succ]
            refine wpAnyH_take (i := 18) (oi := { dst := some 136, op := Op.move (Operand.tmp 135), type := 4, pos := "law.go:81", after := #[{ on := 17, ground := Ground.data }, { on := 10, ground := Ground.chain }], guard := none }) (v := ?_) rfl (by kernel_rfl) (by kernel_rfl) (by kernel_rfl) (fun _ _ _ h => h) (Or.inl ⟨by kernel_rfl, ?_⟩) (by assumption) ?_
            rotate_left
            · intro wS hSw; (try dsimp only at hSw); go_simp; (try with_reducible rfl)
            try simp only [Act.put, List.setIfInBounds_toArray, List.set_cons_zero, List.set_cons_succ]
            refine wpAnyH_take (i := 19) (oi := { dst := some 137, op := Op.move (Operand.tmp 16), type := 54, pos := "law.go:81", after := #[{ on := 18, ground := Ground.guard }], guard := some (18, false) }) (v := ?_) rfl (by kernel_rfl) (by kernel_rfl) (by kernel_rfl) (fun _ _ _ h => h) (Or.inl ⟨by kernel_rfl, ?_⟩) (by assumption) ?_
            rotate_left
            · intro wS hSw; (try dsimp only at hSw); go_simp; (try with_reducible rfl)
            try simp only [Act.put, List.setIfInBounds_toArray, List.set_cons_zero, List.set_cons_succ]
            refine wpAnyH_take (i := 20) (oi := { dst := some 138, op := Op.move (Operand.tmp 4), type := 39, pos := "law.go:81", after := #[{ on := 18, ground := Ground.guard }], guard := some (18, false) }) (v := ?_) rfl (by kernel_rfl) (by kernel_rfl) (by kernel_rfl) (fun _ _ _ h => h) (Or.inl ⟨by kernel_rfl, ?_⟩) (by assumption) ?_
            rotate_left
            · intro wS hSw; (try dsimp only at hSw); go_simp; (try with_reducible rfl)
            try simp only [Act.put, List.setIfInBounds_toArray, List.set_cons_zero, List.set_cons_succ]
            refine wpAnyH_ready (rs := [21]) (by kernel_rfl) (by simp) ?_
            refine AllReadyH.cons (o := { dst := some 139, op := Op.call { callee := Callee.value (Operand.func 24), args := #[Operand.tmp 138], argTypes := #[39] }, type := 54, pos := "law.go:81", after := #[{ on := 20, ground := Ground.data }, { on := 18, ground := Ground.chain }, { on := 18, ground := Ground.guard }], guard := some (18, false) }) rfl (fun K hK => ?_) AllReadyH.nil
            go_simp
            refine (hRr.out _ (Bel.out (by repeat (first | exact Bel.refl _ | assumption | refine Bel.drew ?_ | refine Bel.drewN ?_ _ | refine Bel.alloc ?_ _ | refine Bel.step ?_ (by assumption))))).mono ?_
            rintro e w10 ⟨⟨ar, capr, rfl, hrs⟩, hb10⟩
            have HRs : Hid _ := hrs
            clear hrs
            refine hK.out _ _ ?_ (fun hH21 => ?_)
            · (try dsimp only); exact (by repeat (first | exact Bel.refl _ | assumption | refine Bel.drew ?_ | refine Bel.drewN ?_ _ | refine Bel.alloc ?_ _ | refine Bel.setCell ?_ (by simp <;> omega) _ | refine Bel.step ?_ (by assumption)))
            clear hK K
            try simp only [Act.put, List.setIfInBounds_toArray, List.set_cons_zero, List.set_cons_succ]
            refine wpAnyH_ready (rs := [22]) (by kernel_rfl) (by simp) ?_
            refine AllReadyH.cons (o := { dst := some 140, op := Op.call { callee := Callee.value (Operand.func 23), args := #[Operand.tmp 137, Operand.tmp 139], argTypes := #[54, 54] }, type := 4, pos := "law.go:81", after := #[{ on := 19, ground := Ground.data }, { on := 21, ground := Ground.data }, { on := 21, ground := Ground.chain }, { on := 18, ground := Ground.guard }], guard := some (18, false) }) rfl (fun K hK => ?_) AllReadyH.nil
            go_simp
            refine (hSm.out _ ar capr (Bel.out (by repeat (first | exact Bel.refl _ | assumption | refine Bel.drew ?_ | refine Bel.drewN ?_ _ | refine Bel.alloc ?_ _ | refine Bel.step ?_ (by assumption)))) HRs.out).mono ?_
            rintro e w11 ⟨rfl, hb11⟩
            refine hK.out _ _ ?_ (fun hH22 => ?_)
            · (try dsimp only); exact (by repeat (first | exact Bel.refl _ | assumption | refine Bel.drew ?_ | refine Bel.drewN ?_ _ | refine Bel.alloc ?_ _ | refine Bel.setCell ?_ (by simp <;> omega) _ | refine Bel.step ?_ (by assumption)))
            clear hK K
            try simp only [Act.put, List.setIfInBounds_toArray, List.set_cons_zero, List.set_cons_succ]
            refine wpAnyH_take (i := 23) (oi := { dst := some 141, op := Op.unOp UnOp.not 4 (Operand.tmp 140), type := 4, pos := "law.go:81", after := #[{ on := 22, ground := Ground.data }, { on := 18, ground := Ground.guard }], guard := some (18, false) }) (v := ?_) rfl (by kernel_rfl) (by kernel_rfl) (by kernel_rfl) (fun _ _ _ h => h) (Or.inl ⟨by kernel_rfl, ?_⟩) (by assumption) ?_
            rotate_left
            · intro wS hSw; (try dsimp only at hSw); go_simp; (try with_reducible rfl)
            try simp only [Act.put, List.setIfInBounds_toArray, List.set_cons_zero, List.set_cons_succ]
            refine wpAnyH_take (i := 24) (oi := { dst := some 142, op := Op.pick (Operand.tmp 136) (Operand.const (Value.bool true)) (Operand.tmp 141), type := 4, pos := "law.go:81", after := #[{ on := 18, ground := Ground.data }, { on := 23, ground := Ground.data }], guard := none }) (v := ?_) rfl (by kernel_rfl) (by kernel_rfl) (by kernel_rfl) (fun _ _ _ h => h) (Or.inl ⟨by kernel_rfl, ?_⟩) (by assumption) ?_
            rotate_left
            · intro wS hSw; (try dsimp only at hSw); go_simp; (try with_reducible rfl)
            try simp only [Act.put, List.setIfInBounds_toArray, List.set_cons_zero, List.set_cons_succ]
            refine wpAnyH_done (by kernel_rfl) ?_ _
            have hB11 : Below w8.heap.size w8 w11 := (((Below.refl w8.heap.size w8).drew.trans (hb9.mono (by simp))).trans (hb10.mono ((Below.refl w8.heap.size w8).drew.trans (hb9.mono (by simp))).size)).trans (hb11.mono (((Below.refl w8.heap.size w8).drew.trans (hb9.mono (by simp))).trans (hb10.mono ((Below.refl w8.heap.size w8).drew.trans (hb9.mono (by simp))).size)).size)
            have HWR11 : Hid (WarmRs w11 w7.heap.size g8 (rwH HL2)) := HWR.out.below hB11
            have HB11 : Hid (Below w7.heap.size w7 w11) := hb8.trans (hB11.mono hb8.size)
            clear hX8 hLn hRr hSm HWR HA8 HRs hb9 hb10 hb11 hB11 hb8
            go_wp2_with fail
            go_loopg [17] HL2.length (fun k i wx => ∃ q : Nat, q + k = HL2.length ∧ i = .int .i64 q ∧ Below w7.heap.size w7 wx ∧ WarmRs wx w7.heap.size g8 (rwH HL2))
            case atStart => exact ⟨0, by omega, rfl, HB11.out, HWR11.out⟩
            case round =>
              obtain ⟨q, hqk, rfl, hBx, hWx⟩ := hrel
              obtain ⟨kb, hkb⟩ : ∃ kb, kb = gk := ⟨_, rfl⟩
              subst hkb
              have hnq := HA7.out.qshort q
              clear HWR11 HB11
              rcases Nat.lt_or_ge q HL2.length with hql | hqg
              · have HBx : Hid _ := hBx
                have HWx : Hid (WarmRs wr w7.heap.size g8 (rwH HL2)) := hWx
                obtain ⟨ai, capi, hci, _⟩ := hWx q (by rw [rwH_len]; exact hql)
                clear hBx hWx hci
                go_wp2_with fail
                go_loopg [18] ((rwH HL2).getD q []).length (fun k i wy => ∃ c : Nat, c + k = ((rwH HL2).getD q []).length ∧ i = .int .i64 c ∧ Below w7.heap.size w7 wy ∧ WarmRs wy w7.heap.size g8 (rwH HL2))
                case atStart => exact ⟨0, by omega, rfl, HBx.out, HWx.out⟩
                case round =>
                  obtain ⟨c, hck, rfl, hBy, hWy⟩ := hrel
                  clear HBx HWx
                  have HBy : Hid _ := hBy
                  have HWy : Hid (WarmRs wr w7.heap.size g8 (rwH HL2)) := hWy
                  obtain ⟨ay, capy, hcy, hory⟩ := hWy q (by rw [rwH_len]; exact hql)
                  clear hBy hWy
                  rcases Nat.lt_or_ge c ((rwH HL2).getD q []).length with hcl | hcg
                  · rcases hory with h0 | ⟨h, rfl, hBh, hne, hwm⟩
                    · omega
                    obtain ⟨⟨x0, q0⟩, f0⟩ := hwm (c * 3) (by omega)
                    obtain ⟨⟨x1, q1⟩, f1⟩ := hwm (c * 3 + 1) (by omega)
                    obtain ⟨⟨x2, q2⟩, f2⟩ := hwm (c * 3 + 2) (by omega)
                    clear hwm
                    generalize hE0 : ((rwH HL2).getD q []).length = nq at hcy q0 q1 q2 f0 f1 f2 hck hcl hnq ⊢
                    have HE : Hid (((rwH HL2).getD q []).length = nq) := hE0
                    clear hE0
                    go_wp2_with fail
                    go_roundg (gk - 1)
                    case measure => omega
                    case rel => exact ⟨c + 1, by have := HE.out; omega, by go_num, ((HBy.out.setCell hBh _).setCell hBh _).setCell hBh _, ((HWy.out.set hne).set hne).set hne⟩
                  · generalize ((rwH HL2).getD q []).length = nq at hcy hck hcg hnq ⊢
                    clear hory
                    go_wp2_with fail
                    go_roundg (kb - 1)
                    case measure => omega
                    case rel => exact ⟨q + 1, by omega, by go_num, HBy.out, HWy.out⟩
              · go_wp2_with fail
                go_roundg (ka - 1)
                case measure => omega
                case rel => exact ⟨m + 1, by omega, by go_num, _, _, _, _, _, _, HA7.out.below hBx⟩
    · obtain ⟨WL, HL, pl, bi, v, P, hA⟩ := hPl
      have hS := sure_any wr (HRd.out.below hA.two.bw)
      have hW := hA.two.bw
      clear hA
      go_wp2_with fail
      refine hS.mono ?_
      rintro e w2 ⟨rfl, hb2⟩
      go_wp2
      go_ret
      exact ⟨rfl, hW.trans (hb2.mono hW.size)⟩
set_option maxRecDepth 20000 in
set_option maxHeartbeats 8000000 in
theorem keyPlays_zero (a : Option Addr) (cap : Nat) (W : World) (hR : Ready W) :
    Calls Tryd.prog 4 #[.slice a 0 cap] W fun e W' => e = .returned (.bool true) ∧ Below W.heap.size W W' := by
  have hNew := New_any W
  have HRd : Hid (Ready W) := hR
  clear hR
  go_enter Tryd.func4, Tryd.ntmps4
  go_wp2_with fail
  refine hNew.mono ?_
  rintro e w1 ⟨M, rfl, hM, g1, g2, g3, hb1⟩
  have hB : Below W.heap.size W (w1.alloc (.cells #[.slice none 0 0] 42)) := hb1.alloc hb1.size _
  have hS := sure_any _ (HRd.out.below hB)
  clear hNew hM g1 g2 g3
  go_wp2_with fail
  refine wp_loop_rounds 1 ?_
  rw [rounds_succ]
  go_wp2_with fail
  refine hS.mono ?_
  rintro e w2 ⟨rfl, hb2⟩
  go_wp2
  go_ret
  exact ⟨rfl, hB.trans (hb2.mono hB.size)⟩
theorem keyPlays_walk (a : Option Addr) (cap len : Nat) (o : Nat → OpV) (W : World) (hR : Ready W) (hl : len ≤ 1048576) (ho : len = 0 ∨ ∃ b off, a = some ⟨b, off, none⟩ ∧ OpsAt W b off len o) :
    Calls Tryd.prog 4 #[.slice a len cap] W fun e W' => e = .returned (.bool true) ∧ Below W.heap.size W W' := by
  rcases ho with rfl | ⟨b, off, rfl, ho⟩
  · exact keyPlays_zero a cap W hR
  · exact keyPlays_some runes_any b off cap len o W hR hl ho
end Go.Proofs.YtbfodpmlmhkikaaDoor
