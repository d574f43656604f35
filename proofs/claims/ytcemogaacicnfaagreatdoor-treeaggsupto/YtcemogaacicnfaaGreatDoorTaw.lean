/- Which aggregates stand in a tree (the walk): the list is the document's, and stays so when all of an earlier one is written over. -/
import Derived.Test.YtcemogaacicnfaaGreatDoorRAg
import Derived.Test.YtcemogaacicnfaaGreatDoorSpo
import Derived.Test.YtcemogaacicnfaaGreatDoorSux
namespace Go.Proofs.YtcemogaacicnfaaGreatDoor
open Go.ChangeShapes Go.WideShapes Go.ChangeAt Go.RowKit Go.Shelf

theorem samL_refl (n : Nat) (l : List (Tr n)) : samL n l l = true := by
  unfold samL
  simp only [decide_true, Bool.true_and, List.all_eq_true]
  intro p hp
  obtain ⟨i, hi, rfl⟩ := List.getElem_of_mem hp
  rw [List.getElem_zip]
  exact samP_refl n _
theorem rows_same (M : Nat) (A A2 : List (Ag M)) (hm : A.map (·.1) = A2.map (·.1)) (a a2 : Option Addr) (c c2 : Nat) (w : World) (h : KsAt w M a (A.map (·.1))) (h2 : KsAt w M a2 (A2.map (·.1))) :
    Calls Tryz.prog 21 #[.slice a A.length c, .slice a2 A2.length c2] w fun e w' => e = .returned (.bool true) ∧ Below w.heap.size w w' := by
  have := SameAll_any M (A.map (·.1)) (A2.map (·.1)) a a2 c c2 w h h2
  rw [List.length_map, List.length_map, hm, samL_refl] at this
  exact this
theorem AgAt.cells {B M : Nat} {W : World} {a : Option Addr} {la k : Nat} {A : List (Ag M)} (h : AgAt B M W (.slice a la k) A) (i : Nat) (p : Ag M) (hp : A[i]? = some p) :
    ∃ g, a = some ⟨g, 0, none⟩ ∧ W.cell? ⟨g, i * 5, none⟩ = some (.int .i64 (kd M p.1)) ∧ W.cell? ⟨g, i * 5 + 1, none⟩ = some (.string (bsA (tx M p.1))) ∧ W.cell? ⟨g, i * 5 + 2, none⟩ = some (.int .i64 (nu M p.1)) ∧ W.cell? ⟨g, i * 5 + 3, none⟩ = some (.int .i64 (pl M p.1)) ∧ W.cell? ⟨g, i * 5 + 4, none⟩ = some (.slice p.2.1 (ks M p.1).length p.2.2) := by
  obtain ⟨h, _⟩ := h
  have h' := h
  obtain ⟨hl, ⟨e, h0⟩ | ⟨g, cap, cur, e, hbg, hg, hcap, hcm, hcs, htake⟩⟩ := h
  · rw [List.length_eq_zero_iff.1 h0] at hp
    cases hp
  · cases e
    have key : ∀ r u, (ndC M p)[r]? = some u → W.cell? ⟨g, i * 5 + r, none⟩ = some u := fun r u hr => by
      have := h'.cells (g := g) rfl _ _ (agC_at M A i p hp r u hr)
      rw [add_plain, Nat.zero_add] at this
      exact this
    exact ⟨g, rfl, key 0 _ rfl, key 1 _ rfl, key 2 _ rfl, key 3 _ rfl, key 4 _ rfl⟩
set_option linter.unusedSimpArgs false in
set_option maxRecDepth 20000 in
set_option maxHeartbeats 8000000 in
theorem treeAggs_walk (M : Nat) (x : Tr M) (s : Option Addr) (c : Nat) (w : World) (hR : Rdy w) (hx : NdAt w M x s) (hwx : Wid M x) (hM : (M : Int) ≤ 8000000000000000000) (hN : (flF M x).length * 64 + 64 ≤ 140737488355328) :
    Calls Tryz.prog 5 #[ndV M x s c] w fun e w' => e = .returned (.bool true) ∧ Below w.heap.size w w' := by
  have hN2 : (flat (fun k => !decide (k = 14)) M x 1).length * 64 + 64 ≤ 140737488355328 := by
    rw [← flF_flat M x 1, List.length_map] at hN
    exact hN
  have HLE : Hid (∀ A : List (Ag M), A.map (·.1) = agP M (flF M x) → A.length ≤ 9223372036854775807) := fun A h => by
    have h1 := congrArg List.length h
    have h2 := agS_len M (flF M x)
    rw [List.length_map] at h1
    omega
  have hAG := fun (W : World) (h : NdAt W M x s) => Aggs_any M x s c W h hM hN2 hwx
  have hRG := fun (W : World) (h : NdAt W M x s) => RAggs_any M x s c W h hwx (by omega)
  simp only [flF_flat] at hAG
  unfold ndV at hAG hRG ⊢
  have HAG : Hid _ := hAG
  have HRG : Hid _ := hRG
  have hB0 : Below w.heap.size w (w.alloc (Obj.cells #[Value.int IntKind.i64 (kd M x), Value.string (bsA (tx M x)), Value.int IntKind.i64 (nu M x), Value.int IntKind.i64 (pl M x), Value.slice s (ks M x).length c] 24)) := (Below.refl _ w).alloc (Nat.le_refl _) _
  have hsz : (w.alloc (Obj.cells #[Value.int IntKind.i64 (kd M x), Value.string (bsA (tx M x)), Value.int IntKind.i64 (nu M x), Value.int IntKind.i64 (pl M x), Value.slice s (ks M x).length c] 24)).heap.size = w.heap.size + 1 := by simp
  have bX := Box5.new w (.int .i64 (kd M x)) (.string (bsA (tx M x))) (.int .i64 (nu M x)) (.int .i64 (pl M x)) (.slice s (ks M x).length c) 24
  have HX : Hid _ := NdAt.below hB0 hx
  have HX0 : Hid _ := hx
  have HBX : Hid _ := bX
  clear hAG hRG hN hN2 hx bX
  go_enter Tryz.func5, Tryz.ntmps5
  go_wp2_with fail
  refine (HAG.out _ HX.out).mono ?_
  rintro e w1 ⟨⟨u1, A, rfl, ha1, hm1⟩, hb1⟩
  obtain ⟨a1, k1, rfl, hk1⟩ := ha1.slice (HLE.out _ hm1)
  obtain ⟨la, hla⟩ : ∃ la, A.length = la := ⟨_, rfl⟩
  rw [hla] at ha1
  have hl63 : la ≤ 9223372036854775807 := by rw [← hla]; exact HLE.out _ hm1
  have HLA : Hid (A.length = la) := hla
  have HM1 : Hid _ := hm1
  have HA1 : Hid (AgAt ((w.alloc (Obj.cells #[Value.int IntKind.i64 (kd M x), Value.string (bsA (tx M x)), Value.int IntKind.i64 (nu M x), Value.int IntKind.i64 (pl M x), Value.slice s (ks M x).length c] 24)).heap.size + 4) M w1 (.slice a1 la k1) A) := ha1
  have HK1 : Hid (KsAt w1 M a1 (A.map (·.1))) := hk1
  replace HX : Hid (NdAt w1 M x s) := NdAt.below hb1 HX.out
  replace HBX : Hid (Box5 w1 w.heap.size (.int .i64 (kd M x)) (.string (bsA (tx M x))) (.int .i64 (nu M x)) (.int .i64 (pl M x)) (.slice s (ks M x).length c)) := Box5.below HBX.out hb1
  have hB := hB0.trans (hb1.mono hB0.size)
  rw [hla]
  clear ha1 hk1 hm1 hla
  rw [hsz] at HA1
  generalize w.alloc (Obj.cells #[Value.int IntKind.i64 (kd M x), Value.string (bsA (tx M x)), Value.int IntKind.i64 (nu M x), Value.int IntKind.i64 (pl M x), Value.slice s (ks M x).length c] 24) = W0 at *
  obtain ⟨b0, b1, b2, b3, b4, -, -, -, -, -⟩ := HBX.out
  go_wp2_with fail
  refine (HRG.out _ HX.out).mono ?_
  rintro e w2 ⟨⟨u2, A2, rfl, ha2, hm2⟩, hb2⟩
  obtain ⟨a2, k2, rfl, hk2⟩ := ha2.slice (HLE.out _ hm2)
  have hSM := rows_same M A A2 (HM1.out.trans hm2.symm) a1 a2 k1 k2 w2 (KsAt.below HK1.out hb2) hk2
  rw [HLA.out] at hSM
  replace HA1 : Hid (AgAt (w.heap.size + 1 + 4) M w2 (.slice a1 la k1) A) := HA1.out.below hb2
  replace HX : Hid (NdAt w2 M x s) := NdAt.below hb2 HX.out
  replace HBX : Hid (Box5 w2 w.heap.size (.int .i64 (kd M x)) (.string (bsA (tx M x))) (.int .i64 (nu M x)) (.int .i64 (pl M x)) (.slice s (ks M x).length c)) := Box5.below HBX.out hb2
  replace hB := hB.trans (hb2.mono hB.size)
  clear b0 b1 b2 b3 b4 ha2 hk2 hm2
  go_wp2_with fail
  refine hSM.mono ?_
  rintro e w3 ⟨rfl, hb3⟩
  replace HA1 : Hid (AgAt (w.heap.size + 1 + 4) M w3 (.slice a1 la k1) A) := HA1.out.below hb3
  replace HBX : Hid (Box5 w3 w.heap.size (.int .i64 (kd M x)) (.string (bsA (tx M x))) (.int .i64 (nu M x)) (.int .i64 (pl M x)) (.slice s (ks M x).length c)) := Box5.below HBX.out hb3
  replace hB := hB.trans (hb3.mono hB.size)
  clear hSM HK1 HX
  go_wp2
  obtain ⟨q, hq⟩ : ∃ q : Nat → Prop, q = fun b => w.heap.size + 1 + 4 ≤ b ∧ b < w3.heap.size ∧ (Value.slice a1 la k1).ownBlock ≠ some b := ⟨_, rfl⟩
  have HQ : Hid (∀ b, q b → w.heap.size + 1 + 4 ≤ b ∧ b < w3.heap.size ∧ (Value.slice a1 la k1).ownBlock ≠ some b) := fun b h => by rw [hq] at h; exact h
  have HZ : Hid (∀ p ∈ A, NdZ q w3 M (ks M p.1).length p.2.1) := fun p hp => NdQ.z (NdQ.keep (fun b o hb ho _ => ⟨ho, by rw [hq]; exact ⟨hb.1, heap_lt ho, hb.2⟩⟩) (HA1.out.2 p hp))
  have hw3 : w.heap.size + 1 ≤ w3.heap.size := by have := hb1.size; have := hb2.size; have := hb3.size; omega
  clear hq hb1 hb2 hb3
  go_loopw [4] (fun y wr => ∃ i : Nat, i ≤ la ∧ y = .int .i64 i ∧ Box5 wr w.heap.size (.int .i64 (kd M x)) (.string (bsA (tx M x))) (.int .i64 (nu M x)) (.int .i64 (pl M x)) (.slice s (ks M x).length c) ∧ Spo q w3 wr ∧ ∀ n len s, NdZ q w3 n len s → NdZ q wr n len s) (fun y _ => la - (intOf y).toNat)
  case atStart => exact ⟨0, Nat.zero_le _, rfl, HBX.out, Spo.below (Below.refl _ _), fun _ _ _ h => h⟩
  case round =>
    obtain ⟨i, hi, rfl, hbx, hS, hK⟩ := hrel
    have HS : Hid _ := hS
    have HK : Hid _ := hK
    replace HBX : Hid (Box5 wr w.heap.size (.int .i64 (kd M x)) (.string (bsA (tx M x))) (.int .i64 (nu M x)) (.int .i64 (pl M x)) (.slice s (ks M x).length c)) := hbx
    clear hbx hS hK
    rcases Nat.lt_or_ge i la with hlt | hge
    · obtain ⟨p, gp⟩ : ∃ p, A[i]? = some p := ⟨_, List.getElem?_eq_getElem (by rw [HLA.out]; exact hlt)⟩
      obtain ⟨g, rfl, c0, c1, c2, c3, c4⟩ := HA1.out.cells i p gp
      have hg3 : g < w3.heap.size := cell_lt c0
      have e := HS.out.blk g hg3 (fun h => (HQ.out g h).2.2 rfl)
      have c0 := cell_same c0 e
      have c1 := cell_same c1 e
      have c2 := cell_same c2 e
      have c3 := cell_same c3 e
      have c4 := cell_same c4 e
      have hwr : w3.heap.size ≤ wr.heap.size := HS.out.b0.size
      have h1 := spoil_any q M (ks M p.1).length p.2.1 (kd M p.1) (bsA (tx M p.1)) (nu M p.1) (pl M p.1) p.2.2 wr (HK.out _ _ _ (HZ.out p (List.mem_of_getElem? gp))) (fun b hb => by have := (HQ.out b hb).2.1; omega)
      obtain ⟨y, s', c'⟩ := p
      dsimp only at c0 c1 c2 c3 c4 h1
      clear e gp
      go_wp2_with fail
      refine h1.mono ?_
      rintro e w4 ⟨rfl, hS4, hK4⟩
      have HBX4 : Hid (Box5 w4 w.heap.size (.int .i64 (kd M x)) (.string (bsA (tx M x))) (.int .i64 (nu M x)) (.int .i64 (pl M x)) (.slice s (ks M x).length c)) := hS4.box HBX.out (fun h => by have := (HQ.out _ h).1; omega)
      have HS4 : Hid _ := HS.out.trans hS4
      have HK4 : Hid (∀ n len s, NdZ q w3 n len s → NdZ q w4 n len s) := fun n len s h => hK4 n len s (HK.out n len s h)
      clear h1 hS4 hK4 c0 c1 c2 c3 c4
      go_wp2
      go_roundw
      case rel => exact ⟨i + 1, by omega, by go_num, HBX4.out, HS4.out, HK4.out⟩
      case measure => simp [intOf]; omega
    · replace hB : Below w.heap.size w wr := hB.trans (HS.out.to (by omega) (fun b hb h => by have := (HQ.out b h).1; omega))
      replace hB := hB.drew
      have HX : Hid _ := NdAt.below hB HX0.out
      replace HBX : Hid _ := HBX.out.drew
      clear HA1 HZ HK HS HQ HM1 HLA
      go_wp2_with fail
      refine wp_region_held_drew (S := (fun wS => Box5 wS w.heap.size (.int .i64 (kd M x)) (.string (bsA (tx M x))) (.int .i64 (nu M x)) (.int .i64 (pl M x)) (.slice s (ks M x).length c))) (by kernel_rfl) ?_ (fun hHeld => ?_)
      · (try dsimp only); exact HBX.out
      refine wpAnyH_take (i := 0) (oi := { dst := some 23, op := Op.load 24 (Operand.tmp 1), type := 24, pos := "law.go:64", after := #[], guard := none }) (v := ?_) rfl (by kernel_rfl) (by kernel_rfl) (by kernel_rfl) (fun _ _ _ h => h) (Or.inl ⟨by kernel_rfl, ?_⟩) (by assumption) ?_
      rotate_left
      · intro wS hSw; (try dsimp only at hSw); have q0 := hSw.c0; have q1 := hSw.c1; have q2 := hSw.c2; have q3 := hSw.c3; have q4 := hSw.c4; go_simp; (try with_reducible rfl)
      try simp only [Act.put, List.setIfInBounds_toArray, List.set_cons_zero, List.set_cons_succ]
      refine wpAnyH_take (i := 2) (oi := { dst := some 25, op := Op.load 24 (Operand.tmp 1), type := 24, pos := "law.go:64", after := #[], guard := none }) (v := ?_) rfl (by kernel_rfl) (by kernel_rfl) (by kernel_rfl) (fun _ _ _ h => h) (Or.inl ⟨by kernel_rfl, ?_⟩) (by assumption) ?_
      rotate_left
      · intro wS hSw; (try dsimp only at hSw); have q0 := hSw.c0; have q1 := hSw.c1; have q2 := hSw.c2; have q3 := hSw.c3; have q4 := hSw.c4; go_simp; (try with_reducible rfl)
      try simp only [Act.put, List.setIfInBounds_toArray, List.set_cons_zero, List.set_cons_succ]
      refine wpAnyH_ready (rs := [1]) (by kernel_rfl) (by simp) ?_
      refine AllReadyH.cons (o := { dst := some 24, op := Op.call { callee := Callee.value (Operand.func 20), args := #[Operand.tmp 23], argTypes := #[24] }, type := 22, pos := "law.go:64", after := #[{ on := 0, ground := Ground.data }], guard := none }) rfl (fun K hK => ?_) AllReadyH.nil
      go_simp
      go_at_call 20
      refine (HAG.out _ HX.out).mono ?_
      rintro e v1 ⟨⟨u1, A1, rfl, ha1, hm1⟩, hb1⟩
      obtain ⟨a1, k1, rfl, hk1⟩ := ha1.slice (HLE.out _ hm1)
      have HK1 : Hid (KsAt v1 M a1 (A1.map (·.1))) := hk1
      have HM1 : Hid _ := hm1
      have HX : Hid _ := NdAt.below hb1 HX.out
      have HBX : Hid _ := Box5.below HBX.out hb1
      have hB := hB.trans (hb1.mono hB.size)
      clear ha1 hk1 hm1
      refine hK.out _ _ ?_ (fun hH1 => ?_)
      · (try dsimp only); exact HBX.out
      clear hK K
      try simp only [Act.put, List.setIfInBounds_toArray, List.set_cons_zero, List.set_cons_succ]
      refine wpAnyH_ready (rs := [3]) (by kernel_rfl) (by simp) ?_
      refine AllReadyH.cons (o := { dst := some 26, op := Op.call { callee := Callee.value (Operand.func 22), args := #[Operand.tmp 25], argTypes := #[24] }, type := 22, pos := "law.go:64", after := #[{ on := 2, ground := Ground.data }, { on := 1, ground := Ground.chain }], guard := none }) rfl (fun K hK => ?_) AllReadyH.nil
      go_simp
      go_at_call 22
      refine (HRG.out _ HX.out).mono ?_
      rintro e v2 ⟨⟨u2, A2, rfl, ha2, hm2⟩, hb2⟩
      obtain ⟨a2, k2, rfl, hk2⟩ := ha2.slice (HLE.out _ hm2)
      have HSM : Hid (Calls Tryz.prog 21 #[.slice a1 A1.length k1, .slice a2 A2.length k2] v2 fun e w' => e = .returned (.bool true) ∧ Below v2.heap.size v2 w') := rows_same M A1 A2 (HM1.out.trans hm2.symm) a1 a2 k1 k2 v2 (KsAt.below HK1.out hb2) hk2
      have HX : Hid _ := NdAt.below hb2 HX.out
      have HBX : Hid _ := Box5.below HBX.out hb2
      have hB := hB.trans (hb2.mono hB.size)
      clear ha2 hk2 hm2
      refine hK.out _ _ ?_ (fun hH3 => ?_)
      · (try dsimp only); exact HBX.out
      clear hK K
      try simp only [Act.put, List.setIfInBounds_toArray, List.set_cons_zero, List.set_cons_succ]
      refine wpAnyH_ready (rs := [4]) (by kernel_rfl) (by simp) ?_
      refine AllReadyH.cons (o := { dst := some 27, op := Op.call { callee := Callee.value (Operand.func 21), args := #[Operand.tmp 24, Operand.tmp 26], argTypes := #[22, 22] }, type := 4, pos := "law.go:64", after := #[{ on := 1, ground := Ground.data }, { on := 3, ground := Ground.data }, { on := 3, ground := Ground.chain }], guard := none }) rfl (fun K hK => ?_) AllReadyH.nil
      go_simp
      go_at_call 21
      refine HSM.out.mono ?_
      rintro e v3 ⟨rfl, hb3⟩
      have HX : Hid _ := NdAt.below hb3 HX.out
      have HBX : Hid _ := Box5.below HBX.out hb3
      have hB := hB.trans (hb3.mono hB.size)
      refine hK.out _ _ ?_ (fun hH4 => ?_)
      · (try dsimp only); exact HBX.out
      clear hK K
      try simp only [Act.put, List.setIfInBounds_toArray, List.set_cons_zero, List.set_cons_succ]
      refine wpAnyH_take (i := 5) (oi := { dst := some 28, op := Op.move (Operand.tmp 27), type := 4, pos := "law.go:64", after := #[{ on := 4, ground := Ground.data }, { on := 4, ground := Ground.chain }], guard := none }) (v := ?_) rfl (by kernel_rfl) (by kernel_rfl) (by kernel_rfl) (fun _ _ _ h => h) (Or.inl ⟨by kernel_rfl, ?_⟩) (by assumption) ?_
      rotate_left
      · intro wS hSw; (try dsimp only at hSw); go_simp; (try with_reducible rfl)
      try simp only [Act.put, List.setIfInBounds_toArray, List.set_cons_zero, List.set_cons_succ]
      refine wpAnyH_ready (rs := [6]) (by kernel_rfl) (by simp) ?_
      refine AllReadyH.cons (o := { dst := some 29, op := Op.call { callee := Callee.value (Operand.func 17), args := #[], argTypes := #[] }, type := 4, pos := "law.go:64", after := #[{ on := 5, ground := Ground.chain }, { on := 5, ground := Ground.guard }], guard := some (5, true) }) rfl (fun K hK => ?_) AllReadyH.nil
      go_simp
      go_at_call 17
      refine (sure_any _ (hR.below hB)).mono ?_
      rintro e v4 ⟨rfl, hb4⟩
      have HX : Hid _ := NdAt.below hb4 HX.out
      have HBX : Hid _ := Box5.below HBX.out hb4
      have hB := hB.trans (hb4.mono hB.size)
      refine hK.out _ _ ?_ (fun hH6 => ?_)
      · (try dsimp only); exact HBX.out
      clear hK K
      try simp only [Act.put, List.setIfInBounds_toArray, List.set_cons_zero, List.set_cons_succ]
      refine wpAnyH_take (i := 7) (oi := { dst := some 30, op := Op.pick (Operand.tmp 28) (Operand.tmp 29) (Operand.const (Value.bool false)), type := 4, pos := "law.go:64", after := #[{ on := 5, ground := Ground.data }, { on := 6, ground := Ground.data }], guard := none }) (v := ?_) rfl (by kernel_rfl) (by kernel_rfl) (by kernel_rfl) (fun _ _ _ h => h) (Or.inl ⟨by kernel_rfl, ?_⟩) (by assumption) ?_
      rotate_left
      · intro wS hSw; (try dsimp only at hSw); go_simp; (try with_reducible rfl)
      try simp only [Act.put, List.setIfInBounds_toArray, List.set_cons_zero, List.set_cons_succ]
      refine wpAnyH_take (i := 8) (oi := { dst := some 2, op := Op.assign (Operand.tmp 30), type := 4, pos := "law.go:64", after := #[{ on := 7, ground := Ground.data }, { on := 6, ground := Ground.chain }, { on := 0, ground := Ground.phase }, { on := 1, ground := Ground.phase }, { on := 2, ground := Ground.phase }, { on := 3, ground := Ground.phase }, { on := 4, ground := Ground.phase }, { on := 5, ground := Ground.phase }, { on := 6, ground := Ground.phase }, { on := 7, ground := Ground.phase }], guard := none }) (v := ?_) rfl (by kernel_rfl) (by kernel_rfl) (by kernel_rfl) (fun _ _ _ h => h) (Or.inl ⟨by kernel_rfl, ?_⟩) (by assumption) ?_
      rotate_left
      · intro wS hSw; (try dsimp only at hSw); go_simp; (try with_reducible rfl)
      try simp only [Act.put, List.setIfInBounds_toArray, List.set_cons_zero, List.set_cons_succ]
      refine wpAnyH_done (by kernel_rfl) ?_ _
      go_wp2
      go_ret
      exact ⟨rfl, hB⟩
end Go.Proofs.YtcemogaacicnfaaGreatDoor
