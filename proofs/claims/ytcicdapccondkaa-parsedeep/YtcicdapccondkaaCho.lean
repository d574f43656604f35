/- Cases (choice). -/
import Derived.Test.YtcicdapccondkaaChx
namespace Go.Proofs.Ytcicdapccondkaa
open Go.ChangeShapes Go.WideShapes Go.ChangeAt Go.RowKit
set_option linter.unusedSimpArgs false
set_option maxRecDepth 20000
set_option maxHeartbeats 4000000

/-- Cases. -/
def choiceG (T : List Tt) (E : Nat → Nat → Rz X) (f i op : Nat) : Rz X := if i < T.length then choiceP T (fun j => E j op) f i else none
theorem choice_any (rb : Nat) (ta : Option Addr) (cap : Nat) (T : List Tt) (E : Nat → Nat → Rz X) (hp : Reads rb ta cap T 16 E) (hup : Ups E) (f : Nat) : Reads rb ta cap T 96 (choiceG T E f) := by
  intro i op w r hop hr h
  have hlt := cell_lt hr.c0
  have hlen := hr.len
  have hi : i < T.length := by
    rcases Nat.lt_or_ge i T.length with h1 | h1
    · exact h1
    · unfold choiceG at h
      rw [if_neg (by omega)] at h
      cases h
  have HP : Hid (Reads rb ta cap T 16 E) := hp
  have HU : Hid (Ups E) := hup
  have HWN : Hid (LReads rb ta cap T 97 (fun i op => whenP T (fun j => E j op) i)) := when_any rb ta cap T E hp
  have hA : Below w.heap.size w (w.alloc (Obj.cells #[Value.int IntKind.i64 0, Value.string { data := #[] }, Value.int IntKind.i64 0, Value.int IntKind.i64 0, Value.slice none 0 0] 26)) := (Below.refl _ _).alloc (Nat.le_refl _) _
  have HC0 : Hid (Cx rb ta cap T w w.heap.size i op (w.alloc (Obj.cells #[Value.int IntKind.i64 0, Value.string { data := #[] }, Value.int IntKind.i64 0, Value.int IntKind.i64 0, Value.slice none 0 0] 26))) := ⟨Fx.below hA, hr.below hA, Box5.new w _ _ _ _ _ 26⟩
  have h1 := take_any rb ta cap T i op _ HC0.out.rdr hi
  obtain ⟨q, hq⟩ : ∃ q, tkI T i = q := ⟨_, rfl⟩
  have HH : Hid (bnd (whenP T (fun j => E j op) (i + 1)) (fun l j => bnd (whensP T (fun j => E j op) f l j) fun l j => (if isT (tkI T j) 2 [[101, 108, 115, 101]] then bnd (E (j + 1) op) (fun x j => bnd (needP T 2 [101, 110, 100] j) fun _ j => okR (mkX 12 [] 0 q.2 (l ++ [x])) j) else bnd (needP T 2 [101, 110, 100] j) (fun t j => okR (mkX 12 [] 0 q.2 (l ++ [nd 1 t []])) j))) = some r) := by
    unfold choiceG at h
    rw [if_pos hi] at h
    unfold choiceP at h
    rw [hq] at h
    exact h
  rw [hq] at h1
  obtain ⟨⟨q1, q2, q3⟩, q4⟩ := q
  unfold ptr ttV at h1
  unfold ptr
  dsimp only at h1
  obtain ⟨i0, hi0, hz0⟩ := Option.map_eq_some_iff.1 info26
  simp only [Prod.mk.injEq] at hz0
  obtain ⟨hz1, hzs, hz3⟩ := hz0
  clear hr h hp hq hA hi hup
  go_enter Try.func96, Try.ntmps96
  go_wp2_with fail
  refine h1.mono ?_
  rintro e w1 ⟨rfl, hr1, hf1⟩
  clear h1
  have HC1 : Hid (Cx rb ta cap T w w.heap.size (i + 1) op w1) := HC0.out.step hf1 hr1 hlt
  have h2 := node_any 12 ((q1, q2, q3), q4) none 0 0 w1
  unfold ttV nV at h2
  dsimp only at h2
  clear hr1 hf1 HC0
  go_wp2_with fail
  refine h2.mono ?_
  rintro e w2 ⟨rfl, hb2⟩
  clear h2
  have HC2 : Hid (Cx rb ta cap T w w.heap.size (i + 1) op (w2.alloc (Obj.cells #[Value.int IntKind.i64 12, Value.string (bsA []), Value.int IntKind.i64 0, Value.int IntKind.i64 q4, Value.slice none 0 0] 26))) := (HC1.out.below hb2).alloc _
  have hs2 : w.heap.size < w2.heap.size := (HC1.out.below hb2).lt
  have HB2 : Hid (Box5 (w2.alloc (Obj.cells #[Value.int IntKind.i64 12, Value.string (bsA []), Value.int IntKind.i64 0, Value.int IntKind.i64 q4, Value.slice none 0 0] 26)) w2.heap.size (.int .i64 12) (.string (bsA [])) (.int .i64 0) (.int .i64 q4) (.slice none 0 0)) := Box5.new w2 _ _ _ _ _ 26
  obtain ⟨r3, e3, hl3⟩ := bnd_some HH.out
  have HL3 : Hid (bnd (some r3) (fun l j => bnd (whensP T (fun j => E j op) f l j) fun l j => (if isT (tkI T j) 2 [[101, 108, 115, 101]] then bnd (E (j + 1) op) (fun x j => bnd (needP T 2 [101, 110, 100] j) fun _ j => okR (mkX 12 [] 0 q4 (l ++ [x])) j) else bnd (needP T 2 [101, 110, 100] j) (fun t j => okR (mkX 12 [] 0 q4 (l ++ [nd 1 t []])) j))) = some r) := hl3
  have h3 := HWN.out (i + 1) op (w2.alloc (Obj.cells #[Value.int IntKind.i64 12, Value.string (bsA []), Value.int IntKind.i64 0, Value.int IntKind.i64 q4, Value.slice none 0 0] 26)) r3 hop HC2.out.rdr e3
  unfold ptr at h3
  have HW3 : Hid (∀ q, r3 = .inr q → q.1.length = 2 ∧ i + 1 + 2 ≤ q.2) := fun q hq => whenP_ok (fun i x j => HU.out i op x j) (show whenP T (fun j => E j op) (i + 1) = some (.inr (q.1, q.2)) by rw [e3, hq])
  clear hb2 HC1 HH e3 hl3
  go_wp2_with fail
  refine h3.mono ?_
  intro e w3 hpost
  clear h3
  cases r3 with
  | inl q =>
    obtain ⟨hG, hF⟩ := hpost.no
    unfold GUp at hG
    subst hG
    have HRR : Hid (r = .inl q) := (Option.some.inj HL3.out).symm
    have HF : Hid _ := HC2.out.fx.trans hF
    clear hpost hF
    go_wp2
    exact ⟨rfl, by rw [HRR.out]; exact ⟨rfl, HF.out⟩⟩
  | inr q =>
    obtain ⟨l, j3⟩ := q
    obtain ⟨⟨⟨g3, c3, A3, rfl, hAm, hO⟩, hr3⟩, hF3⟩ := hpost.ok
    dsimp only at hAm hr3
    subst hAm
    have hW := HW3.out _ rfl
    rw [List.length_map] at hW
    have hO2 : OwX rb (w2.heap.size + 1) w3 g3 c3 A3 := by
      have h := hO
      rw [World.size_alloc] at h
      exact h
    have hB3 := HB2.out.fx hF3 (by omega)
    have HI0 : Hid (ChI rb ta cap T w w.heap.size w2.heap.size (w2.heap.size + 1) 12 q4 op g3 c3 A3 j3 (w3.setCell ⟨w2.heap.size, 4, none⟩ (.slice (some ⟨g3, 0, none⟩) A3.length c3))) := ⟨(HC2.out.step hF3 hr3 hlt).set w2.heap.size 4 _ (by omega) (by omega) (by omega), hB3.put4 _, hO2.set 4 _ (by omega)⟩
    obtain ⟨rw', ew, hlw⟩ := bnd_some (show bnd (whensP T (fun j => E j op) f (A3.map (·.1)) j3) (fun l j => (if isT (tkI T j) 2 [[101, 108, 115, 101]] then bnd (E (j + 1) op) (fun x j => bnd (needP T 2 [101, 110, 100] j) fun _ j => okR (mkX 12 [] 0 q4 (l ++ [x])) j) else bnd (needP T 2 [101, 110, 100] j) (fun t j => okR (mkX 12 [] 0 q4 (l ++ [nd 1 t []])) j))) = some r from HL3.out)
    have HLW : Hid (bnd (some rw') (fun l j => (if isT (tkI T j) 2 [[101, 108, 115, 101]] then bnd (E (j + 1) op) (fun x j => bnd (needP T 2 [101, 110, 100] j) fun _ j => okR (mkX 12 [] 0 q4 (l ++ [x])) j) else bnd (needP T 2 [101, 110, 100] j) (fun t j => okR (mkX 12 [] 0 q4 (l ++ [nd 1 t []])) j))) = some r) := hlw
    have HEW : Hid (whensP T (fun j => E j op) f (A3.map (·.1)) j3 = some rw') := ew
    have hj3 : A3.length ≤ j3 := by omega
    obtain ⟨y0, y1, y2, y3, y4, k0, k1, k2, k3, k4⟩ := hB3
    clear hpost hO hO2 hr3 hF3 HL3 HC2 HB2 hW HW3 ew hlw
    go_wp2
    clear y0 y1 y2 y3 y4 k0 k1 k2 k3 k4
    go_loopg [] f (fun gk wr => ∃ (g c : Nat) (A : List Xp) (i' : Nat), ChI rb ta cap T w w.heap.size w2.heap.size (w2.heap.size + 1) 12 q4 op g c A i' wr ∧ A.length ≤ i' ∧ whensP T (fun j => E j op) gk (A.map (·.1)) i' = some rw')
    case atStart => exact ⟨g3, c3, A3, j3, HI0.out, hj3, HEW.out⟩
    case round =>
      obtain ⟨g, c, A, i', hI, hA, hl⟩ := hrel
      obtain ⟨m, rfl⟩ : ∃ m, gk = m + 1 := by
        cases gk with
        | zero => cases hl
        | succ m => exact ⟨m, rfl⟩
      have HL1 : Hid ((if isT (tkI T i') 2 [[119, 104, 101, 110]] then bnd (whenP T (fun j => E j op) i') (fun l j => whensP T (fun j => E j op) m (A.map (·.1) ++ l) j) else okR (A.map (·.1)) i') = some rw') := hl
      have HI : Hid (ChI rb ta cap T w w.heap.size w2.heap.size (w2.heap.size + 1) 12 q4 op g c A i' wr) := hI
      have hle := hI.cx.rdr.le
      obtain ⟨la, hla⟩ : ∃ la, A.length = la := ⟨_, rfl⟩
      have HLA : Hid (A.length = la) := hla
      rw [hla] at hA
      have h4 := sees_new rb ta cap T i' op 2 #[.string ⟨#[119, 104, 101, 110]⟩] [[119, 104, 101, 110]] rfl (by decide) 1 1 rfl wr hI.cx.rdr
      unfold ptr at h4
      clear hl hI hla HI0 HEW hj3
      cases hb : isT (tkI T i') 2 [[119, 104, 101, 110]] with
      | true =>
        rw [hb] at h4
        obtain ⟨r3, e3, hl3⟩ := bnd_some (show bnd (whenP T (fun j => E j op) i') (fun l j => whensP T (fun j => E j op) m (A.map (·.1) ++ l) j) = some rw' by
          have h := HL1.out
          rw [hb] at h
          exact h)
        have HL3 : Hid (bnd (some r3) (fun l j => whensP T (fun j => E j op) m (A.map (·.1) ++ l) j) = some rw') := hl3
        have HE3 : Hid (whenP T (fun j => E j op) i' = some r3) := e3
        clear hb HL1 e3 hl3
        go_wp2_with fail
        refine h4.mono ?_
        rintro e wr3 ⟨rfl, hb4⟩
        clear h4
        have HI : Hid (ChI rb ta cap T w w.heap.size w2.heap.size (w2.heap.size + 1) 12 q4 op g c A i' wr3.drew) := (HI.out.below hb4 (by omega) (by omega) (by omega)).below (Below.refl _ _).drew (by omega) (by omega) (by omega)
        have h3 := HWN.out i' op _ r3 hop HI.out.cx.rdr HE3.out
        unfold ptr at h3
        have H3 : Hid (Calls Try.prog 97 #[.pointer (some ⟨rb, 0, none⟩)] wr3.drew (LPost rb ta cap T op wr3.drew r3)) := h3
        have HW3 : Hid (whenP T (fun j => E j op) i' = some r3) := HE3.out
        clear hb4 h3 HE3
        go_wp2_with fail
        refine wp_region_held_drew (S := (fun _ => True)) (by kernel_rfl) ?_ (fun hHeld => ?_)
        · (try dsimp only); (all_goals exact True.intro)
        refine tk 0 (some 13) (v := ?_) rfl ?_ ?_
        rotate_left
        · intro wS hSw; (try dsimp only at hSw); go_simp; (try with_reducible rfl)
        try simp only [Act.put, List.setIfInBounds_toArray, List.set_cons_zero, List.set_cons_succ]
        refine tk 2 (some 15) (v := ?_) rfl ?_ ?_
        rotate_left
        · intro wS hSw; (try dsimp only at hSw); go_simp; (try with_reducible rfl)
        try simp only [Act.put, List.setIfInBounds_toArray, List.set_cons_zero, List.set_cons_succ]
        generalize wr3.drew = v0 at HI H3 ⊢
        refine wpAnyH_ready (rs := [1, 3]) (by kernel_rfl) (by simp) ?_
        refine AllReadyH.cons rfl (fun K hK => ?_) (AllReadyH.cons rfl (fun K hK => ?_) AllReadyH.nil)
        · skip
          obtain ⟨y0, y1, y2, y3, y4, k0, k1, k2, k3, k4⟩ := HI.out.box
          rw [HLA.out] at y4
          go_simp
          clear y0 y1 y2 y3 y4 k0 k1 k2 k3 k4
          refine hK.out _ _ ?_ (fun hHz => ?_)
          · (try dsimp only); (all_goals exact True.intro)
          clear hK K hHz
          try simp only [Act.put, List.setIfInBounds_toArray, List.set_cons_zero, List.set_cons_succ]
          refine wpAnyH_ready (rs := [3]) (by kernel_rfl) (by simp) ?_
          refine AllReadyH.cons rfl (fun K hK => ?_) AllReadyH.nil
          go_simp
          refine H3.out.mono ?_
          intro e u1 hpost
          clear H3
          cases r3 with
          | inl q =>
            obtain ⟨hG, hF⟩ := hpost.no
            unfold GUp at hG
            subst hG
            have HRR : Hid (r = .inl q) := by
              have h := HLW.out
              rw [show rw' = .inl q from (Option.some.inj HL3.out).symm] at h
              exact (Option.some.inj h).symm
            have HF : Hid _ := HI.out.cx.fx.trans hF
            clear hpost hF
            exact ⟨rfl, by rw [HRR.out]; exact ⟨rfl, HF.out⟩⟩
          | inr q =>
            obtain ⟨l, j5⟩ := q
            obtain ⟨⟨⟨g2, c2, B, rfl, hBm, hO⟩, hr1⟩, hF1⟩ := hpost.ok
            dsimp only at hBm hr1
            subst hBm
            have hW := whenP_ok (fun i x j => HU.out i op x j) HW3.out
            rw [List.length_map] at hW
            have HB2 : Hid (B.length = 2) := hW.1
            have hj2 := hW.2
            have hj5 := hr1.le
            have hgl := HI.out.own.lt
            have HKB : Hid (∀ p ∈ B, XSt rb g (w2.heap.size + 1) u1 p.1 p.2.1) := hO.apart (by omega) (by omega) (by omega)
            have HCB : Hid (∀ j u, (xC B)[j]? = some u → u1.cell? ((⟨g2, 0, none⟩ : Addr).add j) = some u) := hO.own.cells rfl
            have HI : Hid (ChI rb ta cap T w w.heap.size w2.heap.size (w2.heap.size + 1) 12 q4 op g c A j5 u1) := HI.out.step hF1 hr1 (by omega) (by omega) (by omega)
            have HL5 : Hid (whensP T (fun j => E j op) m (A.map (·.1) ++ B.map (·.1)) j5 = some rw') := HL3.out
            have HXL : Hid ((xC B).length = 2 * 5) := by show _ = _; rw [xC_len, HB2.out]
            rw [HB2.out]
            refine hK.out _ _ ?_ (fun hHz => ?_)
            · (try dsimp only); (all_goals exact True.intro)
            clear hpost hK K hHz hO hr1 hF1 HL3 HW3 hW
            try simp only [Act.put, List.setIfInBounds_toArray, List.set_cons_zero, List.set_cons_succ]
            refine wpAnyH_ready (rs := [4]) (by kernel_rfl) (by simp) ?_
            refine AllReadyH.cons rfl (fun K hK => ?_) AllReadyH.nil
            have HOW : Hid ((u1).ownsRow (w2.heap.size + 1) 26 5 (.slice (some ⟨g, 0, none⟩) la c) la (xC A)) := by
              have h := HI.out.own.own
              rw [HLA.out] at h
              exact h
            refine step_append_lies (u1) rfl _ _ 24 rfl (w2.heap.size + 1) 26 i0 (.agg #[.int .i64 0, .string ⟨#[]⟩, .int .i64 0, .int .i64 0, .slice none 0 0]) 5 64 Try.underlying24 hi0 hz1 hzs hz3 rfl (by decide) (.slice (some ⟨g, 0, none⟩) la c) la (xC A) rfl HOW.out ⟨g2, 0, none⟩ 2 c2 (xC B) rfl HXL.out HCB.out (xC_one _) (by omega) (by unfold maxLen; omega) (by omega) (by have := HI.out.own.lt; omega) _ rfl ?_
            intro g5 c5 u5 hown hgrow hlies hg5
            have hmore := HI.out.more (n := la + 2) HKB.out (by rw [HLA.out, HB2.out]) hown hgrow (by simpa [Value.ownBlock] using hlies) (by omega) (by omega) (by omega) (by omega) (by omega) (by omega) (by omega)
            obtain ⟨hbx5, hmore⟩ := hmore
            have HI5 : Hid (ChI rb ta cap T w w.heap.size w2.heap.size (w2.heap.size + 1) 12 q4 op g5 c5 (A ++ B) j5 (u5.setCell ⟨w2.heap.size, 4, none⟩ (.slice (some ⟨g5, 0, none⟩) (la + 2) c5))) := hmore
            obtain ⟨y0, y1, y2, y3, y4, k0, k1, k2, k3, k4⟩ := hbx5
            clear hmore hown hgrow hlies HOW HI
            refine hK.out _ _ ?_ (fun hHz => ?_)
            · (try dsimp only); (all_goals exact True.intro)
            clear hK K hHz
            try simp only [Act.put, List.setIfInBounds_toArray, List.set_cons_zero, List.set_cons_succ]
            refine tk 5 (some 18) (v := ?_) rfl ?_ ?_
            rotate_left
            · intro wS hSw; (try dsimp only at hSw); go_simp; (try with_reducible rfl)
            try simp only [Act.put, List.setIfInBounds_toArray, List.set_cons_zero, List.set_cons_succ]
            refine wpAnyH_ready (rs := [6]) (by kernel_rfl) (by simp) ?_
            refine AllReadyH.cons rfl (fun K hK => ?_) AllReadyH.nil
            go_simp
            clear y0 y1 y2 y3 y4 k0 k1 k2 k3 k4
            refine hK.out _ _ ?_ (fun hHz => ?_)
            · (try dsimp only); (all_goals exact True.intro)
            clear hK K hHz
            try simp only [Act.put, List.setIfInBounds_toArray, List.set_cons_zero, List.set_cons_succ]
            refine wpAnyH_done (by kernel_rfl) ?_ _
            have HLN : Hid ((A ++ B).length = la + 2) := by show _ = _; rw [List.length_append, HLA.out, HB2.out]
            have HMM : Hid ((A ++ B).map (·.1) = A.map (·.1) ++ B.map (·.1)) := by show _ = _; rw [List.map_append]
            clear HB2 HKB HCB HXL
            go_wp2
            go_roundg m
            case measure => omega
            case rel => exact ⟨g5, c5, A ++ B, j5, HI5.out, by rw [HLN.out]; omega, by rw [HMM.out]; exact HL5.out⟩
        · skip
          go_simp
          refine H3.out.mono ?_
          intro e u1 hpost
          clear H3
          cases r3 with
          | inl q =>
            obtain ⟨hG, hF⟩ := hpost.no
            unfold GUp at hG
            subst hG
            have HRR : Hid (r = .inl q) := by
              have h := HLW.out
              rw [show rw' = .inl q from (Option.some.inj HL3.out).symm] at h
              exact (Option.some.inj h).symm
            have HF : Hid _ := HI.out.cx.fx.trans hF
            clear hpost hF
            exact ⟨rfl, by rw [HRR.out]; exact ⟨rfl, HF.out⟩⟩
          | inr q =>
            obtain ⟨l, j5⟩ := q
            obtain ⟨⟨⟨g2, c2, B, rfl, hBm, hO⟩, hr1⟩, hF1⟩ := hpost.ok
            dsimp only at hBm hr1
            subst hBm
            have hW := whenP_ok (fun i x j => HU.out i op x j) HW3.out
            rw [List.length_map] at hW
            have HB2 : Hid (B.length = 2) := hW.1
            have hj2 := hW.2
            have hj5 := hr1.le
            have hgl := HI.out.own.lt
            have HKB : Hid (∀ p ∈ B, XSt rb g (w2.heap.size + 1) u1 p.1 p.2.1) := hO.apart (by omega) (by omega) (by omega)
            have HCB : Hid (∀ j u, (xC B)[j]? = some u → u1.cell? ((⟨g2, 0, none⟩ : Addr).add j) = some u) := hO.own.cells rfl
            have HI : Hid (ChI rb ta cap T w w.heap.size w2.heap.size (w2.heap.size + 1) 12 q4 op g c A j5 u1) := HI.out.step hF1 hr1 (by omega) (by omega) (by omega)
            have HL5 : Hid (whensP T (fun j => E j op) m (A.map (·.1) ++ B.map (·.1)) j5 = some rw') := HL3.out
            have HXL : Hid ((xC B).length = 2 * 5) := by show _ = _; rw [xC_len, HB2.out]
            rw [HB2.out]
            refine hK.out _ _ ?_ (fun hHz => ?_)
            · (try dsimp only); (all_goals exact True.intro)
            clear hpost hK K hHz hO hr1 hF1 HL3 HW3 hW
            try simp only [Act.put, List.setIfInBounds_toArray, List.set_cons_zero, List.set_cons_succ]
            refine wpAnyH_ready (rs := [1]) (by kernel_rfl) (by simp) ?_
            refine AllReadyH.cons rfl (fun K hK => ?_) AllReadyH.nil
            obtain ⟨y0, y1, y2, y3, y4, k0, k1, k2, k3, k4⟩ := HI.out.box
            rw [HLA.out] at y4
            go_simp
            clear y0 y1 y2 y3 y4 k0 k1 k2 k3 k4
            refine hK.out _ _ ?_ (fun hHz => ?_)
            · (try dsimp only); (all_goals exact True.intro)
            clear hK K hHz
            try simp only [Act.put, List.setIfInBounds_toArray, List.set_cons_zero, List.set_cons_succ]
            refine wpAnyH_ready (rs := [4]) (by kernel_rfl) (by simp) ?_
            refine AllReadyH.cons rfl (fun K hK => ?_) AllReadyH.nil
            have HOW : Hid ((u1).ownsRow (w2.heap.size + 1) 26 5 (.slice (some ⟨g, 0, none⟩) la c) la (xC A)) := by
              have h := HI.out.own.own
              rw [HLA.out] at h
              exact h
            refine step_append_lies (u1) rfl _ _ 24 rfl (w2.heap.size + 1) 26 i0 (.agg #[.int .i64 0, .string ⟨#[]⟩, .int .i64 0, .int .i64 0, .slice none 0 0]) 5 64 Try.underlying24 hi0 hz1 hzs hz3 rfl (by decide) (.slice (some ⟨g, 0, none⟩) la c) la (xC A) rfl HOW.out ⟨g2, 0, none⟩ 2 c2 (xC B) rfl HXL.out HCB.out (xC_one _) (by omega) (by unfold maxLen; omega) (by omega) (by have := HI.out.own.lt; omega) _ rfl ?_
            intro g5 c5 u5 hown hgrow hlies hg5
            have hmore := HI.out.more (n := la + 2) HKB.out (by rw [HLA.out, HB2.out]) hown hgrow (by simpa [Value.ownBlock] using hlies) (by omega) (by omega) (by omega) (by omega) (by omega) (by omega) (by omega)
            obtain ⟨hbx5, hmore⟩ := hmore
            have HI5 : Hid (ChI rb ta cap T w w.heap.size w2.heap.size (w2.heap.size + 1) 12 q4 op g5 c5 (A ++ B) j5 (u5.setCell ⟨w2.heap.size, 4, none⟩ (.slice (some ⟨g5, 0, none⟩) (la + 2) c5))) := hmore
            obtain ⟨y0, y1, y2, y3, y4, k0, k1, k2, k3, k4⟩ := hbx5
            clear hmore hown hgrow hlies HOW HI
            refine hK.out _ _ ?_ (fun hHz => ?_)
            · (try dsimp only); (all_goals exact True.intro)
            clear hK K hHz
            try simp only [Act.put, List.setIfInBounds_toArray, List.set_cons_zero, List.set_cons_succ]
            refine tk 5 (some 18) (v := ?_) rfl ?_ ?_
            rotate_left
            · intro wS hSw; (try dsimp only at hSw); go_simp; (try with_reducible rfl)
            try simp only [Act.put, List.setIfInBounds_toArray, List.set_cons_zero, List.set_cons_succ]
            refine wpAnyH_ready (rs := [6]) (by kernel_rfl) (by simp) ?_
            refine AllReadyH.cons rfl (fun K hK => ?_) AllReadyH.nil
            go_simp
            clear y0 y1 y2 y3 y4 k0 k1 k2 k3 k4
            refine hK.out _ _ ?_ (fun hHz => ?_)
            · (try dsimp only); (all_goals exact True.intro)
            clear hK K hHz
            try simp only [Act.put, List.setIfInBounds_toArray, List.set_cons_zero, List.set_cons_succ]
            refine wpAnyH_done (by kernel_rfl) ?_ _
            have HLN : Hid ((A ++ B).length = la + 2) := by show _ = _; rw [List.length_append, HLA.out, HB2.out]
            have HMM : Hid ((A ++ B).map (·.1) = A.map (·.1) ++ B.map (·.1)) := by show _ = _; rw [List.map_append]
            clear HB2 HKB HCB HXL
            go_wp2
            go_roundg m
            case measure => omega
            case rel => exact ⟨g5, c5, A ++ B, j5, HI5.out, by rw [HLN.out]; omega, by rw [HMM.out]; exact HL5.out⟩
      | false =>
        rw [hb] at h4
        have HLX : Hid ((if isT (tkI T i') 2 [[101, 108, 115, 101]] then bnd (E (i' + 1) op) (fun x j => bnd (needP T 2 [101, 110, 100] j) fun _ j => okR (mkX 12 [] 0 q4 (A.map (·.1) ++ [x])) j) else bnd (needP T 2 [101, 110, 100] i') (fun t j => okR (mkX 12 [] 0 q4 (A.map (·.1) ++ [nd 1 t []])) j)) = some r) := by
          have h := HLW.out
          rw [show rw' = .inr (A.map (·.1), i') by
            have h := HL1.out
            rw [hb] at h
            exact (Option.some.inj h).symm] at h
          exact h
        clear hb HL1 HLW
        go_wp2_with fail
        refine h4.mono ?_
        rintro e w5 ⟨rfl, hb4⟩
        clear h4
        have HI : Hid (ChI rb ta cap T w w.heap.size w2.heap.size (w2.heap.size + 1) 12 q4 op g c A i' w5) := HI.out.below hb4 (by omega) (by omega) (by omega)
        clear hb4 HWN
        cases hb : isT (tkI T i') 2 [[101, 108, 115, 101]] with
        | true =>
          have h5 := passes_ok rb ta cap T i' op 2 [101, 108, 115, 101] w5 HI.out.cx.rdr (by decide) hb
          unfold ptr at h5
          obtain ⟨r3, e3, hl3⟩ := bnd_some (show bnd (E (i' + 1) op) (fun x j => bnd (needP T 2 [101, 110, 100] j) fun _ j => okR (mkX 12 [] 0 q4 (A.map (·.1) ++ [x])) j) = some r by
            have h := HLX.out
            rw [hb] at h
            exact h)
          have HL3 : Hid (bnd (some r3) (fun x j => bnd (needP T 2 [101, 110, 100] j) fun _ j => okR (mkX 12 [] 0 q4 (A.map (·.1) ++ [x])) j) = some r) := hl3
          have HE3 : Hid (E (i' + 1) op = some r3) := e3
          clear hb HLX e3 hl3
          go_wp2_with fail
          refine h5.mono ?_
          rintro e w6 ⟨rfl, hr6, hf6⟩
          clear h5
          have HI : Hid (ChI rb ta cap T w w.heap.size w2.heap.size (w2.heap.size + 1) 12 q4 op g c A (i' + 1) w6.drew) := (HI.out.step hf6 hr6 (by omega) (by omega) (by omega)).below (Below.refl _ _).drew (by omega) (by omega) (by omega)
          have h3 := HP.out (i' + 1) op _ r3 hop HI.out.cx.rdr HE3.out
          unfold ptr at h3
          have H3 : Hid (Calls Try.prog 16 #[.pointer (some ⟨rb, 0, none⟩)] w6.drew (PPost rb ta cap T op w6.drew r3)) := h3
          clear hr6 hf6 h3 HE3 HP HU
          go_wp2_with fail
          refine wp_region_held_drew (S := (fun _ => True)) (by kernel_rfl) ?_ (fun hHeld => ?_)
          · (try dsimp only); (all_goals exact True.intro)
          refine tk 0 (some 21) (v := ?_) rfl ?_ ?_
          rotate_left
          · intro wS hSw; (try dsimp only at hSw); go_simp; (try with_reducible rfl)
          try simp only [Act.put, List.setIfInBounds_toArray, List.set_cons_zero, List.set_cons_succ]
          refine tk 2 (some 23) (v := ?_) rfl ?_ ?_
          rotate_left
          · intro wS hSw; (try dsimp only at hSw); go_simp; (try with_reducible rfl)
          try simp only [Act.put, List.setIfInBounds_toArray, List.set_cons_zero, List.set_cons_succ]
          generalize w6.drew = v0 at HI H3 ⊢
          refine wpAnyH_ready (rs := [1, 3]) (by kernel_rfl) (by simp) ?_
          refine AllReadyH.cons rfl (fun K hK => ?_) (AllReadyH.cons rfl (fun K hK => ?_) AllReadyH.nil)
          · skip
            obtain ⟨y0, y1, y2, y3, y4, k0, k1, k2, k3, k4⟩ := HI.out.box
            rw [HLA.out] at y4
            go_simp
            clear y0 y1 y2 y3 y4 k0 k1 k2 k3 k4
            refine hK.out _ _ ?_ (fun hHz => ?_)
            · (try dsimp only); (all_goals exact True.intro)
            clear hK K hHz
            try simp only [Act.put, List.setIfInBounds_toArray, List.set_cons_zero, List.set_cons_succ]
            refine wpAnyH_ready (rs := [3]) (by kernel_rfl) (by simp) ?_
            refine AllReadyH.cons rfl (fun K hK => ?_) AllReadyH.nil
            go_simp
            refine H3.out.mono ?_
            intro e u1 hpost
            clear H3
            cases r3 with
            | inl q =>
              obtain ⟨hG, hF⟩ := hpost.no
              unfold GUp at hG
              subst hG
              have HRR : Hid (r = .inl q) := (Option.some.inj HL3.out).symm
              have HF : Hid _ := HI.out.cx.fx.trans hF
              clear hpost hF
              exact ⟨rfl, by rw [HRR.out]; exact ⟨rfl, HF.out⟩⟩
            | inr q =>
              obtain ⟨x, j5⟩ := q
              obtain ⟨⟨⟨s1, c1, rfl, hx⟩, hr1⟩, hF1⟩ := hpost.ok
              dsimp only at hx hr1
              have hgl := HI.out.own.lt
              have HKX : Hid (XSt rb g (w2.heap.size + 1) u1 x s1) := XSt.new hx (by omega) (by omega) (by omega)
              have HI : Hid (ChI rb ta cap T w w.heap.size w2.heap.size (w2.heap.size + 1) 12 q4 op g c A j5 u1) := HI.out.step hF1 hr1 (by omega) (by omega) (by omega)
              have HL5 : Hid (bnd (needP T 2 [101, 110, 100] j5) (fun _ j => okR (mkX 12 [] 0 q4 (A.map (·.1) ++ [x])) j) = some r) := HL3.out
              refine hK.out _ _ ?_ (fun hHz => ?_)
              · (try dsimp only); (all_goals exact True.intro)
              clear hpost hK K hHz hx hr1 hF1 HL3
              try simp only [Act.put, List.setIfInBounds_toArray, List.set_cons_zero, List.set_cons_succ]
              unfold xV nV
              refine wpAnyH_ready (rs := [4]) (by kernel_rfl) (by simp) ?_
              refine AllReadyH.cons rfl (fun K hK => ?_) AllReadyH.nil
              go_simp
              have HKB : Hid (∀ p ∈ [(x, s1, c1)], XSt rb g (w2.heap.size + 1) (u1.alloc (Obj.cells #[Value.int IntKind.i64 (xk x), Value.string (bsA (xt x)), Value.int IntKind.i64 (xn x), Value.int IntKind.i64 (xa x), Value.slice s1 (xl x) c1] 26)) p.1 p.2.1) := fun p hp => by
                rw [List.mem_singleton.1 hp]
                exact (HKX.out).below ((Below.refl _ _).alloc (Nat.le_refl _) _)
              have HCB : Hid (∀ j u, (xC [(x, s1, c1)])[j]? = some u → ((u1.alloc (Obj.cells #[Value.int IntKind.i64 (xk x), Value.string (bsA (xt x)), Value.int IntKind.i64 (xn x), Value.int IntKind.i64 (xa x), Value.slice s1 (xl x) c1] 26))).cell? ((⟨u1.heap.size, 0, none⟩ : Addr).add j) = some u) := World.news_of_block (heap_alloc_new u1 _)
              have HI : Hid (ChI rb ta cap T w w.heap.size w2.heap.size (w2.heap.size + 1) 12 q4 op g c A j5 (u1.alloc (Obj.cells #[Value.int IntKind.i64 (xk x), Value.string (bsA (xt x)), Value.int IntKind.i64 (xn x), Value.int IntKind.i64 (xa x), Value.slice s1 (xl x) c1] 26))) := HI.out.below ((Below.refl _ _).alloc (Nat.le_refl _) _) (by omega) (by omega) (by omega)
              refine hK.out _ _ ?_ (fun hHz => ?_)
              · (try dsimp only); (all_goals exact True.intro)
              clear hK K hHz
              try simp only [Act.put, List.setIfInBounds_toArray, List.set_cons_zero, List.set_cons_succ]
              generalize (u1.alloc (Obj.cells #[Value.int IntKind.i64 (xk x), Value.string (bsA (xt x)), Value.int IntKind.i64 (xn x), Value.int IntKind.i64 (xa x), Value.slice s1 (xl x) c1] 26)) = u3 at HI HKB HCB ⊢
              refine wpAnyH_ready (rs := [5]) (by kernel_rfl) (by simp) ?_
              refine AllReadyH.cons rfl (fun K hK => ?_) AllReadyH.nil
              have HOW : Hid ((u3).ownsRow (w2.heap.size + 1) 26 5 (.slice (some ⟨g, 0, none⟩) la c) la (xC A)) := by
                have h := HI.out.own.own
                rw [HLA.out] at h
                exact h
              refine step_append_lies (u3) rfl _ _ 24 rfl (w2.heap.size + 1) 26 i0 (.agg #[.int .i64 0, .string ⟨#[]⟩, .int .i64 0, .int .i64 0, .slice none 0 0]) 5 64 Try.underlying24 hi0 hz1 hzs hz3 rfl (by decide) (.slice (some ⟨g, 0, none⟩) la c) la (xC A) rfl HOW.out ⟨u1.heap.size, 0, none⟩ 1 1 (xC [(x, s1, c1)]) rfl rfl HCB.out (xC_one _) (by omega) (by unfold maxLen; omega) (by omega) (by have := HI.out.own.lt; omega) _ rfl ?_
              intro g5 c5 u5 hown hgrow hlies hg5
              have hmore := HI.out.more (n := la + 1) HKB.out (by rw [HLA.out, List.length_singleton]) hown hgrow (by simpa [Value.ownBlock] using hlies) (by omega) (by omega) (by omega) (by omega) (by omega) (by omega) (by omega)
              obtain ⟨hbx5, hmore⟩ := hmore
              have HI5 : Hid (ChI rb ta cap T w w.heap.size w2.heap.size (w2.heap.size + 1) 12 q4 op g5 c5 (A ++ [(x, s1, c1)]) j5 (u5.setCell ⟨w2.heap.size, 4, none⟩ (.slice (some ⟨g5, 0, none⟩) (la + 1) c5))) := hmore
              obtain ⟨y0, y1, y2, y3, y4, k0, k1, k2, k3, k4⟩ := hbx5
              clear hmore hown hgrow hlies HOW HI
              refine hK.out _ _ ?_ (fun hHz => ?_)
              · (try dsimp only); (all_goals exact True.intro)
              clear hK K hHz
              try simp only [Act.put, List.setIfInBounds_toArray, List.set_cons_zero, List.set_cons_succ]
              refine tk 6 (some 27) (v := ?_) rfl ?_ ?_
              rotate_left
              · intro wS hSw; (try dsimp only at hSw); go_simp; (try with_reducible rfl)
              try simp only [Act.put, List.setIfInBounds_toArray, List.set_cons_zero, List.set_cons_succ]
              refine wpAnyH_ready (rs := [7]) (by kernel_rfl) (by simp) ?_
              refine AllReadyH.cons rfl (fun K hK => ?_) AllReadyH.nil
              go_simp
              clear y0 y1 y2 y3 y4 k0 k1 k2 k3 k4
              refine hK.out _ _ ?_ (fun hHz => ?_)
              · (try dsimp only); (all_goals exact True.intro)
              clear hK K hHz
              try simp only [Act.put, List.setIfInBounds_toArray, List.set_cons_zero, List.set_cons_succ]
              refine wpAnyH_done (by kernel_rfl) ?_ _
              have HLN : Hid ((A ++ [(x, s1, c1)]).length = la + 1) := by show _ = _; rw [List.length_append, HLA.out]; rfl
              have HMM : Hid (A.map (·.1) ++ [x] = (A ++ [(x, s1, c1)]).map (·.1)) := by show _ = _; rw [List.map_append]; rfl
              obtain ⟨r9, e9, h9⟩ := need_any rb ta cap T j5 op 2 [101, 110, 100] (by decide) _ HI5.out.cx.rdr
              unfold ptr at h9
              have HL9 : Hid (bnd (some r9) (fun _ j => okR (mkX 12 [] 0 q4 (A.map (·.1) ++ [x])) j) = some r) := by
                have h := HL5.out
                rw [e9] at h
                exact h
              clear e9 HL5 HKB HCB HKX
              go_wp2_with fail
              refine h9.mono ?_
              intro e w9 hpost
              clear h9
              cases r9 with
              | inl q =>
                obtain ⟨hG, hF⟩ := hpost.no
                unfold GUp at hG
                subst hG
                have HRR : Hid (r = .inl q) := (Option.some.inj HL9.out).symm
                have HF : Hid _ := HI5.out.cx.fx.trans hF
                clear hpost hF
                go_wp2
                exact ⟨rfl, by rw [HRR.out]; exact ⟨rfl, HF.out⟩⟩
              | inr q =>
                obtain ⟨t9, j9⟩ := q
                obtain ⟨⟨rfl, hr9⟩, hF9⟩ := hpost.ok
                dsimp only at hr9
                have HRR : Hid (r = .inr (mkX 12 [] 0 q4 (A.map (·.1) ++ [x]), j9)) := (Option.some.inj HL9.out).symm
                have HI9 : Hid (ChI rb ta cap T w w.heap.size w2.heap.size (w2.heap.size + 1) 12 q4 op g5 c5 (A ++ [(x, s1, c1)]) j9 w9) := HI5.out.step hF9 hr9 (by omega) (by omega) (by omega)
                clear hpost hr9 hF9 HI5 HL9
                unfold ttV
                have hC := HI9.out.cx
                have HFin : Hid _ := Cx.retn (k := 12) (t := []) (m := 0) (a := q4) (n := la + 1) c5 (by rw [List.length_map]; exact HLN.out) hC (HI9.out.tree (by omega) (by omega) (by omega)) (Nat.le_refl _) hlt
                have hbx := HI9.out.box
                rw [HLN.out] at hbx
                obtain ⟨b0, b1, b2, b3, b4, _, _, _, _, _⟩ := hbx
                obtain ⟨z0, z1, z2, z3, z4, f0, f1, f2, f3, f4⟩ := own5 hC.res (.int .i64 12) (.string (bsA [])) (.int .i64 0) (.int .i64 q4) (.slice (some ⟨g5, 0, none⟩) (la + 1) c5)
                obtain ⟨d0, d1, d2, d3, d4, g0, g1, g2, g3, g4⟩ := hC.res
                clear hC HI9
                go_wp2
                refine bodyPost_ret (v := .agg #[.int .i64 12, .string (bsA []), .int .i64 0, .int .i64 q4, (.slice (some ⟨g5, 0, none⟩) (la + 1) c5)]) (by unfold set5 at z0 z1 z2 z3 z4; simp [results, Try.results96, go_sem, z0, z1, z2, z3, z4]) rfl ?_
                rw [HRR.out, HMM.out]
                exact HFin.out
          · skip
            go_simp
            refine H3.out.mono ?_
            intro e u1 hpost
            clear H3
            cases r3 with
            | inl q =>
              obtain ⟨hG, hF⟩ := hpost.no
              unfold GUp at hG
              subst hG
              have HRR : Hid (r = .inl q) := (Option.some.inj HL3.out).symm
              have HF : Hid _ := HI.out.cx.fx.trans hF
              clear hpost hF
              exact ⟨rfl, by rw [HRR.out]; exact ⟨rfl, HF.out⟩⟩
            | inr q =>
              obtain ⟨x, j5⟩ := q
              obtain ⟨⟨⟨s1, c1, rfl, hx⟩, hr1⟩, hF1⟩ := hpost.ok
              dsimp only at hx hr1
              have hgl := HI.out.own.lt
              have HKX : Hid (XSt rb g (w2.heap.size + 1) u1 x s1) := XSt.new hx (by omega) (by omega) (by omega)
              have HI : Hid (ChI rb ta cap T w w.heap.size w2.heap.size (w2.heap.size + 1) 12 q4 op g c A j5 u1) := HI.out.step hF1 hr1 (by omega) (by omega) (by omega)
              have HL5 : Hid (bnd (needP T 2 [101, 110, 100] j5) (fun _ j => okR (mkX 12 [] 0 q4 (A.map (·.1) ++ [x])) j) = some r) := HL3.out
              refine hK.out _ _ ?_ (fun hHz => ?_)
              · (try dsimp only); (all_goals exact True.intro)
              clear hpost hK K hHz hx hr1 hF1 HL3
              try simp only [Act.put, List.setIfInBounds_toArray, List.set_cons_zero, List.set_cons_succ]
              unfold xV nV
              refine wpAnyH_ready (rs := [1, 4]) (by kernel_rfl) (by simp) ?_
              refine AllReadyH.cons rfl (fun K hK => ?_) (AllReadyH.cons rfl (fun K hK => ?_) AllReadyH.nil)
              · skip
                obtain ⟨y0, y1, y2, y3, y4, k0, k1, k2, k3, k4⟩ := HI.out.box
                rw [HLA.out] at y4
                go_simp
                clear y0 y1 y2 y3 y4 k0 k1 k2 k3 k4
                refine hK.out _ _ ?_ (fun hHz => ?_)
                · (try dsimp only); (all_goals exact True.intro)
                clear hK K hHz
                try simp only [Act.put, List.setIfInBounds_toArray, List.set_cons_zero, List.set_cons_succ]
                refine wpAnyH_ready (rs := [4]) (by kernel_rfl) (by simp) ?_
                refine AllReadyH.cons rfl (fun K hK => ?_) AllReadyH.nil
                go_simp
                have HKB : Hid (∀ p ∈ [(x, s1, c1)], XSt rb g (w2.heap.size + 1) (u1.alloc (Obj.cells #[Value.int IntKind.i64 (xk x), Value.string (bsA (xt x)), Value.int IntKind.i64 (xn x), Value.int IntKind.i64 (xa x), Value.slice s1 (xl x) c1] 26)) p.1 p.2.1) := fun p hp => by
                  rw [List.mem_singleton.1 hp]
                  exact (HKX.out).below ((Below.refl _ _).alloc (Nat.le_refl _) _)
                have HCB : Hid (∀ j u, (xC [(x, s1, c1)])[j]? = some u → ((u1.alloc (Obj.cells #[Value.int IntKind.i64 (xk x), Value.string (bsA (xt x)), Value.int IntKind.i64 (xn x), Value.int IntKind.i64 (xa x), Value.slice s1 (xl x) c1] 26))).cell? ((⟨u1.heap.size, 0, none⟩ : Addr).add j) = some u) := World.news_of_block (heap_alloc_new u1 _)
                have HI : Hid (ChI rb ta cap T w w.heap.size w2.heap.size (w2.heap.size + 1) 12 q4 op g c A j5 (u1.alloc (Obj.cells #[Value.int IntKind.i64 (xk x), Value.string (bsA (xt x)), Value.int IntKind.i64 (xn x), Value.int IntKind.i64 (xa x), Value.slice s1 (xl x) c1] 26))) := HI.out.below ((Below.refl _ _).alloc (Nat.le_refl _) _) (by omega) (by omega) (by omega)
                refine hK.out _ _ ?_ (fun hHz => ?_)
                · (try dsimp only); (all_goals exact True.intro)
                clear hK K hHz
                try simp only [Act.put, List.setIfInBounds_toArray, List.set_cons_zero, List.set_cons_succ]
                generalize (u1.alloc (Obj.cells #[Value.int IntKind.i64 (xk x), Value.string (bsA (xt x)), Value.int IntKind.i64 (xn x), Value.int IntKind.i64 (xa x), Value.slice s1 (xl x) c1] 26)) = u3 at HI HKB HCB ⊢
                refine wpAnyH_ready (rs := [5]) (by kernel_rfl) (by simp) ?_
                refine AllReadyH.cons rfl (fun K hK => ?_) AllReadyH.nil
                have HOW : Hid ((u3).ownsRow (w2.heap.size + 1) 26 5 (.slice (some ⟨g, 0, none⟩) la c) la (xC A)) := by
                  have h := HI.out.own.own
                  rw [HLA.out] at h
                  exact h
                refine step_append_lies (u3) rfl _ _ 24 rfl (w2.heap.size + 1) 26 i0 (.agg #[.int .i64 0, .string ⟨#[]⟩, .int .i64 0, .int .i64 0, .slice none 0 0]) 5 64 Try.underlying24 hi0 hz1 hzs hz3 rfl (by decide) (.slice (some ⟨g, 0, none⟩) la c) la (xC A) rfl HOW.out ⟨u1.heap.size, 0, none⟩ 1 1 (xC [(x, s1, c1)]) rfl rfl HCB.out (xC_one _) (by omega) (by unfold maxLen; omega) (by omega) (by have := HI.out.own.lt; omega) _ rfl ?_
                intro g5 c5 u5 hown hgrow hlies hg5
                have hmore := HI.out.more (n := la + 1) HKB.out (by rw [HLA.out, List.length_singleton]) hown hgrow (by simpa [Value.ownBlock] using hlies) (by omega) (by omega) (by omega) (by omega) (by omega) (by omega) (by omega)
                obtain ⟨hbx5, hmore⟩ := hmore
                have HI5 : Hid (ChI rb ta cap T w w.heap.size w2.heap.size (w2.heap.size + 1) 12 q4 op g5 c5 (A ++ [(x, s1, c1)]) j5 (u5.setCell ⟨w2.heap.size, 4, none⟩ (.slice (some ⟨g5, 0, none⟩) (la + 1) c5))) := hmore
                obtain ⟨y0, y1, y2, y3, y4, k0, k1, k2, k3, k4⟩ := hbx5
                clear hmore hown hgrow hlies HOW HI
                refine hK.out _ _ ?_ (fun hHz => ?_)
                · (try dsimp only); (all_goals exact True.intro)
                clear hK K hHz
                try simp only [Act.put, List.setIfInBounds_toArray, List.set_cons_zero, List.set_cons_succ]
                refine tk 6 (some 27) (v := ?_) rfl ?_ ?_
                rotate_left
                · intro wS hSw; (try dsimp only at hSw); go_simp; (try with_reducible rfl)
                try simp only [Act.put, List.setIfInBounds_toArray, List.set_cons_zero, List.set_cons_succ]
                refine wpAnyH_ready (rs := [7]) (by kernel_rfl) (by simp) ?_
                refine AllReadyH.cons rfl (fun K hK => ?_) AllReadyH.nil
                go_simp
                clear y0 y1 y2 y3 y4 k0 k1 k2 k3 k4
                refine hK.out _ _ ?_ (fun hHz => ?_)
                · (try dsimp only); (all_goals exact True.intro)
                clear hK K hHz
                try simp only [Act.put, List.setIfInBounds_toArray, List.set_cons_zero, List.set_cons_succ]
                refine wpAnyH_done (by kernel_rfl) ?_ _
                have HLN : Hid ((A ++ [(x, s1, c1)]).length = la + 1) := by show _ = _; rw [List.length_append, HLA.out]; rfl
                have HMM : Hid (A.map (·.1) ++ [x] = (A ++ [(x, s1, c1)]).map (·.1)) := by show _ = _; rw [List.map_append]; rfl
                obtain ⟨r9, e9, h9⟩ := need_any rb ta cap T j5 op 2 [101, 110, 100] (by decide) _ HI5.out.cx.rdr
                unfold ptr at h9
                have HL9 : Hid (bnd (some r9) (fun _ j => okR (mkX 12 [] 0 q4 (A.map (·.1) ++ [x])) j) = some r) := by
                  have h := HL5.out
                  rw [e9] at h
                  exact h
                clear e9 HL5 HKB HCB HKX
                go_wp2_with fail
                refine h9.mono ?_
                intro e w9 hpost
                clear h9
                cases r9 with
                | inl q =>
                  obtain ⟨hG, hF⟩ := hpost.no
                  unfold GUp at hG
                  subst hG
                  have HRR : Hid (r = .inl q) := (Option.some.inj HL9.out).symm
                  have HF : Hid _ := HI5.out.cx.fx.trans hF
                  clear hpost hF
                  go_wp2
                  exact ⟨rfl, by rw [HRR.out]; exact ⟨rfl, HF.out⟩⟩
                | inr q =>
                  obtain ⟨t9, j9⟩ := q
                  obtain ⟨⟨rfl, hr9⟩, hF9⟩ := hpost.ok
                  dsimp only at hr9
                  have HRR : Hid (r = .inr (mkX 12 [] 0 q4 (A.map (·.1) ++ [x]), j9)) := (Option.some.inj HL9.out).symm
                  have HI9 : Hid (ChI rb ta cap T w w.heap.size w2.heap.size (w2.heap.size + 1) 12 q4 op g5 c5 (A ++ [(x, s1, c1)]) j9 w9) := HI5.out.step hF9 hr9 (by omega) (by omega) (by omega)
                  clear hpost hr9 hF9 HI5 HL9
                  unfold ttV
                  have hC := HI9.out.cx
                  have HFin : Hid _ := Cx.retn (k := 12) (t := []) (m := 0) (a := q4) (n := la + 1) c5 (by rw [List.length_map]; exact HLN.out) hC (HI9.out.tree (by omega) (by omega) (by omega)) (Nat.le_refl _) hlt
                  have hbx := HI9.out.box
                  rw [HLN.out] at hbx
                  obtain ⟨b0, b1, b2, b3, b4, _, _, _, _, _⟩ := hbx
                  obtain ⟨z0, z1, z2, z3, z4, f0, f1, f2, f3, f4⟩ := own5 hC.res (.int .i64 12) (.string (bsA [])) (.int .i64 0) (.int .i64 q4) (.slice (some ⟨g5, 0, none⟩) (la + 1) c5)
                  obtain ⟨d0, d1, d2, d3, d4, g0, g1, g2, g3, g4⟩ := hC.res
                  clear hC HI9
                  go_wp2
                  refine bodyPost_ret (v := .agg #[.int .i64 12, .string (bsA []), .int .i64 0, .int .i64 q4, (.slice (some ⟨g5, 0, none⟩) (la + 1) c5)]) (by unfold set5 at z0 z1 z2 z3 z4; simp [results, Try.results96, go_sem, z0, z1, z2, z3, z4]) rfl ?_
                  rw [HRR.out, HMM.out]
                  exact HFin.out
              · skip
                go_simp
                have HKB : Hid (∀ p ∈ [(x, s1, c1)], XSt rb g (w2.heap.size + 1) (u1.alloc (Obj.cells #[Value.int IntKind.i64 (xk x), Value.string (bsA (xt x)), Value.int IntKind.i64 (xn x), Value.int IntKind.i64 (xa x), Value.slice s1 (xl x) c1] 26)) p.1 p.2.1) := fun p hp => by
                  rw [List.mem_singleton.1 hp]
                  exact (HKX.out).below ((Below.refl _ _).alloc (Nat.le_refl _) _)
                have HCB : Hid (∀ j u, (xC [(x, s1, c1)])[j]? = some u → ((u1.alloc (Obj.cells #[Value.int IntKind.i64 (xk x), Value.string (bsA (xt x)), Value.int IntKind.i64 (xn x), Value.int IntKind.i64 (xa x), Value.slice s1 (xl x) c1] 26))).cell? ((⟨u1.heap.size, 0, none⟩ : Addr).add j) = some u) := World.news_of_block (heap_alloc_new u1 _)
                have HI : Hid (ChI rb ta cap T w w.heap.size w2.heap.size (w2.heap.size + 1) 12 q4 op g c A j5 (u1.alloc (Obj.cells #[Value.int IntKind.i64 (xk x), Value.string (bsA (xt x)), Value.int IntKind.i64 (xn x), Value.int IntKind.i64 (xa x), Value.slice s1 (xl x) c1] 26))) := HI.out.below ((Below.refl _ _).alloc (Nat.le_refl _) _) (by omega) (by omega) (by omega)
                refine hK.out _ _ ?_ (fun hHz => ?_)
                · (try dsimp only); (all_goals exact True.intro)
                clear hK K hHz
                try simp only [Act.put, List.setIfInBounds_toArray, List.set_cons_zero, List.set_cons_succ]
                generalize (u1.alloc (Obj.cells #[Value.int IntKind.i64 (xk x), Value.string (bsA (xt x)), Value.int IntKind.i64 (xn x), Value.int IntKind.i64 (xa x), Value.slice s1 (xl x) c1] 26)) = u3 at HI HKB HCB ⊢
                refine wpAnyH_ready (rs := [1]) (by kernel_rfl) (by simp) ?_
                refine AllReadyH.cons rfl (fun K hK => ?_) AllReadyH.nil
                obtain ⟨y0, y1, y2, y3, y4, k0, k1, k2, k3, k4⟩ := HI.out.box
                rw [HLA.out] at y4
                go_simp
                clear y0 y1 y2 y3 y4 k0 k1 k2 k3 k4
                refine hK.out _ _ ?_ (fun hHz => ?_)
                · (try dsimp only); (all_goals exact True.intro)
                clear hK K hHz
                try simp only [Act.put, List.setIfInBounds_toArray, List.set_cons_zero, List.set_cons_succ]
                refine wpAnyH_ready (rs := [5]) (by kernel_rfl) (by simp) ?_
                refine AllReadyH.cons rfl (fun K hK => ?_) AllReadyH.nil
                have HOW : Hid ((u3).ownsRow (w2.heap.size + 1) 26 5 (.slice (some ⟨g, 0, none⟩) la c) la (xC A)) := by
                  have h := HI.out.own.own
                  rw [HLA.out] at h
                  exact h
                refine step_append_lies (u3) rfl _ _ 24 rfl (w2.heap.size + 1) 26 i0 (.agg #[.int .i64 0, .string ⟨#[]⟩, .int .i64 0, .int .i64 0, .slice none 0 0]) 5 64 Try.underlying24 hi0 hz1 hzs hz3 rfl (by decide) (.slice (some ⟨g, 0, none⟩) la c) la (xC A) rfl HOW.out ⟨u1.heap.size, 0, none⟩ 1 1 (xC [(x, s1, c1)]) rfl rfl HCB.out (xC_one _) (by omega) (by unfold maxLen; omega) (by omega) (by have := HI.out.own.lt; omega) _ rfl ?_
                intro g5 c5 u5 hown hgrow hlies hg5
                have hmore := HI.out.more (n := la + 1) HKB.out (by rw [HLA.out, List.length_singleton]) hown hgrow (by simpa [Value.ownBlock] using hlies) (by omega) (by omega) (by omega) (by omega) (by omega) (by omega) (by omega)
                obtain ⟨hbx5, hmore⟩ := hmore
                have HI5 : Hid (ChI rb ta cap T w w.heap.size w2.heap.size (w2.heap.size + 1) 12 q4 op g5 c5 (A ++ [(x, s1, c1)]) j5 (u5.setCell ⟨w2.heap.size, 4, none⟩ (.slice (some ⟨g5, 0, none⟩) (la + 1) c5))) := hmore
                obtain ⟨y0, y1, y2, y3, y4, k0, k1, k2, k3, k4⟩ := hbx5
                clear hmore hown hgrow hlies HOW HI
                refine hK.out _ _ ?_ (fun hHz => ?_)
                · (try dsimp only); (all_goals exact True.intro)
                clear hK K hHz
                try simp only [Act.put, List.setIfInBounds_toArray, List.set_cons_zero, List.set_cons_succ]
                refine tk 6 (some 27) (v := ?_) rfl ?_ ?_
                rotate_left
                · intro wS hSw; (try dsimp only at hSw); go_simp; (try with_reducible rfl)
                try simp only [Act.put, List.setIfInBounds_toArray, List.set_cons_zero, List.set_cons_succ]
                refine wpAnyH_ready (rs := [7]) (by kernel_rfl) (by simp) ?_
                refine AllReadyH.cons rfl (fun K hK => ?_) AllReadyH.nil
                go_simp
                clear y0 y1 y2 y3 y4 k0 k1 k2 k3 k4
                refine hK.out _ _ ?_ (fun hHz => ?_)
                · (try dsimp only); (all_goals exact True.intro)
                clear hK K hHz
                try simp only [Act.put, List.setIfInBounds_toArray, List.set_cons_zero, List.set_cons_succ]
                refine wpAnyH_done (by kernel_rfl) ?_ _
                have HLN : Hid ((A ++ [(x, s1, c1)]).length = la + 1) := by show _ = _; rw [List.length_append, HLA.out]; rfl
                have HMM : Hid (A.map (·.1) ++ [x] = (A ++ [(x, s1, c1)]).map (·.1)) := by show _ = _; rw [List.map_append]; rfl
                obtain ⟨r9, e9, h9⟩ := need_any rb ta cap T j5 op 2 [101, 110, 100] (by decide) _ HI5.out.cx.rdr
                unfold ptr at h9
                have HL9 : Hid (bnd (some r9) (fun _ j => okR (mkX 12 [] 0 q4 (A.map (·.1) ++ [x])) j) = some r) := by
                  have h := HL5.out
                  rw [e9] at h
                  exact h
                clear e9 HL5 HKB HCB HKX
                go_wp2_with fail
                refine h9.mono ?_
                intro e w9 hpost
                clear h9
                cases r9 with
                | inl q =>
                  obtain ⟨hG, hF⟩ := hpost.no
                  unfold GUp at hG
                  subst hG
                  have HRR : Hid (r = .inl q) := (Option.some.inj HL9.out).symm
                  have HF : Hid _ := HI5.out.cx.fx.trans hF
                  clear hpost hF
                  go_wp2
                  exact ⟨rfl, by rw [HRR.out]; exact ⟨rfl, HF.out⟩⟩
                | inr q =>
                  obtain ⟨t9, j9⟩ := q
                  obtain ⟨⟨rfl, hr9⟩, hF9⟩ := hpost.ok
                  dsimp only at hr9
                  have HRR : Hid (r = .inr (mkX 12 [] 0 q4 (A.map (·.1) ++ [x]), j9)) := (Option.some.inj HL9.out).symm
                  have HI9 : Hid (ChI rb ta cap T w w.heap.size w2.heap.size (w2.heap.size + 1) 12 q4 op g5 c5 (A ++ [(x, s1, c1)]) j9 w9) := HI5.out.step hF9 hr9 (by omega) (by omega) (by omega)
                  clear hpost hr9 hF9 HI5 HL9
                  unfold ttV
                  have hC := HI9.out.cx
                  have HFin : Hid _ := Cx.retn (k := 12) (t := []) (m := 0) (a := q4) (n := la + 1) c5 (by rw [List.length_map]; exact HLN.out) hC (HI9.out.tree (by omega) (by omega) (by omega)) (Nat.le_refl _) hlt
                  have hbx := HI9.out.box
                  rw [HLN.out] at hbx
                  obtain ⟨b0, b1, b2, b3, b4, _, _, _, _, _⟩ := hbx
                  obtain ⟨z0, z1, z2, z3, z4, f0, f1, f2, f3, f4⟩ := own5 hC.res (.int .i64 12) (.string (bsA [])) (.int .i64 0) (.int .i64 q4) (.slice (some ⟨g5, 0, none⟩) (la + 1) c5)
                  obtain ⟨d0, d1, d2, d3, d4, g0, g1, g2, g3, g4⟩ := hC.res
                  clear hC HI9
                  go_wp2
                  refine bodyPost_ret (v := .agg #[.int .i64 12, .string (bsA []), .int .i64 0, .int .i64 q4, (.slice (some ⟨g5, 0, none⟩) (la + 1) c5)]) (by unfold set5 at z0 z1 z2 z3 z4; simp [results, Try.results96, go_sem, z0, z1, z2, z3, z4]) rfl ?_
                  rw [HRR.out, HMM.out]
                  exact HFin.out
        | false =>
          have h5 := passes_no rb ta cap T i' op 2 [101, 108, 115, 101] w5 HI.out.cx.rdr hb
          unfold ptr at h5
          have HLY : Hid (bnd (needP T 2 [101, 110, 100] i') (fun t j => okR (mkX 12 [] 0 q4 (A.map (·.1) ++ [nd 1 t []])) j) = some r) := by
            have h := HLX.out
            rw [hb] at h
            exact h
          clear hb HLX
          go_wp2_with fail
          refine h5.mono ?_
          rintro e w6 ⟨rfl, hb6⟩
          clear h5
          have HI : Hid (ChI rb ta cap T w w.heap.size w2.heap.size (w2.heap.size + 1) 12 q4 op g c A i' w6.drew) := (HI.out.below hb6 (by omega) (by omega) (by omega)).below (Below.refl _ _).drew (by omega) (by omega) (by omega)
          obtain ⟨r3, e3, h3⟩ := need_any rb ta cap T i' op 2 [101, 110, 100] (by decide) _ HI.out.cx.rdr
          unfold ptr at h3
          have HL3 : Hid (bnd (some r3) (fun t j => okR (mkX 12 [] 0 q4 (A.map (·.1) ++ [nd 1 t []])) j) = some r) := by
            have h := HLY.out
            rw [e3] at h
            exact h
          have H3 : Hid (Calls Try.prog 85 #[.pointer (some ⟨rb, 0, none⟩), .int .i64 2, .string (bsA [101, 110, 100])] w6.drew (NPost rb ta cap T op w6.drew r3)) := h3
          clear hb6 h3 e3 HLY HP HU
          go_wp2_with fail
          refine wp_region_held_drew (S := (fun _ => True)) (by kernel_rfl) ?_ (fun hHeld => ?_)
          · (try dsimp only); (all_goals exact True.intro)
          refine tk 0 (some 31) (v := ?_) rfl ?_ ?_
          rotate_left
          · intro wS hSw; (try dsimp only at hSw); go_simp; (try with_reducible rfl)
          try simp only [Act.put, List.setIfInBounds_toArray, List.set_cons_zero, List.set_cons_succ]
          refine tk 2 (some 33) (v := ?_) rfl ?_ ?_
          rotate_left
          · intro wS hSw; (try dsimp only at hSw); go_simp; (try with_reducible rfl)
          try simp only [Act.put, List.setIfInBounds_toArray, List.set_cons_zero, List.set_cons_succ]
          generalize w6.drew = v0 at HI H3 ⊢
          refine wpAnyH_ready (rs := [1, 3]) (by kernel_rfl) (by simp) ?_
          refine AllReadyH.cons rfl (fun K hK => ?_) (AllReadyH.cons rfl (fun K hK => ?_) AllReadyH.nil)
          · skip
            obtain ⟨y0, y1, y2, y3, y4, k0, k1, k2, k3, k4⟩ := HI.out.box
            rw [HLA.out] at y4
            go_simp
            clear y0 y1 y2 y3 y4 k0 k1 k2 k3 k4
            refine hK.out _ _ ?_ (fun hHz => ?_)
            · (try dsimp only); (all_goals exact True.intro)
            clear hK K hHz
            try simp only [Act.put, List.setIfInBounds_toArray, List.set_cons_zero, List.set_cons_succ]
            refine wpAnyH_ready (rs := [3]) (by kernel_rfl) (by simp) ?_
            refine AllReadyH.cons rfl (fun K hK => ?_) AllReadyH.nil
            go_simp
            refine H3.out.mono ?_
            intro e u1 hpost
            clear H3
            cases r3 with
            | inl q =>
              obtain ⟨hG, hF⟩ := hpost.no
              unfold GUp at hG
              subst hG
              have HRR : Hid (r = .inl q) := (Option.some.inj HL3.out).symm
              have HF : Hid _ := HI.out.cx.fx.trans hF
              clear hpost hF
              exact ⟨rfl, by rw [HRR.out]; exact ⟨rfl, HF.out⟩⟩
            | inr q =>
              obtain ⟨⟨⟨p1, p2, p3⟩, p4⟩, j5⟩ := q
              obtain ⟨⟨rfl, hr1⟩, hF1⟩ := hpost.ok
              dsimp only at hr1
              have hgl := HI.out.own.lt
              have HI : Hid (ChI rb ta cap T w w.heap.size w2.heap.size (w2.heap.size + 1) 12 q4 op g c A j5 u1) := HI.out.step hF1 hr1 (by omega) (by omega) (by omega)
              have HRR : Hid (r = .inr (mkX 12 [] 0 q4 (A.map (·.1) ++ [mkX 1 [] 0 p4 []]), j5)) := (Option.some.inj HL3.out).symm
              refine hK.out _ _ ?_ (fun hHz => ?_)
              · (try dsimp only); (all_goals exact True.intro)
              clear hpost hK K hHz hr1 hF1 HL3
              try simp only [Act.put, List.setIfInBounds_toArray, List.set_cons_zero, List.set_cons_succ]
              unfold ttV
              refine wpAnyH_ready (rs := [4]) (by kernel_rfl) (by simp) ?_
              refine AllReadyH.cons rfl (fun K hK => ?_) AllReadyH.nil
              go_simp
              have h := node_any 1 ((p1, p2, p3), p4) none 0 0 u1
              unfold ttV nV at h
              dsimp only at h
              refine h.mono ?_
              rintro e u2 ⟨rfl, hb⟩
              clear h
              have HI : Hid (ChI rb ta cap T w w.heap.size w2.heap.size (w2.heap.size + 1) 12 q4 op g c A j5 u2) := HI.out.below hb (by omega) (by omega) (by omega)
              clear hb
              refine hK.out _ _ ?_ (fun hHz => ?_)
              · (try dsimp only); (all_goals exact True.intro)
              clear hK K hHz
              try simp only [Act.put, List.setIfInBounds_toArray, List.set_cons_zero, List.set_cons_succ]
              refine wpAnyH_ready (rs := [5]) (by kernel_rfl) (by simp) ?_
              refine AllReadyH.cons rfl (fun K hK => ?_) AllReadyH.nil
              go_simp
              have HKB : Hid (∀ p ∈ [(mkX 1 [] 0 p4 [], none, 0)], XSt rb g (w2.heap.size + 1) (u2.alloc (Obj.cells #[Value.int IntKind.i64 1, Value.string (bsA []), Value.int IntKind.i64 0, Value.int IntKind.i64 p4, Value.slice none 0 0] 26)) p.1 p.2.1) := fun p hp => by
                rw [List.mem_singleton.1 hp]
                exact (XSt.leaf (w := u2) 1 [] 0 p4 none).below ((Below.refl _ _).alloc (Nat.le_refl _) _)
              have HCB : Hid (∀ j u, (xC [(mkX 1 [] 0 p4 [], none, 0)])[j]? = some u → ((u2.alloc (Obj.cells #[Value.int IntKind.i64 1, Value.string (bsA []), Value.int IntKind.i64 0, Value.int IntKind.i64 p4, Value.slice none 0 0] 26))).cell? ((⟨u2.heap.size, 0, none⟩ : Addr).add j) = some u) := World.news_of_block (heap_alloc_new u2 _)
              have HI : Hid (ChI rb ta cap T w w.heap.size w2.heap.size (w2.heap.size + 1) 12 q4 op g c A j5 (u2.alloc (Obj.cells #[Value.int IntKind.i64 1, Value.string (bsA []), Value.int IntKind.i64 0, Value.int IntKind.i64 p4, Value.slice none 0 0] 26))) := HI.out.below ((Below.refl _ _).alloc (Nat.le_refl _) _) (by omega) (by omega) (by omega)
              refine hK.out _ _ ?_ (fun hHz => ?_)
              · (try dsimp only); (all_goals exact True.intro)
              clear hK K hHz
              try simp only [Act.put, List.setIfInBounds_toArray, List.set_cons_zero, List.set_cons_succ]
              generalize (u2.alloc (Obj.cells #[Value.int IntKind.i64 1, Value.string (bsA []), Value.int IntKind.i64 0, Value.int IntKind.i64 p4, Value.slice none 0 0] 26)) = u3 at HI HKB HCB ⊢
              refine wpAnyH_ready (rs := [6]) (by kernel_rfl) (by simp) ?_
              refine AllReadyH.cons rfl (fun K hK => ?_) AllReadyH.nil
              have HOW : Hid ((u3).ownsRow (w2.heap.size + 1) 26 5 (.slice (some ⟨g, 0, none⟩) la c) la (xC A)) := by
                have h := HI.out.own.own
                rw [HLA.out] at h
                exact h
              refine step_append_lies (u3) rfl _ _ 24 rfl (w2.heap.size + 1) 26 i0 (.agg #[.int .i64 0, .string ⟨#[]⟩, .int .i64 0, .int .i64 0, .slice none 0 0]) 5 64 Try.underlying24 hi0 hz1 hzs hz3 rfl (by decide) (.slice (some ⟨g, 0, none⟩) la c) la (xC A) rfl HOW.out ⟨u2.heap.size, 0, none⟩ 1 1 (xC [(mkX 1 [] 0 p4 [], none, 0)]) rfl rfl HCB.out (xC_one _) (by omega) (by unfold maxLen; omega) (by omega) (by have := HI.out.own.lt; omega) _ rfl ?_
              intro g5 c5 u5 hown hgrow hlies hg5
              have hmore := HI.out.more (n := la + 1) HKB.out (by rw [HLA.out, List.length_singleton]) hown hgrow (by simpa [Value.ownBlock] using hlies) (by omega) (by omega) (by omega) (by omega) (by omega) (by omega) (by omega)
              obtain ⟨hbx5, hmore⟩ := hmore
              have HI5 : Hid (ChI rb ta cap T w w.heap.size w2.heap.size (w2.heap.size + 1) 12 q4 op g5 c5 (A ++ [(mkX 1 [] 0 p4 [], none, 0)]) j5 (u5.setCell ⟨w2.heap.size, 4, none⟩ (.slice (some ⟨g5, 0, none⟩) (la + 1) c5))) := hmore
              obtain ⟨y0, y1, y2, y3, y4, k0, k1, k2, k3, k4⟩ := hbx5
              clear hmore hown hgrow hlies HOW HI
              refine hK.out _ _ ?_ (fun hHz => ?_)
              · (try dsimp only); (all_goals exact True.intro)
              clear hK K hHz
              try simp only [Act.put, List.setIfInBounds_toArray, List.set_cons_zero, List.set_cons_succ]
              refine tk 7 (some 38) (v := ?_) rfl ?_ ?_
              rotate_left
              · intro wS hSw; (try dsimp only at hSw); go_simp; (try with_reducible rfl)
              try simp only [Act.put, List.setIfInBounds_toArray, List.set_cons_zero, List.set_cons_succ]
              refine wpAnyH_ready (rs := [8]) (by kernel_rfl) (by simp) ?_
              refine AllReadyH.cons rfl (fun K hK => ?_) AllReadyH.nil
              go_simp
              clear y0 y1 y2 y3 y4 k0 k1 k2 k3 k4
              refine hK.out _ _ ?_ (fun hHz => ?_)
              · (try dsimp only); (all_goals exact True.intro)
              clear hK K hHz
              try simp only [Act.put, List.setIfInBounds_toArray, List.set_cons_zero, List.set_cons_succ]
              refine wpAnyH_done (by kernel_rfl) ?_ _
              have HLN : Hid ((A ++ [(mkX 1 [] 0 p4 [], none, 0)]).length = la + 1) := by show _ = _; rw [List.length_append, HLA.out]; rfl
              have HMM : Hid (A.map (·.1) ++ [mkX 1 [] 0 p4 []] = (A ++ ([(mkX 1 [] 0 p4 [], none, 0)] : List Xp)).map (·.1)) := by show _ = _; rw [List.map_append]; rfl
              clear HKB HCB
              have hC := HI5.out.cx
              have HFin : Hid _ := Cx.retn (k := 12) (t := []) (m := 0) (a := q4) (n := la + 1) c5 (by rw [List.length_map]; exact HLN.out) hC (HI5.out.tree (by omega) (by omega) (by omega)) (Nat.le_refl _) hlt
              have hbx := HI5.out.box
              rw [HLN.out] at hbx
              obtain ⟨b0, b1, b2, b3, b4, _, _, _, _, _⟩ := hbx
              obtain ⟨z0, z1, z2, z3, z4, f0, f1, f2, f3, f4⟩ := own5 hC.res (.int .i64 12) (.string (bsA [])) (.int .i64 0) (.int .i64 q4) (.slice (some ⟨g5, 0, none⟩) (la + 1) c5)
              obtain ⟨d0, d1, d2, d3, d4, g0, g1, g2, g3, g4⟩ := hC.res
              clear hC HI5
              go_wp2
              refine bodyPost_ret (v := .agg #[.int .i64 12, .string (bsA []), .int .i64 0, .int .i64 q4, (.slice (some ⟨g5, 0, none⟩) (la + 1) c5)]) (by unfold set5 at z0 z1 z2 z3 z4; simp [results, Try.results96, go_sem, z0, z1, z2, z3, z4]) rfl ?_
              rw [HRR.out, HMM.out]
              exact HFin.out
          · skip
            go_simp
            refine H3.out.mono ?_
            intro e u1 hpost
            clear H3
            cases r3 with
            | inl q =>
              obtain ⟨hG, hF⟩ := hpost.no
              unfold GUp at hG
              subst hG
              have HRR : Hid (r = .inl q) := (Option.some.inj HL3.out).symm
              have HF : Hid _ := HI.out.cx.fx.trans hF
              clear hpost hF
              exact ⟨rfl, by rw [HRR.out]; exact ⟨rfl, HF.out⟩⟩
            | inr q =>
              obtain ⟨⟨⟨p1, p2, p3⟩, p4⟩, j5⟩ := q
              obtain ⟨⟨rfl, hr1⟩, hF1⟩ := hpost.ok
              dsimp only at hr1
              have hgl := HI.out.own.lt
              have HI : Hid (ChI rb ta cap T w w.heap.size w2.heap.size (w2.heap.size + 1) 12 q4 op g c A j5 u1) := HI.out.step hF1 hr1 (by omega) (by omega) (by omega)
              have HRR : Hid (r = .inr (mkX 12 [] 0 q4 (A.map (·.1) ++ [mkX 1 [] 0 p4 []]), j5)) := (Option.some.inj HL3.out).symm
              refine hK.out _ _ ?_ (fun hHz => ?_)
              · (try dsimp only); (all_goals exact True.intro)
              clear hpost hK K hHz hr1 hF1 HL3
              try simp only [Act.put, List.setIfInBounds_toArray, List.set_cons_zero, List.set_cons_succ]
              unfold ttV
              refine wpAnyH_ready (rs := [1, 4]) (by kernel_rfl) (by simp) ?_
              refine AllReadyH.cons rfl (fun K hK => ?_) (AllReadyH.cons rfl (fun K hK => ?_) AllReadyH.nil)
              · skip
                obtain ⟨y0, y1, y2, y3, y4, k0, k1, k2, k3, k4⟩ := HI.out.box
                rw [HLA.out] at y4
                go_simp
                clear y0 y1 y2 y3 y4 k0 k1 k2 k3 k4
                refine hK.out _ _ ?_ (fun hHz => ?_)
                · (try dsimp only); (all_goals exact True.intro)
                clear hK K hHz
                try simp only [Act.put, List.setIfInBounds_toArray, List.set_cons_zero, List.set_cons_succ]
                refine wpAnyH_ready (rs := [4]) (by kernel_rfl) (by simp) ?_
                refine AllReadyH.cons rfl (fun K hK => ?_) AllReadyH.nil
                go_simp
                have h := node_any 1 ((p1, p2, p3), p4) none 0 0 u1
                unfold ttV nV at h
                dsimp only at h
                refine h.mono ?_
                rintro e u2 ⟨rfl, hb⟩
                clear h
                have HI : Hid (ChI rb ta cap T w w.heap.size w2.heap.size (w2.heap.size + 1) 12 q4 op g c A j5 u2) := HI.out.below hb (by omega) (by omega) (by omega)
                clear hb
                refine hK.out _ _ ?_ (fun hHz => ?_)
                · (try dsimp only); (all_goals exact True.intro)
                clear hK K hHz
                try simp only [Act.put, List.setIfInBounds_toArray, List.set_cons_zero, List.set_cons_succ]
                refine wpAnyH_ready (rs := [5]) (by kernel_rfl) (by simp) ?_
                refine AllReadyH.cons rfl (fun K hK => ?_) AllReadyH.nil
                go_simp
                have HKB : Hid (∀ p ∈ [(mkX 1 [] 0 p4 [], none, 0)], XSt rb g (w2.heap.size + 1) (u2.alloc (Obj.cells #[Value.int IntKind.i64 1, Value.string (bsA []), Value.int IntKind.i64 0, Value.int IntKind.i64 p4, Value.slice none 0 0] 26)) p.1 p.2.1) := fun p hp => by
                  rw [List.mem_singleton.1 hp]
                  exact (XSt.leaf (w := u2) 1 [] 0 p4 none).below ((Below.refl _ _).alloc (Nat.le_refl _) _)
                have HCB : Hid (∀ j u, (xC [(mkX 1 [] 0 p4 [], none, 0)])[j]? = some u → ((u2.alloc (Obj.cells #[Value.int IntKind.i64 1, Value.string (bsA []), Value.int IntKind.i64 0, Value.int IntKind.i64 p4, Value.slice none 0 0] 26))).cell? ((⟨u2.heap.size, 0, none⟩ : Addr).add j) = some u) := World.news_of_block (heap_alloc_new u2 _)
                have HI : Hid (ChI rb ta cap T w w.heap.size w2.heap.size (w2.heap.size + 1) 12 q4 op g c A j5 (u2.alloc (Obj.cells #[Value.int IntKind.i64 1, Value.string (bsA []), Value.int IntKind.i64 0, Value.int IntKind.i64 p4, Value.slice none 0 0] 26))) := HI.out.below ((Below.refl _ _).alloc (Nat.le_refl _) _) (by omega) (by omega) (by omega)
                refine hK.out _ _ ?_ (fun hHz => ?_)
                · (try dsimp only); (all_goals exact True.intro)
                clear hK K hHz
                try simp only [Act.put, List.setIfInBounds_toArray, List.set_cons_zero, List.set_cons_succ]
                generalize (u2.alloc (Obj.cells #[Value.int IntKind.i64 1, Value.string (bsA []), Value.int IntKind.i64 0, Value.int IntKind.i64 p4, Value.slice none 0 0] 26)) = u3 at HI HKB HCB ⊢
                refine wpAnyH_ready (rs := [6]) (by kernel_rfl) (by simp) ?_
                refine AllReadyH.cons rfl (fun K hK => ?_) AllReadyH.nil
                have HOW : Hid ((u3).ownsRow (w2.heap.size + 1) 26 5 (.slice (some ⟨g, 0, none⟩) la c) la (xC A)) := by
                  have h := HI.out.own.own
                  rw [HLA.out] at h
                  exact h
                refine step_append_lies (u3) rfl _ _ 24 rfl (w2.heap.size + 1) 26 i0 (.agg #[.int .i64 0, .string ⟨#[]⟩, .int .i64 0, .int .i64 0, .slice none 0 0]) 5 64 Try.underlying24 hi0 hz1 hzs hz3 rfl (by decide) (.slice (some ⟨g, 0, none⟩) la c) la (xC A) rfl HOW.out ⟨u2.heap.size, 0, none⟩ 1 1 (xC [(mkX 1 [] 0 p4 [], none, 0)]) rfl rfl HCB.out (xC_one _) (by omega) (by unfold maxLen; omega) (by omega) (by have := HI.out.own.lt; omega) _ rfl ?_
                intro g5 c5 u5 hown hgrow hlies hg5
                have hmore := HI.out.more (n := la + 1) HKB.out (by rw [HLA.out, List.length_singleton]) hown hgrow (by simpa [Value.ownBlock] using hlies) (by omega) (by omega) (by omega) (by omega) (by omega) (by omega) (by omega)
                obtain ⟨hbx5, hmore⟩ := hmore
                have HI5 : Hid (ChI rb ta cap T w w.heap.size w2.heap.size (w2.heap.size + 1) 12 q4 op g5 c5 (A ++ [(mkX 1 [] 0 p4 [], none, 0)]) j5 (u5.setCell ⟨w2.heap.size, 4, none⟩ (.slice (some ⟨g5, 0, none⟩) (la + 1) c5))) := hmore
                obtain ⟨y0, y1, y2, y3, y4, k0, k1, k2, k3, k4⟩ := hbx5
                clear hmore hown hgrow hlies HOW HI
                refine hK.out _ _ ?_ (fun hHz => ?_)
                · (try dsimp only); (all_goals exact True.intro)
                clear hK K hHz
                try simp only [Act.put, List.setIfInBounds_toArray, List.set_cons_zero, List.set_cons_succ]
                refine tk 7 (some 38) (v := ?_) rfl ?_ ?_
                rotate_left
                · intro wS hSw; (try dsimp only at hSw); go_simp; (try with_reducible rfl)
                try simp only [Act.put, List.setIfInBounds_toArray, List.set_cons_zero, List.set_cons_succ]
                refine wpAnyH_ready (rs := [8]) (by kernel_rfl) (by simp) ?_
                refine AllReadyH.cons rfl (fun K hK => ?_) AllReadyH.nil
                go_simp
                clear y0 y1 y2 y3 y4 k0 k1 k2 k3 k4
                refine hK.out _ _ ?_ (fun hHz => ?_)
                · (try dsimp only); (all_goals exact True.intro)
                clear hK K hHz
                try simp only [Act.put, List.setIfInBounds_toArray, List.set_cons_zero, List.set_cons_succ]
                refine wpAnyH_done (by kernel_rfl) ?_ _
                have HLN : Hid ((A ++ [(mkX 1 [] 0 p4 [], none, 0)]).length = la + 1) := by show _ = _; rw [List.length_append, HLA.out]; rfl
                have HMM : Hid (A.map (·.1) ++ [mkX 1 [] 0 p4 []] = (A ++ ([(mkX 1 [] 0 p4 [], none, 0)] : List Xp)).map (·.1)) := by show _ = _; rw [List.map_append]; rfl
                clear HKB HCB
                have hC := HI5.out.cx
                have HFin : Hid _ := Cx.retn (k := 12) (t := []) (m := 0) (a := q4) (n := la + 1) c5 (by rw [List.length_map]; exact HLN.out) hC (HI5.out.tree (by omega) (by omega) (by omega)) (Nat.le_refl _) hlt
                have hbx := HI5.out.box
                rw [HLN.out] at hbx
                obtain ⟨b0, b1, b2, b3, b4, _, _, _, _, _⟩ := hbx
                obtain ⟨z0, z1, z2, z3, z4, f0, f1, f2, f3, f4⟩ := own5 hC.res (.int .i64 12) (.string (bsA [])) (.int .i64 0) (.int .i64 q4) (.slice (some ⟨g5, 0, none⟩) (la + 1) c5)
                obtain ⟨d0, d1, d2, d3, d4, g0, g1, g2, g3, g4⟩ := hC.res
                clear hC HI5
                go_wp2
                refine bodyPost_ret (v := .agg #[.int .i64 12, .string (bsA []), .int .i64 0, .int .i64 q4, (.slice (some ⟨g5, 0, none⟩) (la + 1) c5)]) (by unfold set5 at z0 z1 z2 z3 z4; simp [results, Try.results96, go_sem, z0, z1, z2, z3, z4]) rfl ?_
                rw [HRR.out, HMM.out]
                exact HFin.out
              · skip
                go_simp
                have h := node_any 1 ((p1, p2, p3), p4) none 0 0 u1
                unfold ttV nV at h
                dsimp only at h
                refine h.mono ?_
                rintro e u2 ⟨rfl, hb⟩
                clear h
                have HI : Hid (ChI rb ta cap T w w.heap.size w2.heap.size (w2.heap.size + 1) 12 q4 op g c A j5 u2) := HI.out.below hb (by omega) (by omega) (by omega)
                clear hb
                refine hK.out _ _ ?_ (fun hHz => ?_)
                · (try dsimp only); (all_goals exact True.intro)
                clear hK K hHz
                try simp only [Act.put, List.setIfInBounds_toArray, List.set_cons_zero, List.set_cons_succ]
                refine wpAnyH_ready (rs := [1, 5]) (by kernel_rfl) (by simp) ?_
                refine AllReadyH.cons rfl (fun K hK => ?_) (AllReadyH.cons rfl (fun K hK => ?_) AllReadyH.nil)
                · skip
                  obtain ⟨y0, y1, y2, y3, y4, k0, k1, k2, k3, k4⟩ := HI.out.box
                  rw [HLA.out] at y4
                  go_simp
                  clear y0 y1 y2 y3 y4 k0 k1 k2 k3 k4
                  refine hK.out _ _ ?_ (fun hHz => ?_)
                  · (try dsimp only); (all_goals exact True.intro)
                  clear hK K hHz
                  try simp only [Act.put, List.setIfInBounds_toArray, List.set_cons_zero, List.set_cons_succ]
                  refine wpAnyH_ready (rs := [5]) (by kernel_rfl) (by simp) ?_
                  refine AllReadyH.cons rfl (fun K hK => ?_) AllReadyH.nil
                  go_simp
                  have HKB : Hid (∀ p ∈ [(mkX 1 [] 0 p4 [], none, 0)], XSt rb g (w2.heap.size + 1) (u2.alloc (Obj.cells #[Value.int IntKind.i64 1, Value.string (bsA []), Value.int IntKind.i64 0, Value.int IntKind.i64 p4, Value.slice none 0 0] 26)) p.1 p.2.1) := fun p hp => by
                    rw [List.mem_singleton.1 hp]
                    exact (XSt.leaf (w := u2) 1 [] 0 p4 none).below ((Below.refl _ _).alloc (Nat.le_refl _) _)
                  have HCB : Hid (∀ j u, (xC [(mkX 1 [] 0 p4 [], none, 0)])[j]? = some u → ((u2.alloc (Obj.cells #[Value.int IntKind.i64 1, Value.string (bsA []), Value.int IntKind.i64 0, Value.int IntKind.i64 p4, Value.slice none 0 0] 26))).cell? ((⟨u2.heap.size, 0, none⟩ : Addr).add j) = some u) := World.news_of_block (heap_alloc_new u2 _)
                  have HI : Hid (ChI rb ta cap T w w.heap.size w2.heap.size (w2.heap.size + 1) 12 q4 op g c A j5 (u2.alloc (Obj.cells #[Value.int IntKind.i64 1, Value.string (bsA []), Value.int IntKind.i64 0, Value.int IntKind.i64 p4, Value.slice none 0 0] 26))) := HI.out.below ((Below.refl _ _).alloc (Nat.le_refl _) _) (by omega) (by omega) (by omega)
                  refine hK.out _ _ ?_ (fun hHz => ?_)
                  · (try dsimp only); (all_goals exact True.intro)
                  clear hK K hHz
                  try simp only [Act.put, List.setIfInBounds_toArray, List.set_cons_zero, List.set_cons_succ]
                  generalize (u2.alloc (Obj.cells #[Value.int IntKind.i64 1, Value.string (bsA []), Value.int IntKind.i64 0, Value.int IntKind.i64 p4, Value.slice none 0 0] 26)) = u3 at HI HKB HCB ⊢
                  refine wpAnyH_ready (rs := [6]) (by kernel_rfl) (by simp) ?_
                  refine AllReadyH.cons rfl (fun K hK => ?_) AllReadyH.nil
                  have HOW : Hid ((u3).ownsRow (w2.heap.size + 1) 26 5 (.slice (some ⟨g, 0, none⟩) la c) la (xC A)) := by
                    have h := HI.out.own.own
                    rw [HLA.out] at h
                    exact h
                  refine step_append_lies (u3) rfl _ _ 24 rfl (w2.heap.size + 1) 26 i0 (.agg #[.int .i64 0, .string ⟨#[]⟩, .int .i64 0, .int .i64 0, .slice none 0 0]) 5 64 Try.underlying24 hi0 hz1 hzs hz3 rfl (by decide) (.slice (some ⟨g, 0, none⟩) la c) la (xC A) rfl HOW.out ⟨u2.heap.size, 0, none⟩ 1 1 (xC [(mkX 1 [] 0 p4 [], none, 0)]) rfl rfl HCB.out (xC_one _) (by omega) (by unfold maxLen; omega) (by omega) (by have := HI.out.own.lt; omega) _ rfl ?_
                  intro g5 c5 u5 hown hgrow hlies hg5
                  have hmore := HI.out.more (n := la + 1) HKB.out (by rw [HLA.out, List.length_singleton]) hown hgrow (by simpa [Value.ownBlock] using hlies) (by omega) (by omega) (by omega) (by omega) (by omega) (by omega) (by omega)
                  obtain ⟨hbx5, hmore⟩ := hmore
                  have HI5 : Hid (ChI rb ta cap T w w.heap.size w2.heap.size (w2.heap.size + 1) 12 q4 op g5 c5 (A ++ [(mkX 1 [] 0 p4 [], none, 0)]) j5 (u5.setCell ⟨w2.heap.size, 4, none⟩ (.slice (some ⟨g5, 0, none⟩) (la + 1) c5))) := hmore
                  obtain ⟨y0, y1, y2, y3, y4, k0, k1, k2, k3, k4⟩ := hbx5
                  clear hmore hown hgrow hlies HOW HI
                  refine hK.out _ _ ?_ (fun hHz => ?_)
                  · (try dsimp only); (all_goals exact True.intro)
                  clear hK K hHz
                  try simp only [Act.put, List.setIfInBounds_toArray, List.set_cons_zero, List.set_cons_succ]
                  refine tk 7 (some 38) (v := ?_) rfl ?_ ?_
                  rotate_left
                  · intro wS hSw; (try dsimp only at hSw); go_simp; (try with_reducible rfl)
                  try simp only [Act.put, List.setIfInBounds_toArray, List.set_cons_zero, List.set_cons_succ]
                  refine wpAnyH_ready (rs := [8]) (by kernel_rfl) (by simp) ?_
                  refine AllReadyH.cons rfl (fun K hK => ?_) AllReadyH.nil
                  go_simp
                  clear y0 y1 y2 y3 y4 k0 k1 k2 k3 k4
                  refine hK.out _ _ ?_ (fun hHz => ?_)
                  · (try dsimp only); (all_goals exact True.intro)
                  clear hK K hHz
                  try simp only [Act.put, List.setIfInBounds_toArray, List.set_cons_zero, List.set_cons_succ]
                  refine wpAnyH_done (by kernel_rfl) ?_ _
                  have HLN : Hid ((A ++ [(mkX 1 [] 0 p4 [], none, 0)]).length = la + 1) := by show _ = _; rw [List.length_append, HLA.out]; rfl
                  have HMM : Hid (A.map (·.1) ++ [mkX 1 [] 0 p4 []] = (A ++ ([(mkX 1 [] 0 p4 [], none, 0)] : List Xp)).map (·.1)) := by show _ = _; rw [List.map_append]; rfl
                  clear HKB HCB
                  have hC := HI5.out.cx
                  have HFin : Hid _ := Cx.retn (k := 12) (t := []) (m := 0) (a := q4) (n := la + 1) c5 (by rw [List.length_map]; exact HLN.out) hC (HI5.out.tree (by omega) (by omega) (by omega)) (Nat.le_refl _) hlt
                  have hbx := HI5.out.box
                  rw [HLN.out] at hbx
                  obtain ⟨b0, b1, b2, b3, b4, _, _, _, _, _⟩ := hbx
                  obtain ⟨z0, z1, z2, z3, z4, f0, f1, f2, f3, f4⟩ := own5 hC.res (.int .i64 12) (.string (bsA [])) (.int .i64 0) (.int .i64 q4) (.slice (some ⟨g5, 0, none⟩) (la + 1) c5)
                  obtain ⟨d0, d1, d2, d3, d4, g0, g1, g2, g3, g4⟩ := hC.res
                  clear hC HI5
                  go_wp2
                  refine bodyPost_ret (v := .agg #[.int .i64 12, .string (bsA []), .int .i64 0, .int .i64 q4, (.slice (some ⟨g5, 0, none⟩) (la + 1) c5)]) (by unfold set5 at z0 z1 z2 z3 z4; simp [results, Try.results96, go_sem, z0, z1, z2, z3, z4]) rfl ?_
                  rw [HRR.out, HMM.out]
                  exact HFin.out
                · skip
                  go_simp
                  have HKB : Hid (∀ p ∈ [(mkX 1 [] 0 p4 [], none, 0)], XSt rb g (w2.heap.size + 1) (u2.alloc (Obj.cells #[Value.int IntKind.i64 1, Value.string (bsA []), Value.int IntKind.i64 0, Value.int IntKind.i64 p4, Value.slice none 0 0] 26)) p.1 p.2.1) := fun p hp => by
                    rw [List.mem_singleton.1 hp]
                    exact (XSt.leaf (w := u2) 1 [] 0 p4 none).below ((Below.refl _ _).alloc (Nat.le_refl _) _)
                  have HCB : Hid (∀ j u, (xC [(mkX 1 [] 0 p4 [], none, 0)])[j]? = some u → ((u2.alloc (Obj.cells #[Value.int IntKind.i64 1, Value.string (bsA []), Value.int IntKind.i64 0, Value.int IntKind.i64 p4, Value.slice none 0 0] 26))).cell? ((⟨u2.heap.size, 0, none⟩ : Addr).add j) = some u) := World.news_of_block (heap_alloc_new u2 _)
                  have HI : Hid (ChI rb ta cap T w w.heap.size w2.heap.size (w2.heap.size + 1) 12 q4 op g c A j5 (u2.alloc (Obj.cells #[Value.int IntKind.i64 1, Value.string (bsA []), Value.int IntKind.i64 0, Value.int IntKind.i64 p4, Value.slice none 0 0] 26))) := HI.out.below ((Below.refl _ _).alloc (Nat.le_refl _) _) (by omega) (by omega) (by omega)
                  refine hK.out _ _ ?_ (fun hHz => ?_)
                  · (try dsimp only); (all_goals exact True.intro)
                  clear hK K hHz
                  try simp only [Act.put, List.setIfInBounds_toArray, List.set_cons_zero, List.set_cons_succ]
                  generalize (u2.alloc (Obj.cells #[Value.int IntKind.i64 1, Value.string (bsA []), Value.int IntKind.i64 0, Value.int IntKind.i64 p4, Value.slice none 0 0] 26)) = u3 at HI HKB HCB ⊢
                  refine wpAnyH_ready (rs := [1]) (by kernel_rfl) (by simp) ?_
                  refine AllReadyH.cons rfl (fun K hK => ?_) AllReadyH.nil
                  obtain ⟨y0, y1, y2, y3, y4, k0, k1, k2, k3, k4⟩ := HI.out.box
                  rw [HLA.out] at y4
                  go_simp
                  clear y0 y1 y2 y3 y4 k0 k1 k2 k3 k4
                  refine hK.out _ _ ?_ (fun hHz => ?_)
                  · (try dsimp only); (all_goals exact True.intro)
                  clear hK K hHz
                  try simp only [Act.put, List.setIfInBounds_toArray, List.set_cons_zero, List.set_cons_succ]
                  refine wpAnyH_ready (rs := [6]) (by kernel_rfl) (by simp) ?_
                  refine AllReadyH.cons rfl (fun K hK => ?_) AllReadyH.nil
                  have HOW : Hid ((u3).ownsRow (w2.heap.size + 1) 26 5 (.slice (some ⟨g, 0, none⟩) la c) la (xC A)) := by
                    have h := HI.out.own.own
                    rw [HLA.out] at h
                    exact h
                  refine step_append_lies (u3) rfl _ _ 24 rfl (w2.heap.size + 1) 26 i0 (.agg #[.int .i64 0, .string ⟨#[]⟩, .int .i64 0, .int .i64 0, .slice none 0 0]) 5 64 Try.underlying24 hi0 hz1 hzs hz3 rfl (by decide) (.slice (some ⟨g, 0, none⟩) la c) la (xC A) rfl HOW.out ⟨u2.heap.size, 0, none⟩ 1 1 (xC [(mkX 1 [] 0 p4 [], none, 0)]) rfl rfl HCB.out (xC_one _) (by omega) (by unfold maxLen; omega) (by omega) (by have := HI.out.own.lt; omega) _ rfl ?_
                  intro g5 c5 u5 hown hgrow hlies hg5
                  have hmore := HI.out.more (n := la + 1) HKB.out (by rw [HLA.out, List.length_singleton]) hown hgrow (by simpa [Value.ownBlock] using hlies) (by omega) (by omega) (by omega) (by omega) (by omega) (by omega) (by omega)
                  obtain ⟨hbx5, hmore⟩ := hmore
                  have HI5 : Hid (ChI rb ta cap T w w.heap.size w2.heap.size (w2.heap.size + 1) 12 q4 op g5 c5 (A ++ [(mkX 1 [] 0 p4 [], none, 0)]) j5 (u5.setCell ⟨w2.heap.size, 4, none⟩ (.slice (some ⟨g5, 0, none⟩) (la + 1) c5))) := hmore
                  obtain ⟨y0, y1, y2, y3, y4, k0, k1, k2, k3, k4⟩ := hbx5
                  clear hmore hown hgrow hlies HOW HI
                  refine hK.out _ _ ?_ (fun hHz => ?_)
                  · (try dsimp only); (all_goals exact True.intro)
                  clear hK K hHz
                  try simp only [Act.put, List.setIfInBounds_toArray, List.set_cons_zero, List.set_cons_succ]
                  refine tk 7 (some 38) (v := ?_) rfl ?_ ?_
                  rotate_left
                  · intro wS hSw; (try dsimp only at hSw); go_simp; (try with_reducible rfl)
                  try simp only [Act.put, List.setIfInBounds_toArray, List.set_cons_zero, List.set_cons_succ]
                  refine wpAnyH_ready (rs := [8]) (by kernel_rfl) (by simp) ?_
                  refine AllReadyH.cons rfl (fun K hK => ?_) AllReadyH.nil
                  go_simp
                  clear y0 y1 y2 y3 y4 k0 k1 k2 k3 k4
                  refine hK.out _ _ ?_ (fun hHz => ?_)
                  · (try dsimp only); (all_goals exact True.intro)
                  clear hK K hHz
                  try simp only [Act.put, List.setIfInBounds_toArray, List.set_cons_zero, List.set_cons_succ]
                  refine wpAnyH_done (by kernel_rfl) ?_ _
                  have HLN : Hid ((A ++ [(mkX 1 [] 0 p4 [], none, 0)]).length = la + 1) := by show _ = _; rw [List.length_append, HLA.out]; rfl
                  have HMM : Hid (A.map (·.1) ++ [mkX 1 [] 0 p4 []] = (A ++ ([(mkX 1 [] 0 p4 [], none, 0)] : List Xp)).map (·.1)) := by show _ = _; rw [List.map_append]; rfl
                  clear HKB HCB
                  have hC := HI5.out.cx
                  have HFin : Hid _ := Cx.retn (k := 12) (t := []) (m := 0) (a := q4) (n := la + 1) c5 (by rw [List.length_map]; exact HLN.out) hC (HI5.out.tree (by omega) (by omega) (by omega)) (Nat.le_refl _) hlt
                  have hbx := HI5.out.box
                  rw [HLN.out] at hbx
                  obtain ⟨b0, b1, b2, b3, b4, _, _, _, _, _⟩ := hbx
                  obtain ⟨z0, z1, z2, z3, z4, f0, f1, f2, f3, f4⟩ := own5 hC.res (.int .i64 12) (.string (bsA [])) (.int .i64 0) (.int .i64 q4) (.slice (some ⟨g5, 0, none⟩) (la + 1) c5)
                  obtain ⟨d0, d1, d2, d3, d4, g0, g1, g2, g3, g4⟩ := hC.res
                  clear hC HI5
                  go_wp2
                  refine bodyPost_ret (v := .agg #[.int .i64 12, .string (bsA []), .int .i64 0, .int .i64 q4, (.slice (some ⟨g5, 0, none⟩) (la + 1) c5)]) (by unfold set5 at z0 z1 z2 z3 z4; simp [results, Try.results96, go_sem, z0, z1, z2, z3, z4]) rfl ?_
                  rw [HRR.out, HMM.out]
                  exact HFin.out
end Go.Proofs.Ytcicdapccondkaa
