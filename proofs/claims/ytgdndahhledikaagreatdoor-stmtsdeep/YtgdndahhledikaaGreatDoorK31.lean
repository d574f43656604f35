/- Syh. -/
import Derived.Test.YtgdndahhledikaaGreatDoorK27
import Derived.Test.YtgdndahhledikaaGreatDoorK28
namespace Go.Proofs.YtgdndahhledikaaGreatDoor
open Go.ChangeShapes Go.WideShapes Go.ChangeAt Go.RowKit
set_option linter.unusedSimpArgs false
set_option maxRecDepth 20000
set_option maxHeartbeats 4000000
def seqP (T : List Tt) (E : Nat → Rz X) (gf : Nat → Nat → Rz X) (f op : Nat) (t : List UInt8) (a : Int) (i : Nat) : Rz X :=
 bnd (intP T i) fun x0 i => bnd (needP T 2 [115, 101, 108, 101, 99, 116] i) fun _ i => bnd (tldP T i) fun m i => bnd (itsP T E f i) fun x1 i => bnd (needP T 2 [102, 114, 111, 109] i) fun _ i => bnd (gf i op) fun x2 i => bnd (clauP T E [119, 104, 101, 114, 101] i) fun x3 i => bnd (byP T E f [103, 114, 111, 117, 112] i) fun x4 i => bnd (clauP T E [104, 97, 118, 105, 110, 103] i) fun x5 i => bnd (ratP T i) fun x6 i => bnd (byP T (ordP T E) f [111, 114, 100, 101, 114] i) fun x7 i => okR (mkX 53 t m a [x0, x1, x2, x3, x4, x5, x7, x6]) i
def selP (T : List Tt) (E : Nat → Rz X) (gf : Nat → Nat → Rz X) (f i op : Nat) : Rz X := bnd (pasP T 2 [99, 111, 110, 116, 101, 120, 116] i) fun b j => if b then bnd (idP T j) fun t j => seqP T E gf f op t.1.2.1 (tkI T i).2 j else seqP T E gf f op [] (tkI T i).2 j
theorem selection_s (rb : Nat) (ta : Option Addr) (cap : Nat) (T : List Tt) (E : Nat → Rz X) (hE : RdX rb ta cap T 80 (fun i _ => E i)) (gf : Nat → Nat → Rz X) (hgf : RdX rb ta cap T 77 gf) (f : Nat) : Rds VX rb ta cap T 46 #[ptr rb] (fun i op => selP T E gf f i op) := by
 intro i op w r hop hr h
 (try dsimp only at h)
 have HS : Hid (St rb ta cap T w [] [] i op w) := St.start hr
 unfold selP at h
 have HL : Hid _ := h
 have hlt := cell_lt hr.c0
 clear hr h 
 unfold ptr
 go_enter Tryz.func46, Tryz.ntmps46
 obtain ⟨⟨⟨q1a, q1b, q1c⟩, q1d⟩, hq⟩ : ∃ q, tkI T i = q := ⟨_, rfl⟩
 have HQ1 : Hid (tkI T i = ((q1a, q1b, q1c), q1d)) := hq
 have hl := HL.out
 (try rw [hq] at hl)
 (try dsimp only at hl)
 have HL : Hid _ := hl
 clear hl hq
 have HS : Hid (St rb ta cap T w [(w.heap.size, z5)] [] i op (w.alloc o5)) := HS.out.newO z5
 have hc := next_any rb ta cap T i op _ HS.out.rdr
 rw [HQ1.out] at hc
 (try unfold ptr fnV at hc)
 (try unfold ptr at hc)
 (try unfold ttV at hc)
 (try dsimp only at hc)
 go_wp2_with fail
 refine hc.mono ?_
 rintro e w2 ⟨rfl, hb⟩
 have HS : Hid (St rb ta cap T w [(w.heap.size, z5)] [] i op w2) := HS.out.below hb
 clear hc hb
 have hc := node_s 53 ((q1a, q1b, q1c), q1d) none 0 0 w2
 (try unfold ttV at hc)
 (try unfold nV at hc)
 (try dsimp only at hc)
 go_wp2_with fail
 refine hc.mono ?_
 rintro e w3 ⟨rfl, hb⟩
 have HS : Hid (St rb ta cap T w [(w.heap.size, z5)] [] i op w3) := HS.out.below hb
 clear hc hb
 have HS : Hid (St rb ta cap T w [(w3.heap.size, (nL 53 [] 0 q1d (.slice none 0 0))), (w.heap.size, z5)] [] i op (w3.alloc (nO 53 [] 0 q1d (.slice none 0 0)))) := HS.out.newO (nL 53 [] 0 q1d (.slice none 0 0))
 obtain ⟨r1, e1, hl⟩ := bnd_some HL.out
 have HL : Hid _ := hl
 have hc := passesWord_s rb ta cap T [99, 111, 110, 116, 101, 120, 116] i op _ r1 hop HS.out.rdr e1
 (try unfold ptr fnV at hc)
 (try unfold ptr at hc)
 clear e1 hl
 go_wp2_with fail
 refine hc.mono ?_
 intro e w4 hpost
 clear hc
 cases r1 with
 | inl q =>
  obtain ⟨hG, HP⟩ := HS.out.bad2 (V := VX) (op' := op) HL.out hpost
  unfold GUs at hG
  subst hG
  clear hpost
  go_wp2
  exact ⟨rfl, HP.out⟩
 | inr q =>
  obtain ⟨x4, j4⟩ := q
  obtain ⟨rfl, HS⟩ := HS.out.okB hpost
  have hl := HL.out
  rw [bnd_ok] at hl
  (try dsimp only at hl)
  have HL : Hid _ := hl
  clear hl hpost
  cases x4 with
  | true =>
   have hl := HL.out
   simp only [if_true, if_false, Bool.false_eq_true] at hl
   have HL : Hid _ := hl
   clear hl
   obtain ⟨r1, e1, hl⟩ := bnd_some HL.out
   have HL : Hid _ := hl
   have hc := id_s rb ta cap T j4 op _ r1 hop HS.out.rdr e1
   (try unfold ptr fnV at hc)
   (try unfold ptr at hc)
   clear e1 hl
   go_wp2_with fail
   refine hc.mono ?_
   intro e w5 hpost
   clear hc
   cases r1 with
   | inl q =>
    obtain ⟨hG, HP⟩ := HS.out.bad2 (V := VX) (op' := op) HL.out hpost
    unfold GUs at hG
    subst hG
    clear hpost
    go_wp2
    exact ⟨rfl, HP.out⟩
   | inr q =>
    obtain ⟨x5, j5⟩ := q
    obtain ⟨rfl, HS⟩ := HS.out.okT hpost
    obtain ⟨⟨x5a, x5b, x5c⟩, x5d⟩ := x5
    unfold ttV
    dsimp only
    have hl := HL.out
    rw [bnd_ok] at hl
    (try dsimp only at hl)
    have HL : Hid _ := hl
    clear hl hpost
    have hfd := field26_1 x5a x5b x5c x5d
    obtain ⟨y6a, y6b, y6c, y6d, y6e⟩ := HS.out.c5 List.mem_cons_self
    obtain ⟨f6a, f6b, f6c, f6d, f6e⟩ := HS.out.f5 List.mem_cons_self
    have HS : Hid (St rb ta cap T w [(w3.heap.size, (nL 53 x5b 0 q1d (.slice none 0 0))), (w.heap.size, z5)] [] j5 op (w5.setCell ⟨w3.heap.size, 1, none⟩ (.string (bsA x5b)))) := St.put [] HS.out 1 (.string (bsA x5b))
    obtain ⟨y7a, y7b, y7c, y7d, y7e⟩ := HS.out.c5 List.mem_cons_self
    have hl := HL.out
    unfold seqP at hl
    have HL : Hid _ := hl
    clear hl
    obtain ⟨r1, e1, hl⟩ := bnd_some HL.out
    have HL : Hid _ := hl
    have hc := into_s rb ta cap T j5 op _ r1 hop HS.out.rdr e1
    (try unfold ptr fnV at hc)
    (try unfold ptr at hc)
    clear e1 hl
    go_wp2_with fail
    refine hc.mono ?_
    intro e w8 hpost
    clear hc y6a y6b y6c y6d y6e f6a f6b f6c f6d f6e y7a y7b y7c y7d y7e
    cases r1 with
    | inl q =>
     obtain ⟨hG, HP⟩ := HS.out.bad2 (V := VX) (op' := op) HL.out hpost
     unfold GUs at hG
     subst hG
     clear hpost
     go_wp2
     exact ⟨rfl, HP.out⟩
    | inr q =>
     obtain ⟨x8, j8⟩ := q
     obtain ⟨s8, c8, rfl, HS⟩ := HS.out.okX hpost
     unfold xV nV
     have hl := HL.out
     rw [bnd_ok] at hl
     (try dsimp only at hl)
     have HL : Hid _ := hl
     clear hl hpost
     have HS : Hid (St rb ta cap T w [(w8.heap.size, (xL x8 s8 c8)), (w3.heap.size, (nL 53 x5b 0 q1d (.slice none 0 0))), (w.heap.size, z5)] [(x8, s8)] j8 op (w8.alloc (xO x8 s8 c8))) := HS.out.newO (xL x8 s8 c8)
     obtain ⟨r1, e1, hl⟩ := bnd_some HL.out
     have HL : Hid _ := hl
     have hc := needWord_s rb ta cap T [115, 101, 108, 101, 99, 116] j8 op _ r1 hop HS.out.rdr e1
     (try unfold ptr fnV at hc)
     (try unfold ptr at hc)
     clear e1 hl
     go_wp2_with fail
     refine hc.mono ?_
     intro e w9 hpost
     clear hc
     cases r1 with
     | inl q =>
      obtain ⟨hG, HP⟩ := HS.out.bad2 (V := VX) (op' := op) HL.out hpost
      unfold GUs at hG
      subst hG
      clear hpost
      go_wp2
      exact ⟨rfl, HP.out⟩
     | inr q =>
      obtain ⟨x9, j9⟩ := q
      obtain ⟨rfl, HS⟩ := HS.out.okT hpost
      obtain ⟨⟨x9a, x9b, x9c⟩, x9d⟩ := x9
      unfold ttV
      dsimp only
      have hl := HL.out
      rw [bnd_ok] at hl
      (try dsimp only at hl)
      have HL : Hid _ := hl
      clear hl hpost
      obtain ⟨r1, e1, hl⟩ := bnd_some HL.out
      have HL : Hid _ := hl
      have hc := told_s rb ta cap T j9 op _ r1 hop HS.out.rdr e1
      (try unfold ptr fnV at hc)
      (try unfold ptr at hc)
      clear e1 hl
      go_wp2_with fail
      refine hc.mono ?_
      intro e w10 hpost
      clear hc
      cases r1 with
      | inl q =>
       obtain ⟨hG, HP⟩ := HS.out.bad2 (V := VX) (op' := op) HL.out hpost
       unfold GUs at hG
       subst hG
       clear hpost
       go_wp2
       exact ⟨rfl, HP.out⟩
      | inr q =>
       obtain ⟨x10, j10⟩ := q
       obtain ⟨rfl, HS⟩ := HS.out.okI hpost
       have hl := HL.out
       rw [bnd_ok] at hl
       (try dsimp only at hl)
       have HL : Hid _ := hl
       clear hl hpost
       obtain ⟨y11a, y11b, y11c, y11d, y11e⟩ := HS.out.c5 (List.mem_cons_of_mem _ List.mem_cons_self)
       obtain ⟨f11a, f11b, f11c, f11d, f11e⟩ := HS.out.f5 (List.mem_cons_of_mem _ List.mem_cons_self)
       have HS : Hid (St rb ta cap T w [(w8.heap.size, (xL x8 s8 c8)), (w3.heap.size, (nL 53 x5b x10 q1d (.slice none 0 0))), (w.heap.size, z5)] [(x8, s8)] j10 op (w10.setCell ⟨w3.heap.size, 2, none⟩ (.int .i64 x10))) := St.put [(w8.heap.size, (xL x8 s8 c8))] HS.out 2 (.int .i64 x10)
       obtain ⟨y12a, y12b, y12c, y12d, y12e⟩ := HS.out.c5 (List.mem_cons_of_mem _ List.mem_cons_self)
       obtain ⟨r1, e1, hl⟩ := bnd_some HL.out
       have HL : Hid _ := hl
       have hc := items_s rb ta cap T E hE f j10 op _ r1 hop HS.out.rdr e1
       (try unfold ptr fnV at hc)
       (try unfold ptr at hc)
       clear e1 hl
       go_wp2_with fail
       refine hc.mono ?_
       intro e w13 hpost
       clear hc y11a y11b y11c y11d y11e f11a f11b f11c f11d f11e y12a y12b y12c y12d y12e
       cases r1 with
       | inl q =>
        obtain ⟨hG, HP⟩ := HS.out.bad2 (V := VX) (op' := op) HL.out hpost
        unfold GUs at hG
        subst hG
        clear hpost
        go_wp2
        exact ⟨rfl, HP.out⟩
       | inr q =>
        obtain ⟨x13, j13⟩ := q
        obtain ⟨s13, c13, rfl, HS⟩ := HS.out.okX hpost
        unfold xV nV
        have hl := HL.out
        rw [bnd_ok] at hl
        (try dsimp only at hl)
        have HL : Hid _ := hl
        clear hl hpost
        have HS : Hid (St rb ta cap T w [(w13.heap.size, (xL x13 s13 c13)), (w8.heap.size, (xL x8 s8 c8)), (w3.heap.size, (nL 53 x5b x10 q1d (.slice none 0 0))), (w.heap.size, z5)] [(x13, s13), (x8, s8)] j13 op (w13.alloc (xO x13 s13 c13))) := HS.out.newO (xL x13 s13 c13)
        obtain ⟨r1, e1, hl⟩ := bnd_some HL.out
        have HL : Hid _ := hl
        have hc := needWord_s rb ta cap T [102, 114, 111, 109] j13 op _ r1 hop HS.out.rdr e1
        (try unfold ptr fnV at hc)
        (try unfold ptr at hc)
        clear e1 hl
        go_wp2_with fail
        refine hc.mono ?_
        intro e w14 hpost
        clear hc
        cases r1 with
        | inl q =>
         obtain ⟨hG, HP⟩ := HS.out.bad2 (V := VX) (op' := op) HL.out hpost
         unfold GUs at hG
         subst hG
         clear hpost
         go_wp2
         exact ⟨rfl, HP.out⟩
        | inr q =>
         obtain ⟨x14, j14⟩ := q
         obtain ⟨rfl, HS⟩ := HS.out.okT hpost
         obtain ⟨⟨x14a, x14b, x14c⟩, x14d⟩ := x14
         unfold ttV
         dsimp only
         have hl := HL.out
         rw [bnd_ok] at hl
         (try dsimp only at hl)
         have HL : Hid _ := hl
         clear hl hpost
         obtain ⟨r1, e1, hl⟩ := bnd_some HL.out
         have HL : Hid _ := hl
         have hc := hgf j14 op _ r1 hop HS.out.rdr e1
         (try unfold ptr fnV at hc)
         (try unfold ptr at hc)
         clear e1 hl
         go_wp2_with fail
         refine hc.mono ?_
         intro e w15 hpost
         clear hc
         cases r1 with
         | inl q =>
          obtain ⟨hG, HP⟩ := HS.out.bad2 (V := VX) (op' := op) HL.out hpost
          unfold GUs at hG
          subst hG
          clear hpost
          go_wp2
          exact ⟨rfl, HP.out⟩
         | inr q =>
          obtain ⟨x15, j15⟩ := q
          obtain ⟨s15, c15, rfl, HS⟩ := HS.out.okX hpost
          unfold xV nV
          have hl := HL.out
          rw [bnd_ok] at hl
          (try dsimp only at hl)
          have HL : Hid _ := hl
          clear hl hpost
          have HS : Hid (St rb ta cap T w [(w15.heap.size, (xL x15 s15 c15)), (w13.heap.size, (xL x13 s13 c13)), (w8.heap.size, (xL x8 s8 c8)), (w3.heap.size, (nL 53 x5b x10 q1d (.slice none 0 0))), (w.heap.size, z5)] [(x15, s15), (x13, s13), (x8, s8)] j15 op (w15.alloc (xO x15 s15 c15))) := HS.out.newO (xL x15 s15 c15)
          obtain ⟨r1, e1, hl⟩ := bnd_some HL.out
          have HL : Hid _ := hl
          have hc := clause_s rb ta cap T E hE [119, 104, 101, 114, 101] j15 op _ r1 hop HS.out.rdr e1
          (try unfold ptr fnV at hc)
          (try unfold ptr at hc)
          clear e1 hl
          go_wp2_with fail
          refine hc.mono ?_
          intro e w16 hpost
          clear hc
          cases r1 with
          | inl q =>
           obtain ⟨hG, HP⟩ := HS.out.bad2 (V := VX) (op' := op) HL.out hpost
           unfold GUs at hG
           subst hG
           clear hpost
           go_wp2
           exact ⟨rfl, HP.out⟩
          | inr q =>
           obtain ⟨x16, j16⟩ := q
           obtain ⟨s16, c16, rfl, HS⟩ := HS.out.okX hpost
           unfold xV nV
           have hl := HL.out
           rw [bnd_ok] at hl
           (try dsimp only at hl)
           have HL : Hid _ := hl
           clear hl hpost
           have HS : Hid (St rb ta cap T w [(w16.heap.size, (xL x16 s16 c16)), (w15.heap.size, (xL x15 s15 c15)), (w13.heap.size, (xL x13 s13 c13)), (w8.heap.size, (xL x8 s8 c8)), (w3.heap.size, (nL 53 x5b x10 q1d (.slice none 0 0))), (w.heap.size, z5)] [(x16, s16), (x15, s15), (x13, s13), (x8, s8)] j16 op (w16.alloc (xO x16 s16 c16))) := HS.out.newO (xL x16 s16 c16)
           obtain ⟨r1, e1, hl⟩ := bnd_some HL.out
           have HL : Hid _ := hl
           have hc := by_s rb ta cap T 80 (ent_of (fn := Tryz.f80) rfl (by decide) rfl) (fun i _ => E i) hE f [103, 114, 111, 117, 112] j16 op _ r1 hop HS.out.rdr e1
           (try unfold ptr fnV at hc)
           (try unfold ptr at hc)
           clear e1 hl
           go_wp2_with fail
           refine hc.mono ?_
           intro e w17 hpost
           clear hc
           cases r1 with
           | inl q =>
            obtain ⟨hG, HP⟩ := HS.out.bad2 (V := VX) (op' := op) HL.out hpost
            unfold GUs at hG
            subst hG
            clear hpost
            go_wp2
            exact ⟨rfl, HP.out⟩
           | inr q =>
            obtain ⟨x17, j17⟩ := q
            obtain ⟨s17, c17, rfl, HS⟩ := HS.out.okX hpost
            unfold xV nV
            have hl := HL.out
            rw [bnd_ok] at hl
            (try dsimp only at hl)
            have HL : Hid _ := hl
            clear hl hpost
            have HS : Hid (St rb ta cap T w [(w17.heap.size, (xL x17 s17 c17)), (w16.heap.size, (xL x16 s16 c16)), (w15.heap.size, (xL x15 s15 c15)), (w13.heap.size, (xL x13 s13 c13)), (w8.heap.size, (xL x8 s8 c8)), (w3.heap.size, (nL 53 x5b x10 q1d (.slice none 0 0))), (w.heap.size, z5)] [(x17, s17), (x16, s16), (x15, s15), (x13, s13), (x8, s8)] j17 op (w17.alloc (xO x17 s17 c17))) := HS.out.newO (xL x17 s17 c17)
            obtain ⟨r1, e1, hl⟩ := bnd_some HL.out
            have HL : Hid _ := hl
            have hc := clause_s rb ta cap T E hE [104, 97, 118, 105, 110, 103] j17 op _ r1 hop HS.out.rdr e1
            (try unfold ptr fnV at hc)
            (try unfold ptr at hc)
            clear e1 hl
            go_wp2_with fail
            refine hc.mono ?_
            intro e w18 hpost
            clear hc
            cases r1 with
            | inl q =>
             obtain ⟨hG, HP⟩ := HS.out.bad2 (V := VX) (op' := op) HL.out hpost
             unfold GUs at hG
             subst hG
             clear hpost
             go_wp2
             exact ⟨rfl, HP.out⟩
            | inr q =>
             obtain ⟨x18, j18⟩ := q
             obtain ⟨s18, c18, rfl, HS⟩ := HS.out.okX hpost
             unfold xV nV
             have hl := HL.out
             rw [bnd_ok] at hl
             (try dsimp only at hl)
             have HL : Hid _ := hl
             clear hl hpost
             have HS : Hid (St rb ta cap T w [(w18.heap.size, (xL x18 s18 c18)), (w17.heap.size, (xL x17 s17 c17)), (w16.heap.size, (xL x16 s16 c16)), (w15.heap.size, (xL x15 s15 c15)), (w13.heap.size, (xL x13 s13 c13)), (w8.heap.size, (xL x8 s8 c8)), (w3.heap.size, (nL 53 x5b x10 q1d (.slice none 0 0))), (w.heap.size, z5)] [(x18, s18), (x17, s17), (x16, s16), (x15, s15), (x13, s13), (x8, s8)] j18 op (w18.alloc (xO x18 s18 c18))) := HS.out.newO (xL x18 s18 c18)
             obtain ⟨r1, e1, hl⟩ := bnd_some HL.out
             have HL : Hid _ := hl
             have hc := rate_s rb ta cap T j18 op _ r1 hop HS.out.rdr e1
             (try unfold ptr fnV at hc)
             (try unfold ptr at hc)
             clear e1 hl
             go_wp2_with fail
             refine hc.mono ?_
             intro e w19 hpost
             clear hc
             cases r1 with
             | inl q =>
              obtain ⟨hG, HP⟩ := HS.out.bad2 (V := VX) (op' := op) HL.out hpost
              unfold GUs at hG
              subst hG
              clear hpost
              go_wp2
              exact ⟨rfl, HP.out⟩
             | inr q =>
              obtain ⟨x19, j19⟩ := q
              obtain ⟨s19, c19, rfl, HS⟩ := HS.out.okX hpost
              unfold xV nV
              have hl := HL.out
              rw [bnd_ok] at hl
              (try dsimp only at hl)
              have HL : Hid _ := hl
              clear hl hpost
              have HS : Hid (St rb ta cap T w [(w19.heap.size, (xL x19 s19 c19)), (w18.heap.size, (xL x18 s18 c18)), (w17.heap.size, (xL x17 s17 c17)), (w16.heap.size, (xL x16 s16 c16)), (w15.heap.size, (xL x15 s15 c15)), (w13.heap.size, (xL x13 s13 c13)), (w8.heap.size, (xL x8 s8 c8)), (w3.heap.size, (nL 53 x5b x10 q1d (.slice none 0 0))), (w.heap.size, z5)] [(x19, s19), (x18, s18), (x17, s17), (x16, s16), (x15, s15), (x13, s13), (x8, s8)] j19 op (w19.alloc (xO x19 s19 c19))) := HS.out.newO (xL x19 s19 c19)
              obtain ⟨r1, e1, hl⟩ := bnd_some HL.out
              have HL : Hid _ := hl
              have hc := by_s rb ta cap T 82 (ent_of (fn := Tryz.f82) rfl (by decide) rfl) (fun i _ => ordP T E i) (order_s rb ta cap T E hE) f [111, 114, 100, 101, 114] j19 op _ r1 hop HS.out.rdr e1
              (try unfold ptr fnV at hc)
              (try unfold ptr at hc)
              clear e1 hl
              go_wp2_with fail
              refine hc.mono ?_
              intro e w20 hpost
              clear hc
              cases r1 with
              | inl q =>
               obtain ⟨hG, HP⟩ := HS.out.bad2 (V := VX) (op' := op) HL.out hpost
               unfold GUs at hG
               subst hG
               clear hpost
               go_wp2
               exact ⟨rfl, HP.out⟩
              | inr q =>
               obtain ⟨x20, j20⟩ := q
               obtain ⟨s20, c20, rfl, HS⟩ := HS.out.okX hpost
               unfold xV nV
               have hl := HL.out
               rw [bnd_ok] at hl
               (try dsimp only at hl)
               have HL : Hid _ := hl
               clear hl hpost
               have HS : Hid (St rb ta cap T w [(w20.heap.size, (xL x20 s20 c20)), (w19.heap.size, (xL x19 s19 c19)), (w18.heap.size, (xL x18 s18 c18)), (w17.heap.size, (xL x17 s17 c17)), (w16.heap.size, (xL x16 s16 c16)), (w15.heap.size, (xL x15 s15 c15)), (w13.heap.size, (xL x13 s13 c13)), (w8.heap.size, (xL x8 s8 c8)), (w3.heap.size, (nL 53 x5b x10 q1d (.slice none 0 0))), (w.heap.size, z5)] [(x20, s20), (x19, s19), (x18, s18), (x17, s17), (x16, s16), (x15, s15), (x13, s13), (x8, s8)] j20 op (w20.alloc (xO x20 s20 c20))) := HS.out.newO (xL x20 s20 c20)
               obtain ⟨y21a, y21b, y21c, y21d, y21e⟩ := HS.out.c5 (List.mem_cons_of_mem _ (List.mem_cons_of_mem _ (List.mem_cons_of_mem _ (List.mem_cons_of_mem _ (List.mem_cons_of_mem _ (List.mem_cons_of_mem _ (List.mem_cons_of_mem _ List.mem_cons_self)))))))
               obtain ⟨y22a, y22b, y22c, y22d, y22e⟩ := HS.out.c5 (List.mem_cons_of_mem _ (List.mem_cons_of_mem _ (List.mem_cons_of_mem _ (List.mem_cons_of_mem _ (List.mem_cons_of_mem _ (List.mem_cons_of_mem _ List.mem_cons_self))))))
               obtain ⟨y23a, y23b, y23c, y23d, y23e⟩ := HS.out.c5 (List.mem_cons_of_mem _ (List.mem_cons_of_mem _ (List.mem_cons_of_mem _ (List.mem_cons_of_mem _ (List.mem_cons_of_mem _ List.mem_cons_self)))))
               obtain ⟨y24a, y24b, y24c, y24d, y24e⟩ := HS.out.c5 (List.mem_cons_of_mem _ (List.mem_cons_of_mem _ (List.mem_cons_of_mem _ (List.mem_cons_of_mem _ List.mem_cons_self))))
               obtain ⟨y25a, y25b, y25c, y25d, y25e⟩ := HS.out.c5 (List.mem_cons_of_mem _ (List.mem_cons_of_mem _ (List.mem_cons_of_mem _ List.mem_cons_self)))
               obtain ⟨y26a, y26b, y26c, y26d, y26e⟩ := HS.out.c5 (List.mem_cons_of_mem _ (List.mem_cons_of_mem _ List.mem_cons_self))
               obtain ⟨y27a, y27b, y27c, y27d, y27e⟩ := HS.out.c5 (List.mem_cons_of_mem _ List.mem_cons_self)
               obtain ⟨y28a, y28b, y28c, y28d, y28e⟩ := HS.out.c5 List.mem_cons_self
               have HS : Hid (St rb ta cap T w [((w20.heap.size + 1), (xC [(x8, s8, c8), (x13, s13, c13), (x15, s15, c15), (x16, s16, c16), (x17, s17, c17), (x18, s18, c18), (x20, s20, c20), (x19, s19, c19)])), (w20.heap.size, (xL x20 s20 c20)), (w19.heap.size, (xL x19 s19 c19)), (w18.heap.size, (xL x18 s18 c18)), (w17.heap.size, (xL x17 s17 c17)), (w16.heap.size, (xL x16 s16 c16)), (w15.heap.size, (xL x15 s15 c15)), (w13.heap.size, (xL x13 s13 c13)), (w8.heap.size, (xL x8 s8 c8)), (w3.heap.size, (nL 53 x5b x10 q1d (.slice none 0 0))), (w.heap.size, z5)] [(x20, s20), (x19, s19), (x18, s18), (x17, s17), (x16, s16), (x15, s15), (x13, s13), (x8, s8)] j20 op ((w20.alloc (xO x20 s20 c20)).alloc (.cells #[.int .i64 (xk x8), .string (bsA (xt x8)), .int .i64 (xn x8), .int .i64 (xa x8), .slice s8 (xl x8) c8, .int .i64 (xk x13), .string (bsA (xt x13)), .int .i64 (xn x13), .int .i64 (xa x13), .slice s13 (xl x13) c13, .int .i64 (xk x15), .string (bsA (xt x15)), .int .i64 (xn x15), .int .i64 (xa x15), .slice s15 (xl x15) c15, .int .i64 (xk x16), .string (bsA (xt x16)), .int .i64 (xn x16), .int .i64 (xa x16), .slice s16 (xl x16) c16, .int .i64 (xk x17), .string (bsA (xt x17)), .int .i64 (xn x17), .int .i64 (xa x17), .slice s17 (xl x17) c17, .int .i64 (xk x18), .string (bsA (xt x18)), .int .i64 (xn x18), .int .i64 (xa x18), .slice s18 (xl x18) c18, .int .i64 (xk x20), .string (bsA (xt x20)), .int .i64 (xn x20), .int .i64 (xa x20), .slice s20 (xl x20) c20, .int .i64 (xk x19), .string (bsA (xt x19)), .int .i64 (xn x19), .int .i64 (xa x19), .slice s19 (xl x19) c19] 34))) := HS.out.newO1 (xC [(x8, s8, c8), (x13, s13, c13), (x15, s15, c15), (x16, s16, c16), (x17, s17, c17), (x18, s18, c18), (x20, s20, c20), (x19, s19, c19)])
               obtain ⟨y29a, y29b, y29c, y29d, y29e⟩ := HS.out.c5 (List.mem_cons_of_mem _ (List.mem_cons_of_mem _ (List.mem_cons_of_mem _ (List.mem_cons_of_mem _ (List.mem_cons_of_mem _ (List.mem_cons_of_mem _ (List.mem_cons_of_mem _ (List.mem_cons_of_mem _ (List.mem_cons_of_mem _ List.mem_cons_self)))))))))
               obtain ⟨f29a, f29b, f29c, f29d, f29e⟩ := HS.out.f5 (List.mem_cons_of_mem _ (List.mem_cons_of_mem _ (List.mem_cons_of_mem _ (List.mem_cons_of_mem _ (List.mem_cons_of_mem _ (List.mem_cons_of_mem _ (List.mem_cons_of_mem _ (List.mem_cons_of_mem _ (List.mem_cons_of_mem _ List.mem_cons_self)))))))))
               have HS : Hid (St rb ta cap T w [((w20.heap.size + 1), (xC [(x8, s8, c8), (x13, s13, c13), (x15, s15, c15), (x16, s16, c16), (x17, s17, c17), (x18, s18, c18), (x20, s20, c20), (x19, s19, c19)])), (w20.heap.size, (xL x20 s20 c20)), (w19.heap.size, (xL x19 s19 c19)), (w18.heap.size, (xL x18 s18 c18)), (w17.heap.size, (xL x17 s17 c17)), (w16.heap.size, (xL x16 s16 c16)), (w15.heap.size, (xL x15 s15 c15)), (w13.heap.size, (xL x13 s13 c13)), (w8.heap.size, (xL x8 s8 c8)), (w3.heap.size, (nL 53 x5b x10 q1d (.slice (some ⟨(w20.heap.size + 1), 0, none⟩) 8 8))), (w.heap.size, z5)] [(x20, s20), (x19, s19), (x18, s18), (x17, s17), (x16, s16), (x15, s15), (x13, s13), (x8, s8)] j20 op (((w20.alloc (xO x20 s20 c20)).alloc (.cells #[.int .i64 (xk x8), .string (bsA (xt x8)), .int .i64 (xn x8), .int .i64 (xa x8), .slice s8 (xl x8) c8, .int .i64 (xk x13), .string (bsA (xt x13)), .int .i64 (xn x13), .int .i64 (xa x13), .slice s13 (xl x13) c13, .int .i64 (xk x15), .string (bsA (xt x15)), .int .i64 (xn x15), .int .i64 (xa x15), .slice s15 (xl x15) c15, .int .i64 (xk x16), .string (bsA (xt x16)), .int .i64 (xn x16), .int .i64 (xa x16), .slice s16 (xl x16) c16, .int .i64 (xk x17), .string (bsA (xt x17)), .int .i64 (xn x17), .int .i64 (xa x17), .slice s17 (xl x17) c17, .int .i64 (xk x18), .string (bsA (xt x18)), .int .i64 (xn x18), .int .i64 (xa x18), .slice s18 (xl x18) c18, .int .i64 (xk x20), .string (bsA (xt x20)), .int .i64 (xn x20), .int .i64 (xa x20), .slice s20 (xl x20) c20, .int .i64 (xk x19), .string (bsA (xt x19)), .int .i64 (xn x19), .int .i64 (xa x19), .slice s19 (xl x19) c19] 34)).setCell ⟨w3.heap.size, 4, none⟩ (.slice (some ⟨(w20.heap.size + 1), 0, none⟩) 8 8))) := St.put [((w20.heap.size + 1), (xC [(x8, s8, c8), (x13, s13, c13), (x15, s15, c15), (x16, s16, c16), (x17, s17, c17), (x18, s18, c18), (x20, s20, c20), (x19, s19, c19)])), (w20.heap.size, (xL x20 s20 c20)), (w19.heap.size, (xL x19 s19 c19)), (w18.heap.size, (xL x18 s18 c18)), (w17.heap.size, (xL x17 s17 c17)), (w16.heap.size, (xL x16 s16 c16)), (w15.heap.size, (xL x15 s15 c15)), (w13.heap.size, (xL x13 s13 c13)), (w8.heap.size, (xL x8 s8 c8))] HS.out 4 (.slice (some ⟨(w20.heap.size + 1), 0, none⟩) 8 8)
               obtain ⟨y30a, y30b, y30c, y30d, y30e⟩ := HS.out.c5 (List.mem_cons_of_mem _ (List.mem_cons_of_mem _ (List.mem_cons_of_mem _ (List.mem_cons_of_mem _ (List.mem_cons_of_mem _ (List.mem_cons_of_mem _ (List.mem_cons_of_mem _ (List.mem_cons_of_mem _ (List.mem_cons_of_mem _ List.mem_cons_self)))))))))
               have HS : Hid (St rb ta cap T w [(w20.heap.size, (xL x20 s20 c20)), (w19.heap.size, (xL x19 s19 c19)), (w18.heap.size, (xL x18 s18 c18)), (w17.heap.size, (xL x17 s17 c17)), (w16.heap.size, (xL x16 s16 c16)), (w15.heap.size, (xL x15 s15 c15)), (w13.heap.size, (xL x13 s13 c13)), (w8.heap.size, (xL x8 s8 c8)), (w3.heap.size, (nL 53 x5b x10 q1d (.slice (some ⟨(w20.heap.size + 1), 0, none⟩) 8 8))), (w.heap.size, z5)] [((mkX 53 x5b x10 q1d [x8, x13, x15, x16, x17, x18, x20, x19]), (some ⟨(w20.heap.size + 1), 0, none⟩)), (x20, s20), (x19, s19), (x18, s18), (x17, s17), (x16, s16), (x15, s15), (x13, s13), (x8, s8)] j20 op (((w20.alloc (xO x20 s20 c20)).alloc (.cells #[.int .i64 (xk x8), .string (bsA (xt x8)), .int .i64 (xn x8), .int .i64 (xa x8), .slice s8 (xl x8) c8, .int .i64 (xk x13), .string (bsA (xt x13)), .int .i64 (xn x13), .int .i64 (xa x13), .slice s13 (xl x13) c13, .int .i64 (xk x15), .string (bsA (xt x15)), .int .i64 (xn x15), .int .i64 (xa x15), .slice s15 (xl x15) c15, .int .i64 (xk x16), .string (bsA (xt x16)), .int .i64 (xn x16), .int .i64 (xa x16), .slice s16 (xl x16) c16, .int .i64 (xk x17), .string (bsA (xt x17)), .int .i64 (xn x17), .int .i64 (xa x17), .slice s17 (xl x17) c17, .int .i64 (xk x18), .string (bsA (xt x18)), .int .i64 (xn x18), .int .i64 (xa x18), .slice s18 (xl x18) c18, .int .i64 (xk x20), .string (bsA (xt x20)), .int .i64 (xn x20), .int .i64 (xa x20), .slice s20 (xl x20) c20, .int .i64 (xk x19), .string (bsA (xt x19)), .int .i64 (xn x19), .int .i64 (xa x19), .slice s19 (xl x19) c19] 34)).setCell ⟨w3.heap.size, 4, none⟩ (.slice (some ⟨(w20.heap.size + 1), 0, none⟩) 8 8))) := HS.out.row [] [(x8, s8, c8), (x13, s13, c13), (x15, s15, c15), (x16, s16, c16), (x17, s17, c17), (x18, s18, c18), (x20, s20, c20), (x19, s19, c19)] 53 x5b x10 q1d (by intro p hp; simp only [List.mem_cons, List.not_mem_nil, or_false] at hp; rcases hp with rfl | rfl | rfl | rfl | rfl | rfl | rfl | rfl <;> simp)
               obtain ⟨y31a, y31b, y31c, y31d, y31e⟩ := HS.out.c5 (List.mem_cons_of_mem _ (List.mem_cons_of_mem _ (List.mem_cons_of_mem _ (List.mem_cons_of_mem _ (List.mem_cons_of_mem _ (List.mem_cons_of_mem _ (List.mem_cons_of_mem _ (List.mem_cons_of_mem _ List.mem_cons_self))))))))
               obtain ⟨⟨d0, d1, d2, d3, d4⟩, ⟨g0, g1, g2, g3, g4⟩, hz⟩ := St.fin5 [(w20.heap.size, (xL x20 s20 c20)), (w19.heap.size, (xL x19 s19 c19)), (w18.heap.size, (xL x18 s18 c18)), (w17.heap.size, (xL x17 s17 c17)), (w16.heap.size, (xL x16 s16 c16)), (w15.heap.size, (xL x15 s15 c15)), (w13.heap.size, (xL x13 s13 c13)), (w8.heap.size, (xL x8 s8 c8)), (w3.heap.size, (nL 53 x5b x10 q1d (.slice (some ⟨(w20.heap.size + 1), 0, none⟩) 8 8)))] HS.out (v0 := .int .i64 53) (v1 := .string (bsA x5b)) (v2 := .int .i64 x10) (v3 := .int .i64 q1d) (v4 := .slice (some ⟨(w20.heap.size + 1), 0, none⟩) 8 8) (c := 8) HL.out List.mem_cons_self (mkX_V' _ _ _ _ _ _ _ _ rfl)
               obtain ⟨⟨z0, z1, z2, z3, z4⟩, HP⟩ := hz _ rfl
               clear hz HS HL
               go_wp2
               refine bodyPost_ret (v := .agg #[.int .i64 53, .string (bsA x5b), .int .i64 x10, .int .i64 q1d, .slice (some ⟨(w20.heap.size + 1), 0, none⟩) 8 8]) (by simp [results, Tryz.results46, go_sem, z0, z1, z2, z3, z4]) rfl HP.out
  | false =>
   have hl := HL.out
   simp only [if_true, if_false, Bool.false_eq_true] at hl
   have HL : Hid _ := hl
   clear hl
   have hl := HL.out
   unfold seqP at hl
   have HL : Hid _ := hl
   clear hl
   obtain ⟨r1, e1, hl⟩ := bnd_some HL.out
   have HL : Hid _ := hl
   have hc := into_s rb ta cap T j4 op _ r1 hop HS.out.rdr e1
   (try unfold ptr fnV at hc)
   (try unfold ptr at hc)
   clear e1 hl
   go_wp2_with fail
   refine hc.mono ?_
   intro e w5 hpost
   clear hc
   cases r1 with
   | inl q =>
    obtain ⟨hG, HP⟩ := HS.out.bad2 (V := VX) (op' := op) HL.out hpost
    unfold GUs at hG
    subst hG
    clear hpost
    go_wp2
    exact ⟨rfl, HP.out⟩
   | inr q =>
    obtain ⟨x5, j5⟩ := q
    obtain ⟨s5, c5, rfl, HS⟩ := HS.out.okX hpost
    unfold xV nV
    have hl := HL.out
    rw [bnd_ok] at hl
    (try dsimp only at hl)
    have HL : Hid _ := hl
    clear hl hpost
    have HS : Hid (St rb ta cap T w [(w5.heap.size, (xL x5 s5 c5)), (w3.heap.size, (nL 53 [] 0 q1d (.slice none 0 0))), (w.heap.size, z5)] [(x5, s5)] j5 op (w5.alloc (xO x5 s5 c5))) := HS.out.newO (xL x5 s5 c5)
    obtain ⟨r1, e1, hl⟩ := bnd_some HL.out
    have HL : Hid _ := hl
    have hc := needWord_s rb ta cap T [115, 101, 108, 101, 99, 116] j5 op _ r1 hop HS.out.rdr e1
    (try unfold ptr fnV at hc)
    (try unfold ptr at hc)
    clear e1 hl
    go_wp2_with fail
    refine hc.mono ?_
    intro e w6 hpost
    clear hc
    cases r1 with
    | inl q =>
     obtain ⟨hG, HP⟩ := HS.out.bad2 (V := VX) (op' := op) HL.out hpost
     unfold GUs at hG
     subst hG
     clear hpost
     go_wp2
     exact ⟨rfl, HP.out⟩
    | inr q =>
     obtain ⟨x6, j6⟩ := q
     obtain ⟨rfl, HS⟩ := HS.out.okT hpost
     obtain ⟨⟨x6a, x6b, x6c⟩, x6d⟩ := x6
     unfold ttV
     dsimp only
     have hl := HL.out
     rw [bnd_ok] at hl
     (try dsimp only at hl)
     have HL : Hid _ := hl
     clear hl hpost
     obtain ⟨r1, e1, hl⟩ := bnd_some HL.out
     have HL : Hid _ := hl
     have hc := told_s rb ta cap T j6 op _ r1 hop HS.out.rdr e1
     (try unfold ptr fnV at hc)
     (try unfold ptr at hc)
     clear e1 hl
     go_wp2_with fail
     refine hc.mono ?_
     intro e w7 hpost
     clear hc
     cases r1 with
     | inl q =>
      obtain ⟨hG, HP⟩ := HS.out.bad2 (V := VX) (op' := op) HL.out hpost
      unfold GUs at hG
      subst hG
      clear hpost
      go_wp2
      exact ⟨rfl, HP.out⟩
     | inr q =>
      obtain ⟨x7, j7⟩ := q
      obtain ⟨rfl, HS⟩ := HS.out.okI hpost
      have hl := HL.out
      rw [bnd_ok] at hl
      (try dsimp only at hl)
      have HL : Hid _ := hl
      clear hl hpost
      obtain ⟨y8a, y8b, y8c, y8d, y8e⟩ := HS.out.c5 (List.mem_cons_of_mem _ List.mem_cons_self)
      obtain ⟨f8a, f8b, f8c, f8d, f8e⟩ := HS.out.f5 (List.mem_cons_of_mem _ List.mem_cons_self)
      have HS : Hid (St rb ta cap T w [(w5.heap.size, (xL x5 s5 c5)), (w3.heap.size, (nL 53 [] x7 q1d (.slice none 0 0))), (w.heap.size, z5)] [(x5, s5)] j7 op (w7.setCell ⟨w3.heap.size, 2, none⟩ (.int .i64 x7))) := St.put [(w5.heap.size, (xL x5 s5 c5))] HS.out 2 (.int .i64 x7)
      obtain ⟨y9a, y9b, y9c, y9d, y9e⟩ := HS.out.c5 (List.mem_cons_of_mem _ List.mem_cons_self)
      obtain ⟨r1, e1, hl⟩ := bnd_some HL.out
      have HL : Hid _ := hl
      have hc := items_s rb ta cap T E hE f j7 op _ r1 hop HS.out.rdr e1
      (try unfold ptr fnV at hc)
      (try unfold ptr at hc)
      clear e1 hl
      go_wp2_with fail
      refine hc.mono ?_
      intro e w10 hpost
      clear hc y8a y8b y8c y8d y8e f8a f8b f8c f8d f8e y9a y9b y9c y9d y9e
      cases r1 with
      | inl q =>
       obtain ⟨hG, HP⟩ := HS.out.bad2 (V := VX) (op' := op) HL.out hpost
       unfold GUs at hG
       subst hG
       clear hpost
       go_wp2
       exact ⟨rfl, HP.out⟩
      | inr q =>
       obtain ⟨x10, j10⟩ := q
       obtain ⟨s10, c10, rfl, HS⟩ := HS.out.okX hpost
       unfold xV nV
       have hl := HL.out
       rw [bnd_ok] at hl
       (try dsimp only at hl)
       have HL : Hid _ := hl
       clear hl hpost
       have HS : Hid (St rb ta cap T w [(w10.heap.size, (xL x10 s10 c10)), (w5.heap.size, (xL x5 s5 c5)), (w3.heap.size, (nL 53 [] x7 q1d (.slice none 0 0))), (w.heap.size, z5)] [(x10, s10), (x5, s5)] j10 op (w10.alloc (xO x10 s10 c10))) := HS.out.newO (xL x10 s10 c10)
       obtain ⟨r1, e1, hl⟩ := bnd_some HL.out
       have HL : Hid _ := hl
       have hc := needWord_s rb ta cap T [102, 114, 111, 109] j10 op _ r1 hop HS.out.rdr e1
       (try unfold ptr fnV at hc)
       (try unfold ptr at hc)
       clear e1 hl
       go_wp2_with fail
       refine hc.mono ?_
       intro e w11 hpost
       clear hc
       cases r1 with
       | inl q =>
        obtain ⟨hG, HP⟩ := HS.out.bad2 (V := VX) (op' := op) HL.out hpost
        unfold GUs at hG
        subst hG
        clear hpost
        go_wp2
        exact ⟨rfl, HP.out⟩
       | inr q =>
        obtain ⟨x11, j11⟩ := q
        obtain ⟨rfl, HS⟩ := HS.out.okT hpost
        obtain ⟨⟨x11a, x11b, x11c⟩, x11d⟩ := x11
        unfold ttV
        dsimp only
        have hl := HL.out
        rw [bnd_ok] at hl
        (try dsimp only at hl)
        have HL : Hid _ := hl
        clear hl hpost
        obtain ⟨r1, e1, hl⟩ := bnd_some HL.out
        have HL : Hid _ := hl
        have hc := hgf j11 op _ r1 hop HS.out.rdr e1
        (try unfold ptr fnV at hc)
        (try unfold ptr at hc)
        clear e1 hl
        go_wp2_with fail
        refine hc.mono ?_
        intro e w12 hpost
        clear hc
        cases r1 with
        | inl q =>
         obtain ⟨hG, HP⟩ := HS.out.bad2 (V := VX) (op' := op) HL.out hpost
         unfold GUs at hG
         subst hG
         clear hpost
         go_wp2
         exact ⟨rfl, HP.out⟩
        | inr q =>
         obtain ⟨x12, j12⟩ := q
         obtain ⟨s12, c12, rfl, HS⟩ := HS.out.okX hpost
         unfold xV nV
         have hl := HL.out
         rw [bnd_ok] at hl
         (try dsimp only at hl)
         have HL : Hid _ := hl
         clear hl hpost
         have HS : Hid (St rb ta cap T w [(w12.heap.size, (xL x12 s12 c12)), (w10.heap.size, (xL x10 s10 c10)), (w5.heap.size, (xL x5 s5 c5)), (w3.heap.size, (nL 53 [] x7 q1d (.slice none 0 0))), (w.heap.size, z5)] [(x12, s12), (x10, s10), (x5, s5)] j12 op (w12.alloc (xO x12 s12 c12))) := HS.out.newO (xL x12 s12 c12)
         obtain ⟨r1, e1, hl⟩ := bnd_some HL.out
         have HL : Hid _ := hl
         have hc := clause_s rb ta cap T E hE [119, 104, 101, 114, 101] j12 op _ r1 hop HS.out.rdr e1
         (try unfold ptr fnV at hc)
         (try unfold ptr at hc)
         clear e1 hl
         go_wp2_with fail
         refine hc.mono ?_
         intro e w13 hpost
         clear hc
         cases r1 with
         | inl q =>
          obtain ⟨hG, HP⟩ := HS.out.bad2 (V := VX) (op' := op) HL.out hpost
          unfold GUs at hG
          subst hG
          clear hpost
          go_wp2
          exact ⟨rfl, HP.out⟩
         | inr q =>
          obtain ⟨x13, j13⟩ := q
          obtain ⟨s13, c13, rfl, HS⟩ := HS.out.okX hpost
          unfold xV nV
          have hl := HL.out
          rw [bnd_ok] at hl
          (try dsimp only at hl)
          have HL : Hid _ := hl
          clear hl hpost
          have HS : Hid (St rb ta cap T w [(w13.heap.size, (xL x13 s13 c13)), (w12.heap.size, (xL x12 s12 c12)), (w10.heap.size, (xL x10 s10 c10)), (w5.heap.size, (xL x5 s5 c5)), (w3.heap.size, (nL 53 [] x7 q1d (.slice none 0 0))), (w.heap.size, z5)] [(x13, s13), (x12, s12), (x10, s10), (x5, s5)] j13 op (w13.alloc (xO x13 s13 c13))) := HS.out.newO (xL x13 s13 c13)
          obtain ⟨r1, e1, hl⟩ := bnd_some HL.out
          have HL : Hid _ := hl
          have hc := by_s rb ta cap T 80 (ent_of (fn := Tryz.f80) rfl (by decide) rfl) (fun i _ => E i) hE f [103, 114, 111, 117, 112] j13 op _ r1 hop HS.out.rdr e1
          (try unfold ptr fnV at hc)
          (try unfold ptr at hc)
          clear e1 hl
          go_wp2_with fail
          refine hc.mono ?_
          intro e w14 hpost
          clear hc
          cases r1 with
          | inl q =>
           obtain ⟨hG, HP⟩ := HS.out.bad2 (V := VX) (op' := op) HL.out hpost
           unfold GUs at hG
           subst hG
           clear hpost
           go_wp2
           exact ⟨rfl, HP.out⟩
          | inr q =>
           obtain ⟨x14, j14⟩ := q
           obtain ⟨s14, c14, rfl, HS⟩ := HS.out.okX hpost
           unfold xV nV
           have hl := HL.out
           rw [bnd_ok] at hl
           (try dsimp only at hl)
           have HL : Hid _ := hl
           clear hl hpost
           have HS : Hid (St rb ta cap T w [(w14.heap.size, (xL x14 s14 c14)), (w13.heap.size, (xL x13 s13 c13)), (w12.heap.size, (xL x12 s12 c12)), (w10.heap.size, (xL x10 s10 c10)), (w5.heap.size, (xL x5 s5 c5)), (w3.heap.size, (nL 53 [] x7 q1d (.slice none 0 0))), (w.heap.size, z5)] [(x14, s14), (x13, s13), (x12, s12), (x10, s10), (x5, s5)] j14 op (w14.alloc (xO x14 s14 c14))) := HS.out.newO (xL x14 s14 c14)
           obtain ⟨r1, e1, hl⟩ := bnd_some HL.out
           have HL : Hid _ := hl
           have hc := clause_s rb ta cap T E hE [104, 97, 118, 105, 110, 103] j14 op _ r1 hop HS.out.rdr e1
           (try unfold ptr fnV at hc)
           (try unfold ptr at hc)
           clear e1 hl
           go_wp2_with fail
           refine hc.mono ?_
           intro e w15 hpost
           clear hc
           cases r1 with
           | inl q =>
            obtain ⟨hG, HP⟩ := HS.out.bad2 (V := VX) (op' := op) HL.out hpost
            unfold GUs at hG
            subst hG
            clear hpost
            go_wp2
            exact ⟨rfl, HP.out⟩
           | inr q =>
            obtain ⟨x15, j15⟩ := q
            obtain ⟨s15, c15, rfl, HS⟩ := HS.out.okX hpost
            unfold xV nV
            have hl := HL.out
            rw [bnd_ok] at hl
            (try dsimp only at hl)
            have HL : Hid _ := hl
            clear hl hpost
            have HS : Hid (St rb ta cap T w [(w15.heap.size, (xL x15 s15 c15)), (w14.heap.size, (xL x14 s14 c14)), (w13.heap.size, (xL x13 s13 c13)), (w12.heap.size, (xL x12 s12 c12)), (w10.heap.size, (xL x10 s10 c10)), (w5.heap.size, (xL x5 s5 c5)), (w3.heap.size, (nL 53 [] x7 q1d (.slice none 0 0))), (w.heap.size, z5)] [(x15, s15), (x14, s14), (x13, s13), (x12, s12), (x10, s10), (x5, s5)] j15 op (w15.alloc (xO x15 s15 c15))) := HS.out.newO (xL x15 s15 c15)
            obtain ⟨r1, e1, hl⟩ := bnd_some HL.out
            have HL : Hid _ := hl
            have hc := rate_s rb ta cap T j15 op _ r1 hop HS.out.rdr e1
            (try unfold ptr fnV at hc)
            (try unfold ptr at hc)
            clear e1 hl
            go_wp2_with fail
            refine hc.mono ?_
            intro e w16 hpost
            clear hc
            cases r1 with
            | inl q =>
             obtain ⟨hG, HP⟩ := HS.out.bad2 (V := VX) (op' := op) HL.out hpost
             unfold GUs at hG
             subst hG
             clear hpost
             go_wp2
             exact ⟨rfl, HP.out⟩
            | inr q =>
             obtain ⟨x16, j16⟩ := q
             obtain ⟨s16, c16, rfl, HS⟩ := HS.out.okX hpost
             unfold xV nV
             have hl := HL.out
             rw [bnd_ok] at hl
             (try dsimp only at hl)
             have HL : Hid _ := hl
             clear hl hpost
             have HS : Hid (St rb ta cap T w [(w16.heap.size, (xL x16 s16 c16)), (w15.heap.size, (xL x15 s15 c15)), (w14.heap.size, (xL x14 s14 c14)), (w13.heap.size, (xL x13 s13 c13)), (w12.heap.size, (xL x12 s12 c12)), (w10.heap.size, (xL x10 s10 c10)), (w5.heap.size, (xL x5 s5 c5)), (w3.heap.size, (nL 53 [] x7 q1d (.slice none 0 0))), (w.heap.size, z5)] [(x16, s16), (x15, s15), (x14, s14), (x13, s13), (x12, s12), (x10, s10), (x5, s5)] j16 op (w16.alloc (xO x16 s16 c16))) := HS.out.newO (xL x16 s16 c16)
             obtain ⟨r1, e1, hl⟩ := bnd_some HL.out
             have HL : Hid _ := hl
             have hc := by_s rb ta cap T 82 (ent_of (fn := Tryz.f82) rfl (by decide) rfl) (fun i _ => ordP T E i) (order_s rb ta cap T E hE) f [111, 114, 100, 101, 114] j16 op _ r1 hop HS.out.rdr e1
             (try unfold ptr fnV at hc)
             (try unfold ptr at hc)
             clear e1 hl
             go_wp2_with fail
             refine hc.mono ?_
             intro e w17 hpost
             clear hc
             cases r1 with
             | inl q =>
              obtain ⟨hG, HP⟩ := HS.out.bad2 (V := VX) (op' := op) HL.out hpost
              unfold GUs at hG
              subst hG
              clear hpost
              go_wp2
              exact ⟨rfl, HP.out⟩
             | inr q =>
              obtain ⟨x17, j17⟩ := q
              obtain ⟨s17, c17, rfl, HS⟩ := HS.out.okX hpost
              unfold xV nV
              have hl := HL.out
              rw [bnd_ok] at hl
              (try dsimp only at hl)
              have HL : Hid _ := hl
              clear hl hpost
              have HS : Hid (St rb ta cap T w [(w17.heap.size, (xL x17 s17 c17)), (w16.heap.size, (xL x16 s16 c16)), (w15.heap.size, (xL x15 s15 c15)), (w14.heap.size, (xL x14 s14 c14)), (w13.heap.size, (xL x13 s13 c13)), (w12.heap.size, (xL x12 s12 c12)), (w10.heap.size, (xL x10 s10 c10)), (w5.heap.size, (xL x5 s5 c5)), (w3.heap.size, (nL 53 [] x7 q1d (.slice none 0 0))), (w.heap.size, z5)] [(x17, s17), (x16, s16), (x15, s15), (x14, s14), (x13, s13), (x12, s12), (x10, s10), (x5, s5)] j17 op (w17.alloc (xO x17 s17 c17))) := HS.out.newO (xL x17 s17 c17)
              obtain ⟨y18a, y18b, y18c, y18d, y18e⟩ := HS.out.c5 (List.mem_cons_of_mem _ (List.mem_cons_of_mem _ (List.mem_cons_of_mem _ (List.mem_cons_of_mem _ (List.mem_cons_of_mem _ (List.mem_cons_of_mem _ (List.mem_cons_of_mem _ List.mem_cons_self)))))))
              obtain ⟨y19a, y19b, y19c, y19d, y19e⟩ := HS.out.c5 (List.mem_cons_of_mem _ (List.mem_cons_of_mem _ (List.mem_cons_of_mem _ (List.mem_cons_of_mem _ (List.mem_cons_of_mem _ (List.mem_cons_of_mem _ List.mem_cons_self))))))
              obtain ⟨y20a, y20b, y20c, y20d, y20e⟩ := HS.out.c5 (List.mem_cons_of_mem _ (List.mem_cons_of_mem _ (List.mem_cons_of_mem _ (List.mem_cons_of_mem _ (List.mem_cons_of_mem _ List.mem_cons_self)))))
              obtain ⟨y21a, y21b, y21c, y21d, y21e⟩ := HS.out.c5 (List.mem_cons_of_mem _ (List.mem_cons_of_mem _ (List.mem_cons_of_mem _ (List.mem_cons_of_mem _ List.mem_cons_self))))
              obtain ⟨y22a, y22b, y22c, y22d, y22e⟩ := HS.out.c5 (List.mem_cons_of_mem _ (List.mem_cons_of_mem _ (List.mem_cons_of_mem _ List.mem_cons_self)))
              obtain ⟨y23a, y23b, y23c, y23d, y23e⟩ := HS.out.c5 (List.mem_cons_of_mem _ (List.mem_cons_of_mem _ List.mem_cons_self))
              obtain ⟨y24a, y24b, y24c, y24d, y24e⟩ := HS.out.c5 (List.mem_cons_of_mem _ List.mem_cons_self)
              obtain ⟨y25a, y25b, y25c, y25d, y25e⟩ := HS.out.c5 List.mem_cons_self
              have HS : Hid (St rb ta cap T w [((w17.heap.size + 1), (xC [(x5, s5, c5), (x10, s10, c10), (x12, s12, c12), (x13, s13, c13), (x14, s14, c14), (x15, s15, c15), (x17, s17, c17), (x16, s16, c16)])), (w17.heap.size, (xL x17 s17 c17)), (w16.heap.size, (xL x16 s16 c16)), (w15.heap.size, (xL x15 s15 c15)), (w14.heap.size, (xL x14 s14 c14)), (w13.heap.size, (xL x13 s13 c13)), (w12.heap.size, (xL x12 s12 c12)), (w10.heap.size, (xL x10 s10 c10)), (w5.heap.size, (xL x5 s5 c5)), (w3.heap.size, (nL 53 [] x7 q1d (.slice none 0 0))), (w.heap.size, z5)] [(x17, s17), (x16, s16), (x15, s15), (x14, s14), (x13, s13), (x12, s12), (x10, s10), (x5, s5)] j17 op ((w17.alloc (xO x17 s17 c17)).alloc (.cells #[.int .i64 (xk x5), .string (bsA (xt x5)), .int .i64 (xn x5), .int .i64 (xa x5), .slice s5 (xl x5) c5, .int .i64 (xk x10), .string (bsA (xt x10)), .int .i64 (xn x10), .int .i64 (xa x10), .slice s10 (xl x10) c10, .int .i64 (xk x12), .string (bsA (xt x12)), .int .i64 (xn x12), .int .i64 (xa x12), .slice s12 (xl x12) c12, .int .i64 (xk x13), .string (bsA (xt x13)), .int .i64 (xn x13), .int .i64 (xa x13), .slice s13 (xl x13) c13, .int .i64 (xk x14), .string (bsA (xt x14)), .int .i64 (xn x14), .int .i64 (xa x14), .slice s14 (xl x14) c14, .int .i64 (xk x15), .string (bsA (xt x15)), .int .i64 (xn x15), .int .i64 (xa x15), .slice s15 (xl x15) c15, .int .i64 (xk x17), .string (bsA (xt x17)), .int .i64 (xn x17), .int .i64 (xa x17), .slice s17 (xl x17) c17, .int .i64 (xk x16), .string (bsA (xt x16)), .int .i64 (xn x16), .int .i64 (xa x16), .slice s16 (xl x16) c16] 34))) := HS.out.newO1 (xC [(x5, s5, c5), (x10, s10, c10), (x12, s12, c12), (x13, s13, c13), (x14, s14, c14), (x15, s15, c15), (x17, s17, c17), (x16, s16, c16)])
              obtain ⟨y26a, y26b, y26c, y26d, y26e⟩ := HS.out.c5 (List.mem_cons_of_mem _ (List.mem_cons_of_mem _ (List.mem_cons_of_mem _ (List.mem_cons_of_mem _ (List.mem_cons_of_mem _ (List.mem_cons_of_mem _ (List.mem_cons_of_mem _ (List.mem_cons_of_mem _ (List.mem_cons_of_mem _ List.mem_cons_self)))))))))
              obtain ⟨f26a, f26b, f26c, f26d, f26e⟩ := HS.out.f5 (List.mem_cons_of_mem _ (List.mem_cons_of_mem _ (List.mem_cons_of_mem _ (List.mem_cons_of_mem _ (List.mem_cons_of_mem _ (List.mem_cons_of_mem _ (List.mem_cons_of_mem _ (List.mem_cons_of_mem _ (List.mem_cons_of_mem _ List.mem_cons_self)))))))))
              have HS : Hid (St rb ta cap T w [((w17.heap.size + 1), (xC [(x5, s5, c5), (x10, s10, c10), (x12, s12, c12), (x13, s13, c13), (x14, s14, c14), (x15, s15, c15), (x17, s17, c17), (x16, s16, c16)])), (w17.heap.size, (xL x17 s17 c17)), (w16.heap.size, (xL x16 s16 c16)), (w15.heap.size, (xL x15 s15 c15)), (w14.heap.size, (xL x14 s14 c14)), (w13.heap.size, (xL x13 s13 c13)), (w12.heap.size, (xL x12 s12 c12)), (w10.heap.size, (xL x10 s10 c10)), (w5.heap.size, (xL x5 s5 c5)), (w3.heap.size, (nL 53 [] x7 q1d (.slice (some ⟨(w17.heap.size + 1), 0, none⟩) 8 8))), (w.heap.size, z5)] [(x17, s17), (x16, s16), (x15, s15), (x14, s14), (x13, s13), (x12, s12), (x10, s10), (x5, s5)] j17 op (((w17.alloc (xO x17 s17 c17)).alloc (.cells #[.int .i64 (xk x5), .string (bsA (xt x5)), .int .i64 (xn x5), .int .i64 (xa x5), .slice s5 (xl x5) c5, .int .i64 (xk x10), .string (bsA (xt x10)), .int .i64 (xn x10), .int .i64 (xa x10), .slice s10 (xl x10) c10, .int .i64 (xk x12), .string (bsA (xt x12)), .int .i64 (xn x12), .int .i64 (xa x12), .slice s12 (xl x12) c12, .int .i64 (xk x13), .string (bsA (xt x13)), .int .i64 (xn x13), .int .i64 (xa x13), .slice s13 (xl x13) c13, .int .i64 (xk x14), .string (bsA (xt x14)), .int .i64 (xn x14), .int .i64 (xa x14), .slice s14 (xl x14) c14, .int .i64 (xk x15), .string (bsA (xt x15)), .int .i64 (xn x15), .int .i64 (xa x15), .slice s15 (xl x15) c15, .int .i64 (xk x17), .string (bsA (xt x17)), .int .i64 (xn x17), .int .i64 (xa x17), .slice s17 (xl x17) c17, .int .i64 (xk x16), .string (bsA (xt x16)), .int .i64 (xn x16), .int .i64 (xa x16), .slice s16 (xl x16) c16] 34)).setCell ⟨w3.heap.size, 4, none⟩ (.slice (some ⟨(w17.heap.size + 1), 0, none⟩) 8 8))) := St.put [((w17.heap.size + 1), (xC [(x5, s5, c5), (x10, s10, c10), (x12, s12, c12), (x13, s13, c13), (x14, s14, c14), (x15, s15, c15), (x17, s17, c17), (x16, s16, c16)])), (w17.heap.size, (xL x17 s17 c17)), (w16.heap.size, (xL x16 s16 c16)), (w15.heap.size, (xL x15 s15 c15)), (w14.heap.size, (xL x14 s14 c14)), (w13.heap.size, (xL x13 s13 c13)), (w12.heap.size, (xL x12 s12 c12)), (w10.heap.size, (xL x10 s10 c10)), (w5.heap.size, (xL x5 s5 c5))] HS.out 4 (.slice (some ⟨(w17.heap.size + 1), 0, none⟩) 8 8)
              obtain ⟨y27a, y27b, y27c, y27d, y27e⟩ := HS.out.c5 (List.mem_cons_of_mem _ (List.mem_cons_of_mem _ (List.mem_cons_of_mem _ (List.mem_cons_of_mem _ (List.mem_cons_of_mem _ (List.mem_cons_of_mem _ (List.mem_cons_of_mem _ (List.mem_cons_of_mem _ (List.mem_cons_of_mem _ List.mem_cons_self)))))))))
              have HS : Hid (St rb ta cap T w [(w17.heap.size, (xL x17 s17 c17)), (w16.heap.size, (xL x16 s16 c16)), (w15.heap.size, (xL x15 s15 c15)), (w14.heap.size, (xL x14 s14 c14)), (w13.heap.size, (xL x13 s13 c13)), (w12.heap.size, (xL x12 s12 c12)), (w10.heap.size, (xL x10 s10 c10)), (w5.heap.size, (xL x5 s5 c5)), (w3.heap.size, (nL 53 [] x7 q1d (.slice (some ⟨(w17.heap.size + 1), 0, none⟩) 8 8))), (w.heap.size, z5)] [((mkX 53 [] x7 q1d [x5, x10, x12, x13, x14, x15, x17, x16]), (some ⟨(w17.heap.size + 1), 0, none⟩)), (x17, s17), (x16, s16), (x15, s15), (x14, s14), (x13, s13), (x12, s12), (x10, s10), (x5, s5)] j17 op (((w17.alloc (xO x17 s17 c17)).alloc (.cells #[.int .i64 (xk x5), .string (bsA (xt x5)), .int .i64 (xn x5), .int .i64 (xa x5), .slice s5 (xl x5) c5, .int .i64 (xk x10), .string (bsA (xt x10)), .int .i64 (xn x10), .int .i64 (xa x10), .slice s10 (xl x10) c10, .int .i64 (xk x12), .string (bsA (xt x12)), .int .i64 (xn x12), .int .i64 (xa x12), .slice s12 (xl x12) c12, .int .i64 (xk x13), .string (bsA (xt x13)), .int .i64 (xn x13), .int .i64 (xa x13), .slice s13 (xl x13) c13, .int .i64 (xk x14), .string (bsA (xt x14)), .int .i64 (xn x14), .int .i64 (xa x14), .slice s14 (xl x14) c14, .int .i64 (xk x15), .string (bsA (xt x15)), .int .i64 (xn x15), .int .i64 (xa x15), .slice s15 (xl x15) c15, .int .i64 (xk x17), .string (bsA (xt x17)), .int .i64 (xn x17), .int .i64 (xa x17), .slice s17 (xl x17) c17, .int .i64 (xk x16), .string (bsA (xt x16)), .int .i64 (xn x16), .int .i64 (xa x16), .slice s16 (xl x16) c16] 34)).setCell ⟨w3.heap.size, 4, none⟩ (.slice (some ⟨(w17.heap.size + 1), 0, none⟩) 8 8))) := HS.out.row [] [(x5, s5, c5), (x10, s10, c10), (x12, s12, c12), (x13, s13, c13), (x14, s14, c14), (x15, s15, c15), (x17, s17, c17), (x16, s16, c16)] 53 [] x7 q1d (by intro p hp; simp only [List.mem_cons, List.not_mem_nil, or_false] at hp; rcases hp with rfl | rfl | rfl | rfl | rfl | rfl | rfl | rfl <;> simp)
              obtain ⟨y28a, y28b, y28c, y28d, y28e⟩ := HS.out.c5 (List.mem_cons_of_mem _ (List.mem_cons_of_mem _ (List.mem_cons_of_mem _ (List.mem_cons_of_mem _ (List.mem_cons_of_mem _ (List.mem_cons_of_mem _ (List.mem_cons_of_mem _ (List.mem_cons_of_mem _ List.mem_cons_self))))))))
              obtain ⟨⟨d0, d1, d2, d3, d4⟩, ⟨g0, g1, g2, g3, g4⟩, hz⟩ := St.fin5 [(w17.heap.size, (xL x17 s17 c17)), (w16.heap.size, (xL x16 s16 c16)), (w15.heap.size, (xL x15 s15 c15)), (w14.heap.size, (xL x14 s14 c14)), (w13.heap.size, (xL x13 s13 c13)), (w12.heap.size, (xL x12 s12 c12)), (w10.heap.size, (xL x10 s10 c10)), (w5.heap.size, (xL x5 s5 c5)), (w3.heap.size, (nL 53 [] x7 q1d (.slice (some ⟨(w17.heap.size + 1), 0, none⟩) 8 8)))] HS.out (v0 := .int .i64 53) (v1 := .string (bsA [])) (v2 := .int .i64 x7) (v3 := .int .i64 q1d) (v4 := .slice (some ⟨(w17.heap.size + 1), 0, none⟩) 8 8) (c := 8) HL.out List.mem_cons_self (mkX_V' _ _ _ _ _ _ _ _ rfl)
              obtain ⟨⟨z0, z1, z2, z3, z4⟩, HP⟩ := hz _ rfl
              clear hz HS HL
              go_wp2
              refine bodyPost_ret (v := .agg #[.int .i64 53, .string (bsA []), .int .i64 x7, .int .i64 q1d, .slice (some ⟨(w17.heap.size + 1), 0, none⟩) 8 8]) (by simp [results, Tryz.results46, go_sem, z0, z1, z2, z3, z4]) rfl HP.out
end Go.Proofs.YtgdndahhledikaaGreatDoor
