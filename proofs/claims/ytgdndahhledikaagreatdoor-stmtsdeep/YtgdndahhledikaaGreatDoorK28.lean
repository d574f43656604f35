/- Syf. -/
import Derived.Test.YtgdndahhledikaaGreatDoorK20
import Derived.Deep.LoopGhost
namespace Go.Proofs.YtgdndahhledikaaGreatDoor
open Go.ChangeShapes Go.WideShapes Go.ChangeAt Go.RowKit
set_option linter.unusedSimpArgs false
set_option maxRecDepth 20000
set_option maxHeartbeats 4000000
def rwL (T : List Tt) : List (List UInt8) → Nat → Rz (List UInt8)
 | [], i => okR [97, 108, 108] i
 | t :: ts, i => if isT (tkI T i) 2 [t] = true then okR t (i + 1) else rwL T ts i
def rwW : List (List UInt8) := [[97, 108, 108], [102, 105, 114, 115, 116], [108, 97, 115, 116], [115, 110, 97, 112, 115, 104, 111, 116]]
def ratP (T : List Tt) (i : Nat) : Rz X :=
 if isT (tkI T i) 2 [[111, 117, 116, 112, 117, 116]] = true then bnd (rwL T rwW (i + 1)) fun s j => bnd (needP T 2 [101, 118, 101, 114, 121] j) fun _ j =>
  if (tkI T j).1.1 = 7 then bnd (nbP T 7 1 1099511627776 j) fun t j => okR (mkX 26 s t.1.2.2 (tkI T i).2 [mkX 15 [109, 115] 0 t.2 []]) j
  else bnd (nbP T 3 1 65536 j) fun t j => bnd (needP T 2 [101, 118, 101, 110, 116, 115] j) fun u j => okR (mkX 26 s t.1.2.2 (tkI T i).2 [mkX 15 [101, 118, 101, 110, 116, 115] 0 u.2 []]) j
 else okR (mkX 20 [] 0 0 []) i
theorem rateWord_s (rb : Nat) (ta : Option Addr) (cap : Nat) (T : List Tt) : Rds VS rb ta cap T 119 #[ptr rb] (fun i _ => rwL T rwW i) := by
 intro i op w r hop hr h
 dsimp only at h
 have HS0 : Hid (St rb ta cap T w [(w.heap.size, [.string ⟨#[97, 108, 108]⟩, .string ⟨#[102, 105, 114, 115, 116]⟩, .string ⟨#[108, 97, 115, 116]⟩, .string ⟨#[115, 110, 97, 112, 115, 104, 111, 116]⟩])] [] i op (w.alloc (.cells #[.string ⟨#[97, 108, 108]⟩, .string ⟨#[102, 105, 114, 115, 116]⟩, .string ⟨#[108, 97, 115, 116]⟩, .string ⟨#[115, 110, 97, 112, 115, 104, 111, 116]⟩] 9))) := (St.start hr).newO _
 have HL0 : Hid (rwL T (rwW.drop 0) i = some r) := h
 have hlt := cell_lt hr.c0
 unfold ptr
 clear hr h
 go_enter Tryz.func119, Tryz.ntmps119
 go_wp2
 go_loopg [7] 4 (fun gk v wr => ∃ m : Nat, v = .int .i64 m ∧ gk + m = 4 ∧ St rb ta cap T w [(w.heap.size, [.string ⟨#[97, 108, 108]⟩, .string ⟨#[102, 105, 114, 115, 116]⟩, .string ⟨#[108, 97, 115, 116]⟩, .string ⟨#[115, 110, 97, 112, 115, 104, 111, 116]⟩])] [] i op wr ∧ rwL T (rwW.drop m) i = some r)
 case atStart => exact ⟨0, rfl, rfl, HS0.out, HL0.out⟩
 case round =>
  obtain ⟨m, rfl, hgm, hS, hl⟩ := hrel
  have HS : Hid (St rb ta cap T w [(w.heap.size, [.string ⟨#[97, 108, 108]⟩, .string ⟨#[102, 105, 114, 115, 116]⟩, .string ⟨#[108, 97, 115, 116]⟩, .string ⟨#[115, 110, 97, 112, 115, 104, 111, 116]⟩])] [] i op wr) := hS
  have HL : Hid (rwL T (rwW.drop m) i = some r) := hl
  clear hS hl HS0 HL0
  rcases Nat.lt_or_ge m 4 with hm | hm
  ·
   have hmi : ((m : Int) < 4) = True := eq_true (by omega)
   obtain ⟨ct, hct, hdr⟩ : ∃ ct, [.string ⟨#[97, 108, 108]⟩, .string ⟨#[102, 105, 114, 115, 116]⟩, .string ⟨#[108, 97, 115, 116]⟩, .string ⟨#[115, 110, 97, 112, 115, 104, 111, 116]⟩][m]? = some (Value.string (bsA ct)) ∧ rwW.drop m = ct :: rwW.drop (m + 1) := by
    match m, hm with
    | 0, _ => exact ⟨_, rfl, rfl⟩
    | 1, _ => exact ⟨_, rfl, rfl⟩
    | 2, _ => exact ⟨_, rfl, rfl⟩
    | 3, _ => exact ⟨_, rfl, rfl⟩
   have y0 := HS.out.get List.mem_cons_self m hct
   have hl := HL.out
   clear HL hct
   rw [hdr] at hl
   unfold rwL at hl
   have HLr : Hid ((if isT (tkI T i) 2 [ct] = true then okR ct (i + 1) else rwL T (rwW.drop (m + 1)) i) = some r) := hl
   clear hl hdr
   obtain ⟨r1, e1⟩ : ∃ r1, pasP T 2 ct i = some r1 := by unfold pasP; cases isT (tkI T i) 2 [ct] <;> exact ⟨_, rfl⟩
   have hc := passesWord_s rb ta cap T ct i op _ r1 hop HS.out.rdr e1
   unfold ptr at hc
   unfold pasP at e1
   cases hb : isT (tkI T i) 2 [ct] with
   | true =>
    have hl := HLr.out
    rw [if_pos hb] at hl
    have HRR : Hid (r = .inr (ct, i + 1)) := okR_eq hl
    rw [if_pos hb] at e1
    obtain rfl := okR_eq e1
    clear hl hb e1 HLr
    go_wp2_with fail
    refine hc.mono ?_
    intro e w2 hpost
    obtain ⟨rfl, HS⟩ := HS.out.okB hpost
    have HP : Hid _ := HS.out.giv (V := VS) (x := ct) (v := .string (bsA ct)) rfl
    clear hc y0 hpost HS
    go_wp2
    go_ret
    rw [HRR.out]
    exact HP.out
   | false =>
    have hl := HLr.out
    rw [if_neg (by rw [hb]; decide)] at hl
    have HLf : Hid (rwL T (rwW.drop (m + 1)) i = some r) := hl
    rw [if_neg (by rw [hb]; decide)] at e1
    obtain rfl := okR_eq e1
    clear hl hb e1 HLr
    go_wp2_with fail
    refine hc.mono ?_
    intro e w2 hpost
    obtain ⟨rfl, HS⟩ := HS.out.okB hpost
    clear hc y0 hpost
    go_wp2
    go_roundg (4 - (m + 1))
    case measure => omega
    case rel => exact ⟨m + 1, by go_num, by omega, HS.out, HLf.out⟩
  ·
   have hmi : ((m : Int) < 4) = False := eq_false (by omega)
   have hdr : rwW.drop m = [] := List.drop_eq_nil_of_le hm
   have hl := HL.out
   rw [hdr] at hl
   have HRR : Hid (r = .inr ([97, 108, 108], i)) := okR_eq hl
   have HP : Hid _ := HS.out.giv (V := VS) (x := [97, 108, 108]) (v := .string (bsA [97, 108, 108])) rfl
   clear hl hdr HL HS
   go_wp2
   go_ret
   rw [HRR.out]
   exact HP.out
theorem rate_s (rb : Nat) (ta : Option Addr) (cap : Nat) (T : List Tt)  : Rds VX rb ta cap T 81 #[ptr rb] (fun i _ => ratP T i) := by
 intro i op w r hop hr h
 (try dsimp only at h)
 have HS : Hid (St rb ta cap T w [] [] i op w) := St.start hr
 unfold ratP at h
 have HL : Hid _ := h
 have hlt := cell_lt hr.c0
 clear hr h 
 unfold ptr
 go_enter Tryz.func81, Tryz.ntmps81
 have HS : Hid (St rb ta cap T w [(w.heap.size, z5)] [] i op (w.alloc o5)) := HS.out.newO z5
 have HIT : Hid (isT (tkI T i) 2 [[111, 117, 116, 112, 117, 116]] = true → i < T.length) := fun h => isT_tk h (by decide)
 cases hb : isT (tkI T i) 2 [[111, 117, 116, 112, 117, 116]] with
 | true =>
  have HIT : Hid (i < T.length) := HIT.out hb
  have HB : Hid _ := hb
  have hl := HL.out
  simp only [hb, if_true, if_false, Bool.false_eq_true] at hl
  have HL : Hid _ := hl
  clear hl hb
  have hc := seesWord_any rb ta cap T i op [111, 117, 116, 112, 117, 116] _ HS.out.rdr
  rw [HB.out] at hc
  unfold ptr at hc
  go_wp2_with fail
  refine hc.mono ?_
  rintro e w1 ⟨rfl, hb⟩
  have HS : Hid (St rb ta cap T w [(w.heap.size, z5)] [] i op w1) := HS.out.below hb
  clear hc hb
  obtain ⟨⟨⟨q2a, q2b, q2c⟩, q2d⟩, hq⟩ : ∃ q, tkI T i = q := ⟨_, rfl⟩
  have HQ2 : Hid (tkI T i = ((q2a, q2b, q2c), q2d)) := hq
  have hl := HL.out
  (try rw [hq] at hl)
  (try dsimp only at hl)
  have HL : Hid _ := hl
  clear hl hq
  have hc := take_s rb ta cap T i op _ HS.out.rdr HIT.out
  rw [HQ2.out] at hc
  unfold ptr ttV at hc
  dsimp only at hc
  go_wp2_with fail
  refine hc.mono ?_
  rintro e w3 ⟨rfl, hr, hf⟩
  have HS : Hid (St rb ta cap T w [(w.heap.size, z5)] [] (i + 1) op w3) := HS.out.call hf hr
  clear hc hr hf
  have hc := node_s 26 ((q2a, q2b, q2c), q2d) none 0 0 w3
  (try unfold ttV at hc)
  (try unfold nV at hc)
  (try dsimp only at hc)
  go_wp2_with fail
  refine hc.mono ?_
  rintro e w4 ⟨rfl, hb⟩
  have HS : Hid (St rb ta cap T w [(w.heap.size, z5)] [] (i + 1) op w4) := HS.out.below hb
  clear hc hb
  have HS : Hid (St rb ta cap T w [(w4.heap.size, (nL 26 [] 0 q2d (.slice none 0 0))), (w.heap.size, z5)] [] (i + 1) op (w4.alloc (nO 26 [] 0 q2d (.slice none 0 0)))) := HS.out.newO (nL 26 [] 0 q2d (.slice none 0 0))
  obtain ⟨r1, e1, hl⟩ := bnd_some HL.out
  have HL : Hid _ := hl
  have hc := rateWord_s rb ta cap T (i + 1) op _ r1 hop HS.out.rdr e1
  (try unfold ptr at hc)
  clear e1 hl
  go_wp2_with fail
  refine hc.mono ?_
  intro e w5 hpost
  clear hc
  cases r1 with
  | inl q =>
   obtain ⟨hG, HP⟩ := HS.out.bad2 (V := VX) (op' := op) HL.out hpost
   unfold GUs at hG
   subst hG
   clear hpost
   go_wp2
   exact ⟨rfl, HP.out⟩
  | inr q =>
   obtain ⟨x5, j5⟩ := q
   obtain ⟨rfl, HS⟩ := HS.out.okS hpost
   have hl := HL.out
   rw [bnd_ok] at hl
   (try dsimp only at hl)
   have HL : Hid _ := hl
   clear hl hpost
   obtain ⟨y6a, y6b, y6c, y6d, y6e⟩ := HS.out.c5 List.mem_cons_self
   obtain ⟨f6a, f6b, f6c, f6d, f6e⟩ := HS.out.f5 List.mem_cons_self
   have HS : Hid (St rb ta cap T w [(w4.heap.size, (nL 26 x5 0 q2d (.slice none 0 0))), (w.heap.size, z5)] [] j5 op (w5.setCell ⟨w4.heap.size, 1, none⟩ (.string (bsA x5)))) := St.put [] HS.out 1 (.string (bsA x5))
   obtain ⟨y7a, y7b, y7c, y7d, y7e⟩ := HS.out.c5 List.mem_cons_self
   obtain ⟨r1, e1, hl⟩ := bnd_some HL.out
   have HL : Hid _ := hl
   have hc := needWord_s rb ta cap T [101, 118, 101, 114, 121] j5 op _ r1 hop HS.out.rdr e1
   (try unfold ptr at hc)
   clear e1 hl
   go_wp2_with fail
   refine hc.mono ?_
   intro e w8 hpost
   clear hc y6a y6b y6c y6d y6e f6a f6b f6c f6d f6e y7a y7b y7c y7d y7e
   cases r1 with
   | inl q =>
    obtain ⟨hG, HP⟩ := HS.out.bad2 (V := VX) (op' := op) HL.out hpost
    unfold GUs at hG
    subst hG
    clear hpost
    go_wp2
    exact ⟨rfl, HP.out⟩
   | inr q =>
    obtain ⟨x8, j8⟩ := q
    obtain ⟨rfl, HS⟩ := HS.out.okT hpost
    obtain ⟨⟨x8a, x8b, x8c⟩, x8d⟩ := x8
    unfold ttV
    dsimp only
    have hl := HL.out
    rw [bnd_ok] at hl
    (try dsimp only at hl)
    have HL : Hid _ := hl
    clear hl hpost
    obtain ⟨⟨⟨q9a, q9b, q9c⟩, q9d⟩, hq⟩ : ∃ q, tkI T j8 = q := ⟨_, rfl⟩
    have HQ9 : Hid (tkI T j8 = ((q9a, q9b, q9c), q9d)) := hq
    have hl := HL.out
    (try rw [hq] at hl)
    (try dsimp only at hl)
    have HL : Hid _ := hl
    clear hl hq
    have hc := next_any rb ta cap T j8 op _ HS.out.rdr
    rw [HQ9.out] at hc
    (try unfold ptr at hc)
    (try unfold ttV at hc)
    (try dsimp only at hc)
    go_wp2_with fail
    refine hc.mono ?_
    rintro e w10 ⟨rfl, hb⟩
    have HS : Hid (St rb ta cap T w [(w4.heap.size, (nL 26 x5 0 q2d (.slice none 0 0))), (w.heap.size, z5)] [] j8 op w10) := HS.out.below hb
    clear hc hb
    have hfd := field26_0 q9a q9b q9c q9d
    by_cases hk7 : q9a = 7
    ·
     have g7 : (q9a == 7) = true := by simp [hk7]
     have hl := HL.out
     rw [if_pos hk7] at hl
     have HL : Hid _ := hl
     clear hl hk7
     obtain ⟨r1, e1, hl⟩ := bnd_some HL.out
     have HL : Hid _ := hl
     have hc := period_s rb ta cap T 1 j8 op _ r1 hop HS.out.rdr e1
     (try unfold ptr at hc)
     clear e1 hl
     go_wp2_with fail
     refine hc.mono ?_
     intro e w11 hpost
     clear hc
     cases r1 with
     | inl q =>
      obtain ⟨hG, HP⟩ := HS.out.bad2 (V := VX) (op' := op) HL.out hpost
      unfold GUs at hG
      subst hG
      clear hpost
      go_wp2
      exact ⟨rfl, HP.out⟩
     | inr q =>
      obtain ⟨x11, j11⟩ := q
      obtain ⟨rfl, HS⟩ := HS.out.okT hpost
      obtain ⟨⟨x11a, x11b, x11c⟩, x11d⟩ := x11
      unfold ttV
      dsimp only
      have hl := HL.out
      rw [bnd_ok] at hl
      (try dsimp only at hl)
      have HL : Hid _ := hl
      clear hl hpost
      have HS : Hid (St rb ta cap T w [(w11.heap.size, (tL x11a x11b x11c x11d)), (w4.heap.size, (nL 26 x5 0 q2d (.slice none 0 0))), (w.heap.size, z5)] [] j11 op (w11.alloc (tO x11a x11b x11c x11d))) := HS.out.newO (tL x11a x11b x11c x11d)
      obtain ⟨y12a, y12b, y12c, y12d⟩ := HS.out.c4 List.mem_cons_self
      obtain ⟨y13a, y13b, y13c, y13d, y13e⟩ := HS.out.c5 (List.mem_cons_of_mem _ List.mem_cons_self)
      obtain ⟨f13a, f13b, f13c, f13d, f13e⟩ := HS.out.f5 (List.mem_cons_of_mem _ List.mem_cons_self)
      have HS : Hid (St rb ta cap T w [(w11.heap.size, (tL x11a x11b x11c x11d)), (w4.heap.size, (nL 26 x5 x11c q2d (.slice none 0 0))), (w.heap.size, z5)] [] j11 op ((w11.alloc (tO x11a x11b x11c x11d)).setCell ⟨w4.heap.size, 2, none⟩ (.int .i64 x11c))) := St.put [(w11.heap.size, (tL x11a x11b x11c x11d))] HS.out 2 (.int .i64 x11c)
      obtain ⟨y14a, y14b, y14c, y14d, y14e⟩ := HS.out.c5 (List.mem_cons_of_mem _ List.mem_cons_self)
      obtain ⟨y15a, y15b, y15c, y15d⟩ := HS.out.c4 List.mem_cons_self
      have hc := unit_s [109, 115] ((x11a, x11b, x11c), x11d) ((w11.alloc (tO x11a x11b x11c x11d)).setCell ⟨w4.heap.size, 2, none⟩ (.int .i64 x11c))
      (try unfold ttV at hc)
      (try unfold nV at hc)
      (try dsimp only at hc)
      go_wp2_with fail
      refine hc.mono ?_
      rintro e w16 ⟨rfl, hb⟩
      have HS : Hid (St rb ta cap T w [(w11.heap.size, (tL x11a x11b x11c x11d)), (w4.heap.size, (nL 26 x5 x11c q2d (.slice none 0 0))), (w.heap.size, z5)] [] j11 op w16) := HS.out.below hb
      clear hc hb y12a y12b y12c y12d y13a y13b y13c y13d y13e f13a f13b f13c f13d f13e y14a y14b y14c y14d y14e y15a y15b y15c y15d
      have HS : Hid (St rb ta cap T w [(w11.heap.size, (tL x11a x11b x11c x11d)), (w4.heap.size, (nL 26 x5 x11c q2d (.slice none 0 0))), (w.heap.size, z5)] [((mkX 15 [109, 115] 0 x11d []), none)] j11 op w16) := HS.out.leaf 15 [109, 115] 0 x11d none
      have HS : Hid (St rb ta cap T w [(w16.heap.size, (nL 15 [109, 115] 0 x11d (.slice none 0 0))), (w11.heap.size, (tL x11a x11b x11c x11d)), (w4.heap.size, (nL 26 x5 x11c q2d (.slice none 0 0))), (w.heap.size, z5)] [((mkX 15 [109, 115] 0 x11d []), none)] j11 op (w16.alloc (nO 15 [109, 115] 0 x11d (.slice none 0 0)))) := HS.out.newO (nL 15 [109, 115] 0 x11d (.slice none 0 0))
      obtain ⟨y17a, y17b, y17c, y17d, y17e⟩ := HS.out.c5 (List.mem_cons_of_mem _ (List.mem_cons_of_mem _ List.mem_cons_self))
      obtain ⟨f17a, f17b, f17c, f17d, f17e⟩ := HS.out.f5 (List.mem_cons_of_mem _ (List.mem_cons_of_mem _ List.mem_cons_self))
      have HS : Hid (St rb ta cap T w [(w16.heap.size, (nL 15 [109, 115] 0 x11d (.slice none 0 0))), (w11.heap.size, (tL x11a x11b x11c x11d)), (w4.heap.size, (nL 26 x5 x11c q2d (.slice (some ⟨w16.heap.size, 0, none⟩) 1 1))), (w.heap.size, z5)] [((mkX 15 [109, 115] 0 x11d []), none)] j11 op ((w16.alloc (nO 15 [109, 115] 0 x11d (.slice none 0 0))).setCell ⟨w4.heap.size, 4, none⟩ (.slice (some ⟨w16.heap.size, 0, none⟩) 1 1))) := St.put [(w16.heap.size, (nL 15 [109, 115] 0 x11d (.slice none 0 0))), (w11.heap.size, (tL x11a x11b x11c x11d))] HS.out 4 (.slice (some ⟨w16.heap.size, 0, none⟩) 1 1)
      obtain ⟨y18a, y18b, y18c, y18d, y18e⟩ := HS.out.c5 (List.mem_cons_of_mem _ (List.mem_cons_of_mem _ List.mem_cons_self))
      have HS : Hid (St rb ta cap T w [(w11.heap.size, (tL x11a x11b x11c x11d)), (w4.heap.size, (nL 26 x5 x11c q2d (.slice (some ⟨w16.heap.size, 0, none⟩) 1 1))), (w.heap.size, z5)] [((mkX 26 x5 x11c q2d [(mkX 15 [109, 115] 0 x11d [])]), (some ⟨w16.heap.size, 0, none⟩)), ((mkX 15 [109, 115] 0 x11d []), none)] j11 op ((w16.alloc (nO 15 [109, 115] 0 x11d (.slice none 0 0))).setCell ⟨w4.heap.size, 4, none⟩ (.slice (some ⟨w16.heap.size, 0, none⟩) 1 1))) := HS.out.row [] [((mkX 15 [109, 115] 0 x11d []), none, 0)] 26 x5 x11c q2d (by intro p hp; simp only [List.mem_cons, List.not_mem_nil, or_false] at hp; rcases hp with rfl <;> simp)
      obtain ⟨y19a, y19b, y19c, y19d, y19e⟩ := HS.out.c5 (List.mem_cons_of_mem _ List.mem_cons_self)
      obtain ⟨⟨d0, d1, d2, d3, d4⟩, ⟨g0, g1, g2, g3, g4⟩, hz⟩ := St.fin5 [(w11.heap.size, (tL x11a x11b x11c x11d)), (w4.heap.size, (nL 26 x5 x11c q2d (.slice (some ⟨w16.heap.size, 0, none⟩) 1 1)))] HS.out (v0 := .int .i64 26) (v1 := .string (bsA x5)) (v2 := .int .i64 x11c) (v3 := .int .i64 q2d) (v4 := .slice (some ⟨w16.heap.size, 0, none⟩) 1 1) (c := 1) HL.out List.mem_cons_self (mkX_V' _ _ _ _ _ _ _ _ rfl)
      obtain ⟨⟨z0, z1, z2, z3, z4⟩, HP⟩ := hz _ rfl
      clear hz HS HL
      go_wp2
      refine bodyPost_ret (v := .agg #[.int .i64 26, .string (bsA x5), .int .i64 x11c, .int .i64 q2d, .slice (some ⟨w16.heap.size, 0, none⟩) 1 1]) (by simp [results, Tryz.results81, go_sem, z0, z1, z2, z3, z4]) rfl HP.out
    ·
     have g7 : (q9a == 7) = false := by simpa using hk7
     have hl := HL.out
     rw [if_neg hk7] at hl
     have HL : Hid _ := hl
     clear hl hk7
     obtain ⟨r1, e1, hl⟩ := bnd_some HL.out
     have HL : Hid _ := hl
     have hc := size_s rb ta cap T j8 op _ r1 hop HS.out.rdr e1
     (try unfold ptr at hc)
     clear e1 hl
     go_wp2_with fail
     refine hc.mono ?_
     intro e w11 hpost
     clear hc
     cases r1 with
     | inl q =>
      obtain ⟨hG, HP⟩ := HS.out.bad2 (V := VX) (op' := op) HL.out hpost
      unfold GUs at hG
      subst hG
      clear hpost
      go_wp2
      exact ⟨rfl, HP.out⟩
     | inr q =>
      obtain ⟨x11, j11⟩ := q
      obtain ⟨rfl, HS⟩ := HS.out.okT hpost
      obtain ⟨⟨x11a, x11b, x11c⟩, x11d⟩ := x11
      unfold ttV
      dsimp only
      have hl := HL.out
      rw [bnd_ok] at hl
      (try dsimp only at hl)
      have HL : Hid _ := hl
      clear hl hpost
      have hfe := field26_2 x11a x11b x11c x11d
      obtain ⟨y12a, y12b, y12c, y12d, y12e⟩ := HS.out.c5 List.mem_cons_self
      obtain ⟨f12a, f12b, f12c, f12d, f12e⟩ := HS.out.f5 List.mem_cons_self
      have HS : Hid (St rb ta cap T w [(w4.heap.size, (nL 26 x5 x11c q2d (.slice none 0 0))), (w.heap.size, z5)] [] j11 op (w11.setCell ⟨w4.heap.size, 2, none⟩ (.int .i64 x11c))) := St.put [] HS.out 2 (.int .i64 x11c)
      obtain ⟨y13a, y13b, y13c, y13d, y13e⟩ := HS.out.c5 List.mem_cons_self
      obtain ⟨r1, e1, hl⟩ := bnd_some HL.out
      have HL : Hid _ := hl
      have hc := needWord_s rb ta cap T [101, 118, 101, 110, 116, 115] j11 op _ r1 hop HS.out.rdr e1
      (try unfold ptr at hc)
      clear e1 hl
      go_wp2_with fail
      refine hc.mono ?_
      intro e w14 hpost
      clear hc y12a y12b y12c y12d y12e f12a f12b f12c f12d f12e y13a y13b y13c y13d y13e
      cases r1 with
      | inl q =>
       obtain ⟨hG, HP⟩ := HS.out.bad2 (V := VX) (op' := op) HL.out hpost
       unfold GUs at hG
       subst hG
       clear hpost
       go_wp2
       exact ⟨rfl, HP.out⟩
      | inr q =>
       obtain ⟨x14, j14⟩ := q
       obtain ⟨rfl, HS⟩ := HS.out.okT hpost
       obtain ⟨⟨x14a, x14b, x14c⟩, x14d⟩ := x14
       unfold ttV
       dsimp only
       have hl := HL.out
       rw [bnd_ok] at hl
       (try dsimp only at hl)
       have HL : Hid _ := hl
       clear hl hpost
       have hc := unit_s [101, 118, 101, 110, 116, 115] ((x14a, x14b, x14c), x14d) w14
       (try unfold ttV at hc)
       (try unfold nV at hc)
       (try dsimp only at hc)
       go_wp2_with fail
       refine hc.mono ?_
       rintro e w15 ⟨rfl, hb⟩
       have HS : Hid (St rb ta cap T w [(w4.heap.size, (nL 26 x5 x11c q2d (.slice none 0 0))), (w.heap.size, z5)] [] j14 op w15) := HS.out.below hb
       clear hc hb
       have HS : Hid (St rb ta cap T w [(w4.heap.size, (nL 26 x5 x11c q2d (.slice none 0 0))), (w.heap.size, z5)] [((mkX 15 [101, 118, 101, 110, 116, 115] 0 x14d []), none)] j14 op w15) := HS.out.leaf 15 [101, 118, 101, 110, 116, 115] 0 x14d none
       have HS : Hid (St rb ta cap T w [(w15.heap.size, (nL 15 [101, 118, 101, 110, 116, 115] 0 x14d (.slice none 0 0))), (w4.heap.size, (nL 26 x5 x11c q2d (.slice none 0 0))), (w.heap.size, z5)] [((mkX 15 [101, 118, 101, 110, 116, 115] 0 x14d []), none)] j14 op (w15.alloc (nO 15 [101, 118, 101, 110, 116, 115] 0 x14d (.slice none 0 0)))) := HS.out.newO (nL 15 [101, 118, 101, 110, 116, 115] 0 x14d (.slice none 0 0))
       obtain ⟨y16a, y16b, y16c, y16d, y16e⟩ := HS.out.c5 (List.mem_cons_of_mem _ List.mem_cons_self)
       obtain ⟨f16a, f16b, f16c, f16d, f16e⟩ := HS.out.f5 (List.mem_cons_of_mem _ List.mem_cons_self)
       have HS : Hid (St rb ta cap T w [(w15.heap.size, (nL 15 [101, 118, 101, 110, 116, 115] 0 x14d (.slice none 0 0))), (w4.heap.size, (nL 26 x5 x11c q2d (.slice (some ⟨w15.heap.size, 0, none⟩) 1 1))), (w.heap.size, z5)] [((mkX 15 [101, 118, 101, 110, 116, 115] 0 x14d []), none)] j14 op ((w15.alloc (nO 15 [101, 118, 101, 110, 116, 115] 0 x14d (.slice none 0 0))).setCell ⟨w4.heap.size, 4, none⟩ (.slice (some ⟨w15.heap.size, 0, none⟩) 1 1))) := St.put [(w15.heap.size, (nL 15 [101, 118, 101, 110, 116, 115] 0 x14d (.slice none 0 0)))] HS.out 4 (.slice (some ⟨w15.heap.size, 0, none⟩) 1 1)
       obtain ⟨y17a, y17b, y17c, y17d, y17e⟩ := HS.out.c5 (List.mem_cons_of_mem _ List.mem_cons_self)
       have HS : Hid (St rb ta cap T w [(w4.heap.size, (nL 26 x5 x11c q2d (.slice (some ⟨w15.heap.size, 0, none⟩) 1 1))), (w.heap.size, z5)] [((mkX 26 x5 x11c q2d [(mkX 15 [101, 118, 101, 110, 116, 115] 0 x14d [])]), (some ⟨w15.heap.size, 0, none⟩)), ((mkX 15 [101, 118, 101, 110, 116, 115] 0 x14d []), none)] j14 op ((w15.alloc (nO 15 [101, 118, 101, 110, 116, 115] 0 x14d (.slice none 0 0))).setCell ⟨w4.heap.size, 4, none⟩ (.slice (some ⟨w15.heap.size, 0, none⟩) 1 1))) := HS.out.row [] [((mkX 15 [101, 118, 101, 110, 116, 115] 0 x14d []), none, 0)] 26 x5 x11c q2d (by intro p hp; simp only [List.mem_cons, List.not_mem_nil, or_false] at hp; rcases hp with rfl <;> simp)
       obtain ⟨y18a, y18b, y18c, y18d, y18e⟩ := HS.out.c5 List.mem_cons_self
       obtain ⟨⟨d0, d1, d2, d3, d4⟩, ⟨g0, g1, g2, g3, g4⟩, hz⟩ := St.fin5 [(w4.heap.size, (nL 26 x5 x11c q2d (.slice (some ⟨w15.heap.size, 0, none⟩) 1 1)))] HS.out (v0 := .int .i64 26) (v1 := .string (bsA x5)) (v2 := .int .i64 x11c) (v3 := .int .i64 q2d) (v4 := .slice (some ⟨w15.heap.size, 0, none⟩) 1 1) (c := 1) HL.out List.mem_cons_self (mkX_V' _ _ _ _ _ _ _ _ rfl)
       obtain ⟨⟨z0, z1, z2, z3, z4⟩, HP⟩ := hz _ rfl
       clear hz HS HL
       go_wp2
       refine bodyPost_ret (v := .agg #[.int .i64 26, .string (bsA x5), .int .i64 x11c, .int .i64 q2d, .slice (some ⟨w15.heap.size, 0, none⟩) 1 1]) (by simp [results, Tryz.results81, go_sem, z0, z1, z2, z3, z4]) rfl HP.out
 | false =>
  have HB : Hid _ := hb
  have hl := HL.out
  simp only [hb, if_true, if_false, Bool.false_eq_true] at hl
  have HL : Hid _ := hl
  clear hl hb
  have hc := seesWord_any rb ta cap T i op [111, 117, 116, 112, 117, 116] _ HS.out.rdr
  rw [HB.out] at hc
  unfold ptr at hc
  go_wp2_with fail
  refine hc.mono ?_
  rintro e w1 ⟨rfl, hb⟩
  have HS : Hid (St rb ta cap T w [(w.heap.size, z5)] [] i op w1) := HS.out.below hb
  clear hc hb
  have hc := none_s w1
  (try unfold ttV at hc)
  (try unfold nV at hc)
  (try dsimp only at hc)
  go_wp2_with fail
  refine hc.mono ?_
  rintro e w2 ⟨rfl, hb⟩
  have HS : Hid (St rb ta cap T w [(w.heap.size, z5)] [] i op w2) := HS.out.below hb
  clear hc hb
  have HS : Hid (St rb ta cap T w [(w.heap.size, z5)] [((mkX 20 [] 0 0 []), none)] i op w2) := HS.out.leaf 20 [] 0 0 none
  obtain ⟨⟨d0, d1, d2, d3, d4⟩, ⟨g0, g1, g2, g3, g4⟩, hz⟩ := St.fin5 [] HS.out (v0 := .int .i64 20) (v1 := .string (bsA [])) (v2 := .int .i64 0) (v3 := .int .i64 0) (v4 := .slice none 0 0) (c := 0) HL.out List.mem_cons_self (mkX_V' _ _ _ _ _ _ _ _ rfl)
  obtain ⟨⟨z0, z1, z2, z3, z4⟩, HP⟩ := hz _ rfl
  clear hz HS HL
  go_wp2
  refine bodyPost_ret (v := .agg #[.int .i64 20, .string (bsA []), .int .i64 0, .int .i64 0, .slice none 0 0]) (by simp [results, Tryz.results81, go_sem, z0, z1, z2, z3, z4]) rfl HP.out
end Go.Proofs.YtgdndahhledikaaGreatDoor
