/- Syg. -/
import Derived.Test.YtgdndahhledikaaGreatDoorK27
import Derived.Test.YtgdndahhledikaaGreatDoorK28
import Derived.Deep.CutRange
namespace Go.Proofs.YtgdndahhledikaaGreatDoor
open Go.ChangeShapes Go.WideShapes Go.ChangeAt Go.RowKit
set_option linter.unusedSimpArgs false
set_option maxRecDepth 20000
set_option maxHeartbeats 4000000
def chC (rb : Nat) (cs : List (List UInt8 × FuncId × (Nat → Nat → Rz X))) : List Value := cs.flatMap fun c => [.string (bsA c.1), fnV c.2.1 rb]
theorem chC_at (rb : Nat) : ∀ (cs : List (List UInt8 × FuncId × (Nat → Nat → Rz X))) (i : Nat) (c : List UInt8 × FuncId × (Nat → Nat → Rz X)), cs[i]? = some c → (chC rb cs)[i * 2]? = some (.string (bsA c.1)) ∧ (chC rb cs)[i * 2 + 1]? = some (fnV c.2.1 rb)
 | [], i, c, h => by simp at h
 | q :: A, 0, c, h => by
  simp only [List.getElem?_cons_zero, Option.some.injEq] at h
  subst h
  exact ⟨rfl, rfl⟩
 | q :: A, i + 1, c, h => by
  simp only [List.getElem?_cons_succ] at h
  obtain ⟨h0, h1⟩ := chC_at rb A i c h
  have e : ∀ k, (chC rb (q :: A))[(i + 1) * 2 + k]? = (chC rb A)[i * 2 + k]? := fun k => by
   show ([.string (bsA q.1), fnV q.2.1 rb] ++ chC rb A)[(i + 1) * 2 + k]? = _
   rw [List.getElem?_append_right (by show 2 ≤ _; omega)]
   show (chC rb A)[(i + 1) * 2 + k - 2]? = _
   rw [show (i + 1) * 2 + k - 2 = i * 2 + k by omega]
  exact ⟨(e 0).trans h0, (e 1).trans h1⟩
theorem St.chs {rb : Nat} {ta : Option Addr} {cap : Nat} {T : List Tt} {w0 : World} {B : Bxs} {K : List (X × Option Addr)} {i op : Nat} {w : World} {cs : List (List UInt8 × FuncId × (Nat → Nat → Rz X))} {g : Nat} (h : St rb ta cap T w0 B K i op w) (hb : (g, chC rb cs) ∈ B) : ChA rb w g cs := fun j c hc => ⟨h.get hb _ (chC_at rb cs j c hc).1, h.get hb _ (chC_at rb cs j c hc).2⟩
def viewC (T : List Tt) (gt gu gs : Nat → Nat → Rz X) : List (List UInt8 × FuncId × (Nat → Nat → Rz X)) := [([107, 101, 101, 112, 97, 108, 108], 174, fun i _ => plvP T i), ([108, 97, 115, 116, 101, 118, 101, 110, 116], 174, fun i _ => plvP T i), ([102, 105, 114, 115, 116, 101, 118, 101, 110, 116], 174, fun i _ => plvP T i), ([108, 101, 110, 103, 116, 104], 175, fun i _ => lenP T i), ([108, 101, 110, 103, 116, 104, 95, 98, 97, 116, 99, 104], 175, fun i _ => lenP T i), ([116, 105, 109, 101], 176, gt), ([116, 105, 109, 101, 95, 98, 97, 116, 99, 104], 176, gt), ([117, 110, 105, 113, 117, 101], 177, gu), ([115, 111, 114, 116, 101, 100], 178, gs)]
theorem viewC_ok (rb : Nat) (ta : Option Addr) (cap : Nat) (T : List Tt) (gt gu gs : Nat → Nat → Rz X) (ht : RdX rb ta cap T 176 gt) (hu : RdX rb ta cap T 177 gu) (hs : RdX rb ta cap T 178 gs) : ∀ c ∈ viewC T gt gu gs, Ent c.2.1 ∧ RdX rb ta cap T c.2.1 c.2.2 := by
 intro c hc
 simp only [viewC, List.mem_cons, List.not_mem_nil, or_false] at hc
 rcases hc with rfl | rfl | rfl | rfl | rfl | rfl | rfl | rfl | rfl
 · exact ⟨(ent_of (fn := Tryz.f174) rfl (by decide) rfl), plainView_s rb ta cap T⟩
 · exact ⟨(ent_of (fn := Tryz.f174) rfl (by decide) rfl), plainView_s rb ta cap T⟩
 · exact ⟨(ent_of (fn := Tryz.f174) rfl (by decide) rfl), plainView_s rb ta cap T⟩
 · exact ⟨(ent_of (fn := Tryz.f175) rfl (by decide) rfl), lengthView_s rb ta cap T⟩
 · exact ⟨(ent_of (fn := Tryz.f175) rfl (by decide) rfl), lengthView_s rb ta cap T⟩
 · exact ⟨(ent_of (fn := Tryz.f176) rfl (by decide) rfl), ht⟩
 · exact ⟨(ent_of (fn := Tryz.f176) rfl (by decide) rfl), ht⟩
 · exact ⟨(ent_of (fn := Tryz.f177) rfl (by decide) rfl), hu⟩
 · exact ⟨(ent_of (fn := Tryz.f178) rfl (by decide) rfl), hs⟩
def vwP (T : List Tt) (gt gu gs : Nat → Nat → Rz X) (i op : Nat) : Rz X := bnd (needP T 6 [35] i) fun t j => bnd (chP T 1 (viewC T gt gu gs) j op) fun x j => okR (hX (xk x) (xt x) (xn x) t.2 x) j
theorem view_s (rb : Nat) (ta : Option Addr) (cap : Nat) (T : List Tt) (gt gu gs : Nat → Nat → Rz X) (ht : RdX rb ta cap T 176 gt) (hu : RdX rb ta cap T 177 gu) (hs : RdX rb ta cap T 178 gs) : Rds VX rb ta cap T 148 #[ptr rb] (fun i op => vwP T gt gu gs i op) := by
 intro i op w r hop hr h
 (try dsimp only at h)
 have HS : Hid (St rb ta cap T w [] [] i op w) := St.start hr
 unfold vwP at h
 have HL : Hid _ := h
 have hlt := cell_lt hr.c0
 clear hr h 
 unfold ptr
 go_enter Tryz.func148, Tryz.ntmps148
 have HS : Hid (St rb ta cap T w [(w.heap.size, z5)] [] i op (w.alloc o5)) := HS.out.newO z5
 obtain ⟨r1, e1, hl⟩ := bnd_some HL.out
 have HL : Hid _ := hl
 have hc := needSign_s rb ta cap T [35] i op _ r1 hop HS.out.rdr e1
 (try unfold ptr at hc)
 clear e1 hl
 go_wp2_with fail
 refine hc.mono ?_
 intro e w1 hpost
 clear hc
 cases r1 with
 | inl q =>
  obtain ⟨hG, HP⟩ := HS.out.bad2 (V := VX) (op' := op) HL.out hpost
  unfold GUs at hG
  subst hG
  clear hpost
  go_wp2
  exact ⟨rfl, HP.out⟩
 | inr q =>
  obtain ⟨x1, j1⟩ := q
  obtain ⟨rfl, HS⟩ := HS.out.okT hpost
  obtain ⟨⟨x1a, x1b, x1c⟩, x1d⟩ := x1
  unfold ttV
  dsimp only
  have hl := HL.out
  rw [bnd_ok] at hl
  (try dsimp only at hl)
  have HL : Hid _ := hl
  clear hl hpost
  have HS : Hid (St rb ta cap T w [(w1.heap.size, (tL x1a x1b x1c x1d)), (w.heap.size, z5)] [] j1 op (w1.alloc (tO x1a x1b x1c x1d))) := HS.out.newO (tL x1a x1b x1c x1d)
  have HS : Hid (St rb ta cap T w [((w1.heap.size + 1), (chC rb (viewC T gt gu gs))), (w1.heap.size, (tL x1a x1b x1c x1d)), (w.heap.size, z5)] [] j1 op ((w1.alloc (tO x1a x1b x1c x1d)).alloc (.cells #[.string ⟨#[107, 101, 101, 112, 97, 108, 108]⟩, .func (.func 174) #[.pointer (some ⟨rb, 0, none⟩)] #[], .string ⟨#[108, 97, 115, 116, 101, 118, 101, 110, 116]⟩, .func (.func 174) #[.pointer (some ⟨rb, 0, none⟩)] #[], .string ⟨#[102, 105, 114, 115, 116, 101, 118, 101, 110, 116]⟩, .func (.func 174) #[.pointer (some ⟨rb, 0, none⟩)] #[], .string ⟨#[108, 101, 110, 103, 116, 104]⟩, .func (.func 175) #[.pointer (some ⟨rb, 0, none⟩)] #[], .string ⟨#[108, 101, 110, 103, 116, 104, 95, 98, 97, 116, 99, 104]⟩, .func (.func 175) #[.pointer (some ⟨rb, 0, none⟩)] #[], .string ⟨#[116, 105, 109, 101]⟩, .func (.func 176) #[.pointer (some ⟨rb, 0, none⟩)] #[], .string ⟨#[116, 105, 109, 101, 95, 98, 97, 116, 99, 104]⟩, .func (.func 176) #[.pointer (some ⟨rb, 0, none⟩)] #[], .string ⟨#[117, 110, 105, 113, 117, 101]⟩, .func (.func 177) #[.pointer (some ⟨rb, 0, none⟩)] #[], .string ⟨#[115, 111, 114, 116, 101, 100]⟩, .func (.func 178) #[.pointer (some ⟨rb, 0, none⟩)] #[]] 74))) := HS.out.newO1 (chC rb (viewC T gt gu gs))
  obtain ⟨r1, e1, hl⟩ := bnd_some HL.out
  have HL : Hid _ := hl
  have hc := choose_s rb ta cap T 1 (viewC T gt gu gs) (viewC_ok rb ta cap T gt gu gs ht hu hs) (by simp [viewC]) (w1.heap.size + 1) 9 j1 op _ r1 hop HS.out.rdr (HS.out.chs List.mem_cons_self) e1
  unfold ptr at hc
  clear e1 hl
  go_wp2_with fail
  refine hc.mono ?_
  intro e w2 hpost
  clear hc
  cases r1 with
  | inl q =>
   obtain ⟨hG, HP⟩ := HS.out.bad2 (V := VX) (op' := op) HL.out hpost
   unfold GUs at hG
   subst hG
   clear hpost
   go_wp2
   exact ⟨rfl, HP.out⟩
  | inr q =>
   obtain ⟨x2, j2⟩ := q
   obtain ⟨s2, c2, rfl, HS⟩ := HS.out.okX hpost
   unfold xV nV
   have hl := HL.out
   rw [bnd_ok] at hl
   (try dsimp only at hl)
   have HL : Hid _ := hl
   clear hl hpost
   have HS : Hid (St rb ta cap T w [(w2.heap.size, (xL x2 s2 c2)), ((w1.heap.size + 1), (chC rb (viewC T gt gu gs))), (w1.heap.size, (tL x1a x1b x1c x1d)), (w.heap.size, z5)] [(x2, s2)] j2 op (w2.alloc (xO x2 s2 c2))) := HS.out.newO (xL x2 s2 c2)
   go_upto_region 3 with (fail)
   obtain ⟨b3, hnb⟩ : ∃ nb, nb = w2.heap.size := ⟨_, rfl⟩
   rw [← hnb] at HS ⊢
   clear hnb
   generalize (w2.alloc (xO x2 s2 c2)) = w3 at HS ⊢
   obtain ⟨y4a, y4b, y4c, y4d⟩ := HS.out.c4 (List.mem_cons_of_mem _ (List.mem_cons_of_mem _ List.mem_cons_self))
   obtain ⟨y5a, y5b, y5c, y5d, y5e⟩ := HS.out.c5 List.mem_cons_self
   obtain ⟨f5a, f5b, f5c, f5d, f5e⟩ := HS.out.f5 List.mem_cons_self
   have HS : Hid (St rb ta cap T w [(b3, (nL (xk x2) (xt x2) (xn x2) x1d (.slice s2 (xl x2) c2))), ((w1.heap.size + 1), (chC rb (viewC T gt gu gs))), (w1.heap.size, (tL x1a x1b x1c x1d)), (w.heap.size, z5)] [(x2, s2)] j2 op (w3.setCell ⟨b3, 3, none⟩ (.int .i64 x1d))) := St.put [] HS.out 3 (.int .i64 x1d)
   obtain ⟨y6a, y6b, y6c, y6d, y6e⟩ := HS.out.c5 List.mem_cons_self
   have HS : Hid (St rb ta cap T w [(b3, (nL (xk x2) (xt x2) (xn x2) x1d (.slice s2 (xl x2) c2))), ((w1.heap.size + 1), (chC rb (viewC T gt gu gs))), (w1.heap.size, (tL x1a x1b x1c x1d)), (w.heap.size, z5)] [((hX (xk x2) (xt x2) (xn x2) x1d x2), s2), (x2, s2)] j2 op (w3.setCell ⟨b3, 3, none⟩ (.int .i64 x1d))) := HS.out.head List.mem_cons_self (xk x2) (xt x2) (xn x2) x1d
   obtain ⟨y7a, y7b, y7c, y7d, y7e⟩ := HS.out.c5 List.mem_cons_self
   obtain ⟨⟨d0, d1, d2, d3, d4⟩, ⟨g0, g1, g2, g3, g4⟩, hz⟩ := St.fin5 [(b3, (nL (xk x2) (xt x2) (xn x2) x1d (.slice s2 (xl x2) c2))), ((w1.heap.size + 1), (chC rb (viewC T gt gu gs))), (w1.heap.size, (tL x1a x1b x1c x1d))] HS.out (v0 := .int .i64 (xk x2)) (v1 := .string (bsA (xt x2))) (v2 := .int .i64 (xn x2)) (v3 := .int .i64 x1d) (v4 := .slice s2 (xl x2) c2) (c := c2) HL.out List.mem_cons_self (hX_V _ _ _ _ _ _ x2)
   obtain ⟨⟨z0, z1, z2, z3, z4⟩, HP⟩ := hz _ rfl
   clear hz HS HL
   go_wp2
   refine bodyPost_ret (v := .agg #[.int .i64 (xk x2), .string (bsA (xt x2)), .int .i64 (xn x2), .int .i64 x1d, .slice s2 (xl x2) c2]) (by simp [results, Tryz.results148, go_sem, z0, z1, z2, z3, z4]) rfl HP.out
def frmP (T : List Tt) (gp gs : Nat → Nat → Rz X) (f i op : Nat) : Rz X := if isT (tkI T i) 2 [[112, 97, 116, 116, 101, 114, 110]] = true then bnd (gp i op) (fun x j => okR x j) else bnd (lnP T 2 (fun j => gs j op) f i) (fun x j => okR x j)
theorem from_s (rb : Nat) (ta : Option Addr) (cap : Nat) (T : List Tt) (gp gs : Nat → Nat → Rz X) (hgp : RdX rb ta cap T 116 gp) (hgs : RdX rb ta cap T 117 gs) (f : Nat) : Rds VX rb ta cap T 77 #[ptr rb] (fun i op => frmP T gp gs f i op) := by
 intro i op w r hop hr h
 (try dsimp only at h)
 have HS : Hid (St rb ta cap T w [] [] i op w) := St.start hr
 unfold frmP at h
 have HL : Hid _ := h
 have hlt := cell_lt hr.c0
 clear hr h 
 unfold ptr
 go_enter Tryz.func77, Tryz.ntmps77
 have HS : Hid (St rb ta cap T w [(w.heap.size, z5)] [] i op (w.alloc o5)) := HS.out.newO z5
 cases hb : isT (tkI T i) 2 [[112, 97, 116, 116, 101, 114, 110]] with
 | true =>
  have HB : Hid _ := hb
  have hl := HL.out
  simp only [hb, if_true, if_false, Bool.false_eq_true] at hl
  have HL : Hid _ := hl
  clear hl hb
  have hc := seesWord_any rb ta cap T i op [112, 97, 116, 116, 101, 114, 110] _ HS.out.rdr
  rw [HB.out] at hc
  unfold ptr at hc
  go_wp2_with fail
  refine hc.mono ?_
  rintro e w1 ⟨rfl, hb⟩
  have HS : Hid (St rb ta cap T w [(w.heap.size, z5)] [] i op w1) := HS.out.below hb
  clear hc hb
  obtain ⟨r1, e1, hl⟩ := bnd_some HL.out
  have HL : Hid _ := hl
  have hc := hgp i op _ r1 hop HS.out.rdr e1
  (try unfold ptr fnV at hc)
  (try unfold ptr at hc)
  clear e1 hl
  go_wp2_with fail
  refine hc.mono ?_
  intro e w2 hpost
  clear hc
  cases r1 with
  | inl q =>
   obtain ⟨hG, HP⟩ := HS.out.bad2 (V := VX) (op' := op) HL.out hpost
   unfold GUs at hG
   subst hG
   clear hpost
   go_wp2
   exact ⟨rfl, HP.out⟩
  | inr q =>
   obtain ⟨x2, j2⟩ := q
   obtain ⟨s2, c2, rfl, HS⟩ := HS.out.okX hpost
   unfold xV nV
   have hl := HL.out
   rw [bnd_ok] at hl
   (try dsimp only at hl)
   have HL : Hid _ := hl
   clear hl hpost
   obtain ⟨⟨d0, d1, d2, d3, d4⟩, ⟨g0, g1, g2, g3, g4⟩, hz⟩ := St.fin5 [] HS.out (v0 := .int .i64 (xk x2)) (v1 := .string (bsA (xt x2))) (v2 := .int .i64 (xn x2)) (v3 := .int .i64 (xa x2)) (v4 := .slice s2 (xl x2) c2) (c := c2) HL.out List.mem_cons_self (rfl)
   obtain ⟨⟨z0, z1, z2, z3, z4⟩, HP⟩ := hz _ rfl
   clear hz HS HL
   go_wp2
   refine bodyPost_ret (v := .agg #[.int .i64 (xk x2), .string (bsA (xt x2)), .int .i64 (xn x2), .int .i64 (xa x2), .slice s2 (xl x2) c2]) (by simp [results, Tryz.results77, go_sem, z0, z1, z2, z3, z4]) rfl HP.out
 | false =>
  have HB : Hid _ := hb
  have hl := HL.out
  simp only [hb, if_true, if_false, Bool.false_eq_true] at hl
  have HL : Hid _ := hl
  clear hl hb
  have hc := seesWord_any rb ta cap T i op [112, 97, 116, 116, 101, 114, 110] _ HS.out.rdr
  rw [HB.out] at hc
  unfold ptr at hc
  go_wp2_with fail
  refine hc.mono ?_
  rintro e w1 ⟨rfl, hb⟩
  have HS : Hid (St rb ta cap T w [(w.heap.size, z5)] [] i op w1) := HS.out.below hb
  clear hc hb
  obtain ⟨r1, e1, hl⟩ := bnd_some HL.out
  have HL : Hid _ := hl
  have hc := listNode_s rb ta cap T 117 (ent_of (fn := Tryz.f117) rfl (by decide) rfl) gs hgs 2 (by decide) (by decide) f i op _ r1 hop HS.out.rdr e1
  (try unfold ptr fnV at hc)
  (try unfold ptr at hc)
  clear e1 hl
  go_wp2_with fail
  refine hc.mono ?_
  intro e w2 hpost
  clear hc
  cases r1 with
  | inl q =>
   obtain ⟨hG, HP⟩ := HS.out.bad2 (V := VX) (op' := op) HL.out hpost
   unfold GUs at hG
   subst hG
   clear hpost
   go_wp2
   exact ⟨rfl, HP.out⟩
  | inr q =>
   obtain ⟨x2, j2⟩ := q
   obtain ⟨s2, c2, rfl, HS⟩ := HS.out.okX hpost
   unfold xV nV
   have hl := HL.out
   rw [bnd_ok] at hl
   (try dsimp only at hl)
   have HL : Hid _ := hl
   clear hl hpost
   obtain ⟨⟨d0, d1, d2, d3, d4⟩, ⟨g0, g1, g2, g3, g4⟩, hz⟩ := St.fin5 [] HS.out (v0 := .int .i64 (xk x2)) (v1 := .string (bsA (xt x2))) (v2 := .int .i64 (xn x2)) (v3 := .int .i64 (xa x2)) (v4 := .slice s2 (xl x2) c2) (c := c2) HL.out List.mem_cons_self (rfl)
   obtain ⟨⟨z0, z1, z2, z3, z4⟩, HP⟩ := hz _ rfl
   clear hz HS HL
   go_wp2
   refine bodyPost_ret (v := .agg #[.int .i64 (xk x2), .string (bsA (xt x2)), .int .i64 (xn x2), .int .i64 (xa x2), .slice s2 (xl x2) c2]) (by simp [results, Tryz.results77, go_sem, z0, z1, z2, z3, z4]) rfl HP.out
def creC (T : List Tt) (gw gc : Nat → Nat → Rz X) (f : Nat) : List (List UInt8 × FuncId × (Nat → Nat → Rz X)) := [([115, 99, 104, 101, 109, 97], 67, fun i _ => schP T f i), ([119, 105, 110, 100, 111, 119], 68, gw), ([99, 111, 110, 116, 101, 120, 116], 69, gc)]
theorem creC_ok (rb : Nat) (ta : Option Addr) (cap : Nat) (T : List Tt) (gw gc : Nat → Nat → Rz X) (f : Nat) (hw1 : RdX rb ta cap T 68 gw) (hc1 : RdX rb ta cap T 69 gc) : ∀ c ∈ creC T gw gc f, Ent c.2.1 ∧ RdX rb ta cap T c.2.1 c.2.2 := by
 intro c hc
 simp only [creC, List.mem_cons, List.not_mem_nil, or_false] at hc
 rcases hc with rfl | rfl | rfl
 · exact ⟨(ent_of (fn := Tryz.f67) rfl (by decide) rfl), schema_s rb ta cap T f⟩
 · exact ⟨(ent_of (fn := Tryz.f68) rfl (by decide) rfl), hw1⟩
 · exact ⟨(ent_of (fn := Tryz.f69) rfl (by decide) rfl), hc1⟩
def creP (T : List Tt) (gw gc : Nat → Nat → Rz X) (f i op : Nat) : Rz X := if i < T.length then bnd (chP T 2 (creC T gw gc f) (i + 1) op) (fun x j => okR (hX (xk x) (xt x) (xn x) (tkI T i).2 x) j) else none
theorem create_s (rb : Nat) (ta : Option Addr) (cap : Nat) (T : List Tt) (gw gc : Nat → Nat → Rz X) (hw1 : RdX rb ta cap T 68 gw) (hc1 : RdX rb ta cap T 69 gc) (f : Nat) : Rds VX rb ta cap T 45 #[ptr rb] (fun i op => creP T gw gc f i op) := by
 intro i op w r hop hr h
 (try dsimp only at h)
 have HS : Hid (St rb ta cap T w [] [] i op w) := St.start hr
 unfold creP at h
 have HL : Hid _ := h
 have hlt := cell_lt hr.c0
 clear hr h 
 unfold ptr
 go_enter Tryz.func45, Tryz.ntmps45
 by_cases hin : i < T.length
 rotate_left
 · have hl := HL.out; rw [if_neg hin] at hl; cases hl
 have HIT : Hid _ := hin
 have hl := HL.out
 rw [if_pos hin] at hl
 have HL : Hid _ := hl
 clear hl hin
 obtain ⟨⟨⟨q1a, q1b, q1c⟩, q1d⟩, hq⟩ : ∃ q, tkI T i = q := ⟨_, rfl⟩
 have HQ1 : Hid (tkI T i = ((q1a, q1b, q1c), q1d)) := hq
 have hl := HL.out
 (try rw [hq] at hl)
 (try dsimp only at hl)
 have HL : Hid _ := hl
 clear hl hq
 have HS : Hid (St rb ta cap T w [(w.heap.size, z5)] [] i op (w.alloc o5)) := HS.out.newO z5
 have hc := take_s rb ta cap T i op _ HS.out.rdr HIT.out
 rw [HQ1.out] at hc
 unfold ptr ttV at hc
 dsimp only at hc
 go_wp2_with fail
 refine hc.mono ?_
 rintro e w2 ⟨rfl, hr, hf⟩
 have HS : Hid (St rb ta cap T w [(w.heap.size, z5)] [] (i + 1) op w2) := HS.out.call hf hr
 clear hc hr hf
 have HS : Hid (St rb ta cap T w [(w2.heap.size, (tL q1a q1b q1c q1d)), (w.heap.size, z5)] [] (i + 1) op (w2.alloc (tO q1a q1b q1c q1d))) := HS.out.newO (tL q1a q1b q1c q1d)
 have HS : Hid (St rb ta cap T w [((w2.heap.size + 1), (chC rb (creC T gw gc f))), (w2.heap.size, (tL q1a q1b q1c q1d)), (w.heap.size, z5)] [] (i + 1) op ((w2.alloc (tO q1a q1b q1c q1d)).alloc (.cells #[.string ⟨#[115, 99, 104, 101, 109, 97]⟩, .func (.func 67) #[.pointer (some ⟨rb, 0, none⟩)] #[], .string ⟨#[119, 105, 110, 100, 111, 119]⟩, .func (.func 68) #[.pointer (some ⟨rb, 0, none⟩)] #[], .string ⟨#[99, 111, 110, 116, 101, 120, 116]⟩, .func (.func 69) #[.pointer (some ⟨rb, 0, none⟩)] #[]] 74))) := HS.out.newO1 (chC rb (creC T gw gc f))
 obtain ⟨r1, e1, hl⟩ := bnd_some HL.out
 have HL : Hid _ := hl
 have hc := choose_s rb ta cap T 2 (creC T gw gc f) (creC_ok rb ta cap T gw gc f hw1 hc1) (by simp [creC]) (w2.heap.size + 1) 3 (i + 1) op _ r1 hop HS.out.rdr (HS.out.chs List.mem_cons_self) e1
 unfold ptr at hc
 clear e1 hl
 go_wp2_with fail
 refine hc.mono ?_
 intro e w3 hpost
 clear hc
 cases r1 with
 | inl q =>
  obtain ⟨hG, HP⟩ := HS.out.bad2 (V := VX) (op' := op) HL.out hpost
  unfold GUs at hG
  subst hG
  clear hpost
  go_wp2
  exact ⟨rfl, HP.out⟩
 | inr q =>
  obtain ⟨x3, j3⟩ := q
  obtain ⟨s3, c3, rfl, HS⟩ := HS.out.okX hpost
  unfold xV nV
  have hl := HL.out
  rw [bnd_ok] at hl
  (try dsimp only at hl)
  have HL : Hid _ := hl
  clear hl hpost
  have HS : Hid (St rb ta cap T w [(w3.heap.size, (xL x3 s3 c3)), ((w2.heap.size + 1), (chC rb (creC T gw gc f))), (w2.heap.size, (tL q1a q1b q1c q1d)), (w.heap.size, z5)] [(x3, s3)] j3 op (w3.alloc (xO x3 s3 c3))) := HS.out.newO (xL x3 s3 c3)
  go_upto_region 3 with (fail)
  obtain ⟨b4, hnb⟩ : ∃ nb, nb = w3.heap.size := ⟨_, rfl⟩
  rw [← hnb] at HS ⊢
  clear hnb
  generalize (w3.alloc (xO x3 s3 c3)) = w4 at HS ⊢
  obtain ⟨y5a, y5b, y5c, y5d⟩ := HS.out.c4 (List.mem_cons_of_mem _ (List.mem_cons_of_mem _ List.mem_cons_self))
  obtain ⟨y6a, y6b, y6c, y6d, y6e⟩ := HS.out.c5 List.mem_cons_self
  obtain ⟨f6a, f6b, f6c, f6d, f6e⟩ := HS.out.f5 List.mem_cons_self
  have HS : Hid (St rb ta cap T w [(b4, (nL (xk x3) (xt x3) (xn x3) q1d (.slice s3 (xl x3) c3))), ((w2.heap.size + 1), (chC rb (creC T gw gc f))), (w2.heap.size, (tL q1a q1b q1c q1d)), (w.heap.size, z5)] [(x3, s3)] j3 op (w4.setCell ⟨b4, 3, none⟩ (.int .i64 q1d))) := St.put [] HS.out 3 (.int .i64 q1d)
  obtain ⟨y7a, y7b, y7c, y7d, y7e⟩ := HS.out.c5 List.mem_cons_self
  have HS : Hid (St rb ta cap T w [(b4, (nL (xk x3) (xt x3) (xn x3) q1d (.slice s3 (xl x3) c3))), ((w2.heap.size + 1), (chC rb (creC T gw gc f))), (w2.heap.size, (tL q1a q1b q1c q1d)), (w.heap.size, z5)] [((hX (xk x3) (xt x3) (xn x3) q1d x3), s3), (x3, s3)] j3 op (w4.setCell ⟨b4, 3, none⟩ (.int .i64 q1d))) := HS.out.head List.mem_cons_self (xk x3) (xt x3) (xn x3) q1d
  obtain ⟨y8a, y8b, y8c, y8d, y8e⟩ := HS.out.c5 List.mem_cons_self
  obtain ⟨⟨d0, d1, d2, d3, d4⟩, ⟨g0, g1, g2, g3, g4⟩, hz⟩ := St.fin5 [(b4, (nL (xk x3) (xt x3) (xn x3) q1d (.slice s3 (xl x3) c3))), ((w2.heap.size + 1), (chC rb (creC T gw gc f))), (w2.heap.size, (tL q1a q1b q1c q1d))] HS.out (v0 := .int .i64 (xk x3)) (v1 := .string (bsA (xt x3))) (v2 := .int .i64 (xn x3)) (v3 := .int .i64 q1d) (v4 := .slice s3 (xl x3) c3) (c := c3) HL.out List.mem_cons_self (hX_V _ _ _ _ _ _ x3)
  obtain ⟨⟨z0, z1, z2, z3, z4⟩, HP⟩ := hz _ rfl
  clear hz HS HL
  go_wp2
  refine bodyPost_ret (v := .agg #[.int .i64 (xk x3), .string (bsA (xt x3)), .int .i64 (xn x3), .int .i64 q1d, .slice s3 (xl x3) c3]) (by simp [results, Tryz.results45, go_sem, z0, z1, z2, z3, z4]) rfl HP.out
def stmC (_T : List Tt) (gc gs go : Nat → Nat → Rz X) : List (List UInt8 × FuncId × (Nat → Nat → Rz X)) := [([99, 114, 101, 97, 116, 101], 45, gc), ([99, 111, 110, 116, 101, 120, 116], 46, gs), ([105, 110, 115, 101, 114, 116], 46, gs), ([115, 101, 108, 101, 99, 116], 46, gs), ([111, 110], 47, go)]
theorem stmC_ok (rb : Nat) (ta : Option Addr) (cap : Nat) (T : List Tt) (gc gs go : Nat → Nat → Rz X) (hc1 : RdX rb ta cap T 45 gc) (hs1 : RdX rb ta cap T 46 gs) (ho1 : RdX rb ta cap T 47 go) : ∀ c ∈ stmC T gc gs go, Ent c.2.1 ∧ RdX rb ta cap T c.2.1 c.2.2 := by
 intro c hc
 simp only [stmC, List.mem_cons, List.not_mem_nil, or_false] at hc
 rcases hc with rfl | rfl | rfl | rfl | rfl
 · exact ⟨(ent_of (fn := Tryz.f45) rfl (by decide) rfl), hc1⟩
 · exact ⟨(ent_of (fn := Tryz.f46) rfl (by decide) rfl), hs1⟩
 · exact ⟨(ent_of (fn := Tryz.f46) rfl (by decide) rfl), hs1⟩
 · exact ⟨(ent_of (fn := Tryz.f46) rfl (by decide) rfl), hs1⟩
 · exact ⟨(ent_of (fn := Tryz.f47) rfl (by decide) rfl), ho1⟩
def stP (T : List Tt) (gc gs go : Nat → Nat → Rz X) (i op : Nat) : Rz X := bnd (chP T 2 (stmC T gc gs go) i op) (fun x j => okR x j)
theorem stmt_s (rb : Nat) (ta : Option Addr) (cap : Nat) (T : List Tt) (gc gs go : Nat → Nat → Rz X) (hc1 : RdX rb ta cap T 45 gc) (hs1 : RdX rb ta cap T 46 gs) (ho1 : RdX rb ta cap T 47 go) : Rds VX rb ta cap T 24 #[ptr rb] (fun i op => stP T gc gs go i op) := by
 intro i op w r hop hr h
 (try dsimp only at h)
 have HS : Hid (St rb ta cap T w [] [] i op w) := St.start hr
 unfold stP at h
 have HL : Hid _ := h
 have hlt := cell_lt hr.c0
 clear hr h 
 unfold ptr
 go_enter Tryz.func24, Tryz.ntmps24
 have HS : Hid (St rb ta cap T w [(w.heap.size, z5)] [] i op (w.alloc o5)) := HS.out.newO z5
 have HS : Hid (St rb ta cap T w [((w.heap.size + 1), (chC rb (stmC T gc gs go))), (w.heap.size, z5)] [] i op ((w.alloc o5).alloc (.cells #[.string ⟨#[99, 114, 101, 97, 116, 101]⟩, .func (.func 45) #[.pointer (some ⟨rb, 0, none⟩)] #[], .string ⟨#[99, 111, 110, 116, 101, 120, 116]⟩, .func (.func 46) #[.pointer (some ⟨rb, 0, none⟩)] #[], .string ⟨#[105, 110, 115, 101, 114, 116]⟩, .func (.func 46) #[.pointer (some ⟨rb, 0, none⟩)] #[], .string ⟨#[115, 101, 108, 101, 99, 116]⟩, .func (.func 46) #[.pointer (some ⟨rb, 0, none⟩)] #[], .string ⟨#[111, 110]⟩, .func (.func 47) #[.pointer (some ⟨rb, 0, none⟩)] #[]] 74))) := HS.out.newO1 (chC rb (stmC T gc gs go))
 obtain ⟨r1, e1, hl⟩ := bnd_some HL.out
 have HL : Hid _ := hl
 have hc := choose_s rb ta cap T 2 (stmC T gc gs go) (stmC_ok rb ta cap T gc gs go hc1 hs1 ho1) (by simp [stmC]) (w.heap.size + 1) 5 i op _ r1 hop HS.out.rdr (HS.out.chs List.mem_cons_self) e1
 unfold ptr at hc
 clear e1 hl
 go_wp2_with fail
 refine hc.mono ?_
 intro e w1 hpost
 clear hc
 cases r1 with
 | inl q =>
  obtain ⟨hG, HP⟩ := HS.out.bad2 (V := VX) (op' := op) HL.out hpost
  unfold GUs at hG
  subst hG
  clear hpost
  go_wp2
  exact ⟨rfl, HP.out⟩
 | inr q =>
  obtain ⟨x1, j1⟩ := q
  obtain ⟨s1, c1, rfl, HS⟩ := HS.out.okX hpost
  unfold xV nV
  have hl := HL.out
  rw [bnd_ok] at hl
  (try dsimp only at hl)
  have HL : Hid _ := hl
  clear hl hpost
  obtain ⟨⟨d0, d1, d2, d3, d4⟩, ⟨g0, g1, g2, g3, g4⟩, hz⟩ := St.fin5 [((w.heap.size + 1), (chC rb (stmC T gc gs go)))] HS.out (v0 := .int .i64 (xk x1)) (v1 := .string (bsA (xt x1))) (v2 := .int .i64 (xn x1)) (v3 := .int .i64 (xa x1)) (v4 := .slice s1 (xl x1) c1) (c := c1) HL.out List.mem_cons_self (rfl)
  obtain ⟨⟨z0, z1, z2, z3, z4⟩, HP⟩ := hz _ rfl
  clear hz HS HL
  go_wp2
  refine bodyPost_ret (v := .agg #[.int .i64 (xk x1), .string (bsA (xt x1)), .int .i64 (xn x1), .int .i64 (xa x1), .slice s1 (xl x1) c1]) (by simp [results, Tryz.results24, go_sem, z0, z1, z2, z3, z4]) rfl HP.out
def endP (T : List Tt) (g : Nat → Nat → Rz X) (i op : Nat) : Rz X := bnd (g i op) fun x j => bnd (needP T 6 [59] j) fun _ j => okR x j
theorem ended_s (rb : Nat) (ta : Option Addr) (cap : Nat) (T : List Tt) (g : Nat → Nat → Rz X) (hg : RdX rb ta cap T 24 g) : Rds VX rb ta cap T 14 #[ptr rb] (fun i op => endP T g i op) := by
 intro i op w r hop hr h
 (try dsimp only at h)
 have HS : Hid (St rb ta cap T w [] [] i op w) := St.start hr
 unfold endP at h
 have HL : Hid _ := h
 have hlt := cell_lt hr.c0
 clear hr h 
 unfold ptr
 go_enter Tryz.func14, Tryz.ntmps14
 have HS : Hid (St rb ta cap T w [(w.heap.size, z5)] [] i op (w.alloc o5)) := HS.out.newO z5
 obtain ⟨r1, e1, hl⟩ := bnd_some HL.out
 have HL : Hid _ := hl
 have hc := hg i op _ r1 hop HS.out.rdr e1
 (try unfold ptr at hc)
 clear e1 hl
 go_wp2_with fail
 refine hc.mono ?_
 intro e w1 hpost
 clear hc
 cases r1 with
 | inl q =>
  obtain ⟨hG, HP⟩ := HS.out.bad2 (V := VX) (op' := op) HL.out hpost
  unfold GUs at hG
  subst hG
  clear hpost
  go_wp2
  exact ⟨rfl, HP.out⟩
 | inr q =>
  obtain ⟨x1, j1⟩ := q
  obtain ⟨s1, c1, rfl, HS⟩ := HS.out.okX hpost
  unfold xV nV
  have hl := HL.out
  rw [bnd_ok] at hl
  (try dsimp only at hl)
  have HL : Hid _ := hl
  clear hl hpost
  have HS : Hid (St rb ta cap T w [(w1.heap.size, (xL x1 s1 c1)), (w.heap.size, z5)] [(x1, s1)] j1 op (w1.alloc (xO x1 s1 c1))) := HS.out.newO (xL x1 s1 c1)
  obtain ⟨r1, e1, hl⟩ := bnd_some HL.out
  have HL : Hid _ := hl
  have hc := needSign_s rb ta cap T [59] j1 op _ r1 hop HS.out.rdr e1
  (try unfold ptr at hc)
  clear e1 hl
  go_wp2_with fail
  refine hc.mono ?_
  intro e w2 hpost
  clear hc
  cases r1 with
  | inl q =>
   obtain ⟨hG, HP⟩ := HS.out.bad2 (V := VX) (op' := op) HL.out hpost
   unfold GUs at hG
   subst hG
   clear hpost
   go_wp2
   exact ⟨rfl, HP.out⟩
  | inr q =>
   obtain ⟨x2, j2⟩ := q
   obtain ⟨rfl, HS⟩ := HS.out.okT hpost
   obtain ⟨⟨x2a, x2b, x2c⟩, x2d⟩ := x2
   unfold ttV
   dsimp only
   have hl := HL.out
   rw [bnd_ok] at hl
   (try dsimp only at hl)
   have HL : Hid _ := hl
   clear hl hpost
   obtain ⟨y3a, y3b, y3c, y3d, y3e⟩ := HS.out.c5 List.mem_cons_self
   obtain ⟨⟨d0, d1, d2, d3, d4⟩, ⟨g0, g1, g2, g3, g4⟩, hz⟩ := St.fin5 [(w1.heap.size, (xL x1 s1 c1))] HS.out (v0 := .int .i64 (xk x1)) (v1 := .string (bsA (xt x1))) (v2 := .int .i64 (xn x1)) (v3 := .int .i64 (xa x1)) (v4 := .slice s1 (xl x1) c1) (c := c1) HL.out List.mem_cons_self (rfl)
   obtain ⟨⟨z0, z1, z2, z3, z4⟩, HP⟩ := hz _ rfl
   clear hz HS HL
   go_wp2
   refine bodyPost_ret (v := .agg #[.int .i64 (xk x1), .string (bsA (xt x1)), .int .i64 (xn x1), .int .i64 (xa x1), .slice s1 (xl x1) c1]) (by simp [results, Tryz.results14, go_sem, z0, z1, z2, z3, z4]) rfl HP.out
end Go.Proofs.YtgdndahhledikaaGreatDoor
