/- The lexer of the document: brackets around a source. -/
import Derived.Test.YtcicdapccondkaaPtl
import Derived.Test.YtcicdapccondkaaPur
namespace Go.Proofs.Ytcicdapccondkaa
section
open Go.ChangeShapes Go.WideShapes Go.ChangeAt Go.RowKit
set_option linter.unusedSimpArgs false
set_option maxRecDepth 20000
set_option maxHeartbeats 4000000

theorem sk_close : sk [10, 32, 41] = (2, true) := by kernel_rfl
theorem tok_close : tokP [41] = ((6, [41], 0), 1, 0) := by kernel_rfl
theorem lx_none (b : Int) : lx [] b = ([], 0, 0) := by
  refine lx_end ?_ ?_
  · kernel_rfl
  · kernel_rfl
theorem lx_close (b : Int) : lx [10, 32, 41] b = ([((6, [41], 0), b + 2)], 0, 0) := by
  have e : lx (([10, 32, 41] : List UInt8).drop ((sk [10, 32, 41]).1 + (tokP (([10, 32, 41] : List UInt8).drop (sk [10, 32, 41]).1)).2.1.toNat)) (b + ((sk [10, 32, 41]).1 : Int) + (tokP (([10, 32, 41] : List UInt8).drop (sk [10, 32, 41]).1)).2.1) = ([], 0, 0) := by
    rw [sk_close]
    exact lx_none _
  rw [lx_go (by rw [sk_close]) (by rw [sk_close]; decide) (by rw [sk_close]; kernel_rfl), e]
  rw [sk_close]
  rfl
theorem lx_tail (l : List UInt8) (a : Int) (h : (lx l a).2.2 = 0) : ∃ b, lx (l ++ [10, 32, 41]) a = ((lx l a).1 ++ [((6, [41], 0), b)], 0, 0) := by
  induction hn : l.length using Nat.strongRecOn generalizing l a with
  | _ n IH =>
    subst hn
    obtain ⟨h1, ⟨h2, h3⟩ | ⟨h2, h3, h4, h5⟩⟩ := lx_cases h
    · have e := sk_app [32, 41] l h1
      rw [if_pos h2] at e
      have e2 : sk (l ++ [10, 32, 41]) = (l.length + (sk [10, 32, 41]).1, (sk [10, 32, 41]).2) := e
      rw [h3, lx_pre e2, lx_close]
      exact ⟨_, rfl⟩
    · have e : sk (l ++ [10, 32, 41]) = sk l := by
        have e := sk_app [32, 41] l h1
        rw [if_neg h2] at e
        exact e
      have hs := sk_le l
      have ht := tok_ok h2 h3
      have hd : (l.drop ((sk l).1 + (tokP (l.drop (sk l).1)).2.1.toNat)).length < l.length := by simp at ht ⊢; omega
      have ed : (l ++ [10, 32, 41]).drop (sk l).1 = l.drop (sk l).1 ++ [10, 32, 41] := drop_app hs
      have et : tokP (l.drop (sk l).1 ++ [10, 32, 41]) = tokP (l.drop (sk l).1) := tok_app (Or.inl rfl) h2 [32, 41] h3
      have g3 : (tokP ((l ++ [10, 32, 41]).drop (sk (l ++ [10, 32, 41])).1)).2.2 = 0 := by rw [e, ed, et]; exact h3
      obtain ⟨b, ih⟩ := IH _ hd _ _ h4 rfl
      have en : (l ++ [10, 32, 41]).drop ((sk l).1 + (tokP (l.drop (sk l).1)).2.1.toNat) = l.drop ((sk l).1 + (tokP (l.drop (sk l).1)).2.1.toNat) ++ [10, 32, 41] := drop_app (by simp at ht; omega)
      refine ⟨b, ?_⟩
      rw [lx_go (by rw [e]; exact h1) (by rw [e, ed]; simp) g3, h5]
      simp only [e, ed, et, en, ih]
      simp
theorem sk_open (r : List UInt8) : sk (40 :: 32 :: r) = (0, true) := by
  have e : stp (40 :: 32 :: r) = 0 := by kernel_rfl
  exact sk_stop (by rw [e]; decide)
theorem tok_open (r : List UInt8) : tokP (40 :: 32 :: r) = ((6, [40], 0), 1, 0) := by kernel_rfl
theorem lx_brackets (s : List UInt8) (T : List Tt) (h : lx s 0 = (T, 0, 0)) : ∃ T2 b, lx (40 :: 32 :: (s ++ [10, 32, 41])) 0 = (((6, [40], 0), 0) :: (T2 ++ [((6, [41], 0), b)]), 0, 0) ∧ bar T2 = bar T := by
  have h2 : (lx s 2).2.2 = 0 := by rw [(lx_shift s 2 0).1, h]
  obtain ⟨b, hb⟩ := lx_tail s 2 h2
  refine ⟨(lx s 2).1, b, ?_, by rw [(lx_shift s 2 0).2, h]⟩
  have e1 : lx (32 :: (s ++ [10, 32, 41])) 1 = lx (s ++ [10, 32, 41]) 2 := lx_pre (b := [32]) (sk_bl (by decide) _)
  have ed : List.drop (0 + (1 : Int).toNat) (40 :: 32 :: (s ++ [10, 32, 41])) = 32 :: (s ++ [10, 32, 41]) := rfl
  have g : (tokP (List.drop (sk (40 :: 32 :: (s ++ [10, 32, 41]))).1 (40 :: 32 :: (s ++ [10, 32, 41])))) = ((6, [40], 0), 1, 0) := by
    rw [sk_open]
    exact tok_open _
  rw [lx_go (by rw [sk_open]) (by rw [sk_open]; simp) (by rw [g]), g, sk_open]
  dsimp only
  rw [ed, show ((0 : Int) + ((0 : Nat) : Int) + 1) = 1 from rfl, e1, hb]
  rfl
end
section
open Go.ChangeShapes Go.WideShapes Go.ChangeAt Go.RowKit
set_option linter.unusedSimpArgs false
set_option maxRecDepth 20000
set_option maxHeartbeats 4000000

theorem rbT_rbT : ∀ (n M K : Nat) (h1 : n ≤ M) (h2 : M ≤ K) (x : Tr n), rbT M K h2 (rbT n M h1 x) = rbT n K (Nat.le_trans h1 h2) x
  | 0, _, _, _, _, x => Empty.elim x
  | _ + 1, 0, _, h, _, _ => absurd h (by omega)
  | _ + 1, _ + 1, 0, _, h, _ => absurd h (by omega)
  | n + 1, M + 1, K + 1, h1, h2, x => by
    have e : ((ks (n + 1) x).map (rbT n M (Nat.le_of_succ_le_succ h1))).map (rbT M K (Nat.le_of_succ_le_succ h2)) = (ks (n + 1) x).map (rbT n K (Nat.le_of_succ_le_succ (Nat.le_trans h1 h2))) := by
      rw [List.map_map]
      exact List.map_congr_left fun y _ => rbT_rbT n M K _ _ y
    show (kd (n + 1) x, tx (n + 1) x, nu (n + 1) x, pl (n + 1) x, ((ks (n + 1) x).map (rbT n M (Nat.le_of_succ_le_succ h1))).map (rbT M K (Nat.le_of_succ_le_succ h2))) = (kd (n + 1) x, tx (n + 1) x, nu (n + 1) x, pl (n + 1) x, (ks (n + 1) x).map (rbT n K (Nat.le_of_succ_le_succ (Nat.le_trans h1 h2))))
    rw [e]
/-- The same but for the places. -/
def Sx (x x' : X) : Prop := ∀ (M : Nat) (h : x.1 ≤ M) (h' : x'.1 ≤ M), samP M (rbT x'.1 M h' x'.2) (rbT x.1 M h x.2) = true
theorem fm_raise (B M : Nat) (hB : B ≤ M) : ∀ l : List X, (∀ x ∈ l, x.1 ≤ B) → (l.filterMap (rbX B)).map (rbT B M hB) = l.filterMap (rbX M)
  | [], _ => rfl
  | x :: l, h => by
    have hx := h x (by simp)
    have e1 : rbX B x = some (rbT x.1 B hx x.2) := by unfold rbX; rw [dif_pos hx]
    have e2 : rbX M x = some (rbT x.1 M (Nat.le_trans hx hB) x.2) := by unfold rbX; rw [dif_pos (Nat.le_trans hx hB)]
    rw [List.filterMap_cons_some e1, List.filterMap_cons_some e2, List.map_cons, rbT_rbT, fm_raise B M hB l (fun y hy => h y (by simp [hy]))]
theorem sam_fm (M : Nat) : ∀ l l' : List X, RL Sx l l' → (∀ x ∈ l, x.1 ≤ M) → (∀ x ∈ l', x.1 ≤ M) → samL M (l'.filterMap (rbX M)) (l.filterMap (rbX M)) = true
  | [], [], _, _, _ => rfl
  | x :: l, y :: m, h, h1, h2 => by
    have hx := h1 x (by simp)
    have hy := h2 y (by simp)
    have e1 : rbX M x = some (rbT x.1 M hx x.2) := by unfold rbX; rw [dif_pos hx]
    have e2 : rbX M y = some (rbT y.1 M hy y.2) := by unfold rbX; rw [dif_pos hy]
    have ih := sam_fm M l m h.2 (fun z hz => h1 z (by simp [hz])) (fun z hz => h2 z (by simp [hz]))
    unfold samL at ih ⊢
    rw [List.filterMap_cons_some e1, List.filterMap_cons_some e2]
    simp only [Bool.and_eq_true, decide_eq_true_eq, List.length_cons, List.zip_cons_cons, List.all_cons] at ih ⊢
    exact ⟨by rw [ih.1], h.1 M hx hy, ih.2⟩
  | [], _ :: _, h, _, _ => h.elim
  | _ :: _, [], h, _, _ => h.elim
theorem Sx.made (k : Int) (t : List UInt8) (m a a' : Int) (l l' : List X) (h : RL Sx l l') : Sx (mkX k t m a l) (mkX k t m a' l') := fun M h1 h2 => by
  cases M with
  | zero => exact absurd h1 (by show ¬ (mxB l + 1 ≤ 0); omega)
  | succ M =>
    have b1 : mxB l ≤ M := Nat.le_of_succ_le_succ h1
    have b2 : mxB l' ≤ M := Nat.le_of_succ_le_succ h2
    have e1 : ks (M + 1) (rbT (mkX k t m a l).1 (M + 1) h1 (mkX k t m a l).2) = l.filterMap (rbX M) := fm_raise (mxB l) M b1 l (fun x hx => mxB_le hx)
    have e2 : ks (M + 1) (rbT (mkX k t m a' l').1 (M + 1) h2 (mkX k t m a' l').2) = l'.filterMap (rbX M) := fm_raise (mxB l') M b2 l' (fun x hx => mxB_le hx)
    rw [samP_eq, e1, e2, sam_fm M l l' h (fun x hx => Nat.le_trans (mxB_le hx) b1) (fun x hx => Nat.le_trans (mxB_le hx) b2)]
    simp only [Bool.and_true, Bool.and_eq_true, decide_eq_true_eq]
    exact ⟨rfl, rfl, rfl⟩
/-- Same of the document, of two trees of whatever bounds. -/
theorem RSame_x (x y : X) (h : Sx y x) (s s' : Option Addr) (c c' lo lo' : Nat) (W : World) (hx : XAt lo W x s) (hy : XAt lo' W y s') : Calls Try.prog 9 #[xV x s c, xV y s' c'] W fun e w' => e = .returned (.bool true) ∧ Below W.heap.size W w' := by
  have h1 := RSame_any (max x.1 y.1) (rbT x.1 _ (Nat.le_max_left _ _) x.2) (rbT y.1 _ (Nat.le_max_right _ _) y.2) s s' c c' W (NdF.at (rbT_F _ _ _ _ _ hx)) (NdF.at (rbT_F _ _ _ _ _ hy))
  rw [h (max x.1 y.1) (Nat.le_max_right _ _) (Nat.le_max_left _ _)] at h1
  have e1 : ndV (max x.1 y.1) (rbT x.1 _ (Nat.le_max_left _ _) x.2) s c = xV x s c := by
    unfold ndV
    rw [rbT_kd, rbT_tx, rbT_nu, rbT_pl, rbT_len]
    rfl
  have e2 : ndV (max x.1 y.1) (rbT y.1 _ (Nat.le_max_right _ _) y.2) s' c' = xV y s' c' := by
    unfold ndV
    rw [rbT_kd, rbT_tx, rbT_nu, rbT_pl, rbT_len]
    rfl
  rw [e1, e2] at h1
  exact h1
end
section
open Go.ChangeShapes Go.WideShapes Go.ChangeAt Go.RowKit
set_option linter.unusedSimpArgs false
set_option maxRecDepth 20000
set_option maxHeartbeats 4000000

theorem lx_whole {s : List UInt8} {a : Int} (h : (lx s a).2.2 = 0) : lx s a = ((lx s a).1, 0, 0) := by
  obtain ⟨_, ⟨_, h3⟩ | ⟨_, _, _, h5⟩⟩ := lx_cases h
  · rw [h3]
  · rw [h5]
theorem bar_tk {T T2 : List Tt} (h : bar T2 = bar T) : T2.length = T.length ∧ ∀ i, i < T.length → (tkI T2 i).1 = (tkI T i).1 := by
  have hl : T2.length = T.length := by
    have := congrArg List.length h
    simpa [bar] using this
  refine ⟨hl, fun i hi => ?_⟩
  have e : (bar T2)[i]? = (bar T)[i]? := by rw [h]
  unfold bar at e
  rw [List.getElem?_map, List.getElem?_map, List.getElem?_eq_getElem hi, List.getElem?_eq_getElem (show i < T2.length by omega)] at e
  unfold tkI
  rw [List.getElem?_eq_getElem hi, List.getElem?_eq_getElem (show i < T2.length by omega)]
  exact Option.some.inj e
theorem tkP_ne {s : List UInt8} {T : List Tt} (h : tkP s = T) (hT : 0 < T.length) : lx s 0 = (T, 0, 0) := by
  unfold tkP at h
  split at h
  · rw [← h] at hT
    exact absurd hT (by simp)
  · rename_i hn
    have h0 : (lx s 0).2.2 = 0 := by simpa using hn
    rw [lx_whole h0, h]
theorem brackets_walk (s : List UInt8) (w : World) (hl : s.length ≤ 1048576) : Calls Try.prog 3 #[.string (bsA s)] w fun e w' => e = .returned (.bool true) ∧ Below w.heap.size w w' := by
  have h1 := Tokens_any s w (by omega)
  have hTl := tkP_len s
  obtain ⟨T, hTT⟩ : ∃ T, tkP s = T := ⟨_, rfl⟩
  have HTT : Hid (tkP s = T) := hTT
  rw [hTT] at h1 hTl
  clear hTT
  obtain ⟨r, er, hr1, hr2⟩ := exP_tot T (2 * T.length + 5 + 1) 0 0 (Nat.zero_le _) (by omega)
  go_enter Try.func3, Try.ntmps3
  go_wp2_with fail
  refine h1.mono ?_
  rintro e w1 ⟨⟨a1, p1, rfl, ht1, hg1⟩, hb1⟩
  clear h1
  have h2 := Expr_any a1 p1 T _ w1 ht1 (by omega) (fun b o e => (hg1 b o e).2) r er
  have HER : Hid (exP T (2 * T.length + 5 + 1) 0 0 = some r) := er
  clear ht1 hg1 er
  obtain ⟨lt, hlt⟩ : ∃ lt, T.length = lt := ⟨_, rfl⟩
  have HLT : Hid (T.length = lt) := hlt
  rw [hlt] at h2 ⊢
  clear hlt
  cases r with
  | inl q =>
    obtain ⟨q1, q2⟩ := q
    have hq : (q2 != 0) = true := by simpa using hr2 _ rfl
    go_wp2_with fail
    refine h2.mono ?_
    rintro e w2 ⟨rfl, hb2⟩
    clear h2
    have HB : Hid (Below w.heap.size w (w2.alloc (Obj.cells #[Value.int IntKind.i64 0, Value.string (bsA []), Value.int IntKind.i64 0, Value.int IntKind.i64 0, Value.slice none 0 0] 26))) := below_new (hb1.trans (hb2.mono hb1.size)) _
    clear hb1 hb2 hr1 hr2 HER
    unfold nV
    have h9 := awake_any (w2.alloc (Obj.cells #[Value.int IntKind.i64 0, Value.string (bsA []), Value.int IntKind.i64 0, Value.int IntKind.i64 0, Value.slice none 0 0] 26))
    go_wp2_with fail
    refine h9.mono ?_
    rintro e w9 ⟨rfl, hb9⟩
    clear h9
    have HFin : Hid (Below w.heap.size w w9) := (HB.out).trans (hb9.mono (HB.out).size)
    clear hb9
    go_wp2
    refine bodyPost_ret (v := .bool true) (by simp [results, Try.results3, go_sem]) rfl ?_
    exact ⟨rfl, HFin.out⟩
  | inr q =>
    obtain ⟨x, j⟩ := q
    by_cases hj : j = lt
    · subst hj
      have hq : ((j : Int) != (j : Int)) = false := by simp
      go_wp2_with fail
      refine h2.mono ?_
      rintro e w2 ⟨⟨s1, c1, rfl, hx⟩, hb2⟩
      clear h2
      have hb12 : Below w1.heap.size w1 (w2.alloc (Obj.cells #[Value.int IntKind.i64 (xk x), Value.string (bsA (xt x)), Value.int IntKind.i64 (xn x), Value.int IntKind.i64 (xa x), Value.slice s1 (xl x) c1] 26)) := below_new hb2 _
      have HB2 : Hid (Below w.heap.size w (w2.alloc (Obj.cells #[Value.int IntKind.i64 (xk x), Value.string (bsA (xt x)), Value.int IntKind.i64 (xn x), Value.int IntKind.i64 (xa x), Value.slice s1 (xl x) c1] 26))) := hb1.trans (hb12.mono hb1.size)
      have HX2 : Hid (XAt w1.heap.size (w2.alloc (Obj.cells #[Value.int IntKind.i64 (xk x), Value.string (bsA (xt x)), Value.int IntKind.i64 (xn x), Value.int IntKind.i64 (xa x), Value.slice s1 (xl x) c1] 26)) x s1) := XAt.below hx ((Below.refl _ _).alloc (Nat.le_refl _) _)
      have HN2 : Hid (Box5 (w2.alloc (Obj.cells #[Value.int IntKind.i64 (xk x), Value.string (bsA (xt x)), Value.int IntKind.i64 (xn x), Value.int IntKind.i64 (xa x), Value.slice s1 (xl x) c1] 26)) w2.heap.size (.int .i64 (xk x)) (.string (bsA (xt x))) (.int .i64 (xn x)) (.int .i64 (xa x)) (.slice s1 (xl x) c1)) := Box5.new w2 _ _ _ _ _ 26
      have hj0 : 0 < j := exP_st T _ 0 0 x j HER.out
      obtain ⟨T2, bb, hlb, hbar⟩ := lx_brackets s T (tkP_ne HTT.out (by rw [HLT.out]; exact hj0))
      obtain ⟨hl2, ht2⟩ := bar_tk hbar
      have hpure := brackets_pure T T2 ((6, [40], 0), 0) ((6, [41], 0), bb) hl2 ht2 ⟨rfl, rfl⟩ ⟨rfl, rfl⟩ Sx Sx.made _ x (by rw [HLT.out]; exact HER.out)
      have HPU : Hid _ := hpure
      have h3 := Tokens_any (40 :: 32 :: (s ++ [10, 32, 41])) (w2.alloc (Obj.cells #[Value.int IntKind.i64 (xk x), Value.string (bsA (xt x)), Value.int IntKind.i64 (xn x), Value.int IntKind.i64 (xa x), Value.slice s1 (xl x) c1] 26)) (by simp; omega)
      rw [tkP_of hlb] at h3
      have HL3 : Hid ((((6, [40], 0), 0) :: (T2 ++ [((6, [41], 0), bb)]) : List Tt).length = j + 2) := by show _ = _; simp [hl2, HLT.out]
      have es : (({ data := #[40, 32] } : ByteArray) ++ bsA s) ++ { data := #[10, 32, 41] } = bsA (40 :: 32 :: (s ++ [10, 32, 41])) := by
        show (bsA [40, 32] ++ bsA s) ++ bsA [10, 32, 41] = _
        rw [app_bsA, app_bsA]
        rfl
      rw [← es] at h3
      have hz1 : ¬ 9223372036854775807 < 2 + (bsA s).size := by rw [bsA_size]; omega
      have hz2 : ¬ 9223372036854775807 < 2 + (bsA s).size + 3 := by rw [bsA_size]; omega
      clear es
      clear hx hb2 hb1 hb12 hbar hl2 ht2 hpure hlb hr1 hr2
      unfold xV nV
      go_wp2_with fail
      refine h3.mono ?_
      rintro e w4 ⟨⟨a4, p4, rfl, ht4, hg4⟩, hb4⟩
      clear h3 hz1 hz2
      have HX4 : Hid (XAt w1.heap.size w4 x s1) := XAt.below HX2.out hb4
      have HN4 : Hid (Box5 w4 w2.heap.size (.int .i64 (xk x)) (.string (bsA (xt x))) (.int .i64 (xn x)) (.int .i64 (xa x)) (.slice s1 (xl x) c1)) := HN2.out.below hb4
      have HB4 : Hid (Below w.heap.size w w4) := HB2.out.trans (hb4.mono HB2.out.size)
      rw [HL3.out]
      have hlen := HLT.out
      clear hb4 HX2 HN2 HB2
      rcases HPU.out with ⟨y, ey, hxy⟩ | ⟨pp, ep⟩
      · rw [HLT.out] at ey
        have h5 := Expr_any a4 p4 _ _ w4 ht4 (by rw [HL3.out]; omega) (fun b o e => (hg4 b o e).2) _ ey
        rw [HL3.out] at h5
        have HXY : Hid (Sx x y) := hxy
        clear ht4 hg4 ey hxy HPU
        go_wp2_with fail
        refine h5.mono ?_
        rintro e w5 ⟨⟨s5, c5, rfl, hy5⟩, hb5⟩
        clear h5
        have hb56 := below_new hb5 (Obj.cells #[Value.int IntKind.i64 (xk y), Value.string (bsA (xt y)), Value.int IntKind.i64 (xn y), Value.int IntKind.i64 (xa y), Value.slice s5 (xl y) c5] 26)
        have hX6 : XAt w1.heap.size (w5.alloc (Obj.cells #[Value.int IntKind.i64 (xk y), Value.string (bsA (xt y)), Value.int IntKind.i64 (xn y), Value.int IntKind.i64 (xa y), Value.slice s5 (xl y) c5] 26)) x s1 := XAt.below HX4.out hb56
        have hY6 : XAt w4.heap.size (w5.alloc (Obj.cells #[Value.int IntKind.i64 (xk y), Value.string (bsA (xt y)), Value.int IntKind.i64 (xn y), Value.int IntKind.i64 (xa y), Value.slice s5 (xl y) c5] 26)) y s5 := XAt.below hy5 ((Below.refl _ _).alloc (Nat.le_refl _) _)
        have HB6 : Hid (Below w.heap.size w (w5.alloc (Obj.cells #[Value.int IntKind.i64 (xk y), Value.string (bsA (xt y)), Value.int IntKind.i64 (xn y), Value.int IntKind.i64 (xa y), Value.slice s5 (xl y) c5] 26))) := HB4.out.trans (hb56.mono HB4.out.size)
        obtain ⟨y0, y1, y2, y3, y4, _, _, _, _, _⟩ := HN4.out.below hb56
        obtain ⟨z0, z1, z2, z3, z4, _, _, _, _, _⟩ := Box5.new w5 (.int .i64 (xk y)) (.string (bsA (xt y))) (.int .i64 (xn y)) (.int .i64 (xa y)) (.slice s5 (xl y) c5) 26
        have h6 := RSame_x y x HXY.out s5 s1 c5 c1 _ _ (w5.alloc (Obj.cells #[Value.int IntKind.i64 (xk y), Value.string (bsA (xt y)), Value.int IntKind.i64 (xn y), Value.int IntKind.i64 (xa y), Value.slice s5 (xl y) c5] 26)) hY6 hX6
        unfold xV nV at h6
        have hj2 : wrap64 ((j : Int) + 2) = (j : Int) + 2 := by unfold wrap64; omega
        have hjj : (((j + 2 : Nat) : Int) == (j : Int) + 2) = true := by simp
        clear hy5 hb5 hb56 hX6 hY6 HX4 HN4 HB4
        unfold xV nV
        go_wp2_with fail
        refine h6.mono ?_
        rintro e w6 ⟨rfl, hb6⟩
        clear h6 y0 y1 y2 y3 y4 z0 z1 z2 z3 z4
        have HB9 : Hid (Below w.heap.size w w6) := HB6.out.trans (hb6.mono HB6.out.size)
        clear hb6 HB6
        have h9 := awake_any w6
        go_wp2_with fail
        refine h9.mono ?_
        rintro e w9 ⟨rfl, hb9⟩
        clear h9
        have HFin : Hid (Below w.heap.size w w9) := (HB9.out).trans (hb9.mono (HB9.out).size)
        clear hb9
        go_wp2
        refine bodyPost_ret (v := .bool true) (by simp [results, Try.results3, go_sem]) rfl ?_
        exact ⟨rfl, HFin.out⟩
      · have h5 := Expr_any a4 p4 _ _ w4 ht4 (by rw [HL3.out]; omega) (fun b o e => (hg4 b o e).2) _ ep
        rw [HL3.out] at h5
        clear ht4 hg4 ep HPU
        go_wp2_with fail
        refine h5.mono ?_
        rintro e w5 ⟨rfl, hb5⟩
        clear h5
        have HB : Hid (Below w.heap.size w (w5.alloc (Obj.cells #[Value.int IntKind.i64 0, Value.string (bsA []), Value.int IntKind.i64 0, Value.int IntKind.i64 0, Value.slice none 0 0] 26))) := HB4.out.trans ((below_new hb5 _).mono HB4.out.size)
        clear hb5 HB4 HX4 HN4
        unfold nV
        have h9 := awake_any (w5.alloc (Obj.cells #[Value.int IntKind.i64 0, Value.string (bsA []), Value.int IntKind.i64 0, Value.int IntKind.i64 0, Value.slice none 0 0] 26))
        go_wp2_with fail
        refine h9.mono ?_
        rintro e w9 ⟨rfl, hb9⟩
        clear h9
        have HFin : Hid (Below w.heap.size w w9) := (HB.out).trans (hb9.mono (HB.out).size)
        clear hb9
        go_wp2
        refine bodyPost_ret (v := .bool true) (by simp [results, Try.results3, go_sem]) rfl ?_
        exact ⟨rfl, HFin.out⟩
    · have hq : ((j : Int) != (lt : Int)) = true := by simp; omega
      go_wp2_with fail
      refine h2.mono ?_
      rintro e w2 ⟨⟨s1, c1, rfl, hx⟩, hb2⟩
      clear h2
      have HB : Hid (Below w.heap.size w (w2.alloc (Obj.cells #[Value.int IntKind.i64 (xk x), Value.string (bsA (xt x)), Value.int IntKind.i64 (xn x), Value.int IntKind.i64 (xa x), Value.slice s1 (xl x) c1] 26))) := below_new (hb1.trans (hb2.mono hb1.size)) _
      clear hb1 hb2 hr1 hr2 HER hx
      unfold xV nV
      have h9 := awake_any (w2.alloc (Obj.cells #[Value.int IntKind.i64 (xk x), Value.string (bsA (xt x)), Value.int IntKind.i64 (xn x), Value.int IntKind.i64 (xa x), Value.slice s1 (xl x) c1] 26))
      go_wp2_with fail
      refine h9.mono ?_
      rintro e w9 ⟨rfl, hb9⟩
      clear h9
      have HFin : Hid (Below w.heap.size w w9) := (HB.out).trans (hb9.mono (HB.out).size)
      clear hb9
      go_wp2
      refine bodyPost_ret (v := .bool true) (by simp [results, Try.results3, go_sem]) rfl ?_
      exact ⟨rfl, HFin.out⟩
end
end Go.Proofs.Ytcicdapccondkaa
