/- ArithRules is true: the law's walk. -/
import Derived.Test.YtakcmjigddeapaaSure
import Derived.Test.YtakcmjigddeapaaRulesMath
namespace Go.Proofs.Ytakcmjigddeapaa
open Go.ChangeShapes Go.WideShapes Go.ChangeAt Go.RowKit
attribute [local go_sem ↓] Go.wp_at_zero Go.wp_at_succ

set_option maxHeartbeats 400000 in
theorem value_any (n : Int) (d : Bool) (w : World) : Calls Try.prog 24 #[.int .i64 n, .bool d] w fun e w' => e = .returned (.agg #[.int .i64 (kd d), .int .i64 n, .string ⟨#[]⟩]) ∧ w' = (w.alloc (.cells #[.int .i64 (kd d), .int .i64 n, .string ⟨#[]⟩] 23)).alloc (.cells #[.int .i64 (kd d), .int .i64 n, .string ⟨#[]⟩] 23) := by
  cases d with
  | false =>
    go_enter Try.func24, Try.ntmps24
    go_wp2_with (first | (go_at_call 25; refine (dec_any _ _).mono ?_; rintro e w' ⟨rfl, rfl⟩) | (go_at_call 26; refine (num_any _ _).mono ?_; rintro e w' ⟨rfl, rfl⟩))
    exact bodyPost_ret (v := .agg #[.int .i64 2, .int .i64 n, .string ⟨#[]⟩]) (by simp [results, Try.results24, go_sem]) rfl ⟨rfl, rfl⟩
  | true =>
    go_enter Try.func24, Try.ntmps24
    go_wp2_with (first | (go_at_call 25; refine (dec_any _ _).mono ?_; rintro e w' ⟨rfl, rfl⟩) | (go_at_call 26; refine (num_any _ _).mono ?_; rintro e w' ⟨rfl, rfl⟩))
    exact bodyPost_ret (v := .agg #[.int .i64 3, .int .i64 n, .string ⟨#[]⟩]) (by simp [results, Try.results24, go_sem]) rfl ⟨rfl, rfl⟩

/-- The box of the two marks. -/
structure HBox (w : World) (p : Nat) (a b : Bool) : Prop where
  c0 : w.cell? ⟨p, 0, none⟩ = some (.bool a)
  c1 : w.cell? ⟨p, 1, none⟩ = some (.bool b)
  lt : p < w.heap.size
theorem HBox.new (w : World) (a b : Bool) : HBox (w.alloc (.cells #[.bool a, .bool b] 33)) w.heap.size a b := ⟨by go_simp, by go_simp, by simp⟩
theorem HBox.step {w w' : World} {p : Nat} {a b : Bool} (h : HBox w p a b) (hb : Below w.heap.size w w') : HBox w' p a b :=
  ⟨(hb.cell (p := ⟨p, 0, none⟩) h.lt).trans h.c0, (hb.cell (p := ⟨p, 1, none⟩) h.lt).trans h.c1, Nat.lt_of_lt_of_le h.lt hb.size⟩
theorem HBox.alloc {w : World} {p : Nat} {a b : Bool} (h : HBox w p a b) (o : Obj) : HBox (w.alloc o) p a b := h.step ((Below.refl _ _).alloc (Nat.le_refl _) o)
theorem HBox.drew {w : World} {p : Nat} {a b : Bool} (h : HBox w p a b) : HBox w.drew p a b := ⟨h.c0, h.c1, h.lt⟩

set_option maxRecDepth 100000 in
set_option maxHeartbeats 8000000 in
theorem rules_walk (x y : Int) (h0 h1 : Bool) (hx : In x) (hy : In y) (w : World) : Calls Try.prog 4 #[.int .i64 x, .int .i64 y, .agg #[.bool h0, .bool h1]] w fun e w' => e = .returned (.bool true) ∧ Below w.heap.size w w' := by
  go_enter Try.func4, Try.ntmps4
  go_upto_region 1 with (fail)
  go_cut [7, 8] from 29 to 36 (fun s7 s8 wx => ∃ b c : Nat, s7 = .pointer (some ⟨b, 0, none⟩) ∧ s8 = .pointer (some ⟨c, 0, none⟩) ∧ Box wx b (kd h0) x ⟨#[]⟩ ∧ Box wx c (kd h1) y ⟨#[]⟩ ∧ HBox wx w.heap.size h0 h1 ∧ Bel w.heap.size w wx)
  case first =>
    go_region_with (go_at_call 24; refine (value_any _ _ _).mono ?_; rintro e w' ⟨rfl, rfl⟩)
    all_goals go_wp2_with fail
    all_goals go_meet
    all_goals exact ⟨_, _, rfl, rfl, ⟨by go_simp, by go_simp, by go_simp, by simp <;> omega⟩, ⟨by go_simp, by go_simp, by go_simp, by simp <;> omega⟩, ⟨by go_simp, by go_simp, by simp <;> omega⟩, (by repeat (first | exact Bel.refl _ | refine Bel.drew ?_ | refine Bel.drewN ?_ _ | refine Bel.alloc ?_ _ | refine Bel.setCell ?_ (by simp <;> omega) _))⟩
  case rest =>
    obtain ⟨b, c, rfl, rfl, Aa0, Ab0, Hh0, BB⟩ := hcut
    have xa0 := Aa0.c0; have ya0 := Aa0.c1; have za0 := Aa0.c2; have la0 := Aa0.lt
    have xb0 := Ab0.c0; have yb0 := Ab0.c1; have zb0 := Ab0.c2; have lb0 := Ab0.lt
    have hk0 := kd_cases h0
    have hk1 := kd_cases h1
    have hadd := fun w => Add_any (kd h0) x ⟨#[]⟩ (kd h1) y ⟨#[]⟩ hx hy w
    have hadd' := fun w => Add_any (kd h1) y ⟨#[]⟩ (kd h0) x ⟨#[]⟩ hy hx w
    have hmul := fun w => Mul_any (kd h0) x ⟨#[]⟩ (kd h1) y ⟨#[]⟩ hx hy w
    have hmul' := fun w => Mul_any (kd h1) y ⟨#[]⟩ (kd h0) x ⟨#[]⟩ hy hx w
    rw [addS_comm hk0 hk1] at hadd'
    rw [mulS_comm hk0 hk1] at hmul'
    have hsum := sum_cases (n := x) (n' := y) hk0 hk1
    clear hk0 hk1
    generalize hsS : addS (kd h0) x (kd h1) y = S3 at hadd hadd' hsum
    generalize mulS (kd h0) x (kd h1) y = M3 at hmul hmul'
    clear hsS
    obtain ⟨mk, mn, me⟩ := M3
    obtain ⟨sk, sn, se⟩ := S3
    go_wp2_with fail
    refine (hadd _).mono ?_
    rintro e w1 ⟨rfl, hb1⟩
    have B1 : Bel w.heap.size w w1 := Bel.step (by repeat (first | exact Bel.refl _ | assumption | refine Bel.alloc ?_ _ | refine Bel.drew ?_ | refine Bel.drewN ?_ _)) hb1
    have Aa1 : Box w1 (b) (kd h0) (x) ⟨#[]⟩ := Box.step (by repeat (first | exact Box.new _ _ _ _ | assumption | refine Box.alloc ?_ _ | refine Box.drew ?_ | refine Box.drewN ?_ _)) hb1
    have Ab1 : Box w1 (c) (kd h1) (y) ⟨#[]⟩ := Box.step (by repeat (first | exact Box.new _ _ _ _ | assumption | refine Box.alloc ?_ _ | refine Box.drew ?_ | refine Box.drewN ?_ _)) hb1
    have xa1 := Aa1.c0; have ya1 := Aa1.c1; have za1 := Aa1.c2; have la1 := Aa1.lt
    have xb1 := Ab1.c0; have yb1 := Ab1.c1; have zb1 := Ab1.c2; have lb1 := Ab1.lt
    have H1 : HBox w1 w.heap.size h0 h1 := HBox.step (by repeat (first | assumption | refine HBox.alloc ?_ _)) hb1
    go_wp2_with fail
    refine (hadd' _).mono ?_
    rintro e w2 ⟨rfl, hb2⟩
    have B2 : Bel w.heap.size w w2 := Bel.step (by repeat (first | exact Bel.refl _ | assumption | refine Bel.alloc ?_ _ | refine Bel.drew ?_ | refine Bel.drewN ?_ _)) hb2
    have Aa2 : Box w2 (b) (kd h0) (x) ⟨#[]⟩ := Box.step (by repeat (first | exact Box.new _ _ _ _ | assumption | refine Box.alloc ?_ _ | refine Box.drew ?_ | refine Box.drewN ?_ _)) hb2
    have Ab2 : Box w2 (c) (kd h1) (y) ⟨#[]⟩ := Box.step (by repeat (first | exact Box.new _ _ _ _ | assumption | refine Box.alloc ?_ _ | refine Box.drew ?_ | refine Box.drewN ?_ _)) hb2
    have As2 : Box w2 (w1.heap.size) (sk) (sn) ⟨#[]⟩ := Box.step (by repeat (first | exact Box.new _ _ _ _ | assumption | refine Box.alloc ?_ _ | refine Box.drew ?_ | refine Box.drewN ?_ _)) hb2
    have xa2 := Aa2.c0; have ya2 := Aa2.c1; have za2 := Aa2.c2; have la2 := Aa2.lt
    have xb2 := Ab2.c0; have yb2 := Ab2.c1; have zb2 := Ab2.c2; have lb2 := Ab2.lt
    have xs2 := As2.c0; have ys2 := As2.c1; have zs2 := As2.c2; have ls2 := As2.lt
    have H2 : HBox w2 w.heap.size h0 h1 := HBox.step (by repeat (first | assumption | refine HBox.alloc ?_ _)) hb2
    go_wp2_with fail
    refine (hmul _).mono ?_
    rintro e w3 ⟨rfl, hb3⟩
    have B3 : Bel w.heap.size w w3 := Bel.step (by repeat (first | exact Bel.refl _ | assumption | refine Bel.alloc ?_ _ | refine Bel.drew ?_ | refine Bel.drewN ?_ _)) hb3
    have Aa3 : Box w3 (b) (kd h0) (x) ⟨#[]⟩ := Box.step (by repeat (first | exact Box.new _ _ _ _ | assumption | refine Box.alloc ?_ _ | refine Box.drew ?_ | refine Box.drewN ?_ _)) hb3
    have Ab3 : Box w3 (c) (kd h1) (y) ⟨#[]⟩ := Box.step (by repeat (first | exact Box.new _ _ _ _ | assumption | refine Box.alloc ?_ _ | refine Box.drew ?_ | refine Box.drewN ?_ _)) hb3
    have As3 : Box w3 (w1.heap.size) (sk) (sn) ⟨#[]⟩ := Box.step (by repeat (first | exact Box.new _ _ _ _ | assumption | refine Box.alloc ?_ _ | refine Box.drew ?_ | refine Box.drewN ?_ _)) hb3
    have At3 : Box w3 (w2.heap.size) (sk) (sn) ⟨#[]⟩ := Box.step (by repeat (first | exact Box.new _ _ _ _ | assumption | refine Box.alloc ?_ _ | refine Box.drew ?_ | refine Box.drewN ?_ _)) hb3
    have xa3 := Aa3.c0; have ya3 := Aa3.c1; have za3 := Aa3.c2; have la3 := Aa3.lt
    have xb3 := Ab3.c0; have yb3 := Ab3.c1; have zb3 := Ab3.c2; have lb3 := Ab3.lt
    have xs3 := As3.c0; have ys3 := As3.c1; have zs3 := As3.c2; have ls3 := As3.lt
    have xt3 := At3.c0; have yt3 := At3.c1; have zt3 := At3.c2; have lt3 := At3.lt
    have H3 : HBox w3 w.heap.size h0 h1 := HBox.step (by repeat (first | assumption | refine HBox.alloc ?_ _)) hb3
    go_wp2_with fail
    refine (hmul' _).mono ?_
    rintro e w4 ⟨rfl, hb4⟩
    have B4 : Bel w.heap.size w w4 := Bel.step (by repeat (first | exact Bel.refl _ | assumption | refine Bel.alloc ?_ _ | refine Bel.drew ?_ | refine Bel.drewN ?_ _)) hb4
    have Aa4 : Box w4 (b) (kd h0) (x) ⟨#[]⟩ := Box.step (by repeat (first | exact Box.new _ _ _ _ | assumption | refine Box.alloc ?_ _ | refine Box.drew ?_ | refine Box.drewN ?_ _)) hb4
    have Ab4 : Box w4 (c) (kd h1) (y) ⟨#[]⟩ := Box.step (by repeat (first | exact Box.new _ _ _ _ | assumption | refine Box.alloc ?_ _ | refine Box.drew ?_ | refine Box.drewN ?_ _)) hb4
    have As4 : Box w4 (w1.heap.size) (sk) (sn) ⟨#[]⟩ := Box.step (by repeat (first | exact Box.new _ _ _ _ | assumption | refine Box.alloc ?_ _ | refine Box.drew ?_ | refine Box.drewN ?_ _)) hb4
    have At4 : Box w4 (w2.heap.size) (sk) (sn) ⟨#[]⟩ := Box.step (by repeat (first | exact Box.new _ _ _ _ | assumption | refine Box.alloc ?_ _ | refine Box.drew ?_ | refine Box.drewN ?_ _)) hb4
    have Ap4 : Box w4 (w3.heap.size) (mk) (mn) ⟨#[]⟩ := Box.step (by repeat (first | exact Box.new _ _ _ _ | assumption | refine Box.alloc ?_ _ | refine Box.drew ?_ | refine Box.drewN ?_ _)) hb4
    have xa4 := Aa4.c0; have ya4 := Aa4.c1; have za4 := Aa4.c2; have la4 := Aa4.lt
    have xb4 := Ab4.c0; have yb4 := Ab4.c1; have zb4 := Ab4.c2; have lb4 := Ab4.lt
    have xs4 := As4.c0; have ys4 := As4.c1; have zs4 := As4.c2; have ls4 := As4.lt
    have xt4 := At4.c0; have yt4 := At4.c1; have zt4 := At4.c2; have lt4 := At4.lt
    have xp4 := Ap4.c0; have yp4 := Ap4.c1; have zp4 := Ap4.c2; have lp4 := Ap4.lt
    have H4 : HBox w4 w.heap.size h0 h1 := HBox.step (by repeat (first | assumption | refine HBox.alloc ?_ _)) hb4
    go_upto_if 80 with (fail)
    go_cut [17, 18, 19, 20] from 81 to 103 (fun _ _ _ _ wx => Box wx b (kd h0) x ⟨#[]⟩ ∧ Box wx c (kd h1) y ⟨#[]⟩ ∧ HBox wx w.heap.size h0 h1 ∧ Bel w.heap.size w wx)
    case first =>
      rcases hsum with hs | ⟨cc, X, Z, hs, iX, iZ, hs1, hs2⟩
      · simp only [Prod.mk.injEq] at hs
        obtain ⟨rfl, rfl, rfl⟩ := hs
        go_wp2
        go_meet
        exact ⟨(by repeat (first | exact Box.new _ _ _ _ | assumption | refine Box.alloc ?_ _)), (by repeat (first | exact Box.new _ _ _ _ | assumption | refine Box.alloc ?_ _)), (by repeat (first | assumption | refine HBox.alloc ?_ _)), (by repeat (first | exact Bel.refl _ | assumption | refine Bel.alloc ?_ _ | refine Bel.drew ?_ | refine Bel.drewN ?_ _))⟩
      · simp only [Prod.mk.injEq] at hs
        obtain ⟨rfl, rfl, rfl⟩ := hs
        have hsub1 := fun w => Sub_any sk sn ⟨#[]⟩ (kd h1) y ⟨#[]⟩ iZ hy w
        have hsub2 := fun w => Sub_any sk X ⟨#[]⟩ (kd h0) x ⟨#[]⟩ iX hx w
        rw [hs1] at hsub1
        rw [hs2] at hsub2
        clear hs1 hs2
        go_wp2_with fail
        refine (hsub1 _).mono ?_
        rintro e w5 ⟨rfl, hb5⟩
        have B5 : Bel w.heap.size w w5 := Bel.step (by repeat (first | exact Bel.refl _ | assumption | refine Bel.alloc ?_ _ | refine Bel.drew ?_ | refine Bel.drewN ?_ _)) hb5
        have Aa5 : Box w5 (b) (kd h0) (x) ⟨#[]⟩ := Box.step (by repeat (first | exact Box.new _ _ _ _ | assumption | refine Box.alloc ?_ _ | refine Box.drew ?_ | refine Box.drewN ?_ _)) hb5
        have Ab5 : Box w5 (c) (kd h1) (y) ⟨#[]⟩ := Box.step (by repeat (first | exact Box.new _ _ _ _ | assumption | refine Box.alloc ?_ _ | refine Box.drew ?_ | refine Box.drewN ?_ _)) hb5
        have As5 : Box w5 (w1.heap.size) (sk) (sn) ⟨#[]⟩ := Box.step (by repeat (first | exact Box.new _ _ _ _ | assumption | refine Box.alloc ?_ _ | refine Box.drew ?_ | refine Box.drewN ?_ _)) hb5
        have xa5 := Aa5.c0; have ya5 := Aa5.c1; have za5 := Aa5.c2; have la5 := Aa5.lt
        have xb5 := Ab5.c0; have yb5 := Ab5.c1; have zb5 := Ab5.c2; have lb5 := Ab5.lt
        have xs5 := As5.c0; have ys5 := As5.c1; have zs5 := As5.c2; have ls5 := As5.lt
        have H5 : HBox w5 w.heap.size h0 h1 := HBox.step (by repeat (first | assumption | refine HBox.alloc ?_ _)) hb5
        go_wp2_with fail
        refine (hsub2 _).mono ?_
        rintro e w6 ⟨rfl, hb6⟩
        have B6 : Bel w.heap.size w w6 := Bel.step (by repeat (first | exact Bel.refl _ | assumption | refine Bel.alloc ?_ _ | refine Bel.drew ?_ | refine Bel.drewN ?_ _)) hb6
        have Aa6 : Box w6 (b) (kd h0) (x) ⟨#[]⟩ := Box.step (by repeat (first | exact Box.new _ _ _ _ | assumption | refine Box.alloc ?_ _ | refine Box.drew ?_ | refine Box.drewN ?_ _)) hb6
        have Ab6 : Box w6 (c) (kd h1) (y) ⟨#[]⟩ := Box.step (by repeat (first | exact Box.new _ _ _ _ | assumption | refine Box.alloc ?_ _ | refine Box.drew ?_ | refine Box.drewN ?_ _)) hb6
        have Ak6 : Box w6 (w5.heap.size) (sk) (X) ⟨#[]⟩ := Box.step (by repeat (first | exact Box.new _ _ _ _ | assumption | refine Box.alloc ?_ _ | refine Box.drew ?_ | refine Box.drewN ?_ _)) hb6
        have xa6 := Aa6.c0; have ya6 := Aa6.c1; have za6 := Aa6.c2; have la6 := Aa6.lt
        have xb6 := Ab6.c0; have yb6 := Ab6.c1; have zb6 := Ab6.c2; have lb6 := Ab6.lt
        have xk6 := Ak6.c0; have yk6 := Ak6.c1; have zk6 := Ak6.c2; have lk6 := Ak6.lt
        have H6 : HBox w6 w.heap.size h0 h1 := HBox.step (by repeat (first | assumption | refine HBox.alloc ?_ _)) hb6
        go_wp2
        go_meet
        exact ⟨(by repeat (first | exact Box.new _ _ _ _ | assumption | refine Box.alloc ?_ _)), (by repeat (first | exact Box.new _ _ _ _ | assumption | refine Box.alloc ?_ _)), (by repeat (first | assumption | refine HBox.alloc ?_ _)), (by repeat (first | exact Bel.refl _ | assumption | refine Bel.alloc ?_ _ | refine Bel.drew ?_ | refine Bel.drewN ?_ _))⟩
    case rest =>
      obtain ⟨Aa, Ab, Hh, BBB⟩ := hcut
      have xa := Aa.c0; have ya := Aa.c1; have za := Aa.c2; have la := Aa.lt
      have xb := Ab.c0; have yb := Ab.c1; have zb := Ab.c2; have lb := Ab.lt
      have xh := Hh.c0; have yh := Hh.c1; have lh := Hh.lt
      by_cases hy0 : y = 0
      · subst hy0
        go_wp2_with (go_at_call 23; refine (sure_any _).mono ?_; rintro e w' ⟨rfl, hb⟩)
        go_ret
        exact ⟨rfl, (Bel.step (by repeat (first | exact Bel.refl _ | assumption | refine Bel.alloc ?_ _ | refine Bel.drew ?_ | refine Bel.drewN ?_ _)) hb).out⟩
      · have hy1 : (y == 0) = false := by simpa using hy0
        cases h0 with
        | true =>
          go_wp2_with (go_at_call 23; refine (sure_any _).mono ?_; rintro e w' ⟨rfl, hb⟩)
          go_ret
          exact ⟨rfl, (Bel.step (by repeat (first | exact Bel.refl _ | assumption | refine Bel.alloc ?_ _ | refine Bel.drew ?_ | refine Bel.drewN ?_ _)) hb).out⟩
        | false =>
          cases h1 with
          | true =>
            go_wp2_with (go_at_call 23; refine (sure_any _).mono ?_; rintro e w' ⟨rfl, hb⟩)
            go_ret
            exact ⟨rfl, (Bel.step (by repeat (first | exact Bel.refl _ | assumption | refine Bel.alloc ?_ _ | refine Bel.drew ?_ | refine Bel.drewN ?_ _)) hb).out⟩
          | false =>
            by_cases hmm : x = -9223372036854775808 ∧ y = -1
            · obtain ⟨rfl, rfl⟩ := hmm
              go_wp2_with (go_at_call 23; refine (sure_any _).mono ?_; rintro e w' ⟨rfl, hb⟩)
              go_ret
              exact ⟨rfl, (Bel.step (by repeat (first | exact Bel.refl _ | assumption | refine Bel.alloc ?_ _ | refine Bel.drew ?_ | refine Bel.drewN ?_ _)) hb).out⟩
            · obtain ⟨q, r, m, hq, hr, hm, ha, iq, ir, im, hsg⟩ := whole hx hy hy0 hmm
              have hdiv := fun w => Div_any 2 x ⟨#[]⟩ 2 y ⟨#[]⟩ hx hy w
              have hmod := fun w => Mod_any 2 x ⟨#[]⟩ 2 y ⟨#[]⟩ hx hy w
              have hmulq := fun w => Mul_any 2 q ⟨#[]⟩ 2 y ⟨#[]⟩ iq hy w
              have haddm := fun w => Add_any 2 m ⟨#[]⟩ 2 r ⟨#[]⟩ im ir w
              rw [hq] at hdiv
              rw [hr] at hmod
              rw [hm] at hmulq
              rw [ha] at haddm
              have hkd : kd false = 2 := rfl
              rw [hkd] at Aa Ab xa xb
              clear hq hr hm ha hadd hadd' hmul hmul' hsum hkd
              have hxm : (x == -9223372036854775808) = false ∨ ((x == -9223372036854775808) = true ∧ (y == -1) = false) := by
                by_cases h1 : x = -9223372036854775808
                · refine Or.inr ⟨by simpa using h1, ?_⟩
                  have h2 : ¬ y = -1 := fun h2 => hmm ⟨h1, h2⟩
                  simpa using h2
                · exact Or.inl (by simpa using h1)
              clear hmm
              have hsg2 : (r == 0) = true ∨ ((r == 0) = false ∧ (decide (r < 0) == decide (x < 0)) = true) := by
                by_cases h1 : r = 0
                · exact Or.inl (by simpa using h1)
                · exact Or.inr ⟨by simpa using h1, hsg.resolve_left h1⟩
              clear hsg
              rcases hxm with hxm | ⟨hxm, hym⟩ <;> rcases hsg2 with hr0 | ⟨hr0, hr1⟩
              all_goals
                go_wp2_with fail
                refine (hdiv _).mono ?_
                rintro e w7 ⟨rfl, hb7⟩
                have B7 : Bel w.heap.size w w7 := Bel.step (by repeat (first | exact Bel.refl _ | assumption | refine Bel.alloc ?_ _ | refine Bel.drew ?_ | refine Bel.drewN ?_ _)) hb7
                have Aa7 : Box w7 (b) (2) (x) ⟨#[]⟩ := Box.step (by repeat (first | exact Box.new _ _ _ _ | assumption | refine Box.alloc ?_ _ | refine Box.drew ?_ | refine Box.drewN ?_ _)) hb7
                have Ab7 : Box w7 (c) (2) (y) ⟨#[]⟩ := Box.step (by repeat (first | exact Box.new _ _ _ _ | assumption | refine Box.alloc ?_ _ | refine Box.drew ?_ | refine Box.drewN ?_ _)) hb7
                have xa7 := Aa7.c0; have ya7 := Aa7.c1; have za7 := Aa7.c2; have la7 := Aa7.lt
                have xb7 := Ab7.c0; have yb7 := Ab7.c1; have zb7 := Ab7.c2; have lb7 := Ab7.lt
                go_wp2_with fail
                refine (hmod _).mono ?_
                rintro e w8 ⟨rfl, hb8⟩
                have B8 : Bel w.heap.size w w8 := Bel.step (by repeat (first | exact Bel.refl _ | assumption | refine Bel.alloc ?_ _ | refine Bel.drew ?_ | refine Bel.drewN ?_ _)) hb8
                have Aa8 : Box w8 (b) (2) (x) ⟨#[]⟩ := Box.step (by repeat (first | exact Box.new _ _ _ _ | assumption | refine Box.alloc ?_ _ | refine Box.drew ?_ | refine Box.drewN ?_ _)) hb8
                have Ab8 : Box w8 (c) (2) (y) ⟨#[]⟩ := Box.step (by repeat (first | exact Box.new _ _ _ _ | assumption | refine Box.alloc ?_ _ | refine Box.drew ?_ | refine Box.drewN ?_ _)) hb8
                have Ad8 : Box w8 (w7.heap.size) (2) (q) ⟨#[]⟩ := Box.step (by repeat (first | exact Box.new _ _ _ _ | assumption | refine Box.alloc ?_ _ | refine Box.drew ?_ | refine Box.drewN ?_ _)) hb8
                have xa8 := Aa8.c0; have ya8 := Aa8.c1; have za8 := Aa8.c2; have la8 := Aa8.lt
                have xb8 := Ab8.c0; have yb8 := Ab8.c1; have zb8 := Ab8.c2; have lb8 := Ab8.lt
                have xd8 := Ad8.c0; have yd8 := Ad8.c1; have zd8 := Ad8.c2; have ld8 := Ad8.lt
                go_wp2_with fail
                refine (hmulq _).mono ?_
                rintro e w9 ⟨rfl, hb9⟩
                have B9 : Bel w.heap.size w w9 := Bel.step (by repeat (first | exact Bel.refl _ | assumption | refine Bel.alloc ?_ _ | refine Bel.drew ?_ | refine Bel.drewN ?_ _)) hb9
                have Aa9 : Box w9 (b) (2) (x) ⟨#[]⟩ := Box.step (by repeat (first | exact Box.new _ _ _ _ | assumption | refine Box.alloc ?_ _ | refine Box.drew ?_ | refine Box.drewN ?_ _)) hb9
                have Ab9 : Box w9 (c) (2) (y) ⟨#[]⟩ := Box.step (by repeat (first | exact Box.new _ _ _ _ | assumption | refine Box.alloc ?_ _ | refine Box.drew ?_ | refine Box.drewN ?_ _)) hb9
                have Ad9 : Box w9 (w7.heap.size) (2) (q) ⟨#[]⟩ := Box.step (by repeat (first | exact Box.new _ _ _ _ | assumption | refine Box.alloc ?_ _ | refine Box.drew ?_ | refine Box.drewN ?_ _)) hb9
                have Ar9 : Box w9 (w8.heap.size) (2) (r) ⟨#[]⟩ := Box.step (by repeat (first | exact Box.new _ _ _ _ | assumption | refine Box.alloc ?_ _ | refine Box.drew ?_ | refine Box.drewN ?_ _)) hb9
                have xa9 := Aa9.c0; have ya9 := Aa9.c1; have za9 := Aa9.c2; have la9 := Aa9.lt
                have xb9 := Ab9.c0; have yb9 := Ab9.c1; have zb9 := Ab9.c2; have lb9 := Ab9.lt
                have xd9 := Ad9.c0; have yd9 := Ad9.c1; have zd9 := Ad9.c2; have ld9 := Ad9.lt
                have xr9 := Ar9.c0; have yr9 := Ar9.c1; have zr9 := Ar9.c2; have lr9 := Ar9.lt
                go_wp2_with fail
                refine (haddm _).mono ?_
                rintro e w10 ⟨rfl, hb10⟩
                have B10 : Bel w.heap.size w w10 := Bel.step (by repeat (first | exact Bel.refl _ | assumption | refine Bel.alloc ?_ _ | refine Bel.drew ?_ | refine Bel.drewN ?_ _)) hb10
                have Aa10 : Box w10 (b) (2) (x) ⟨#[]⟩ := Box.step (by repeat (first | exact Box.new _ _ _ _ | assumption | refine Box.alloc ?_ _ | refine Box.drew ?_ | refine Box.drewN ?_ _)) hb10
                have Ab10 : Box w10 (c) (2) (y) ⟨#[]⟩ := Box.step (by repeat (first | exact Box.new _ _ _ _ | assumption | refine Box.alloc ?_ _ | refine Box.drew ?_ | refine Box.drewN ?_ _)) hb10
                have Ad10 : Box w10 (w7.heap.size) (2) (q) ⟨#[]⟩ := Box.step (by repeat (first | exact Box.new _ _ _ _ | assumption | refine Box.alloc ?_ _ | refine Box.drew ?_ | refine Box.drewN ?_ _)) hb10
                have Ar10 : Box w10 (w8.heap.size) (2) (r) ⟨#[]⟩ := Box.step (by repeat (first | exact Box.new _ _ _ _ | assumption | refine Box.alloc ?_ _ | refine Box.drew ?_ | refine Box.drewN ?_ _)) hb10
                have Am10 : Box w10 (w9.heap.size) (2) (m) ⟨#[]⟩ := Box.step (by repeat (first | exact Box.new _ _ _ _ | assumption | refine Box.alloc ?_ _ | refine Box.drew ?_ | refine Box.drewN ?_ _)) hb10
                have xa10 := Aa10.c0; have ya10 := Aa10.c1; have za10 := Aa10.c2; have la10 := Aa10.lt
                have xb10 := Ab10.c0; have yb10 := Ab10.c1; have zb10 := Ab10.c2; have lb10 := Ab10.lt
                have xd10 := Ad10.c0; have yd10 := Ad10.c1; have zd10 := Ad10.c2; have ld10 := Ad10.lt
                have xr10 := Ar10.c0; have yr10 := Ar10.c1; have zr10 := Ar10.c2; have lr10 := Ar10.lt
                have xm10 := Am10.c0; have ym10 := Am10.c1; have zm10 := Am10.c2; have lm10 := Am10.lt
                go_wp2_with (go_at_call 23; refine (sure_any _).mono ?_; rintro e w' ⟨rfl, hb⟩)
                go_ret
                exact ⟨by simp, (Bel.step (by repeat (first | exact Bel.refl _ | assumption | refine Bel.alloc ?_ _ | refine Bel.drew ?_ | refine Bel.drewN ?_ _)) hb).out⟩
end Go.Proofs.Ytakcmjigddeapaa
