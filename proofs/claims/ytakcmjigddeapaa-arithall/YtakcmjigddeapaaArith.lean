/- What the exported functions of package arith give, for any values. -/
import Derived.Test.YtakcmjigddeapaaOps
namespace Go.Proofs.Ytakcmjigddeapaa
open Go.ChangeShapes Go.WideShapes Go.ChangeAt Go.RowKit

theorem bchain {W w1 w2 : World} (h1 : Below W.heap.size W w1) (h2 : Below w1.heap.size w1 w2) : Below W.heap.size W w2 := h1.trans (h2.mono h1.size)

set_option maxHeartbeats 1000000 in
theorem alike_any (F : Nat) (eF : ∀ args w, (callFunc F args).run Try.prog w = .ok (.enter F args) w) (k n : Int) (t : ByteArray) (k' n' : Int) (t' : ByteArray) (hn : In n) (hn' : In n') (g z : Int → Int → Int)
    (hF : ∀ x y w, In x → In y → x = up (kind2 k k') k n → y = up (kind2 k k') k' n' → Calls Try.prog F #[.int .i64 x, .int .i64 y] w fun e w' => e = .returned (.tuple #[.int .i64 (g x y), .bool (fits (z x y))]) ∧ Below w.heap.size w w')
    (hG : ∀ x y, fits (z x y) = true → g x y = z x y) (w : World) :
    Calls Try.prog 32 #[.func (.func F) #[] #[], .agg #[.int .i64 k, .int .i64 n, .string t], .agg #[.int .i64 k', .int .i64 n', .string t']] w fun e w' => e = .returned (.tuple #[.agg #[.int .i64 (alikeS z k n k' n').1, .int .i64 (alikeS z k n k' n').2.1, .string ⟨#[]⟩], .int .i64 (alikeS z k n k' n').2.2]) ∧ Below w.heap.size w w' := by
  unfold alikeS
  generalize hkd : kind2 k k' = kd at *
  have hx := fun w => inKind_any kd k n t w hn
  have hy := fun w => inKind_any kd k' n' t' w hn'
  have hco := common2 k n t k' n' t'
  rw [hkd] at hco
  have ex := up_in (kind := kd) (k := k) hn
  have ey := up_in (kind := kd) (k := k') hn'
  have ix := in_inN (kind := kd) (k := k) hn
  have iy := in_inN (kind := kd) (k := k') hn'
  generalize up kd k n = X at *
  generalize up kd k' n' = Y at *
  cases hfx : fits X with
  | false =>
    rw [hfx] at hx
    clear ex ey hF hG
    go_enter Try.func32, Try.ntmps32
    go_wp2_with fail
    refine (hco _ _ (by simp)).mono ?_
    rintro e w1 ⟨rfl, hb1⟩
    obtain ⟨hc1, hf1⟩ := bcell hb1
    go_wp2_with fail
    refine (hx _).mono ?_
    rintro e w2 ⟨rfl, hb2⟩
    have hz2 := bchain hb1 hb2
    obtain ⟨hc2, hf2⟩ := bcell hz2
    go_wp2_with fail
    refine (hy _).mono ?_
    rintro e w3 ⟨rfl, hb3⟩
    have hz3 := bchain hz2 hb3
    obtain ⟨hc3, hf3⟩ := bcell hz3
    go_wp2
    exact bodyPost_ret (v := .tuple #[.agg #[.int .i64 (((0 : Int), (0 : Int), (20 : Int))).1, .int .i64 (((0 : Int), (0 : Int), (20 : Int))).2.1, .string ⟨#[]⟩], .int .i64 (((0 : Int), (0 : Int), (20 : Int))).2.2]) (by simp [results, Try.results32, go_sem, hc3]) rfl ⟨rfl, (Bel.out (by repeat (first | exact Bel.refl _ | refine Bel.drew ?_ | refine Bel.drewN ?_ _ | refine Bel.alloc ?_ _ | refine Bel.setCell ?_ (by simp <;> omega) _ | refine Bel.step ?_ (by assumption))))⟩
  | true =>
    rw [hfx] at hx
    cases hfy : fits Y with
    | false =>
      rw [hfy] at hy
      clear ex ey hF hG
      go_enter Try.func32, Try.ntmps32
      go_wp2_with fail
      refine (hco _ _ (by simp)).mono ?_
      rintro e w1 ⟨rfl, hb1⟩
      obtain ⟨hc1, hf1⟩ := bcell hb1
      go_wp2_with fail
      refine (hx _).mono ?_
      rintro e w2 ⟨rfl, hb2⟩
      have hz2 := bchain hb1 hb2
      obtain ⟨hc2, hf2⟩ := bcell hz2
      go_wp2_with fail
      refine (hy _).mono ?_
      rintro e w3 ⟨rfl, hb3⟩
      have hz3 := bchain hz2 hb3
      obtain ⟨hc3, hf3⟩ := bcell hz3
      go_wp2
      exact bodyPost_ret (v := .tuple #[.agg #[.int .i64 (((0 : Int), (0 : Int), (20 : Int))).1, .int .i64 (((0 : Int), (0 : Int), (20 : Int))).2.1, .string ⟨#[]⟩], .int .i64 (((0 : Int), (0 : Int), (20 : Int))).2.2]) (by simp [results, Try.results32, go_sem, hc3]) rfl ⟨rfl, (Bel.out (by repeat (first | exact Bel.refl _ | refine Bel.drew ?_ | refine Bel.drewN ?_ _ | refine Bel.alloc ?_ _ | refine Bel.setCell ?_ (by simp <;> omega) _ | refine Bel.step ?_ (by assumption))))⟩
    | true =>
      rw [hfy] at hy
      have hX := ex hfx
      have hY := ey hfy
      rw [hX] at hx ix
      rw [hY] at hy iy
      have hcall := fun w => hF X Y w ix iy rfl rfl
      have hnum := fun w => number_fin kd (g X Y) (z X Y) w (hG X Y)
      clear ex ey hF hG hX hY
      generalize g X Y = G at *
      generalize z X Y = Z at *
      go_enter Try.func32, Try.ntmps32
      go_wp2_with fail
      refine (hco _ _ (by simp)).mono ?_
      rintro e w1 ⟨rfl, hb1⟩
      obtain ⟨hc1, hf1⟩ := bcell hb1
      go_wp2_with fail
      refine (hx _).mono ?_
      rintro e w2 ⟨rfl, hb2⟩
      have hz2 := bchain hb1 hb2
      obtain ⟨hc2, hf2⟩ := bcell hz2
      go_wp2_with fail
      refine (hy _).mono ?_
      rintro e w3 ⟨rfl, hb3⟩
      have hz3 := bchain hz2 hb3
      obtain ⟨hc3, hf3⟩ := bcell hz3
      go_wp2_with (go_at_fn F; refine (hcall _).mono ?_; rintro e w4 ⟨rfl, hb4⟩; have hz4 := bchain hz3 hb4; obtain ⟨hc4, hf4⟩ := bcell hz4)
      refine (hnum _).mono ?_
      rintro e w5 ⟨rfl, hb5⟩
      have hz5 := bchain hz4 hb5
      obtain ⟨hc5, hf5⟩ := bcell hz5
      go_wp2
      exact bodyPost_ret (v := .tuple #[.agg #[.int .i64 (fin kd Z).1, .int .i64 (fin kd Z).2.1, .string ⟨#[]⟩], .int .i64 (fin kd Z).2.2]) (by simp [results, Try.results32, go_sem, hc5]) rfl ⟨rfl, (Bel.out (by repeat (first | exact Bel.refl _ | refine Bel.drew ?_ | refine Bel.drewN ?_ _ | refine Bel.alloc ?_ _ | refine Bel.setCell ?_ (by simp <;> omega) _ | refine Bel.step ?_ (by assumption))))⟩
end Go.Proofs.Ytakcmjigddeapaa
