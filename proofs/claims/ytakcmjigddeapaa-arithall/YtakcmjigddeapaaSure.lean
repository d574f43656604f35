/- 'sure', the chapter's examples, is true. -/
import Derived.Test.YtakcmjigddeapaaBox
namespace Go.Proofs.Ytakcmjigddeapaa
open Go.ChangeShapes Go.WideShapes Go.ChangeAt Go.RowKit
attribute [local go_sem ↓] Go.wp_at_zero Go.wp_at_succ

theorem sure1 (w : World) : Calls Try.prog 13 #[.agg #[.int .i64 3, .int .i64 15000, .string ⟨#[]⟩], .agg #[.int .i64 3, .int .i64 15000, .string ⟨#[]⟩]] w fun e w' => e = .returned (.tuple #[.agg #[.int .i64 3, .int .i64 22500, .string ⟨#[]⟩], .int .i64 0]) ∧ Below w.heap.size w w' := by
  have h := Mul_any 3 15000 ⟨#[]⟩ 3 15000 ⟨#[]⟩ (by unfold In; omega) (by unfold In; omega) w
  rw [show mulS 3 15000 3 15000 = (3, 22500, 0) from by decide] at h
  exact h
theorem sure2 (w : World) : Calls Try.prog 15 #[.agg #[.int .i64 2, .int .i64 7, .string ⟨#[]⟩], .agg #[.int .i64 2, .int .i64 (-2), .string ⟨#[]⟩]] w fun e w' => e = .returned (.tuple #[.agg #[.int .i64 2, .int .i64 (-3), .string ⟨#[]⟩], .int .i64 0]) ∧ Below w.heap.size w w' := by
  have h := Div_any 2 7 ⟨#[]⟩ 2 (-2) ⟨#[]⟩ (by unfold In; omega) (by unfold In; omega) w
  rw [show divS 2 7 2 (-2) = (2, (-3), 0) from by decide] at h
  exact h
theorem sure3 (w : World) : Calls Try.prog 15 #[.agg #[.int .i64 2, .int .i64 1, .string ⟨#[]⟩], .agg #[.int .i64 3, .int .i64 30000, .string ⟨#[]⟩]] w fun e w' => e = .returned (.tuple #[.agg #[.int .i64 3, .int .i64 3333, .string ⟨#[]⟩], .int .i64 0]) ∧ Below w.heap.size w w' := by
  have h := Div_any 2 1 ⟨#[]⟩ 3 30000 ⟨#[]⟩ (by unfold In; omega) (by unfold In; omega) w
  rw [show divS 2 1 3 30000 = (3, 3333, 0) from by decide] at h
  exact h
theorem sure4 (w : World) : Calls Try.prog 7 #[.agg #[.int .i64 2, .int .i64 (-9223372036854775808), .string ⟨#[]⟩]] w fun e w' => e = .returned (.tuple #[.agg #[.int .i64 0, .int .i64 0, .string ⟨#[]⟩], .int .i64 20]) ∧ Below w.heap.size w w' := by
  have h := Neg_any 2 (-9223372036854775808) ⟨#[]⟩ (by unfold In; omega) w
  rw [show negS 2 (-9223372036854775808) = (0, 0, 20) from by decide] at h
  exact h
theorem sure5 (w : World) : Calls Try.prog 15 #[.agg #[.int .i64 2, .int .i64 1, .string ⟨#[]⟩], .agg #[.int .i64 3, .int .i64 0, .string ⟨#[]⟩]] w fun e w' => e = .returned (.tuple #[.agg #[.int .i64 0, .int .i64 0, .string ⟨#[]⟩], .int .i64 21]) ∧ Below w.heap.size w w' := by
  have h := Div_any 2 1 ⟨#[]⟩ 3 0 ⟨#[]⟩ (by unfold In; omega) (by unfold In; omega) w
  rw [show divS 2 1 3 0 = (0, 0, 21) from by decide] at h
  exact h
theorem sure6 (w : World) : Calls Try.prog 9 #[.agg #[.int .i64 0, .int .i64 0, .string ⟨#[]⟩], .agg #[.int .i64 2, .int .i64 1, .string ⟨#[]⟩]] w fun e w' => e = .returned (.tuple #[.agg #[.int .i64 0, .int .i64 0, .string ⟨#[]⟩], .int .i64 0]) ∧ Below w.heap.size w w' := by
  have h := Add_any 0 0 ⟨#[]⟩ 2 1 ⟨#[]⟩ (by unfold In; omega) (by unfold In; omega) w
  rw [show addS 0 0 2 1 = (0, 0, 0) from by decide] at h
  exact h
theorem sure7 (w : World) : Calls Try.prog 9 #[.agg #[.int .i64 0, .int .i64 0, .string ⟨#[]⟩], .agg #[.int .i64 4, .int .i64 0, .string ⟨#[]⟩]] w fun e w' => e = .returned (.tuple #[.agg #[.int .i64 0, .int .i64 0, .string ⟨#[]⟩], .int .i64 22]) ∧ Below w.heap.size w w' := by
  have h := Add_any 0 0 ⟨#[]⟩ 4 0 ⟨#[]⟩ (by unfold In; omega) (by unfold In; omega) w
  rw [show addS 0 0 4 0 = (0, 0, 22) from by decide] at h
  exact h

theorem numB (n : Int) (w : World) : Calls Try.prog 26 #[.int .i64 n] w fun e w' => e = .returned (.agg #[.int .i64 2, .int .i64 n, .string ⟨#[]⟩]) ∧ Below w.heap.size w w' := by
  refine (num_any n w).mono ?_
  rintro e w' ⟨rfl, rfl⟩
  exact ⟨rfl, (Bel.alloc (Bel.refl _) _).out⟩
theorem decB (n : Int) (w : World) : Calls Try.prog 25 #[.int .i64 n] w fun e w' => e = .returned (.agg #[.int .i64 3, .int .i64 n, .string ⟨#[]⟩]) ∧ Below w.heap.size w w' := by
  refine (dec_any n w).mono ?_
  rintro e w' ⟨rfl, rfl⟩
  exact ⟨rfl, (Bel.alloc (Bel.refl _) _).out⟩

set_option maxHeartbeats 4000000 in
theorem sure_any (w : World) : Calls Try.prog 23 #[] w fun e w' => e = .returned (.bool true) ∧ Below w.heap.size w w' := by
  have hnum := num_any
  have hdec := dec_any
  go_enter Try.func23, Try.ntmps23
  go_wp2_with (first | (go_at_call 25; refine (hdec _ _).mono ?_; rintro e w' ⟨rfl, rfl⟩) | (go_at_call 26; refine (hnum _ _).mono ?_; rintro e w' ⟨rfl, rfl⟩))
  refine (sure1 _).mono ?_
  rintro e w1 ⟨rfl, hb1⟩
  have B1 : Bel w.heap.size w w1 := Bel.step (by repeat (first | exact Bel.refl _ | assumption | refine Bel.alloc ?_ _)) hb1
  go_wp2_with (first | (go_at_call 25; refine (hdec _ _).mono ?_; rintro e w' ⟨rfl, rfl⟩) | (go_at_call 26; refine (hnum _ _).mono ?_; rintro e w' ⟨rfl, rfl⟩))
  refine (sure2 _).mono ?_
  rintro e w2 ⟨rfl, hb2⟩
  have B2 : Bel w.heap.size w w2 := Bel.step (by repeat (first | exact Bel.refl _ | assumption | refine Bel.alloc ?_ _)) hb2
  have A12 : Box w2 w1.heap.size 3 22500 ⟨#[]⟩ := Box.step (by repeat (first | exact Box.new _ _ _ _ | assumption | refine Box.alloc ?_ _ | refine Box.drew ?_ | refine Box.drewN ?_ _)) hb2
  have x12 := A12.c0; have y12 := A12.c1; have z12 := A12.c2; have l12 := A12.lt
  go_wp2_with (first | (go_at_call 25; refine (hdec _ _).mono ?_; rintro e w' ⟨rfl, rfl⟩) | (go_at_call 26; refine (hnum _ _).mono ?_; rintro e w' ⟨rfl, rfl⟩))
  refine (sure3 _).mono ?_
  rintro e w3 ⟨rfl, hb3⟩
  have B3 : Bel w.heap.size w w3 := Bel.step (by repeat (first | exact Bel.refl _ | assumption | refine Bel.alloc ?_ _)) hb3
  have A13 : Box w3 w1.heap.size 3 22500 ⟨#[]⟩ := Box.step (by repeat (first | exact Box.new _ _ _ _ | assumption | refine Box.alloc ?_ _ | refine Box.drew ?_ | refine Box.drewN ?_ _)) hb3
  have A23 : Box w3 w2.heap.size 2 (-3) ⟨#[]⟩ := Box.step (by repeat (first | exact Box.new _ _ _ _ | assumption | refine Box.alloc ?_ _ | refine Box.drew ?_ | refine Box.drewN ?_ _)) hb3
  have x13 := A13.c0; have y13 := A13.c1; have z13 := A13.c2; have l13 := A13.lt
  have x23 := A23.c0; have y23 := A23.c1; have z23 := A23.c2; have l23 := A23.lt
  go_wp2_with (first | (go_at_call 25; refine (hdec _ _).mono ?_; rintro e w' ⟨rfl, rfl⟩) | (go_at_call 26; refine (hnum _ _).mono ?_; rintro e w' ⟨rfl, rfl⟩))
  refine (sure4 _).mono ?_
  rintro e w4 ⟨rfl, hb4⟩
  have B4 : Bel w.heap.size w w4 := Bel.step (by repeat (first | exact Bel.refl _ | assumption | refine Bel.alloc ?_ _)) hb4
  have A14 : Box w4 w1.heap.size 3 22500 ⟨#[]⟩ := Box.step (by repeat (first | exact Box.new _ _ _ _ | assumption | refine Box.alloc ?_ _ | refine Box.drew ?_ | refine Box.drewN ?_ _)) hb4
  have A24 : Box w4 w2.heap.size 2 (-3) ⟨#[]⟩ := Box.step (by repeat (first | exact Box.new _ _ _ _ | assumption | refine Box.alloc ?_ _ | refine Box.drew ?_ | refine Box.drewN ?_ _)) hb4
  have A34 : Box w4 w3.heap.size 3 3333 ⟨#[]⟩ := Box.step (by repeat (first | exact Box.new _ _ _ _ | assumption | refine Box.alloc ?_ _ | refine Box.drew ?_ | refine Box.drewN ?_ _)) hb4
  have x14 := A14.c0; have y14 := A14.c1; have z14 := A14.c2; have l14 := A14.lt
  have x24 := A24.c0; have y24 := A24.c1; have z24 := A24.c2; have l24 := A24.lt
  have x34 := A34.c0; have y34 := A34.c1; have z34 := A34.c2; have l34 := A34.lt
  go_wp2_with (first | (go_at_call 25; refine (hdec _ _).mono ?_; rintro e w' ⟨rfl, rfl⟩) | (go_at_call 26; refine (hnum _ _).mono ?_; rintro e w' ⟨rfl, rfl⟩))
  refine (sure5 _).mono ?_
  rintro e w5 ⟨rfl, hb5⟩
  have B5 : Bel w.heap.size w w5 := Bel.step (by repeat (first | exact Bel.refl _ | assumption | refine Bel.alloc ?_ _)) hb5
  have A15 : Box w5 w1.heap.size 3 22500 ⟨#[]⟩ := Box.step (by repeat (first | exact Box.new _ _ _ _ | assumption | refine Box.alloc ?_ _ | refine Box.drew ?_ | refine Box.drewN ?_ _)) hb5
  have A25 : Box w5 w2.heap.size 2 (-3) ⟨#[]⟩ := Box.step (by repeat (first | exact Box.new _ _ _ _ | assumption | refine Box.alloc ?_ _ | refine Box.drew ?_ | refine Box.drewN ?_ _)) hb5
  have A35 : Box w5 w3.heap.size 3 3333 ⟨#[]⟩ := Box.step (by repeat (first | exact Box.new _ _ _ _ | assumption | refine Box.alloc ?_ _ | refine Box.drew ?_ | refine Box.drewN ?_ _)) hb5
  have x15 := A15.c0; have y15 := A15.c1; have z15 := A15.c2; have l15 := A15.lt
  have x25 := A25.c0; have y25 := A25.c1; have z25 := A25.c2; have l25 := A25.lt
  have x35 := A35.c0; have y35 := A35.c1; have z35 := A35.c2; have l35 := A35.lt
  go_wp2_with (first | (go_at_call 25; refine (hdec _ _).mono ?_; rintro e w' ⟨rfl, rfl⟩) | (go_at_call 26; refine (hnum _ _).mono ?_; rintro e w' ⟨rfl, rfl⟩))
  refine (sure6 _).mono ?_
  rintro e w6 ⟨rfl, hb6⟩
  have B6 : Bel w.heap.size w w6 := Bel.step (by repeat (first | exact Bel.refl _ | assumption | refine Bel.alloc ?_ _)) hb6
  have A16 : Box w6 w1.heap.size 3 22500 ⟨#[]⟩ := Box.step (by repeat (first | exact Box.new _ _ _ _ | assumption | refine Box.alloc ?_ _ | refine Box.drew ?_ | refine Box.drewN ?_ _)) hb6
  have A26 : Box w6 w2.heap.size 2 (-3) ⟨#[]⟩ := Box.step (by repeat (first | exact Box.new _ _ _ _ | assumption | refine Box.alloc ?_ _ | refine Box.drew ?_ | refine Box.drewN ?_ _)) hb6
  have A36 : Box w6 w3.heap.size 3 3333 ⟨#[]⟩ := Box.step (by repeat (first | exact Box.new _ _ _ _ | assumption | refine Box.alloc ?_ _ | refine Box.drew ?_ | refine Box.drewN ?_ _)) hb6
  have x16 := A16.c0; have y16 := A16.c1; have z16 := A16.c2; have l16 := A16.lt
  have x26 := A26.c0; have y26 := A26.c1; have z26 := A26.c2; have l26 := A26.lt
  have x36 := A36.c0; have y36 := A36.c1; have z36 := A36.c2; have l36 := A36.lt
  go_wp2_with (first | (go_at_call 25; refine (hdec _ _).mono ?_; rintro e w' ⟨rfl, rfl⟩) | (go_at_call 26; refine (hnum _ _).mono ?_; rintro e w' ⟨rfl, rfl⟩))
  refine (sure7 _).mono ?_
  rintro e w7 ⟨rfl, hb7⟩
  have B7 : Bel w.heap.size w w7 := Bel.step (by repeat (first | exact Bel.refl _ | assumption | refine Bel.alloc ?_ _)) hb7
  have A17 : Box w7 w1.heap.size 3 22500 ⟨#[]⟩ := Box.step (by repeat (first | exact Box.new _ _ _ _ | assumption | refine Box.alloc ?_ _ | refine Box.drew ?_ | refine Box.drewN ?_ _)) hb7
  have A27 : Box w7 w2.heap.size 2 (-3) ⟨#[]⟩ := Box.step (by repeat (first | exact Box.new _ _ _ _ | assumption | refine Box.alloc ?_ _ | refine Box.drew ?_ | refine Box.drewN ?_ _)) hb7
  have A37 : Box w7 w3.heap.size 3 3333 ⟨#[]⟩ := Box.step (by repeat (first | exact Box.new _ _ _ _ | assumption | refine Box.alloc ?_ _ | refine Box.drew ?_ | refine Box.drewN ?_ _)) hb7
  have A67 : Box w7 w6.heap.size 0 0 ⟨#[]⟩ := Box.step (by repeat (first | exact Box.new _ _ _ _ | assumption | refine Box.alloc ?_ _ | refine Box.drew ?_ | refine Box.drewN ?_ _)) hb7
  have x17 := A17.c0; have y17 := A17.c1; have z17 := A17.c2; have l17 := A17.lt
  have x27 := A27.c0; have y27 := A27.c1; have z27 := A27.c2; have l27 := A27.lt
  have x37 := A37.c0; have y37 := A37.c1; have z37 := A37.c2; have l37 := A37.lt
  have x67 := A67.c0; have y67 := A67.c1; have z67 := A67.c2; have l67 := A67.lt
  go_wp2_with fail
  have C1 := A17.alloc (.cells #[.int .i64 0, .int .i64 0, .string ⟨#[]⟩] 23)
  have C2 := A27.alloc (.cells #[.int .i64 0, .int .i64 0, .string ⟨#[]⟩] 23)
  have C3 := A37.alloc (.cells #[.int .i64 0, .int .i64 0, .string ⟨#[]⟩] 23)
  have C6 := A67.alloc (.cells #[.int .i64 0, .int .i64 0, .string ⟨#[]⟩] 23)
  have S0 : (w7.alloc (.cells #[.int .i64 0, .int .i64 0, .string ⟨#[]⟩] 23)).cell? ⟨w1.heap.size, 0, none⟩ = some (.int .i64 3) ∧ (w7.alloc (.cells #[.int .i64 0, .int .i64 0, .string ⟨#[]⟩] 23)).cell? ⟨w1.heap.size, 1, none⟩ = some (.int .i64 22500) ∧ (w7.alloc (.cells #[.int .i64 0, .int .i64 0, .string ⟨#[]⟩] 23)).cell? ⟨w1.heap.size, 2, none⟩ = some (.string ⟨#[]⟩) ∧ (w7.alloc (.cells #[.int .i64 0, .int .i64 0, .string ⟨#[]⟩] 23)).cell? ⟨w2.heap.size, 0, none⟩ = some (.int .i64 2) ∧ (w7.alloc (.cells #[.int .i64 0, .int .i64 0, .string ⟨#[]⟩] 23)).cell? ⟨w2.heap.size, 1, none⟩ = some (.int .i64 (-3)) ∧ (w7.alloc (.cells #[.int .i64 0, .int .i64 0, .string ⟨#[]⟩] 23)).cell? ⟨w2.heap.size, 2, none⟩ = some (.string ⟨#[]⟩) ∧ (w7.alloc (.cells #[.int .i64 0, .int .i64 0, .string ⟨#[]⟩] 23)).cell? ⟨w3.heap.size, 0, none⟩ = some (.int .i64 3) ∧ (w7.alloc (.cells #[.int .i64 0, .int .i64 0, .string ⟨#[]⟩] 23)).cell? ⟨w3.heap.size, 1, none⟩ = some (.int .i64 3333) ∧ (w7.alloc (.cells #[.int .i64 0, .int .i64 0, .string ⟨#[]⟩] 23)).cell? ⟨w3.heap.size, 2, none⟩ = some (.string ⟨#[]⟩) ∧ (w7.alloc (.cells #[.int .i64 0, .int .i64 0, .string ⟨#[]⟩] 23)).cell? ⟨w6.heap.size, 0, none⟩ = some (.int .i64 0) ∧ (w7.alloc (.cells #[.int .i64 0, .int .i64 0, .string ⟨#[]⟩] 23)).cell? ⟨w6.heap.size, 1, none⟩ = some (.int .i64 0) ∧ (w7.alloc (.cells #[.int .i64 0, .int .i64 0, .string ⟨#[]⟩] 23)).cell? ⟨w6.heap.size, 2, none⟩ = some (.string ⟨#[]⟩) ∧ w1.heap.size < (w7.alloc (.cells #[.int .i64 0, .int .i64 0, .string ⟨#[]⟩] 23)).heap.size ∧ w2.heap.size < (w7.alloc (.cells #[.int .i64 0, .int .i64 0, .string ⟨#[]⟩] 23)).heap.size ∧ w3.heap.size < (w7.alloc (.cells #[.int .i64 0, .int .i64 0, .string ⟨#[]⟩] 23)).heap.size ∧ w6.heap.size < (w7.alloc (.cells #[.int .i64 0, .int .i64 0, .string ⟨#[]⟩] 23)).heap.size ∧ Below w.heap.size w (w7.alloc (.cells #[.int .i64 0, .int .i64 0, .string ⟨#[]⟩] 23)) := ⟨C1.c0, C1.c1, C1.c2, C2.c0, C2.c1, C2.c2, C3.c0, C3.c1, C3.c2, C6.c0, C6.c1, C6.c2, C1.lt, C2.lt, C3.lt, C6.lt, (B7.alloc (.cells #[.int .i64 0, .int .i64 0, .string ⟨#[]⟩] 23)).out⟩
  clear C1 x12 y12 z12 l12 A12 x13 y13 z13 l13 A13 x14 y14 z14 l14 A14 x15 y15 z15 l15 A15 x16 y16 z16 l16 A16 x17 y17 z17 l17 A17 C2 x23 y23 z23 l23 A23 x24 y24 z24 l24 A24 x25 y25 z25 l25 A25 x26 y26 z26 l26 A26 x27 y27 z27 l27 A27 C3 x34 y34 z34 l34 A34 x35 y35 z35 l35 A35 x36 y36 z36 l36 A36 x37 y37 z37 l37 A37 C6 x67 y67 z67 l67 A67 B1 B2 B3 B4 B5 B6 B7
  go_region_held3 (fun w' => w'.cell? ⟨w1.heap.size, 0, none⟩ = some (.int .i64 3) ∧ w'.cell? ⟨w1.heap.size, 1, none⟩ = some (.int .i64 22500) ∧ w'.cell? ⟨w1.heap.size, 2, none⟩ = some (.string ⟨#[]⟩) ∧ w'.cell? ⟨w2.heap.size, 0, none⟩ = some (.int .i64 2) ∧ w'.cell? ⟨w2.heap.size, 1, none⟩ = some (.int .i64 (-3)) ∧ w'.cell? ⟨w2.heap.size, 2, none⟩ = some (.string ⟨#[]⟩) ∧ w'.cell? ⟨w3.heap.size, 0, none⟩ = some (.int .i64 3) ∧ w'.cell? ⟨w3.heap.size, 1, none⟩ = some (.int .i64 3333) ∧ w'.cell? ⟨w3.heap.size, 2, none⟩ = some (.string ⟨#[]⟩) ∧ w'.cell? ⟨w6.heap.size, 0, none⟩ = some (.int .i64 0) ∧ w'.cell? ⟨w6.heap.size, 1, none⟩ = some (.int .i64 0) ∧ w'.cell? ⟨w6.heap.size, 2, none⟩ = some (.string ⟨#[]⟩) ∧ w1.heap.size < w'.heap.size ∧ w2.heap.size < w'.heap.size ∧ w3.heap.size < w'.heap.size ∧ w6.heap.size < w'.heap.size ∧ Below w.heap.size w w') (first | exact keep4 (by assumption) hb | exact keep4d S0) (first | (go_at_call 25; refine (decB _ _).mono ?_; rintro e w' ⟨rfl, hb⟩) | (go_at_call 26; refine (numB _ _).mono ?_; rintro e w' ⟨rfl, hb⟩))
  go_wp2
  go_ret
  exact ⟨by simp, last4 (by assumption)⟩
end Go.Proofs.Ytakcmjigddeapaa
