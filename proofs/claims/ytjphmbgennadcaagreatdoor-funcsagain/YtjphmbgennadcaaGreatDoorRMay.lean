/- The document's own answer: which values may be. -/
import Derived.Test.YtjphmbgennadcaaGreatDoorMay
namespace Go.Proofs.YtjphmbgennadcaaGreatDoor
open Go.Shelf Go.RowKit Go.Lib

/-- What the document's own test of valid UTF-8 answers, for any text that is not too long. -/
def RunesSaid : Prop := ∀ (s : ByteArray) (w : World), (s.size : Int) ≤ 1024 → Calls Tryz.prog 40 #[.string s] w fun e w' => e = .returned (.bool (Lib.validD s.data.toList)) ∧ w' = w

set_option maxHeartbeats 1000000 in
theorem rMay_00 (t : ByteArray) (w : World)  : Calls Tryz.prog 16 #[.agg #[.int .i64 0, .int .i64 0, .string t]] w fun e w' => e = .returned (.bool t.toList.isEmpty) ∧ Below w.heap.size w w' := by
  go_enter Tryz.func16, Tryz.ntmps16
  go_wp2
  go_ret
  exact ⟨rfl, (Bel.out (by repeat (first | exact Bel.refl _ | refine Bel.drew ?_ | refine Bel.drewN ?_ _ | refine Bel.alloc ?_ _ | refine Bel.setCell ?_ (by simp <;> omega) _ | refine Bel.step ?_ (by assumption))))⟩

set_option maxHeartbeats 1000000 in
theorem rMay_0n (n : Int) (t : ByteArray) (hz : (n == 0) = false) (w : World)  : Calls Tryz.prog 16 #[.agg #[.int .i64 0, .int .i64 n, .string t]] w fun e w' => e = .returned (.bool false) ∧ Below w.heap.size w w' := by
  go_enter Tryz.func16, Tryz.ntmps16
  go_wp2
  go_ret
  exact ⟨rfl, (Bel.out (by repeat (first | exact Bel.refl _ | refine Bel.drew ?_ | refine Bel.drewN ?_ _ | refine Bel.alloc ?_ _ | refine Bel.setCell ?_ (by simp <;> omega) _ | refine Bel.step ?_ (by assumption))))⟩

set_option maxHeartbeats 1000000 in
theorem rMay_10 (t : ByteArray) (w : World)  : Calls Tryz.prog 16 #[.agg #[.int .i64 1, .int .i64 0, .string t]] w fun e w' => e = .returned (.bool t.toList.isEmpty) ∧ Below w.heap.size w w' := by
  generalize he : t.toList.isEmpty = e
  cases e
  all_goals
    go_enter Tryz.func16, Tryz.ntmps16
    go_wp2
    go_ret
    exact ⟨rfl, (Bel.out (by repeat (first | exact Bel.refl _ | refine Bel.drew ?_ | refine Bel.drewN ?_ _ | refine Bel.alloc ?_ _ | refine Bel.setCell ?_ (by simp <;> omega) _ | refine Bel.step ?_ (by assumption))))⟩

set_option maxHeartbeats 1000000 in
theorem rMay_11 (t : ByteArray) (w : World)  : Calls Tryz.prog 16 #[.agg #[.int .i64 1, .int .i64 1, .string t]] w fun e w' => e = .returned (.bool t.toList.isEmpty) ∧ Below w.heap.size w w' := by
  generalize he : t.toList.isEmpty = e
  cases e
  all_goals
    go_enter Tryz.func16, Tryz.ntmps16
    go_wp2
    go_ret
    exact ⟨rfl, (Bel.out (by repeat (first | exact Bel.refl _ | refine Bel.drew ?_ | refine Bel.drewN ?_ _ | refine Bel.alloc ?_ _ | refine Bel.setCell ?_ (by simp <;> omega) _ | refine Bel.step ?_ (by assumption))))⟩

set_option maxHeartbeats 1000000 in
theorem rMay_1n (n : Int) (t : ByteArray) (hz : (n == 0) = false) (hz1 : (n == 1) = false) (w : World)  : Calls Tryz.prog 16 #[.agg #[.int .i64 1, .int .i64 n, .string t]] w fun e w' => e = .returned (.bool false) ∧ Below w.heap.size w w' := by
  generalize he : t.toList.isEmpty = e
  cases e
  all_goals
    go_enter Tryz.func16, Tryz.ntmps16
    go_wp2
    go_ret
    exact ⟨rfl, (Bel.out (by repeat (first | exact Bel.refl _ | refine Bel.drew ?_ | refine Bel.drewN ?_ _ | refine Bel.alloc ?_ _ | refine Bel.setCell ?_ (by simp <;> omega) _ | refine Bel.step ?_ (by assumption))))⟩

set_option maxHeartbeats 1000000 in
theorem rMay_2 (n : Int) (t : ByteArray) (w : World)  : Calls Tryz.prog 16 #[.agg #[.int .i64 2, .int .i64 n, .string t]] w fun e w' => e = .returned (.bool t.toList.isEmpty) ∧ Below w.heap.size w w' := by
  go_enter Tryz.func16, Tryz.ntmps16
  go_wp2
  go_ret
  exact ⟨rfl, (Bel.out (by repeat (first | exact Bel.refl _ | refine Bel.drew ?_ | refine Bel.drewN ?_ _ | refine Bel.alloc ?_ _ | refine Bel.setCell ?_ (by simp <;> omega) _ | refine Bel.step ?_ (by assumption))))⟩

set_option maxHeartbeats 1000000 in
theorem rMay_3 (n : Int) (t : ByteArray) (w : World)  : Calls Tryz.prog 16 #[.agg #[.int .i64 3, .int .i64 n, .string t]] w fun e w' => e = .returned (.bool t.toList.isEmpty) ∧ Below w.heap.size w w' := by
  go_enter Tryz.func16, Tryz.ntmps16
  go_wp2
  go_ret
  exact ⟨rfl, (Bel.out (by repeat (first | exact Bel.refl _ | refine Bel.drew ?_ | refine Bel.drewN ?_ _ | refine Bel.alloc ?_ _ | refine Bel.setCell ?_ (by simp <;> omega) _ | refine Bel.step ?_ (by assumption))))⟩

set_option maxHeartbeats 1000000 in
theorem rMay_4n (n : Int) (t : ByteArray) (hz : (n == 0) = false) (w : World)  : Calls Tryz.prog 16 #[.agg #[.int .i64 4, .int .i64 n, .string t]] w fun e w' => e = .returned (.bool false) ∧ Below w.heap.size w w' := by
  go_enter Tryz.func16, Tryz.ntmps16
  go_wp2
  go_ret
  exact ⟨rfl, (Bel.out (by repeat (first | exact Bel.refl _ | refine Bel.drew ?_ | refine Bel.drewN ?_ _ | refine Bel.alloc ?_ _ | refine Bel.setCell ?_ (by simp <;> omega) _ | refine Bel.step ?_ (by assumption))))⟩

set_option maxHeartbeats 1000000 in
theorem rMay_4l (t : ByteArray) (hz : ¬ (t.size : Int) ≤ 1024) (w : World)  : Calls Tryz.prog 16 #[.agg #[.int .i64 4, .int .i64 0, .string t]] w fun e w' => e = .returned (.bool false) ∧ Below w.heap.size w w' := by
  have hz2 : decide ((t.size : Int) ≤ 1024) = false := decide_eq_false hz
  go_enter Tryz.func16, Tryz.ntmps16
  go_wp2
  go_ret
  exact ⟨rfl, (Bel.out (by repeat (first | exact Bel.refl _ | refine Bel.drew ?_ | refine Bel.drewN ?_ _ | refine Bel.alloc ?_ _ | refine Bel.setCell ?_ (by simp <;> omega) _ | refine Bel.step ?_ (by assumption))))⟩

set_option maxHeartbeats 1000000 in
theorem rMay_4v (hRu : RunesSaid) (t : ByteArray) (hz : (t.size : Int) ≤ 1024) (w : World) : Calls Tryz.prog 16 #[.agg #[.int .i64 4, .int .i64 0, .string t]] w fun e w' => e = .returned (.bool (Lib.validD t.data.toList)) ∧ Below w.heap.size w w' := by
  go_enter Tryz.func16, Tryz.ntmps16
  go_wp2_with (go_at_call 40; refine (hRu t _ hz).mono ?_; rintro e w' ⟨rfl, rfl⟩)
  go_ret
  exact ⟨rfl, (Bel.out (by repeat (first | exact Bel.refl _ | refine Bel.drew ?_ | refine Bel.drewN ?_ _ | refine Bel.alloc ?_ _ | refine Bel.setCell ?_ (by simp <;> omega) _ | refine Bel.step ?_ (by assumption))))⟩

set_option maxHeartbeats 1000000 in
theorem rMay_x (k n : Int) (t : ByteArray) (h0 : (k == 0) = false) (h1 : (k == 1) = false) (h2 : (k == 2) = false) (h3 : (k == 3) = false) (h4 : (k == 4) = false) (w : World)  : Calls Tryz.prog 16 #[.agg #[.int .i64 k, .int .i64 n, .string t]] w fun e w' => e = .returned (.bool false) ∧ Below w.heap.size w w' := by
  go_enter Tryz.func16, Tryz.ntmps16
  go_wp2
  go_ret
  exact ⟨rfl, (Bel.out (by repeat (first | exact Bel.refl _ | refine Bel.drew ?_ | refine Bel.drewN ?_ _ | refine Bel.alloc ?_ _ | refine Bel.setCell ?_ (by simp <;> omega) _ | refine Bel.step ?_ (by assumption))))⟩

theorem rMay_any (hRu : RunesSaid) (k n : Int) (t : ByteArray) (w : World)  : Calls Tryz.prog 16 #[.agg #[.int .i64 k, .int .i64 n, .string t]] w fun e w' => e = .returned (.bool (mayS k n t)) ∧ Below w.heap.size w w' := by
  by_cases k0 : k = 0
  · subst k0
    by_cases n0 : n = 0
    · subst n0; simpa [mayS] using rMay_00 t w
    · have hz : (n == 0) = false := by simpa using n0
      simpa [mayS, hz] using rMay_0n n t hz w
  by_cases k1 : k = 1
  · subst k1
    by_cases n0 : n = 0
    · subst n0; simpa [mayS] using rMay_10 t w
    by_cases n1 : n = 1
    · subst n1; simpa [mayS] using rMay_11 t w
    have hz : (n == 0) = false := by simpa using n0
    have hz1 : (n == 1) = false := by simpa using n1
    simpa [mayS, hz, hz1] using rMay_1n n t hz hz1 w
  by_cases k2 : k = 2
  · subst k2; simpa [mayS] using rMay_2 n t w
  by_cases k3 : k = 3
  · subst k3; simpa [mayS] using rMay_3 n t w
  by_cases k4 : k = 4
  · subst k4
    by_cases n0 : n = 0
    · subst n0
      by_cases hl : (t.size : Int) ≤ 1024
      · have e : mayS 4 0 t = Lib.validD t.data.toList := by
          unfold mayS; rw [decide_eq_true hl]; simp
        rw [e]; exact rMay_4v hRu t hl w
      · have e : mayS 4 0 t = false := by
          unfold mayS; rw [decide_eq_false hl]; simp
        rw [e]; exact rMay_4l t hl w
    · have hz : (n == 0) = false := by simpa using n0
      simpa [mayS, hz] using rMay_4n n t hz w
  have h0 : (k == 0) = false := by simpa using k0
  have h1 : (k == 1) = false := by simpa using k1
  have h2 : (k == 2) = false := by simpa using k2
  have h3 : (k == 3) = false := by simpa using k3
  have h4 : (k == 4) = false := by simpa using k4
  simpa [mayS, h0, h1, h2, h3, h4] using rMay_x k n t h0 h1 h2 h3 h4 w

end Go.Proofs.YtjphmbgennadcaaGreatDoor
