/- The three-valued logic of package value and of the document's answer: what each function gives for any values, and that it turns nothing old. -/
import Derived.Test.YtjphmbgennadcaaGreatDoorBase
import Derived.WalkKit
import Derived.ProofKit
import Derived.WalkSpells
import Derived.WalkLawsBesides
import Derived.Deep.RegionHeld3
import Derived.Deep.DrawnRows
namespace Go.Proofs.YtjphmbgennadcaaGreatDoor
open Go.ChangeShapes Go.WideShapes Go.ChangeAt Go.RowKit

/-- What a value says to logic: 0 false, 1 true, 2 unknown. -/
def lg (k n : Int) : Nat := if k = 1 then (if n = 0 then 0 else 1) else 2
def tk (x : Nat) : Int := if x = 2 then 0 else 1
def tn (x : Nat) : Int := if x = 1 then 1 else 0
def notT (x : Nat) : Nat := if x = 0 then 1 else if x = 1 then 0 else 2
def andT (x y : Nat) : Nat := if x = 0 then 0 else if y = 0 then 0 else if x = 1 then (if y = 1 then 1 else 2) else 2
def orT (x y : Nat) : Nat := if x = 1 then 1 else if y = 1 then 1 else if x = 0 then (if y = 0 then 0 else 2) else 2
theorem lg_cases (k n : Int) : (k = 1 ∧ n = 0 ∧ lg k n = 0) ∨ (k = 1 ∧ n ≠ 0 ∧ lg k n = 1) ∨ (k ≠ 1 ∧ lg k n = 2) := by
  unfold lg; by_cases h : k = 1 <;> by_cases h' : n = 0 <;> simp [h, h']
theorem lg_le (k n : Int) : lg k n ≤ 2 := by rcases lg_cases k n with h | h | h <;> omega
theorem le2 {x : Nat} (h : x ≤ 2) : x = 0 ∨ x = 1 ∨ x = 2 := by omega
theorem lg_t {x : Nat} (h : x ≤ 2) : lg (tk x) (tn x) = x := by rcases le2 h with rfl | rfl | rfl <;> rfl

theorem bcell {W w1 : World} (hb : Below W.heap.size W w1) : (∀ b o, b < W.heap.size → w1.cell? ⟨b, o, none⟩ = W.cell? ⟨b, o, none⟩) ∧ (∀ b o, b < W.heap.size → w1.frozen? ⟨b, o, none⟩ = W.frozen? ⟨b, o, none⟩) :=
  ⟨fun b o h => hb.cell (p := ⟨b, o, none⟩) h, fun b o h => hb.frozen (p := ⟨b, o, none⟩) h⟩

set_option maxHeartbeats 400000 in
theorem unknown_any (w : World) : Calls Tryz.prog 118 #[] w fun e w' => e = .returned (.agg #[.int .i64 0, .int .i64 0, .string ⟨#[]⟩]) ∧ w' = w.alloc (.cells #[.int .i64 0, .int .i64 0, .string ⟨#[]⟩] 34) := by
  go_enter Tryz.func118, Tryz.ntmps118
  go_wp2
  exact bodyPost_ret (v := .agg #[.int .i64 0, .int .i64 0, .string ⟨#[]⟩]) (by simp [results, Tryz.results118, go_sem]) rfl ⟨rfl, rfl⟩

set_option maxHeartbeats 400000 in
theorem truth_true (w : World) : Calls Tryz.prog 119 #[.bool true] w fun e w' => e = .returned (.agg #[.int .i64 1, .int .i64 1, .string ⟨#[]⟩]) ∧ w' = w.alloc (.cells #[.int .i64 1, .int .i64 1, .string ⟨#[]⟩] 34) := by
  go_enter Tryz.func119, Tryz.ntmps119
  go_wp2
  exact bodyPost_ret (v := .agg #[.int .i64 1, .int .i64 1, .string ⟨#[]⟩]) (by simp [results, Tryz.results119, go_sem]) rfl ⟨rfl, rfl⟩

set_option maxHeartbeats 400000 in
theorem truth_false (w : World) : Calls Tryz.prog 119 #[.bool false] w fun e w' => e = .returned (.agg #[.int .i64 1, .int .i64 0, .string ⟨#[]⟩]) ∧ w' = w.alloc (.cells #[.int .i64 1, .int .i64 0, .string ⟨#[]⟩] 34) := by
  go_enter Tryz.func119, Tryz.ntmps119
  go_wp2
  exact bodyPost_ret (v := .agg #[.int .i64 1, .int .i64 0, .string ⟨#[]⟩]) (by simp [results, Tryz.results119, go_sem]) rfl ⟨rfl, rfl⟩

set_option maxHeartbeats 400000 in
theorem refTruth_true (w : World) : Calls Tryz.prog 72 #[.bool true] w fun e w' => e = .returned (.agg #[.int .i64 1, .int .i64 1, .string ⟨#[]⟩]) ∧ w' = w.alloc (.cells #[.int .i64 1, .int .i64 1, .string ⟨#[]⟩] 34) := by
  go_enter Tryz.func72, Tryz.ntmps72
  go_wp2
  exact bodyPost_ret (v := .agg #[.int .i64 1, .int .i64 1, .string ⟨#[]⟩]) (by simp [results, Tryz.results72, go_sem]) rfl ⟨rfl, rfl⟩

set_option maxHeartbeats 400000 in
theorem refTruth_false (w : World) : Calls Tryz.prog 72 #[.bool false] w fun e w' => e = .returned (.agg #[.int .i64 1, .int .i64 0, .string ⟨#[]⟩]) ∧ w' = w.alloc (.cells #[.int .i64 1, .int .i64 0, .string ⟨#[]⟩] 34) := by
  go_enter Tryz.func72, Tryz.ntmps72
  go_wp2
  exact bodyPost_ret (v := .agg #[.int .i64 1, .int .i64 0, .string ⟨#[]⟩]) (by simp [results, Tryz.results72, go_sem]) rfl ⟨rfl, rfl⟩

set_option maxHeartbeats 400000 in
theorem True_any (k n : Int) (t : ByteArray) (w : World) : Calls Tryz.prog 94 #[.agg #[.int .i64 k, .int .i64 n, .string t]] w fun e w' => e = .returned (.bool (lg k n == 1)) ∧ w' = w.alloc (.cells #[.int .i64 k, .int .i64 n, .string t] 34) := by
  rcases lg_cases k n with ⟨rfl, rfl, h⟩ | ⟨rfl, hn, h⟩ | ⟨hk, h⟩ <;> rw [h] <;> clear h
  · go_enter Tryz.func94, Tryz.ntmps94
    go_wp2
    go_ret
    exact ⟨by simp, rfl⟩
  · have hz : (n != 0) = true := by simp only [bne_iff_ne]; assumption
    go_enter Tryz.func94, Tryz.ntmps94
    go_wp2
    go_ret
    exact ⟨by simp, rfl⟩
  · have hz : (k == 1) = false := by simp only [beq_eq_false_iff_ne]; assumption
    go_enter Tryz.func94, Tryz.ntmps94
    go_wp2
    go_ret
    exact ⟨by simp, rfl⟩

set_option maxHeartbeats 400000 in
theorem logic_any (k n : Int) (t : ByteArray) (w : World) : Calls Tryz.prog 70 #[.agg #[.int .i64 k, .int .i64 n, .string t]] w fun e w' => e = .returned (.int .i64 (lg k n)) ∧ w' = w.alloc (.cells #[.int .i64 k, .int .i64 n, .string t] 34) := by
  rcases lg_cases k n with ⟨rfl, rfl, h⟩ | ⟨rfl, hn, h⟩ | ⟨hk, h⟩ <;> rw [h] <;> clear h
  · go_enter Tryz.func70, Tryz.ntmps70
    go_wp2
    go_ret
    exact ⟨by simp, rfl⟩
  · have hz : (n != 0) = true := by simp only [bne_iff_ne]; assumption
    go_enter Tryz.func70, Tryz.ntmps70
    go_wp2
    go_ret
    exact ⟨by simp, rfl⟩
  · have hz : (k != 1) = true := by simp only [bne_iff_ne]; assumption
    go_enter Tryz.func70, Tryz.ntmps70
    go_wp2
    go_ret
    exact ⟨by simp, rfl⟩

end Go.Proofs.YtjphmbgennadcaaGreatDoor
