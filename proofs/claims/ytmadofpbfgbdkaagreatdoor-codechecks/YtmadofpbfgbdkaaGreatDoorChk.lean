/- Check and Depth. -/
import Derived.Test.YtmadofpbfgbdkaaGreatDoorGhy
namespace Go.Proofs.YtmadofpbfgbdkaaGreatDoor
open Go.ChangeShapes Go.WideShapes Go.ChangeAt Go.RowKit
set_option linter.unusedSimpArgs false
set_option maxRecDepth 20000
set_option maxHeartbeats 4000000

def ckE (x : Option Int) : Int := if x.isSome = true then 0 else 120
theorem check_any (r : List Oq) (oa : Option Addr) (n ocap : Nat) (hn : r.length = n) (f a : Int) (w : World) (hr : OpsAt w oa r) :
    Calls Tryz.prog 4 #[.slice oa n ocap, .int .i64 f, .int .i64 a] w fun e w' => e = .returned (.int .i64 (ckE (htP r f a))) ∧ Below w.heap.size w w' := by
  have h1 := gh_any r oa ocap f a w hr
  rw [hn] at h1
  generalize htP r f a = x at h1
  unfold ghV at h1
  clear hr hn
  cases x with
  | none =>
    go_enter Tryz.func4, Tryz.ntmps4
    go_wp2_with fail
    refine h1.mono ?_
    rintro e w1 ⟨rfl, hb⟩
    clear h1
    go_wp2
    refine bodyPost_ret (v := .int .i64 120) (by simp [results, Tryz.results4, go_sem]) rfl ⟨rfl, hb⟩
  | some m =>
    go_enter Tryz.func4, Tryz.ntmps4
    go_wp2_with fail
    refine h1.mono ?_
    rintro e w1 ⟨rfl, hb⟩
    clear h1
    go_wp2
    refine bodyPost_ret (v := .int .i64 0) (by simp [results, Tryz.results4, go_sem]) rfl ⟨rfl, hb⟩
theorem depth_any (r : List Oq) (oa : Option Addr) (n ocap : Nat) (hn : r.length = n) (w : World) (hr : OpsAt w oa r) :
    Calls Tryz.prog 6 #[.slice oa n ocap] w fun e w' => e = .returned (.int .i64 ((htP r 9223372036854775807 9223372036854775807).getD 0)) ∧ Below w.heap.size w w' := by
  have h1 := gh_any r oa ocap 9223372036854775807 9223372036854775807 w hr
  rw [hn] at h1
  generalize htP r 9223372036854775807 9223372036854775807 = x at h1
  unfold ghV at h1
  generalize x.getD 0 = y at h1
  generalize x.isSome = b at h1
  clear hr hn
  go_enter Tryz.func6, Tryz.ntmps6
  go_wp2_with fail
  refine h1.mono ?_
  rintro e w1 ⟨rfl, hb⟩
  clear h1
  go_wp2
  refine bodyPost_ret (v := .int .i64 y) (by simp [results, Tryz.results6, go_sem]) rfl ⟨rfl, hb⟩
end Go.Proofs.YtmadofpbfgbdkaaGreatDoor
