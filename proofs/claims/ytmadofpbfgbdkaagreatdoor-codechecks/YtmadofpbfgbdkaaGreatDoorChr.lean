/- The document's Check and Depth. -/
import Derived.Test.YtmadofpbfgbdkaaGreatDoorHts
import Derived.Test.YtmadofpbfgbdkaaGreatDoorChk
namespace Go.Proofs.YtmadofpbfgbdkaaGreatDoor
open Go.ChangeShapes Go.WideShapes Go.ChangeAt Go.RowKit
set_option linter.unusedSimpArgs false
set_option maxRecDepth 20000
set_option maxHeartbeats 4000000

theorem rcheck_any (r : List Oq) (oa : Option Addr) (n ocap : Nat) (hn : r.length = n) (f a : Int) (w : World) (hr : OpsAt w oa r) (hlen : r.length ≤ 9223372036854775807) :
    Calls Tryz.prog 5 #[.slice oa n ocap, .int .i64 f, .int .i64 a] w fun e w' => e = .returned (.int .i64 (ckE (htP r f a))) ∧ Below w.heap.size w w' := by
  have h1 := hts_any r oa ocap f a w hr hlen
  rw [hn] at h1
  have hp := @ht_pos r f a
  generalize htP r f a = x at h1 hp
  clear hr hn
  cases x with
  | none =>
    clear hp
    go_enter Tryz.func5, Tryz.ntmps5
    go_wp2_with fail
    refine h1.mono ?_
    rintro e w1 ⟨rfl, hb⟩
    clear h1
    go_wp2
    refine bodyPost_ret (v := .int .i64 120) (by simp [results, Tryz.results5, go_sem]) rfl ⟨rfl, hb⟩
  | some m =>
    have hm := hp rfl
    have hm0 : (m == 0) = false := by simp; omega
    clear hp hm
    go_enter Tryz.func5, Tryz.ntmps5
    go_wp2_with fail
    refine h1.mono ?_
    rintro e w1 ⟨rfl, hb⟩
    clear h1
    go_wp2
    refine bodyPost_ret (v := .int .i64 0) (by simp [results, Tryz.results5, go_sem]) rfl ⟨rfl, hb⟩
theorem rdepth_any (r : List Oq) (oa : Option Addr) (n ocap : Nat) (hn : r.length = n) (w : World) (hr : OpsAt w oa r) (hlen : r.length ≤ 9223372036854775807) :
    Calls Tryz.prog 7 #[.slice oa n ocap] w fun e w' => e = .returned (.int .i64 ((htP r 9223372036854775807 9223372036854775807).getD 0)) ∧ Below w.heap.size w w' := by
  have h1 := hts_any r oa ocap 9223372036854775807 9223372036854775807 w hr hlen
  rw [hn] at h1
  generalize (htP r 9223372036854775807 9223372036854775807).getD 0 = y at h1
  clear hr hn
  go_enter Tryz.func7, Tryz.ntmps7
  go_wp2_with fail
  refine h1.mono ?_
  rintro e w1 ⟨rfl, hb⟩
  clear h1
  go_wp2
  refine bodyPost_ret (v := .int .i64 y) (by simp [results, Tryz.results7, go_sem]) rfl ⟨rfl, hb⟩
/-- Two instructions that are the same. -/
theorem hf35 : Tryz.prog.underlying 35 = some (.struct (Tryz.prog.fieldsOf 35)) := by kernel_rfl
theorem hs35 : Tryz.prog.stoodInHeld 35 = false := by kernel_rfl
end Go.Proofs.YtmadofpbfgbdkaaGreatDoor
