/- New, Get, Len. -/
import Derived.Test.YtbfodpmlmhkikaaDoorFnd
namespace Go.Proofs.YtbfodpmlmhkikaaDoor
open Go.ChangeShapes Go.WideShapes Go.ChangeAt Go.RowKit
open Go.ChangeMaps (setBlock)

theorem fld78 (s y : Value) (i : Int) (w : World) : (Instr.field 78 (.agg #[s, .int .i64 i, y]) 1).run Tryd.prog w = .ok (.int .i64 i) w := by kernel_rfl
theorem len73 {w : World} {b : Nat} {es : Array MapEntry} {clk : Nat} (h : w.heap[b]? = some (.map es clk)) : (Builtin.len_ #[73] 3 #[.map (some b)]).run Tryd.prog w = .ok (.int .i64 es.size) w := by
  simp [Builtin.len_, getM h, goInt, Sem.run_bind]
theorem new_at (w : World) (o : Obj) : (w.alloc o).heap[w.heap.size]? = some o := by show (w.heap.push o)[w.heap.size]? = _; simp
set_option maxHeartbeats 4000000 in
theorem New_any (w : World) : Calls Tryd.prog 14 #[] w fun e w' => ∃ M : Mb, e = .returned (.pointer (some ⟨M.m, 0, none⟩)) ∧ MpAt w' M [] [] 0 0 ∧ w.heap.size ≤ M.m ∧ w.heap.size ≤ M.w ∧ w.heap.size ≤ M.h ∧ Below w.heap.size w w' := by
  have hmm := @run_makeMap Tryd.prog
  go_enter Tryd.func14, Tryd.ntmps14
  go_wp2
  go_ret
  refine ⟨⟨w.heap.size + 2, w.heap.size, w.heap.size + 1⟩, ?_, ?_, ?_, ?_, ?_, (Bel.out (by repeat (first | exact Bel.refl _ | assumption | refine Bel.drew ?_ | refine Bel.drewN ?_ _ | refine Bel.alloc ?_ _ | refine Bel.setCell ?_ (by simp <;> omega) _ | refine Bel.step ?_ (by assumption))))⟩
  · rfl
  · exact {
      c0 := by go_simp
      c1 := by go_simp
      c2 := by go_simp
      c3 := by go_simp
      f2 := by go_simp
      f3 := by go_simp
      ways := ⟨#[], 0, ⟨by rw [Below.heap_alloc _ _ _ (by simp; omega), Below.heap_alloc _ _ _ (by simp), new_at], rfl, fun e he => by simp at he, by simp⟩⟩
      held := ⟨#[], 0, ⟨by rw [Below.heap_alloc _ _ _ (by simp)]; have e := new_at (w.alloc (.map #[] 0)) (.map #[] 0); rw [World.size_alloc] at e; exact e, rfl, fun e he => by simp at he, by simp⟩⟩
      rows := fun x hx => by cases hx
      ne := by dsimp only; omega }
  all_goals (dsimp only; omega)
/-- What stands under a row. -/
def gtP (WL : List (Pce × Way)) (HL : List (Int × Ent)) (r : List Val) : Int × Bool := match walkP WL 0 r with
  | none => (0, false)
  | some p => match lk HL p with
    | none => (0, false)
    | some x => (x.n, true)
set_option maxRecDepth 20000 in
set_option maxHeartbeats 4000000 in
theorem Get_any (a : Option Addr) (cap : Nat) (M : Mb) (WL : List (Pce × Way)) (HL : List (Int × Ent)) (pl bi : Int) (r : List Val) (w : World) (hlen : r.length ≤ 9223372036854775807) (hM : MpAt w M WL HL pl bi) (hr : RowAt w a r) :
    Calls Tryd.prog 19 #[.pointer (some ⟨M.m, 0, none⟩), .slice a r.length cap] w fun e w' => e = .returned (.tuple #[.int .i64 (gtP WL HL r).1, .bool (gtP WL HL r).2]) ∧ Below w.heap.size w w' := by
  have hf := find_any a cap M WL HL pl bi r w hlen hM hr
  unfold gtP
  unfold fdP at hf
  generalize walkP WL 0 r = o at hf ⊢
  cases o with
  | none =>
    dsimp only at hf ⊢
    go_enter Tryd.func19, Tryd.ntmps19
    go_wp2_with (go_at_call 32; refine hf.mono ?_; rintro e w' ⟨rfl, hb⟩)
    go_ret2
    exact ⟨rfl, hb⟩
  | some p =>
    dsimp only at hf ⊢
    generalize hl : lk HL p = l at hf ⊢
    cases l with
    | none =>
      dsimp only [Option.isSome] at hf ⊢
      go_enter Tryd.func19, Tryd.ntmps19
      go_wp2_with (go_at_call 32; refine hf.mono ?_; rintro e w' ⟨rfl, hb⟩)
      go_ret2
      exact ⟨rfl, hb⟩
    | some x =>
      dsimp only [Option.isSome] at hf ⊢
      go_enter Tryd.func19, Tryd.ntmps19
      go_wp2_with fail
      refine hf.mono ?_
      rintro e w' ⟨rfl, hb⟩
      have hM' := hM.below hb
      obtain ⟨es, clk, hM1⟩ := hM'.held
      have m1 := hM'.c1
      have xl := hM1.look under73 keys3 _ zero78 p
      rw [hl] at xl
      dsimp only [itE, enE, Option.map, Option.getD] at xl
      have xf := fld78 (.slice x.a x.row.length x.cap) (.int .i64 x.born) x.n
      clear hM hM' hM1 hf hr
      go_wp2
      go_ret2
      exact ⟨rfl, hb⟩
set_option maxRecDepth 20000 in
set_option maxHeartbeats 4000000 in
theorem Len_any (M : Mb) (WL : List (Pce × Way)) (HL : List (Int × Ent)) (pl bi : Int) (w : World) (hM : MpAt w M WL HL pl bi) :
    Calls Tryd.prog 22 #[.pointer (some ⟨M.m, 0, none⟩)] w fun e w' => e = .returned (.int .i64 HL.length) ∧ Below w.heap.size w w' := by
  obtain ⟨es, clk, hM1⟩ := hM.held
  have m1 := hM.c1
  have hb1 := len73 hM1.at_
  have hsz : es.size = HL.length := by have := congrArg List.length hM1.same; simpa using this
  clear hM
  go_enter Tryd.func22, Tryd.ntmps22
  go_wp2
  go_ret
  exact ⟨rfl, (Bel.out (by repeat (first | exact Bel.refl _ | assumption | refine Bel.drew ?_ | refine Bel.drewN ?_ _ | refine Bel.alloc ?_ _ | refine Bel.setCell ?_ (by simp <;> omega) _ | refine Bel.step ?_ (by assumption))))⟩
end Go.Proofs.YtbfodpmlmhkikaaDoor
