/- Whether two rows of tokens are the same. -/
import Derived.Test.YthhbeejfnpcbhaaGreatDoorLex
import Derived.Laws.StructEq
namespace Go.Proofs.YthhbeejfnpcbhaaGreatDoor
open Go.ChangeShapes Go.WideShapes Go.ChangeAt Go.RowKit

theorem hf37 : Tryz.prog.underlying 37 = some (.struct (Tryz.prog.fieldsOf 37)) := by kernel_rfl
theorem hs37 : Tryz.prog.stoodInHeld 37 = false := by kernel_rfl
theorem hg37 : Tryz.prog.eqGuardType Tryz.prog.depth 37 = false := by kernel_rfl
theorem bsA_inj {a b : List UInt8} : bsA a = bsA b ↔ a = b := by
  constructor
  · intro h
    have := congrArg (fun x => x.data.toList) h
    simpa [bsA_list] using this
  · rintro rfl; rfl
theorem eq37 (t u : Tt) (w : World) : (binOp .eql 37 (.agg #[.int .i64 t.1.1, .string (bsA t.1.2.1), .int .i64 t.1.2.2, .int .i64 t.2]) (.agg #[.int .i64 u.1.1, .string (bsA u.1.2.1), .int .i64 u.1.2.2, .int .i64 u.2])).run Tryz.prog w = .ok (.bool (decide (t = u))) w := by
  obtain ⟨⟨t1, t2, t3⟩, t4⟩ := t
  obtain ⟨⟨u1, u2, u3⟩, u4⟩ := u
  rw [run_eql_struct, run_equalIn_agg w 9999 37 _ _ hf37 hs37]
  simp [Op.eqFields, Program.fieldsOf, Tryz.underlying37, go_sem, Tryz.underlying9, Tryz.underlying3, bsA_tl]
  by_cases h1 : t1 = u1 <;> by_cases h2 : t2 = u2 <;> by_cases h3 : t3 = u3 <;> by_cases h4 : t4 = u4 <;> simp [h1, h2, h3, h4]
theorem neq37 (t u : Tt) (w : World) : (binOp .neq 37 (.agg #[.int .i64 t.1.1, .string (bsA t.1.2.1), .int .i64 t.1.2.2, .int .i64 t.2]) (.agg #[.int .i64 u.1.1, .string (bsA u.1.2.1), .int .i64 u.1.2.2, .int .i64 u.2])).run Tryz.prog w = .ok (.bool (!decide (t = u))) w := by
  obtain ⟨⟨t1, t2, t3⟩, t4⟩ := t
  obtain ⟨⟨u1, u2, u3⟩, u4⟩ := u
  rw [run_neq_struct, run_equalIn_agg w 9999 37 _ _ hf37 hs37]
  simp [Op.eqFields, Program.fieldsOf, Tryz.underlying37, go_sem, Tryz.underlying9, Tryz.underlying3, bsA_tl]
  by_cases h1 : t1 = u1 <;> by_cases h2 : t2 = u2 <;> by_cases h3 : t3 = u3 <;> by_cases h4 : t4 = u4 <;> simp [h1, h2, h3, h4]
set_option maxRecDepth 20000 in
set_option maxHeartbeats 4000000 in
theorem same_go (b off b' off' cap cap' : Nat) (r r' : List Tt) (w : World) (hn : r.length = r'.length) (hlen : r.length ≤ 104857600)
    (hc : ∀ i t, r[i]? = some t → w.cell? ⟨b, off + i * 4, none⟩ = some (.int .i64 t.1.1) ∧ w.cell? ⟨b, off + i * 4 + 1, none⟩ = some (.string (bsA t.1.2.1)) ∧ w.cell? ⟨b, off + i * 4 + 2, none⟩ = some (.int .i64 t.1.2.2) ∧ w.cell? ⟨b, off + i * 4 + 3, none⟩ = some (.int .i64 t.2))
    (hd : ∀ i t, r'[i]? = some t → w.cell? ⟨b', off' + i * 4, none⟩ = some (.int .i64 t.1.1) ∧ w.cell? ⟨b', off' + i * 4 + 1, none⟩ = some (.string (bsA t.1.2.1)) ∧ w.cell? ⟨b', off' + i * 4 + 2, none⟩ = some (.int .i64 t.1.2.2) ∧ w.cell? ⟨b', off' + i * 4 + 3, none⟩ = some (.int .i64 t.2)) :
    Calls Tryz.prog 11 #[.slice (some ⟨b, off, none⟩) r.length cap, .slice (some ⟨b', off', none⟩) r.length cap'] w fun e w' => e = .returned (.bool (decide (r = r'))) ∧ Below w.heap.size w w' := by
  go_enter Tryz.func11, Tryz.ntmps11
  go_wp2
  go_loopw [5] (fun i wr => ∃ m : Nat, m ≤ r.length ∧ i = .int .i64 m ∧ r.take m = r'.take m ∧ Bel w.heap.size w wr) (fun i _ => r.length - (intOf i).toNat)
  case atStart => exact ⟨0, Nat.zero_le _, rfl, rfl, Bel.refl _⟩
  case round =>
    obtain ⟨m, hm, rfl, hV, HB⟩ := hrel
    have HV : Hid (r.take m = r'.take m) := hV
    clear hV
    have hW := HB.out
    rcases Nat.lt_or_ge m r.length with hlt | hge
    · have hlt' : m < r'.length := by omega
      have gc : r[m]? = some r[m] := List.getElem?_eq_getElem hlt
      have gd : r'[m]? = some r'[m] := List.getElem?_eq_getElem hlt'
      obtain ⟨c0, c1, c2, c3⟩ := hc m _ gc
      obtain ⟨d0, d1, d2, d3⟩ := hd m _ gd
      have c0 := cell_below hW c0
      have c1 := cell_below hW c1
      have c2 := cell_below hW c2
      have c3 := cell_below hW c3
      have d0 := cell_below hW d0
      have d1 := cell_below hW d1
      have d2 := cell_below hW d2
      have d3 := cell_below hW d3
      clear hc hd
      have hg := hg37
      have hq := fun wx => neq37 r[m] r'[m] wx
      have htm := List.take_add_one (l := r) (i := m)
      have htm' := List.take_add_one (l := r') (i := m)
      rw [gc] at htm
      rw [gd] at htm'
      have hne : r[m] ≠ r'[m] → r ≠ r' := fun h e => h (by subst e; rfl)
      generalize r[m] = t at *
      generalize r'[m] = u at *
      by_cases htu : t = u
      · have HN : Hid (r.take (m + 1) = r'.take (m + 1)) := by show _ = _; rw [htm, htm', HV.out, htu]
        rw [decide_eq_true htu] at hq
        clear htm htm' hne htu gc gd
        go_wp2
        go_quiet (fail)
        go_wp2
        go_roundw
        case rel => exact ⟨m + 1, by omega, by go_num, HN.out, (by repeat (first | exact Bel.refl _ | assumption | refine Bel.drew ?_ | refine Bel.drewN ?_ _ | refine Bel.alloc ?_ _ | refine Bel.setCell ?_ (by simp <;> omega) _ | refine Bel.step ?_ (by assumption)))⟩
        case measure => simp [intOf]; omega
      · have HN : Hid (false = decide (r = r')) := (decide_eq_false (hne htu)).symm
        rw [decide_eq_false htu] at hq
        clear htm htm' hne htu gc gd
        go_wp2
        go_quiet (fail)
        go_wp2
        go_ret
        exact ⟨ret_bool HN.out, (Bel.out (by repeat (first | exact Bel.refl _ | assumption | refine Bel.drew ?_ | refine Bel.drewN ?_ _ | refine Bel.alloc ?_ _ | refine Bel.setCell ?_ (by simp <;> omega) _ | refine Bel.step ?_ (by assumption))))⟩
    · have HN : Hid (true = decide (r = r')) := by
        show _ = _
        have := HV.out
        rw [List.take_of_length_le (by omega), List.take_of_length_le (by omega)] at this
        exact (decide_eq_true this).symm
      clear hc hd
      go_wp2
      go_ret
      exact ⟨ret_bool HN.out, (Bel.out (by repeat (first | exact Bel.refl _ | assumption | refine Bel.drew ?_ | refine Bel.drewN ?_ _ | refine Bel.alloc ?_ _ | refine Bel.setCell ?_ (by simp <;> omega) _ | refine Bel.step ?_ (by assumption))))⟩
set_option maxRecDepth 20000 in
set_option maxHeartbeats 4000000 in
theorem same_ne (a a' : Option Addr) (n n' cap cap' : Nat) (w : World) (h : ((n : Int) == (n' : Int)) = false) :
    Calls Tryz.prog 11 #[.slice a n cap, .slice a' n' cap'] w fun e w' => e = .returned (.bool false) ∧ Below w.heap.size w w' := by
  have h' : ((n : Int) != (n' : Int)) = true := by unfold bne; rw [h]; rfl
  go_enter Tryz.func11, Tryz.ntmps11
  go_wp2
  all_goals go_ret
  all_goals exact ⟨rfl, (Bel.out (by repeat (first | exact Bel.refl _ | assumption | refine Bel.drew ?_ | refine Bel.drewN ?_ _ | refine Bel.alloc ?_ _ | refine Bel.setCell ?_ (by simp <;> omega) _ | refine Bel.step ?_ (by assumption))))⟩
set_option maxRecDepth 20000 in
set_option maxHeartbeats 4000000 in
theorem same_0 (a a' : Option Addr) (cap cap' : Nat) (w : World) :
    Calls Tryz.prog 11 #[.slice a 0 cap, .slice a' 0 cap'] w fun e w' => e = .returned (.bool true) ∧ Below w.heap.size w w' := by
  go_enter Tryz.func11, Tryz.ntmps11
  go_wp2
  refine wp_loop_rounds 1 ?_
  rw [rounds_succ]
  go_wp2
  go_ret
  exact ⟨rfl, (Bel.out (by repeat (first | exact Bel.refl _ | assumption | refine Bel.drew ?_ | refine Bel.drewN ?_ _ | refine Bel.alloc ?_ _ | refine Bel.setCell ?_ (by simp <;> omega) _ | refine Bel.step ?_ (by assumption))))⟩
theorem same_any (a a' : Option Addr) (cap cap' : Nat) (r r' : List Tt) (w : World) (hlen : r.length ≤ 104857600) (h : TksAt w a r) (h' : TksAt w a' r') :
    Calls Tryz.prog 11 #[.slice a r.length cap, .slice a' r'.length cap'] w fun e w' => e = .returned (.bool (decide (r = r'))) ∧ Below w.heap.size w w' := by
  by_cases hn : r.length = r'.length
  · rcases h with rfl | ⟨b, off, rfl, hc⟩
    · have : r' = [] := List.length_eq_zero_iff.1 (by simpa using hn.symm)
      subst this
      exact same_0 a a' cap cap' w
    · rcases h' with rfl | ⟨b', off', rfl, hd⟩
      · have : r = [] := List.length_eq_zero_iff.1 (by simpa using hn)
        subst this
        exact same_0 _ _ cap cap' w
      · rw [← hn]
        exact same_go b off b' off' cap cap' r r' w hn hlen hc hd
  · rw [decide_eq_false (fun e => hn (by rw [e]))]
    exact same_ne a a' _ _ cap cap' w (by simp; omega)
end Go.Proofs.YthhbeejfnpcbhaaGreatDoor
