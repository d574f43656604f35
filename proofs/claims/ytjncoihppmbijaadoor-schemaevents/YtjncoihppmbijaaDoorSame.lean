/- Whether two rows, two schemas are the same: package schema and the document's answer. -/
import Derived.Test.YtjncoihppmbijaaDoorMem
namespace Go.Proofs.YtjncoihppmbijaaDoor
open Go.ChangeShapes Go.WideShapes Go.ChangeAt Go.RowKit

def clP (nm : Nat → ByteArray) (kd : Nat → Int) (nm' : Nat → ByteArray) (kd' : Nat → Int) : Nat → Bool := fun j => (nm j).toList == (nm' j).toList && kd j == kd' j
def vlP (k v : Nat → Int) (t : Nat → ByteArray) (k' v' : Nat → Int) (t' : Nat → ByteArray) : Nat → Bool := fun j => k j == k' j && v j == v' j && (t j).toList == (t' j).toList
def vlS (n : Nat) (k v : Nat → Int) (t : Nat → ByteArray) (n' : Nat) (k' v' : Nat → Int) (t' : Nat → ByteArray) : Bool := decide (n = n') && allF (vlP k v t k' v' t') n 0
def clS (n : Nat) (nm : Nat → ByteArray) (kd : Nat → Int) (n' : Nat) (nm' : Nat → ByteArray) (kd' : Nat → Int) : Bool := decide (n = n') && allF (clP nm kd nm' kd') n 0
theorem hf52 : Tryd.prog.underlying 52 = some (.struct (Tryd.prog.fieldsOf 52)) := by kernel_rfl
theorem hs52 : Tryd.prog.stoodInHeld 52 = false := by kernel_rfl
theorem hg52 : Tryd.prog.eqGuardType Tryd.prog.depth 52 = false := by kernel_rfl
theorem hf50 : Tryd.prog.underlying 50 = some (.struct (Tryd.prog.fieldsOf 50)) := by kernel_rfl
theorem hs50 : Tryd.prog.stoodInHeld 50 = false := by kernel_rfl
theorem hg50 : Tryd.prog.eqGuardType Tryd.prog.depth 50 = false := by kernel_rfl
theorem neq52 (s s' : ByteArray) (k k' : Int) (w : World) : (binOp .neq 52 (.agg #[.string s, .int .i64 k]) (.agg #[.string s', .int .i64 k'])).run Tryd.prog w = .ok (.bool (!(s.toList == s'.toList && k == k'))) w := by
  rw [run_neq_struct, run_equalIn_agg w 9999 52 _ _ hf52 hs52]
  simp [Op.eqFields, Program.fieldsOf, Tryd.underlying52, go_sem, Tryd.underlying9, Tryd.underlying3]
  by_cases h1 : s.toList = s'.toList <;> by_cases h2 : k = k' <;> simp [h1, h2]
theorem neq50 (k k' n n' : Int) (t t' : ByteArray) (w : World) : (binOp .neq 50 (.agg #[.int .i64 k, .int .i64 n, .string t]) (.agg #[.int .i64 k', .int .i64 n', .string t'])).run Tryd.prog w = .ok (.bool (!(k == k' && n == n' && t.toList == t'.toList))) w := by
  rw [run_neq_struct, run_equalIn_agg w 9999 50 _ _ hf50 hs50]
  simp [Op.eqFields, Program.fieldsOf, Tryd.underlying50, go_sem, Tryd.underlying9, Tryd.underlying3]
  by_cases h1 : t.toList = t'.toList <;> by_cases h2 : k = k' <;> by_cases h3 : n = n' <;> simp [h1, h2, h3]
set_option maxHeartbeats 8000000 in
theorem colEq_go (b off b' off' n cap cap' : Nat) (nm nm' : Nat → ByteArray) (kd kd' : Nat → Int) (w : World) (hlen : n ≤ 9223372036854775807)
    (hc : ∀ i, i < n → w.cell? ⟨b, off + i * 2, none⟩ = some (.string (nm i)) ∧ w.cell? ⟨b, off + i * 2 + 1, none⟩ = some (.int .i64 (kd i)))
    (hd : ∀ i, i < n → w.cell? ⟨b', off' + i * 2, none⟩ = some (.string (nm' i)) ∧ w.cell? ⟨b', off' + i * 2 + 1, none⟩ = some (.int .i64 (kd' i))) :
    Calls Tryd.prog 34 #[.slice (some ⟨b, off, none⟩) n cap, .slice (some ⟨b', off', none⟩) n cap'] w fun e w' => e = .returned (.bool (allF (clP nm kd nm' kd') n 0)) ∧ Below w.heap.size w w' := by
  go_enter Tryd.func34, Tryd.ntmps34
  go_wp2
  go_loopw [13] (fun i wr => ∃ m : Nat, m ≤ n ∧ i = .int .i64 m ∧ allF (clP nm kd nm' kd') n m = allF (clP nm kd nm' kd') n 0 ∧ Bel w.heap.size w wr) (fun i _ => n - (intOf i).toNat)
  case atStart => exact ⟨0, Nat.zero_le _, rfl, rfl, Bel.refl _⟩
  case round =>
    obtain ⟨m, hm, rfl, hV, HB⟩ := hrel
    have HV : Hid (allF (clP nm kd nm' kd') n m = allF (clP nm kd nm' kd') n 0) := hV
    clear hV
    have hW := HB.out
    rcases Nat.lt_or_ge m n with hlt | hge
    · have c0 := cell_below hW (hc m hlt).1
      have d0 := cell_below hW (hd m hlt).1
      have c1 := cell_below hW (hc m hlt).2
      have d1 := cell_below hW (hd m hlt).2
      clear hc hd
      have hg := hg52
      generalize hp : ((nm m).toList == (nm' m).toList && kd m == kd' m) = p
      have hq : ∀ wx : World, (binOp .neq 52 (.agg #[.string (nm m), .int .i64 (kd m)]) (.agg #[.string (nm' m), .int .i64 (kd' m)])).run Tryd.prog wx = .ok (.bool (!p)) wx := fun wx => by rw [neq52, hp]
      cases p
      · have HN : Hid (false = allF (clP nm kd nm' kd') n 0) := by show _ = _; rw [← HV.out]; exact (allF_miss hlt hp).symm
        go_wp2
        go_quiet (fail)
        go_wp2
        go_ret
        exact ⟨ret_bool HN.out, (Bel.out (by repeat (first | exact Bel.refl _ | assumption | refine Bel.drew ?_ | refine Bel.drewN ?_ _ | refine Bel.alloc ?_ _ | refine Bel.setCell ?_ (by simp <;> omega) _ | refine Bel.step ?_ (by assumption))))⟩
      · have HN : Hid (allF (clP nm kd nm' kd') n (m + 1) = allF (clP nm kd nm' kd') n 0) := by show _ = _; rw [← HV.out]; exact (allF_hit hlt hp).symm
        go_wp2
        go_quiet (fail)
        go_wp2
        go_roundw
        case rel => exact ⟨m + 1, by omega, by go_num, HN.out, (by repeat (first | exact Bel.refl _ | assumption | refine Bel.drew ?_ | refine Bel.drewN ?_ _ | refine Bel.alloc ?_ _ | refine Bel.setCell ?_ (by simp <;> omega) _ | refine Bel.step ?_ (by assumption)))⟩
        case measure => simp [intOf]; omega
    · have HN : Hid (true = allF (clP nm kd nm' kd') n 0) := by show _ = _; rw [← HV.out]; exact (allF_end hge).symm
      clear hc hd
      go_wp2
      go_ret
      exact ⟨ret_bool HN.out, (Bel.out (by repeat (first | exact Bel.refl _ | assumption | refine Bel.drew ?_ | refine Bel.drewN ?_ _ | refine Bel.alloc ?_ _ | refine Bel.setCell ?_ (by simp <;> omega) _ | refine Bel.step ?_ (by assumption))))⟩
set_option maxHeartbeats 4000000 in
theorem colEq_ne (a a' : Option Addr) (n n' cap cap' : Nat) (w : World) (h : ((n : Int) == (n' : Int)) = false) :
    Calls Tryd.prog 34 #[.slice a n cap, .slice a' n' cap'] w fun e w' => e = .returned (.bool false) ∧ Below w.heap.size w w' := by
  have h' : ((n : Int) != (n' : Int)) = true := by unfold bne; rw [h]; rfl
  go_enter Tryd.func34, Tryd.ntmps34
  go_wp2
  all_goals go_ret
  all_goals exact ⟨rfl, (Bel.out (by repeat (first | exact Bel.refl _ | assumption | refine Bel.drew ?_ | refine Bel.drewN ?_ _ | refine Bel.alloc ?_ _ | refine Bel.setCell ?_ (by simp <;> omega) _ | refine Bel.step ?_ (by assumption))))⟩
set_option maxHeartbeats 4000000 in
theorem colEq_0 (a a' : Option Addr) (cap cap' : Nat) (w : World) :
    Calls Tryd.prog 34 #[.slice a 0 cap, .slice a' 0 cap'] w fun e w' => e = .returned (.bool true) ∧ Below w.heap.size w w' := by
  go_enter Tryd.func34, Tryd.ntmps34
  go_wp2
  refine wp_loop_rounds 1 ?_
  rw [rounds_succ]
  go_wp2
  go_ret
  exact ⟨rfl, (Bel.out (by repeat (first | exact Bel.refl _ | assumption | refine Bel.drew ?_ | refine Bel.drewN ?_ _ | refine Bel.alloc ?_ _ | refine Bel.setCell ?_ (by simp <;> omega) _ | refine Bel.step ?_ (by assumption))))⟩
theorem colEq_any (a a' : Option Addr) (n cap n' cap' : Nat) (nm nm' : Nat → ByteArray) (kd kd' : Nat → Int) (w : World) (hlen : n ≤ 9223372036854775807) (hc : ColsAt w a n nm kd) (hd : ColsAt w a' n' nm' kd') :
    Calls Tryd.prog 34 #[.slice a n cap, .slice a' n' cap'] w fun e w' => e = .returned (.bool (clS n nm kd n' nm' kd')) ∧ Below w.heap.size w w' := by
  by_cases hn : n = n'
  · subst hn
    have e : clS n nm kd n nm' kd' = allF (clP nm kd nm' kd') n 0 := by unfold clS; rw [decide_eq_true rfl, Bool.true_and]
    rw [e]
    by_cases h0 : n = 0
    · subst h0; exact colEq_0 a a' cap cap' w
    · rcases hc with hc | ⟨b, off, rfl, hc⟩
      · exact absurd hc h0
      rcases hd with hd | ⟨b', off', rfl, hd⟩
      · exact absurd hd h0
      exact colEq_go b off b' off' n cap cap' nm nm' kd kd' w hlen hc hd
  · have e : clS n nm kd n' nm' kd' = false := by unfold clS; rw [decide_eq_false hn, Bool.false_and]
    rw [e]
    exact colEq_ne a a' n n' cap cap' w (by rw [beq_eq_false_iff_ne]; omega)
set_option maxHeartbeats 8000000 in
theorem rCol_go (b off b' off' n cap cap' : Nat) (nm nm' : Nat → ByteArray) (kd kd' : Nat → Int) (w : World) (hlen : n ≤ 9223372036854775807)
    (hc : ∀ i, i < n → w.cell? ⟨b, off + i * 2, none⟩ = some (.string (nm i)) ∧ w.cell? ⟨b, off + i * 2 + 1, none⟩ = some (.int .i64 (kd i)))
    (hd : ∀ i, i < n → w.cell? ⟨b', off' + i * 2, none⟩ = some (.string (nm' i)) ∧ w.cell? ⟨b', off' + i * 2 + 1, none⟩ = some (.int .i64 (kd' i))) :
    Calls Tryd.prog 33 #[.slice (some ⟨b, off, none⟩) n cap, .slice (some ⟨b', off', none⟩) n cap'] w fun e w' => e = .returned (.bool (allF (clP nm kd nm' kd') n 0)) ∧ Below w.heap.size w w' := by
  go_enter Tryd.func33, Tryd.ntmps33
  go_wp2
  go_loopw [5] (fun i wr => ∃ m : Nat, m ≤ n ∧ i = .int .i64 m ∧ allF (clP nm kd nm' kd') n m = allF (clP nm kd nm' kd') n 0 ∧ Bel w.heap.size w wr) (fun i _ => n - (intOf i).toNat)
  case atStart => exact ⟨0, Nat.zero_le _, rfl, rfl, Bel.refl _⟩
  case round =>
    obtain ⟨m, hm, rfl, hV, HB⟩ := hrel
    have HV : Hid (allF (clP nm kd nm' kd') n m = allF (clP nm kd nm' kd') n 0) := hV
    clear hV
    have hW := HB.out
    rcases Nat.lt_or_ge m n with hlt | hge
    · have c0 := cell_below hW (hc m hlt).1
      have d0 := cell_below hW (hd m hlt).1
      have c1 := cell_below hW (hc m hlt).2
      have d1 := cell_below hW (hd m hlt).2
      clear hc hd
      have hg := hg52
      generalize hp : ((nm m).toList == (nm' m).toList && kd m == kd' m) = p
      have hq : ∀ wx : World, (binOp .neq 52 (.agg #[.string (nm m), .int .i64 (kd m)]) (.agg #[.string (nm' m), .int .i64 (kd' m)])).run Tryd.prog wx = .ok (.bool (!p)) wx := fun wx => by rw [neq52, hp]
      cases p
      · have HN : Hid (false = allF (clP nm kd nm' kd') n 0) := by show _ = _; rw [← HV.out]; exact (allF_miss hlt hp).symm
        go_wp2
        go_quiet (fail)
        go_wp2
        go_ret
        exact ⟨ret_bool HN.out, (Bel.out (by repeat (first | exact Bel.refl _ | assumption | refine Bel.drew ?_ | refine Bel.drewN ?_ _ | refine Bel.alloc ?_ _ | refine Bel.setCell ?_ (by simp <;> omega) _ | refine Bel.step ?_ (by assumption))))⟩
      · have HN : Hid (allF (clP nm kd nm' kd') n (m + 1) = allF (clP nm kd nm' kd') n 0) := by show _ = _; rw [← HV.out]; exact (allF_hit hlt hp).symm
        go_wp2
        go_quiet (fail)
        go_wp2
        go_roundw
        case rel => exact ⟨m + 1, by omega, by go_num, HN.out, (by repeat (first | exact Bel.refl _ | assumption | refine Bel.drew ?_ | refine Bel.drewN ?_ _ | refine Bel.alloc ?_ _ | refine Bel.setCell ?_ (by simp <;> omega) _ | refine Bel.step ?_ (by assumption)))⟩
        case measure => simp [intOf]; omega
    · have HN : Hid (true = allF (clP nm kd nm' kd') n 0) := by show _ = _; rw [← HV.out]; exact (allF_end hge).symm
      clear hc hd
      go_wp2
      go_ret
      exact ⟨ret_bool HN.out, (Bel.out (by repeat (first | exact Bel.refl _ | assumption | refine Bel.drew ?_ | refine Bel.drewN ?_ _ | refine Bel.alloc ?_ _ | refine Bel.setCell ?_ (by simp <;> omega) _ | refine Bel.step ?_ (by assumption))))⟩
set_option maxHeartbeats 4000000 in
theorem rCol_ne (a a' : Option Addr) (n n' cap cap' : Nat) (w : World) (h : ((n : Int) == (n' : Int)) = false) :
    Calls Tryd.prog 33 #[.slice a n cap, .slice a' n' cap'] w fun e w' => e = .returned (.bool false) ∧ Below w.heap.size w w' := by
  have h' : ((n : Int) != (n' : Int)) = true := by unfold bne; rw [h]; rfl
  go_enter Tryd.func33, Tryd.ntmps33
  go_wp2
  all_goals go_ret
  all_goals exact ⟨rfl, (Bel.out (by repeat (first | exact Bel.refl _ | assumption | refine Bel.drew ?_ | refine Bel.drewN ?_ _ | refine Bel.alloc ?_ _ | refine Bel.setCell ?_ (by simp <;> omega) _ | refine Bel.step ?_ (by assumption))))⟩
set_option maxHeartbeats 4000000 in
theorem rCol_0 (a a' : Option Addr) (cap cap' : Nat) (w : World) :
    Calls Tryd.prog 33 #[.slice a 0 cap, .slice a' 0 cap'] w fun e w' => e = .returned (.bool true) ∧ Below w.heap.size w w' := by
  go_enter Tryd.func33, Tryd.ntmps33
  go_wp2
  refine wp_loop_rounds 1 ?_
  rw [rounds_succ]
  go_wp2
  go_ret
  exact ⟨rfl, (Bel.out (by repeat (first | exact Bel.refl _ | assumption | refine Bel.drew ?_ | refine Bel.drewN ?_ _ | refine Bel.alloc ?_ _ | refine Bel.setCell ?_ (by simp <;> omega) _ | refine Bel.step ?_ (by assumption))))⟩
theorem rCol_any (a a' : Option Addr) (n cap n' cap' : Nat) (nm nm' : Nat → ByteArray) (kd kd' : Nat → Int) (w : World) (hlen : n ≤ 9223372036854775807) (hc : ColsAt w a n nm kd) (hd : ColsAt w a' n' nm' kd') :
    Calls Tryd.prog 33 #[.slice a n cap, .slice a' n' cap'] w fun e w' => e = .returned (.bool (clS n nm kd n' nm' kd')) ∧ Below w.heap.size w w' := by
  by_cases hn : n = n'
  · subst hn
    have e : clS n nm kd n nm' kd' = allF (clP nm kd nm' kd') n 0 := by unfold clS; rw [decide_eq_true rfl, Bool.true_and]
    rw [e]
    by_cases h0 : n = 0
    · subst h0; exact rCol_0 a a' cap cap' w
    · rcases hc with hc | ⟨b, off, rfl, hc⟩
      · exact absurd hc h0
      rcases hd with hd | ⟨b', off', rfl, hd⟩
      · exact absurd hd h0
      exact rCol_go b off b' off' n cap cap' nm nm' kd kd' w hlen hc hd
  · have e : clS n nm kd n' nm' kd' = false := by unfold clS; rw [decide_eq_false hn, Bool.false_and]
    rw [e]
    exact rCol_ne a a' n n' cap cap' w (by rw [beq_eq_false_iff_ne]; omega)
set_option maxHeartbeats 8000000 in
theorem valEq_go (b off b' off' n cap cap' : Nat) (k v : Nat → Int) (t : Nat → ByteArray) (k' v' : Nat → Int) (t' : Nat → ByteArray) (w : World) (hlen : n ≤ 9223372036854775807)
    (hc : ∀ i, i < n → w.cell? ⟨b, off + i * 3, none⟩ = some (.int .i64 (k i)) ∧ w.cell? ⟨b, off + i * 3 + 1, none⟩ = some (.int .i64 (v i)) ∧ w.cell? ⟨b, off + i * 3 + 2, none⟩ = some (.string (t i)))
    (hd : ∀ i, i < n → w.cell? ⟨b', off' + i * 3, none⟩ = some (.int .i64 (k' i)) ∧ w.cell? ⟨b', off' + i * 3 + 1, none⟩ = some (.int .i64 (v' i)) ∧ w.cell? ⟨b', off' + i * 3 + 2, none⟩ = some (.string (t' i))) :
    Calls Tryd.prog 35 #[.slice (some ⟨b, off, none⟩) n cap, .slice (some ⟨b', off', none⟩) n cap'] w fun e w' => e = .returned (.bool (allF (vlP k v t k' v' t') n 0)) ∧ Below w.heap.size w w' := by
  go_enter Tryd.func35, Tryd.ntmps35
  go_wp2
  go_loopw [13] (fun i wr => ∃ m : Nat, m ≤ n ∧ i = .int .i64 m ∧ allF (vlP k v t k' v' t') n m = allF (vlP k v t k' v' t') n 0 ∧ Bel w.heap.size w wr) (fun i _ => n - (intOf i).toNat)
  case atStart => exact ⟨0, Nat.zero_le _, rfl, rfl, Bel.refl _⟩
  case round =>
    obtain ⟨m, hm, rfl, hV, HB⟩ := hrel
    have HV : Hid (allF (vlP k v t k' v' t') n m = allF (vlP k v t k' v' t') n 0) := hV
    clear hV
    have hW := HB.out
    rcases Nat.lt_or_ge m n with hlt | hge
    · have c0 := cell_below hW (hc m hlt).1
      have d0 := cell_below hW (hd m hlt).1
      have c1 := cell_below hW (hc m hlt).2.1
      have d1 := cell_below hW (hd m hlt).2.1
      have c2 := cell_below hW (hc m hlt).2.2
      have d2 := cell_below hW (hd m hlt).2.2
      clear hc hd
      have hg := hg50
      generalize hp : (k m == k' m && v m == v' m && (t m).toList == (t' m).toList) = p
      have hq : ∀ wx : World, (binOp .neq 50 (.agg #[.int .i64 (k m), .int .i64 (v m), .string (t m)]) (.agg #[.int .i64 (k' m), .int .i64 (v' m), .string (t' m)])).run Tryd.prog wx = .ok (.bool (!p)) wx := fun wx => by rw [neq50, hp]
      cases p
      · have HN : Hid (false = allF (vlP k v t k' v' t') n 0) := by show _ = _; rw [← HV.out]; exact (allF_miss hlt hp).symm
        go_wp2
        go_quiet (fail)
        go_wp2
        go_ret
        exact ⟨ret_bool HN.out, (Bel.out (by repeat (first | exact Bel.refl _ | assumption | refine Bel.drew ?_ | refine Bel.drewN ?_ _ | refine Bel.alloc ?_ _ | refine Bel.setCell ?_ (by simp <;> omega) _ | refine Bel.step ?_ (by assumption))))⟩
      · have HN : Hid (allF (vlP k v t k' v' t') n (m + 1) = allF (vlP k v t k' v' t') n 0) := by show _ = _; rw [← HV.out]; exact (allF_hit hlt hp).symm
        go_wp2
        go_quiet (fail)
        go_wp2
        go_roundw
        case rel => exact ⟨m + 1, by omega, by go_num, HN.out, (by repeat (first | exact Bel.refl _ | assumption | refine Bel.drew ?_ | refine Bel.drewN ?_ _ | refine Bel.alloc ?_ _ | refine Bel.setCell ?_ (by simp <;> omega) _ | refine Bel.step ?_ (by assumption)))⟩
        case measure => simp [intOf]; omega
    · have HN : Hid (true = allF (vlP k v t k' v' t') n 0) := by show _ = _; rw [← HV.out]; exact (allF_end hge).symm
      clear hc hd
      go_wp2
      go_ret
      exact ⟨ret_bool HN.out, (Bel.out (by repeat (first | exact Bel.refl _ | assumption | refine Bel.drew ?_ | refine Bel.drewN ?_ _ | refine Bel.alloc ?_ _ | refine Bel.setCell ?_ (by simp <;> omega) _ | refine Bel.step ?_ (by assumption))))⟩
set_option maxHeartbeats 4000000 in
theorem valEq_ne (a a' : Option Addr) (n n' cap cap' : Nat) (w : World) (h : ((n : Int) == (n' : Int)) = false) :
    Calls Tryd.prog 35 #[.slice a n cap, .slice a' n' cap'] w fun e w' => e = .returned (.bool false) ∧ Below w.heap.size w w' := by
  have h' : ((n : Int) != (n' : Int)) = true := by unfold bne; rw [h]; rfl
  go_enter Tryd.func35, Tryd.ntmps35
  go_wp2
  all_goals go_ret
  all_goals exact ⟨rfl, (Bel.out (by repeat (first | exact Bel.refl _ | assumption | refine Bel.drew ?_ | refine Bel.drewN ?_ _ | refine Bel.alloc ?_ _ | refine Bel.setCell ?_ (by simp <;> omega) _ | refine Bel.step ?_ (by assumption))))⟩
set_option maxHeartbeats 4000000 in
theorem valEq_0 (a a' : Option Addr) (cap cap' : Nat) (w : World) :
    Calls Tryd.prog 35 #[.slice a 0 cap, .slice a' 0 cap'] w fun e w' => e = .returned (.bool true) ∧ Below w.heap.size w w' := by
  go_enter Tryd.func35, Tryd.ntmps35
  go_wp2
  refine wp_loop_rounds 1 ?_
  rw [rounds_succ]
  go_wp2
  go_ret
  exact ⟨rfl, (Bel.out (by repeat (first | exact Bel.refl _ | assumption | refine Bel.drew ?_ | refine Bel.drewN ?_ _ | refine Bel.alloc ?_ _ | refine Bel.setCell ?_ (by simp <;> omega) _ | refine Bel.step ?_ (by assumption))))⟩
theorem valEq_any (a a' : Option Addr) (n cap n' cap' : Nat) (k v : Nat → Int) (t : Nat → ByteArray) (k' v' : Nat → Int) (t' : Nat → ByteArray) (w : World) (hlen : n ≤ 9223372036854775807) (hc : ValsAt w a n k v t) (hd : ValsAt w a' n' k' v' t') :
    Calls Tryd.prog 35 #[.slice a n cap, .slice a' n' cap'] w fun e w' => e = .returned (.bool (vlS n k v t n' k' v' t')) ∧ Below w.heap.size w w' := by
  by_cases hn : n = n'
  · subst hn
    have e : vlS n k v t n k' v' t' = allF (vlP k v t k' v' t') n 0 := by unfold vlS; rw [decide_eq_true rfl, Bool.true_and]
    rw [e]
    by_cases h0 : n = 0
    · subst h0; exact valEq_0 a a' cap cap' w
    · rcases hc with hc | ⟨b, off, rfl, hc⟩
      · exact absurd hc h0
      rcases hd with hd | ⟨b', off', rfl, hd⟩
      · exact absurd hd h0
      exact valEq_go b off b' off' n cap cap' k v t k' v' t' w hlen hc hd
  · have e : vlS n k v t n' k' v' t' = false := by unfold vlS; rw [decide_eq_false hn, Bool.false_and]
    rw [e]
    exact valEq_ne a a' n n' cap cap' w (by rw [beq_eq_false_iff_ne]; omega)
set_option maxHeartbeats 8000000 in
theorem rRow_go (b off b' off' n cap cap' : Nat) (k v : Nat → Int) (t : Nat → ByteArray) (k' v' : Nat → Int) (t' : Nat → ByteArray) (w : World) (hlen : n ≤ 9223372036854775807)
    (hc : ∀ i, i < n → w.cell? ⟨b, off + i * 3, none⟩ = some (.int .i64 (k i)) ∧ w.cell? ⟨b, off + i * 3 + 1, none⟩ = some (.int .i64 (v i)) ∧ w.cell? ⟨b, off + i * 3 + 2, none⟩ = some (.string (t i)))
    (hd : ∀ i, i < n → w.cell? ⟨b', off' + i * 3, none⟩ = some (.int .i64 (k' i)) ∧ w.cell? ⟨b', off' + i * 3 + 1, none⟩ = some (.int .i64 (v' i)) ∧ w.cell? ⟨b', off' + i * 3 + 2, none⟩ = some (.string (t' i))) :
    Calls Tryd.prog 24 #[.slice (some ⟨b, off, none⟩) n cap, .slice (some ⟨b', off', none⟩) n cap'] w fun e w' => e = .returned (.bool (allF (vlP k v t k' v' t') n 0)) ∧ Below w.heap.size w w' := by
  go_enter Tryd.func24, Tryd.ntmps24
  go_wp2
  go_loopw [5] (fun i wr => ∃ m : Nat, m ≤ n ∧ i = .int .i64 m ∧ allF (vlP k v t k' v' t') n m = allF (vlP k v t k' v' t') n 0 ∧ Bel w.heap.size w wr) (fun i _ => n - (intOf i).toNat)
  case atStart => exact ⟨0, Nat.zero_le _, rfl, rfl, Bel.refl _⟩
  case round =>
    obtain ⟨m, hm, rfl, hV, HB⟩ := hrel
    have HV : Hid (allF (vlP k v t k' v' t') n m = allF (vlP k v t k' v' t') n 0) := hV
    clear hV
    have hW := HB.out
    rcases Nat.lt_or_ge m n with hlt | hge
    · have c0 := cell_below hW (hc m hlt).1
      have d0 := cell_below hW (hd m hlt).1
      have c1 := cell_below hW (hc m hlt).2.1
      have d1 := cell_below hW (hd m hlt).2.1
      have c2 := cell_below hW (hc m hlt).2.2
      have d2 := cell_below hW (hd m hlt).2.2
      clear hc hd
      have hg := hg50
      generalize hp : (k m == k' m && v m == v' m && (t m).toList == (t' m).toList) = p
      have hq : ∀ wx : World, (binOp .neq 50 (.agg #[.int .i64 (k m), .int .i64 (v m), .string (t m)]) (.agg #[.int .i64 (k' m), .int .i64 (v' m), .string (t' m)])).run Tryd.prog wx = .ok (.bool (!p)) wx := fun wx => by rw [neq50, hp]
      cases p
      · have HN : Hid (false = allF (vlP k v t k' v' t') n 0) := by show _ = _; rw [← HV.out]; exact (allF_miss hlt hp).symm
        go_wp2
        go_quiet (fail)
        go_wp2
        go_ret
        exact ⟨ret_bool HN.out, (Bel.out (by repeat (first | exact Bel.refl _ | assumption | refine Bel.drew ?_ | refine Bel.drewN ?_ _ | refine Bel.alloc ?_ _ | refine Bel.setCell ?_ (by simp <;> omega) _ | refine Bel.step ?_ (by assumption))))⟩
      · have HN : Hid (allF (vlP k v t k' v' t') n (m + 1) = allF (vlP k v t k' v' t') n 0) := by show _ = _; rw [← HV.out]; exact (allF_hit hlt hp).symm
        go_wp2
        go_quiet (fail)
        go_wp2
        go_roundw
        case rel => exact ⟨m + 1, by omega, by go_num, HN.out, (by repeat (first | exact Bel.refl _ | assumption | refine Bel.drew ?_ | refine Bel.drewN ?_ _ | refine Bel.alloc ?_ _ | refine Bel.setCell ?_ (by simp <;> omega) _ | refine Bel.step ?_ (by assumption)))⟩
        case measure => simp [intOf]; omega
    · have HN : Hid (true = allF (vlP k v t k' v' t') n 0) := by show _ = _; rw [← HV.out]; exact (allF_end hge).symm
      clear hc hd
      go_wp2
      go_ret
      exact ⟨ret_bool HN.out, (Bel.out (by repeat (first | exact Bel.refl _ | assumption | refine Bel.drew ?_ | refine Bel.drewN ?_ _ | refine Bel.alloc ?_ _ | refine Bel.setCell ?_ (by simp <;> omega) _ | refine Bel.step ?_ (by assumption))))⟩
set_option maxHeartbeats 4000000 in
theorem rRow_ne (a a' : Option Addr) (n n' cap cap' : Nat) (w : World) (h : ((n : Int) == (n' : Int)) = false) :
    Calls Tryd.prog 24 #[.slice a n cap, .slice a' n' cap'] w fun e w' => e = .returned (.bool false) ∧ Below w.heap.size w w' := by
  have h' : ((n : Int) != (n' : Int)) = true := by unfold bne; rw [h]; rfl
  go_enter Tryd.func24, Tryd.ntmps24
  go_wp2
  all_goals go_ret
  all_goals exact ⟨rfl, (Bel.out (by repeat (first | exact Bel.refl _ | assumption | refine Bel.drew ?_ | refine Bel.drewN ?_ _ | refine Bel.alloc ?_ _ | refine Bel.setCell ?_ (by simp <;> omega) _ | refine Bel.step ?_ (by assumption))))⟩
set_option maxHeartbeats 4000000 in
theorem rRow_0 (a a' : Option Addr) (cap cap' : Nat) (w : World) :
    Calls Tryd.prog 24 #[.slice a 0 cap, .slice a' 0 cap'] w fun e w' => e = .returned (.bool true) ∧ Below w.heap.size w w' := by
  go_enter Tryd.func24, Tryd.ntmps24
  go_wp2
  refine wp_loop_rounds 1 ?_
  rw [rounds_succ]
  go_wp2
  go_ret
  exact ⟨rfl, (Bel.out (by repeat (first | exact Bel.refl _ | assumption | refine Bel.drew ?_ | refine Bel.drewN ?_ _ | refine Bel.alloc ?_ _ | refine Bel.setCell ?_ (by simp <;> omega) _ | refine Bel.step ?_ (by assumption))))⟩
theorem rRow_any (a a' : Option Addr) (n cap n' cap' : Nat) (k v : Nat → Int) (t : Nat → ByteArray) (k' v' : Nat → Int) (t' : Nat → ByteArray) (w : World) (hlen : n ≤ 9223372036854775807) (hc : ValsAt w a n k v t) (hd : ValsAt w a' n' k' v' t') :
    Calls Tryd.prog 24 #[.slice a n cap, .slice a' n' cap'] w fun e w' => e = .returned (.bool (vlS n k v t n' k' v' t')) ∧ Below w.heap.size w w' := by
  by_cases hn : n = n'
  · subst hn
    have e : vlS n k v t n k' v' t' = allF (vlP k v t k' v' t') n 0 := by unfold vlS; rw [decide_eq_true rfl, Bool.true_and]
    rw [e]
    by_cases h0 : n = 0
    · subst h0; exact rRow_0 a a' cap cap' w
    · rcases hc with hc | ⟨b, off, rfl, hc⟩
      · exact absurd hc h0
      rcases hd with hd | ⟨b', off', rfl, hd⟩
      · exact absurd hd h0
      exact rRow_go b off b' off' n cap cap' k v t k' v' t' w hlen hc hd
  · have e : vlS n k v t n' k' v' t' = false := by unfold vlS; rw [decide_eq_false hn, Bool.false_and]
    rw [e]
    exact rRow_ne a a' n n' cap cap' w (by rw [beq_eq_false_iff_ne]; omega)
def sameS (sn : ByteArray) (n : Nat) (nm : Nat → ByteArray) (kd : Nat → Int) (sn' : ByteArray) (n' : Nat) (nm' : Nat → ByteArray) (kd' : Nat → Int) : Bool := sn.toList == sn'.toList && clS n nm kd n' nm' kd'
theorem clS_self (n : Nat) (nm : Nat → ByteArray) (kd : Nat → Int) : clS n nm kd n nm kd = true := by
  unfold clS
  rw [decide_eq_true rfl, Bool.true_and, allF_iff]
  intro j _ _
  unfold clP
  rw [beq_self_eq_true, beq_self_eq_true]; rfl
theorem sameS_self (sn : ByteArray) (n : Nat) (nm : Nat → ByteArray) (kd : Nat → Int) : sameS sn n nm kd sn n nm kd = true := by
  unfold sameS
  rw [clS_self, beq_self_eq_true]; rfl
theorem vlS_self (n : Nat) (k v : Nat → Int) (t : Nat → ByteArray) : vlS n k v t n k v t = true := by
  unfold vlS
  rw [decide_eq_true rfl, Bool.true_and, allF_iff]
  intro j _ _
  unfold vlP
  rw [beq_self_eq_true, beq_self_eq_true, beq_self_eq_true]; rfl
set_option maxHeartbeats 4000000 in
theorem Same_any (sn : ByteArray) (a : Option Addr) (n cap : Nat) (nm : Nat → ByteArray) (kd : Nat → Int) (sn' : ByteArray) (a' : Option Addr) (n' cap' : Nat) (nm' : Nat → ByteArray) (kd' : Nat → Int) (w : World) (hlen : n ≤ 9223372036854775807) (hc : ColsAt w a n nm kd) (hd : ColsAt w a' n' nm' kd') :
    Calls Tryd.prog 22 #[.agg #[.string sn, .slice a n cap], .agg #[.string sn', .slice a' n' cap']] w fun e w' => e = .returned (.bool (sameS sn n nm kd sn' n' nm' kd')) ∧ Below w.heap.size w w' := by
  have hc2 : ColsAt ((w.alloc (.cells #[.string sn, .slice a n cap] 24)).alloc (.cells #[.string sn', .slice a' n' cap'] 24)) a n nm kd := (hc.alloc _).alloc _
  have hd2 : ColsAt ((w.alloc (.cells #[.string sn, .slice a n cap] 24)).alloc (.cells #[.string sn', .slice a' n' cap'] 24)) a' n' nm' kd' := (hd.alloc _).alloc _
  generalize hs : (sn.toList == sn'.toList) = s
  have HF : Hid (sameS sn n nm kd sn' n' nm' kd' = (s && clS n nm kd n' nm' kd')) := by show _ = _; unfold sameS; rw [hs]
  cases s
  · go_enter Tryd.func22, Tryd.ntmps22
    go_wp2
    go_ret
    exact ⟨ret_bool (by rw [HF.out]; rfl), (Bel.out (by repeat (first | exact Bel.refl _ | assumption | refine Bel.drew ?_ | refine Bel.drewN ?_ _ | refine Bel.alloc ?_ _ | refine Bel.setCell ?_ (by simp <;> omega) _ | refine Bel.step ?_ (by assumption))))⟩
  · go_enter Tryd.func22, Tryd.ntmps22
    go_wp2_with (go_at_call 34; refine (colEq_any a a' n cap n' cap' nm nm' kd kd' _ hlen hc2 hd2).mono ?_; rintro e w1 ⟨rfl, hb1⟩)
    go_ret
    exact ⟨ret_bool (by rw [HF.out]; rfl), (Bel.out (by repeat (first | exact Bel.refl _ | assumption | refine Bel.drew ?_ | refine Bel.drewN ?_ _ | refine Bel.alloc ?_ _ | refine Bel.setCell ?_ (by simp <;> omega) _ | refine Bel.step ?_ (by assumption))))⟩
set_option maxHeartbeats 4000000 in
theorem rSame_any (sn : ByteArray) (a : Option Addr) (n cap : Nat) (nm : Nat → ByteArray) (kd : Nat → Int) (sn' : ByteArray) (a' : Option Addr) (n' cap' : Nat) (nm' : Nat → ByteArray) (kd' : Nat → Int) (w : World) (hlen : n ≤ 9223372036854775807) (hc : ColsAt w a n nm kd) (hd : ColsAt w a' n' nm' kd') :
    Calls Tryd.prog 21 #[.agg #[.string sn, .slice a n cap], .agg #[.string sn', .slice a' n' cap']] w fun e w' => e = .returned (.bool (sameS sn n nm kd sn' n' nm' kd')) ∧ Below w.heap.size w w' := by
  have hc2 : ColsAt ((w.alloc (.cells #[.string sn, .slice a n cap] 24)).alloc (.cells #[.string sn', .slice a' n' cap'] 24)) a n nm kd := (hc.alloc _).alloc _
  have hd2 : ColsAt ((w.alloc (.cells #[.string sn, .slice a n cap] 24)).alloc (.cells #[.string sn', .slice a' n' cap'] 24)) a' n' nm' kd' := (hd.alloc _).alloc _
  generalize hs : (sn.toList == sn'.toList) = s
  have HF : Hid (sameS sn n nm kd sn' n' nm' kd' = (s && clS n nm kd n' nm' kd')) := by show _ = _; unfold sameS; rw [hs]
  cases s
  · go_enter Tryd.func21, Tryd.ntmps21
    go_wp2
    go_ret
    exact ⟨ret_bool (by rw [HF.out]; rfl), (Bel.out (by repeat (first | exact Bel.refl _ | assumption | refine Bel.drew ?_ | refine Bel.drewN ?_ _ | refine Bel.alloc ?_ _ | refine Bel.setCell ?_ (by simp <;> omega) _ | refine Bel.step ?_ (by assumption))))⟩
  · go_enter Tryd.func21, Tryd.ntmps21
    go_wp2_with (go_at_call 33; refine (rCol_any a a' n cap n' cap' nm nm' kd kd' _ hlen hc2 hd2).mono ?_; rintro e w1 ⟨rfl, hb1⟩)
    go_ret
    exact ⟨ret_bool (by rw [HF.out]; rfl), (Bel.out (by repeat (first | exact Bel.refl _ | assumption | refine Bel.drew ?_ | refine Bel.drewN ?_ _ | refine Bel.alloc ?_ _ | refine Bel.setCell ?_ (by simp <;> omega) _ | refine Bel.step ?_ (by assumption))))⟩
set_option maxHeartbeats 4000000 in
theorem SameRow_any (a a' : Option Addr) (n cap n' cap' : Nat) (k v : Nat → Int) (t : Nat → ByteArray) (k' v' : Nat → Int) (t' : Nat → ByteArray) (w : World) (hlen : n ≤ 9223372036854775807) (hc : ValsAt w a n k v t) (hd : ValsAt w a' n' k' v' t') :
    Calls Tryd.prog 23 #[.slice a n cap, .slice a' n' cap'] w fun e w' => e = .returned (.bool (vlS n k v t n' k' v' t')) ∧ Below w.heap.size w w' := by
  go_enter Tryd.func23, Tryd.ntmps23
  go_wp2_with (go_at_call 35; refine (valEq_any a a' n cap n' cap' k v t k' v' t' _ hlen hc hd).mono ?_; rintro e w1 ⟨rfl, hb1⟩)
  go_ret
  exact ⟨rfl, (Bel.out (by repeat (first | exact Bel.refl _ | assumption | refine Bel.drew ?_ | refine Bel.drewN ?_ _ | refine Bel.alloc ?_ _ | refine Bel.setCell ?_ (by simp <;> omega) _ | refine Bel.step ?_ (by assumption))))⟩
end Go.Proofs.YtjncoihppmbijaaDoor
