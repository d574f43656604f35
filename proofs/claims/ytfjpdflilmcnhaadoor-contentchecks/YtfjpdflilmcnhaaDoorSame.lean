/- Whether two rows are the same (the document's answer). -/
import Derived.Test.YtfjpdflilmcnhaaDoorMp
import Derived.Deep.RegionHeld3
import Derived.Laws.StructEq
namespace Go.Proofs.YtfjpdflilmcnhaaDoor
open Go.ChangeShapes Go.WideShapes Go.ChangeAt Go.RowKit

def vlP (k v : Nat → Int) (t : Nat → ByteArray) (k' v' : Nat → Int) (t' : Nat → ByteArray) : Nat → Bool := fun j => k j == k' j && v j == v' j && (t j).toList == (t' j).toList
def vlS (n : Nat) (k v : Nat → Int) (t : Nat → ByteArray) (n' : Nat) (k' v' : Nat → Int) (t' : Nat → ByteArray) : Bool := decide (n = n') && allF (vlP k v t k' v' t') n 0
theorem neq46 (k k' n n' : Int) (t t' : ByteArray) (w : World) : (binOp .neq 46 (.agg #[.int .i64 k, .int .i64 n, .string t]) (.agg #[.int .i64 k', .int .i64 n', .string t'])).run Tryd.prog w = .ok (.bool (!(k == k' && n == n' && t.toList == t'.toList))) w := by
  rw [run_neq_struct, run_equalIn_agg w 9999 46 _ _ hf46 hs46]
  simp [Op.eqFields, Program.fieldsOf, Tryd.underlying46, go_sem, Tryd.underlying9, Tryd.underlying3]
  by_cases h1 : t.toList = t'.toList <;> by_cases h2 : k = k' <;> by_cases h3 : n = n' <;> simp [h1, h2, h3]
set_option maxHeartbeats 8000000 in
theorem rRow_go (b off b' off' n cap cap' : Nat) (k v : Nat → Int) (t : Nat → ByteArray) (k' v' : Nat → Int) (t' : Nat → ByteArray) (w : World) (hlen : n ≤ 9223372036854775807)
    (hc : ∀ i, i < n → w.cell? ⟨b, off + i * 3, none⟩ = some (.int .i64 (k i)) ∧ w.cell? ⟨b, off + i * 3 + 1, none⟩ = some (.int .i64 (v i)) ∧ w.cell? ⟨b, off + i * 3 + 2, none⟩ = some (.string (t i)))
    (hd : ∀ i, i < n → w.cell? ⟨b', off' + i * 3, none⟩ = some (.int .i64 (k' i)) ∧ w.cell? ⟨b', off' + i * 3 + 1, none⟩ = some (.int .i64 (v' i)) ∧ w.cell? ⟨b', off' + i * 3 + 2, none⟩ = some (.string (t' i))) :
    Calls Tryd.prog 19 #[.slice (some ⟨b, off, none⟩) n cap, .slice (some ⟨b', off', none⟩) n cap'] w fun e w' => e = .returned (.bool (allF (vlP k v t k' v' t') n 0)) ∧ Below w.heap.size w w' := by
  go_enter Tryd.func19, Tryd.ntmps19
  go_wp2
  go_loopw [5] (fun i wr => ∃ m : Nat, m ≤ n ∧ i = .int .i64 m ∧ allF (vlP k v t k' v' t') n m = allF (vlP k v t k' v' t') n 0 ∧ Bel w.heap.size w wr) (fun i _ => n - (intOf i).toNat)
  case atStart => exact ⟨0, Nat.zero_le _, rfl, rfl, Bel.refl _⟩
  case round =>
    obtain ⟨m, hm, rfl, hV, HB⟩ := hrel
    have HV : Hid (allF (vlP k v t k' v' t') n m = allF (vlP k v t k' v' t') n 0) := hV
    clear hV
    have hW := HB.out
    rcases Nat.lt_or_ge m n with hlt | hge
    · have c0 := cell_below hW (hc m hlt).1
      have d0 := cell_below hW (hd m hlt).1
      have c1 := cell_below hW (hc m hlt).2.1
      have d1 := cell_below hW (hd m hlt).2.1
      have c2 := cell_below hW (hc m hlt).2.2
      have d2 := cell_below hW (hd m hlt).2.2
      clear hc hd
      have hg := hg46
      generalize hp : (k m == k' m && v m == v' m && (t m).toList == (t' m).toList) = p
      have hq : ∀ wx : World, (binOp .neq 46 (.agg #[.int .i64 (k m), .int .i64 (v m), .string (t m)]) (.agg #[.int .i64 (k' m), .int .i64 (v' m), .string (t' m)])).run Tryd.prog wx = .ok (.bool (!p)) wx := fun wx => by rw [neq46, hp]
      cases p
      · have HN : Hid (false = allF (vlP k v t k' v' t') n 0) := by show _ = _; rw [← HV.out]; exact (allF_miss hlt hp).symm
        go_wp2
        go_quiet (fail)
        go_wp2
        go_ret
        exact ⟨ret_bool HN.out, (Bel.out (by repeat (first | exact Bel.refl _ | assumption | refine Bel.drew ?_ | refine Bel.drewN ?_ _ | refine Bel.alloc ?_ _ | refine Bel.setCell ?_ (by simp <;> omega) _ | refine Bel.step ?_ (by assumption))))⟩
      · have HN : Hid (allF (vlP k v t k' v' t') n (m + 1) = allF (vlP k v t k' v' t') n 0) := by show _ = _; rw [← HV.out]; exact (allF_hit hlt hp).symm
        go_wp2
        go_quiet (fail)
        go_wp2
        go_roundw
        case rel => exact ⟨m + 1, by omega, by go_num, HN.out, (by repeat (first | exact Bel.refl _ | assumption | refine Bel.drew ?_ | refine Bel.drewN ?_ _ | refine Bel.alloc ?_ _ | refine Bel.setCell ?_ (by simp <;> omega) _ | refine Bel.step ?_ (by assumption)))⟩
        case measure => simp [intOf]; omega
    · have HN : Hid (true = allF (vlP k v t k' v' t') n 0) := by show _ = _; rw [← HV.out]; exact (allF_end hge).symm
      clear hc hd
      go_wp2
      go_ret
      exact ⟨ret_bool HN.out, (Bel.out (by repeat (first | exact Bel.refl _ | assumption | refine Bel.drew ?_ | refine Bel.drewN ?_ _ | refine Bel.alloc ?_ _ | refine Bel.setCell ?_ (by simp <;> omega) _ | refine Bel.step ?_ (by assumption))))⟩
set_option maxHeartbeats 4000000 in
theorem rRow_ne (a a' : Option Addr) (n n' cap cap' : Nat) (w : World) (h : ((n : Int) == (n' : Int)) = false) :
    Calls Tryd.prog 19 #[.slice a n cap, .slice a' n' cap'] w fun e w' => e = .returned (.bool false) ∧ Below w.heap.size w w' := by
  have h' : ((n : Int) != (n' : Int)) = true := by unfold bne; rw [h]; rfl
  go_enter Tryd.func19, Tryd.ntmps19
  go_wp2
  all_goals go_ret
  all_goals exact ⟨rfl, (Bel.out (by repeat (first | exact Bel.refl _ | assumption | refine Bel.drew ?_ | refine Bel.drewN ?_ _ | refine Bel.alloc ?_ _ | refine Bel.setCell ?_ (by simp <;> omega) _ | refine Bel.step ?_ (by assumption))))⟩
set_option maxHeartbeats 4000000 in
theorem rRow_0 (a a' : Option Addr) (cap cap' : Nat) (w : World) :
    Calls Tryd.prog 19 #[.slice a 0 cap, .slice a' 0 cap'] w fun e w' => e = .returned (.bool true) ∧ Below w.heap.size w w' := by
  go_enter Tryd.func19, Tryd.ntmps19
  go_wp2
  refine wp_loop_rounds 1 ?_
  rw [rounds_succ]
  go_wp2
  go_ret
  exact ⟨rfl, (Bel.out (by repeat (first | exact Bel.refl _ | assumption | refine Bel.drew ?_ | refine Bel.drewN ?_ _ | refine Bel.alloc ?_ _ | refine Bel.setCell ?_ (by simp <;> omega) _ | refine Bel.step ?_ (by assumption))))⟩
theorem rRow_any (a a' : Option Addr) (n cap n' cap' : Nat) (k v : Nat → Int) (t : Nat → ByteArray) (k' v' : Nat → Int) (t' : Nat → ByteArray) (w : World) (hlen : n ≤ 9223372036854775807) (hc : ValsAt w a n k v t) (hd : ValsAt w a' n' k' v' t') :
    Calls Tryd.prog 19 #[.slice a n cap, .slice a' n' cap'] w fun e w' => e = .returned (.bool (vlS n k v t n' k' v' t')) ∧ Below w.heap.size w w' := by
  by_cases hn : n = n'
  · subst hn
    have e : vlS n k v t n k' v' t' = allF (vlP k v t k' v' t') n 0 := by unfold vlS; rw [decide_eq_true rfl, Bool.true_and]
    rw [e]
    by_cases h0 : n = 0
    · subst h0; exact rRow_0 a a' cap cap' w
    · rcases hc with hc | ⟨b, off, rfl, hc⟩
      · exact absurd hc h0
      rcases hd with hd | ⟨b', off', rfl, hd⟩
      · exact absurd hd h0
      exact rRow_go b off b' off' n cap cap' k v t k' v' t' w hlen hc hd
  · have e : vlS n k v t n' k' v' t' = false := by unfold vlS; rw [decide_eq_false hn, Bool.false_and]
    rw [e]
    exact rRow_ne a a' n n' cap cap' w (by rw [beq_eq_false_iff_ne]; omega)
theorem vlS_is (r r' : List Val) : vlS r.length (kAt r) (nAt r) (tAt r) r'.length (kAt r') (nAt r') (tAt r') = decide (r = r') := by
  unfold vlS
  by_cases hl : r.length = r'.length
  · rw [decide_eq_true hl, Bool.true_and]
    by_cases he : r = r'
    · subst he
      rw [decide_eq_true rfl, allF_iff]
      intro j _ _; simp [vlP]
    · rw [decide_eq_false he]
      cases hA : allF (vlP (kAt r) (nAt r) (tAt r) (kAt r') (nAt r') (tAt r')) r.length 0 with
      | false => rfl
      | true =>
        exfalso; apply he
        rw [allF_iff] at hA
        apply List.ext_getElem hl
        intro i h1 h2
        have := hA i (Nat.zero_le _) h1
        simp only [vlP, Bool.and_eq_true, beq_iff_eq] at this
        have e1 : r[i] = (kAt r i, nAt r i, tAt r i) := by rw [at_val, List.getD_eq_getElem?_getD, List.getElem?_eq_getElem h1]; rfl
        have e2 : r'[i] = (kAt r' i, nAt r' i, tAt r' i) := by rw [at_val, List.getD_eq_getElem?_getD, List.getElem?_eq_getElem h2]; rfl
        rw [e1, e2, this.1.1, this.1.2, ba_toList.mp this.2]
  · rw [decide_eq_false hl, Bool.false_and]
    symm; apply decide_eq_false
    rintro rfl; exact hl rfl
theorem SameRow_any (a a' : Option Addr) (cap cap' : Nat) (r r' : List Val) (w : World) (hlen : r.length ≤ 9223372036854775807) (hr : RowAt w a r) (hr' : RowAt w a' r') :
    Calls Tryd.prog 19 #[.slice a r.length cap, .slice a' r'.length cap'] w fun e w' => e = .returned (.bool (decide (r = r'))) ∧ Below w.heap.size w w' := by
  rw [← vlS_is]
  exact rRow_any a a' r.length cap r'.length cap' _ _ _ _ _ _ w hlen hr hr'
end Go.Proofs.YtfjpdflilmcnhaaDoor
