/- What an iterator over a slice gives (slices.Values). -/
import Derived.Test.YtfjpdflilmcnhaaDoorMgB
import Derived.RangeFuncBox
import Derived.RangeFuncLeaves
import Derived.RangeFuncNested
import Derived.Shelf.Abstract
import Derived.WalkKit
import Derived.OwnWalkIn
import Derived.TacticsInMore
import Derived.LoopNIn
import Derived.LoopIn
import Derived.Test.YtfjpdflilmcnhaaDoorMgA
import Derived.Deep.RegionHeld3
import Derived.Laws.StructEq
namespace Go.Proofs.YtfjpdflilmcnhaaDoor
open Go.ChangeShapes Go.WideShapes Go.ChangeAt Go.RowKit

open Go.Shelf
attribute [local go_sem] Oper.semAt_some
def uptoV {α : Type} (f : Nat → α) (k : Nat) : List α := (List.range k).map f
theorem uptoV_succ {α : Type} (f : Nat → α) (k : Nat) : uptoV f (k + 1) = uptoV f k ++ [f k] := by simp [uptoV, List.range_succ]
theorem uptoV_length {α : Type} (f : Nat → α) (k : Nat) : (uptoV f k).length = k := by simp [uptoV]
/-- All of them. -/
theorem uptoV_all (zs : List Int) : uptoV (fun j => zs[j]?.getD 0) zs.length = zs := by
  apply List.ext_getElem
  · simp [uptoV]
  · intro i h1 h2
    simp [uptoV, h2]

set_option maxRecDepth 100000 in
set_option maxHeartbeats 2000000 in
theorem values1_in (F : Fence) (n : Nat) (h76 : F.fn 76) (hro : F.round = none) (hn : 1 ≤ n) (l Bs n₀ b off len cap : Nat) (zs : List Int) (hreach : len * 8 ≤ 140737488351232) (hb : b < n₀) (J Jx : List Int → World → Prop)
    (hY : ∀ pre x W, J pre W → pre.length < len → YieldAt F (n - 1) Tryd.prog l #[.int .i64 x] W fun e W' =>
      (e = .returned (.bool true) ∧ J (pre ++ [x]) W' ∧ Below n₀ W W') ∨ (e = .returned (.bool false) ∧ Jx (pre ++ [x]) W'))
    (W : World) (hBs : W.cell? ⟨Bs, 0, none⟩ = some (.slice (some ⟨b, off, none⟩) len cap)) (hc : ∀ j, j < len → W.cell? ⟨b, off + j, none⟩ = some (.int .i64 (zs[j]?.getD 0))) (h0 : J [] W) :
    CallsIn F n Tryd.prog 76 #[.func (.yield l) #[] #[], .pointer (some ⟨Bs, 0, none⟩)] W fun e W' => (∃ v, e = .returned v) ∧
      ((∃ ys, ys = uptoV (fun j => zs[j]?.getD 0) len ∧ J ys W') ∨ (∃ pre, (∃ k, k ≤ len ∧ pre = uptoV (fun j => zs[j]?.getD 0) k) ∧ Jx pre W')) := by
  refine callsIn_of_wp Tryd.func76 rfl h76 ?_ hro
  simp only [Tryd.ntmps76, List.size_toArray, List.length_cons, List.length_nil, Nat.reduceAdd, Nat.reduceSub, Array.replicate_succ, Array.replicate_zero, List.push_toArray, List.append_toArray, List.nil_append, List.cons_append]
  gi_wp2
  gi_loopw [7] (fun i wr => ∃ k : Nat, k ≤ len ∧ i = .int .i64 k ∧ J (uptoV (fun j => zs[j]?.getD 0) k) wr ∧ Below n₀ W wr)
    (fun i _ => len - (intOf i).toNat)
  case atStart => exact ⟨0, Nat.zero_le _, rfl, h0, Below.refl _ _⟩
  case round =>
    obtain ⟨k, hk, rfl, hJs, hnx⟩ := hrel
    have hcx : k < len → wr.cell? ⟨b, off + k, none⟩ = some (.int .i64 (zs[k]?.getD 0)) := fun h => (hnx.cell (p := ⟨b, off + k, none⟩) hb).trans (hc k h)
    by_cases hlt : k < len
    · obtain ⟨fn, tmps, assign, body, hy, hR⟩ := hY _ (zs[k]?.getD 0) wr hJs (by rw [uptoV_length]; exact hlt)
      have hcx' := hcx hlt
      gi_wp2
      refine hR.mono ?_
      rintro e W3 (⟨rfl, hJ3, hk3⟩ | ⟨rfl, hJx3⟩)
      · gi_wp2
        go_roundw
        case rel => exact ⟨k + 1, by omega, by simp, by rw [uptoV_succ]; exact hJ3, hnx.trans hk3⟩
        case measure => simp [intOf]; omega
      · gi_wp2
        refine bodyPost_ret (results_none rfl _ _ _) rfl ?_
        exact ⟨⟨_, rfl⟩, .inr ⟨_, ⟨k + 1, by omega, (uptoV_succ _ _).symm⟩, hJx3⟩⟩
    · obtain rfl : k = len := by omega
      gi_wp2
      go_end0
      exact ⟨⟨_, rfl⟩, .inl ⟨_, rfl, hJs⟩⟩

theorem uptoV_take (zs : List Int) {k : Nat} (hk : k ≤ zs.length) : uptoV (fun j => zs[j]?.getD 0) k = zs.take k := by
  apply List.ext_getElem
  · simp [uptoV, hk]
  · intro i h1 h2
    have : i < zs.length := by simp [uptoV] at h1; omega
    simp [uptoV, this]

/-- A slice of numbers in a block below n₀, or none. -/
def Ints (n₀ : Nat) (W : World) (sv : Value) (zs : List Int) : Prop :=
  (sv = .slice none 0 0 ∧ zs = []) ∨ ∃ b off cap, sv = .slice (some ⟨b, off, none⟩) zs.length cap ∧ b < n₀ ∧ ∀ j, j < zs.length → W.cell? ⟨b, off + j, none⟩ = some (.int .i64 (zs[j]?.getD 0))
theorem Ints.below {n₀ : Nat} {A B : World} (h : Below n₀ A B) {sv : Value} {zs : List Int} : Ints n₀ A sv zs → Ints n₀ B sv zs
  | .inl e => .inl e
  | .inr ⟨b, off, cap, e, hb, hc⟩ => .inr ⟨b, off, cap, e, hb, fun j hj => (h.cell (p := ⟨b, off + j, none⟩) hb).trans (hc j hj)⟩

set_option maxRecDepth 100000 in
set_option maxHeartbeats 1000000 in
theorem values1_nil_in (F : Fence) (n : Nat) (h76 : F.fn 76) (hro : F.round = none) (l Bs : Nat) (J : List Int → World → Prop) (W : World) (hBs : W.cell? ⟨Bs, 0, none⟩ = some (.slice none 0 0)) (h0 : J [] W) :
    CallsIn F n Tryd.prog 76 #[.func (.yield l) #[] #[], .pointer (some ⟨Bs, 0, none⟩)] W fun e W' => (∃ v, e = .returned v) ∧ J [] W' := by
  refine callsIn_of_wp Tryd.func76 rfl h76 ?_ hro
  simp only [Tryd.ntmps76, List.size_toArray, List.length_cons, List.length_nil, Nat.reduceAdd, Nat.reduceSub, Array.replicate_succ, Array.replicate_zero, List.push_toArray, List.append_toArray, List.nil_append, List.cons_append]
  gi_wp2
  gi_loopw [7] (fun i wr => i = .int .i64 0 ∧ J [] wr) (fun _ _ => 0)
  case atStart => exact ⟨rfl, h0⟩
  case round =>
    obtain ⟨rfl, hJs⟩ := hrel
    gi_wp2
    go_end0
    exact ⟨⟨_, rfl⟩, hJs⟩

set_option maxHeartbeats 1000000 in
theorem values_in (F : Fence) (n : Nat) (h64 : F.fn 64) (hro : F.round = none) (a : Option Addr) (len cap : Nat) (w : World) :
    CallsIn F n Tryd.prog 64 #[.slice a len cap] w fun e w' => e = .returned (.func (.func 76) #[] #[.pointer (some ⟨w.heap.size, 0, none⟩)]) ∧ w' = w.alloc (.cells #[.slice a len cap] 22) := by
  refine callsIn_of_wp Tryd.func64 rfl h64 ?_ hro
  simp only [Tryd.ntmps64, List.size_toArray, List.length_cons, List.length_nil, Nat.reduceAdd, Nat.reduceSub, Array.replicate_succ, Array.replicate_zero, List.push_toArray, List.append_toArray, List.nil_append, List.cons_append]
  gi_wp2
  go_ret
  exact ⟨rfl, rfl⟩

theorem values_stops (F : Fence) (n : Nat) (h76 : F.fn 76) (hro : F.round = none) (hn : 1 ≤ n) (Bs n₀ : Nat) (sv : Value) (zs : List Int) (hreach : zs.length * 8 ≤ 140737488351232) (w : World) (hBs : Bs < w.heap.size) (hn₀ : n₀ ≤ w.heap.size)
    (hc : w.cell? ⟨Bs, 0, none⟩ = some sv) (hI : Ints n₀ w sv zs) :
    SeqStopsK F n Tryd.prog 76 #[.pointer (some ⟨Bs, 0, none⟩)] (fun x : Int => #[Value.int .i64 x]) (Below n₀) (fun ys => ys = zs) (fun pre => pre <+: zs) zs.length w := fun l J Jx W hW _ _ hY h0 => by
  have hc' := (hW.cell (p := ⟨Bs, 0, none⟩) hBs).trans hc
  rcases hI.below (hW.mono hn₀) with ⟨rfl, rfl⟩ | ⟨b, off, cap, rfl, hb, hcs⟩
  · exact (values1_nil_in F n h76 hro l Bs J W hc' h0).mono fun e W' ⟨he, hj⟩ => ⟨he, .inl ⟨_, rfl, hj⟩⟩
  · refine (values1_in F n h76 hro hn l Bs n₀ b off zs.length cap zs hreach hb J Jx hY W hc' hcs h0).mono ?_
    rintro e W' ⟨he, ⟨ys, rfl, hj⟩ | ⟨pre, ⟨k, hk, rfl⟩, hj⟩⟩
    · exact ⟨he, .inl ⟨_, uptoV_all zs, hj⟩⟩
    · exact ⟨he, .inr ⟨_, by rw [uptoV_take zs hk]; exact List.take_prefix _ _, hj⟩⟩
end Go.Proofs.YtfjpdflilmcnhaaDoor

/- Whether two rows are the same (the document's answer). -/
namespace Go.Proofs.YtfjpdflilmcnhaaDoor
open Go.ChangeShapes Go.WideShapes Go.ChangeAt Go.RowKit

def vlP (k v : Nat → Int) (t : Nat → ByteArray) (k' v' : Nat → Int) (t' : Nat → ByteArray) : Nat → Bool := fun j => k j == k' j && v j == v' j && (t j).toList == (t' j).toList
def vlS (n : Nat) (k v : Nat → Int) (t : Nat → ByteArray) (n' : Nat) (k' v' : Nat → Int) (t' : Nat → ByteArray) : Bool := decide (n = n') && allF (vlP k v t k' v' t') n 0
theorem neq46 (k k' n n' : Int) (t t' : ByteArray) (w : World) : (binOp .neq 46 (.agg #[.int .i64 k, .int .i64 n, .string t]) (.agg #[.int .i64 k', .int .i64 n', .string t'])).run Tryd.prog w = .ok (.bool (!(k == k' && n == n' && t.toList == t'.toList))) w := by
  rw [run_neq_struct, run_equalIn_agg w 9999 46 _ _ hf46 hs46]
  simp [Op.eqFields, Program.fieldsOf, Tryd.underlying46, go_sem, Tryd.underlying9, Tryd.underlying3]
  by_cases h1 : t.toList = t'.toList <;> by_cases h2 : k = k' <;> by_cases h3 : n = n' <;> simp [h1, h2, h3]
set_option maxHeartbeats 8000000 in
theorem rRow_go (b off b' off' n cap cap' : Nat) (k v : Nat → Int) (t : Nat → ByteArray) (k' v' : Nat → Int) (t' : Nat → ByteArray) (w : World) (hlen : n ≤ 9223372036854775807)
    (hc : ∀ i, i < n → w.cell? ⟨b, off + i * 3, none⟩ = some (.int .i64 (k i)) ∧ w.cell? ⟨b, off + i * 3 + 1, none⟩ = some (.int .i64 (v i)) ∧ w.cell? ⟨b, off + i * 3 + 2, none⟩ = some (.string (t i)))
    (hd : ∀ i, i < n → w.cell? ⟨b', off' + i * 3, none⟩ = some (.int .i64 (k' i)) ∧ w.cell? ⟨b', off' + i * 3 + 1, none⟩ = some (.int .i64 (v' i)) ∧ w.cell? ⟨b', off' + i * 3 + 2, none⟩ = some (.string (t' i))) :
    Calls Tryd.prog 19 #[.slice (some ⟨b, off, none⟩) n cap, .slice (some ⟨b', off', none⟩) n cap'] w fun e w' => e = .returned (.bool (allF (vlP k v t k' v' t') n 0)) ∧ Below w.heap.size w w' := by
  go_enter Tryd.func19, Tryd.ntmps19
  go_wp2
  go_loopw [5] (fun i wr => ∃ m : Nat, m ≤ n ∧ i = .int .i64 m ∧ allF (vlP k v t k' v' t') n m = allF (vlP k v t k' v' t') n 0 ∧ Bel w.heap.size w wr) (fun i _ => n - (intOf i).toNat)
  case atStart => exact ⟨0, Nat.zero_le _, rfl, rfl, Bel.refl _⟩
  case round =>
    obtain ⟨m, hm, rfl, hV, HB⟩ := hrel
    have HV : Hid (allF (vlP k v t k' v' t') n m = allF (vlP k v t k' v' t') n 0) := hV
    clear hV
    have hW := HB.out
    rcases Nat.lt_or_ge m n with hlt | hge
    · have c0 := cell_below hW (hc m hlt).1
      have d0 := cell_below hW (hd m hlt).1
      have c1 := cell_below hW (hc m hlt).2.1
      have d1 := cell_below hW (hd m hlt).2.1
      have c2 := cell_below hW (hc m hlt).2.2
      have d2 := cell_below hW (hd m hlt).2.2
      clear hc hd
      have hg := hg46
      generalize hp : (k m == k' m && v m == v' m && (t m).toList == (t' m).toList) = p
      have hq : ∀ wx : World, (binOp .neq 46 (.agg #[.int .i64 (k m), .int .i64 (v m), .string (t m)]) (.agg #[.int .i64 (k' m), .int .i64 (v' m), .string (t' m)])).run Tryd.prog wx = .ok (.bool (!p)) wx := fun wx => by rw [neq46, hp]
      cases p
      · have HN : Hid (false = allF (vlP k v t k' v' t') n 0) := by show _ = _; rw [← HV.out]; exact (allF_miss hlt hp).symm
        go_wp2
        go_quiet (fail)
        go_wp2
        go_ret
        exact ⟨ret_bool HN.out, (Bel.out (by repeat (first | exact Bel.refl _ | assumption | refine Bel.drew ?_ | refine Bel.drewN ?_ _ | refine Bel.alloc ?_ _ | refine Bel.setCell ?_ (by simp <;> omega) _ | refine Bel.step ?_ (by assumption))))⟩
      · have HN : Hid (allF (vlP k v t k' v' t') n (m + 1) = allF (vlP k v t k' v' t') n 0) := by show _ = _; rw [← HV.out]; exact (allF_hit hlt hp).symm
        go_wp2
        go_quiet (fail)
        go_wp2
        go_roundw
        case rel => exact ⟨m + 1, by omega, by go_num, HN.out, (by repeat (first | exact Bel.refl _ | assumption | refine Bel.drew ?_ | refine Bel.drewN ?_ _ | refine Bel.alloc ?_ _ | refine Bel.setCell ?_ (by simp <;> omega) _ | refine Bel.step ?_ (by assumption)))⟩
        case measure => simp [intOf]; omega
    · have HN : Hid (true = allF (vlP k v t k' v' t') n 0) := by show _ = _; rw [← HV.out]; exact (allF_end hge).symm
      clear hc hd
      go_wp2
      go_ret
      exact ⟨ret_bool HN.out, (Bel.out (by repeat (first | exact Bel.refl _ | assumption | refine Bel.drew ?_ | refine Bel.drewN ?_ _ | refine Bel.alloc ?_ _ | refine Bel.setCell ?_ (by simp <;> omega) _ | refine Bel.step ?_ (by assumption))))⟩
set_option maxHeartbeats 4000000 in
theorem rRow_ne (a a' : Option Addr) (n n' cap cap' : Nat) (w : World) (h : ((n : Int) == (n' : Int)) = false) :
    Calls Tryd.prog 19 #[.slice a n cap, .slice a' n' cap'] w fun e w' => e = .returned (.bool false) ∧ Below w.heap.size w w' := by
  have h' : ((n : Int) != (n' : Int)) = true := by unfold bne; rw [h]; rfl
  go_enter Tryd.func19, Tryd.ntmps19
  go_wp2
  all_goals go_ret
  all_goals exact ⟨rfl, (Bel.out (by repeat (first | exact Bel.refl _ | assumption | refine Bel.drew ?_ | refine Bel.drewN ?_ _ | refine Bel.alloc ?_ _ | refine Bel.setCell ?_ (by simp <;> omega) _ | refine Bel.step ?_ (by assumption))))⟩
set_option maxHeartbeats 4000000 in
theorem rRow_0 (a a' : Option Addr) (cap cap' : Nat) (w : World) :
    Calls Tryd.prog 19 #[.slice a 0 cap, .slice a' 0 cap'] w fun e w' => e = .returned (.bool true) ∧ Below w.heap.size w w' := by
  go_enter Tryd.func19, Tryd.ntmps19
  go_wp2
  refine wp_loop_rounds 1 ?_
  rw [rounds_succ]
  go_wp2
  go_ret
  exact ⟨rfl, (Bel.out (by repeat (first | exact Bel.refl _ | assumption | refine Bel.drew ?_ | refine Bel.drewN ?_ _ | refine Bel.alloc ?_ _ | refine Bel.setCell ?_ (by simp <;> omega) _ | refine Bel.step ?_ (by assumption))))⟩
theorem rRow_any (a a' : Option Addr) (n cap n' cap' : Nat) (k v : Nat → Int) (t : Nat → ByteArray) (k' v' : Nat → Int) (t' : Nat → ByteArray) (w : World) (hlen : n ≤ 9223372036854775807) (hc : ValsAt w a n k v t) (hd : ValsAt w a' n' k' v' t') :
    Calls Tryd.prog 19 #[.slice a n cap, .slice a' n' cap'] w fun e w' => e = .returned (.bool (vlS n k v t n' k' v' t')) ∧ Below w.heap.size w w' := by
  by_cases hn : n = n'
  · subst hn
    have e : vlS n k v t n k' v' t' = allF (vlP k v t k' v' t') n 0 := by unfold vlS; rw [decide_eq_true rfl, Bool.true_and]
    rw [e]
    by_cases h0 : n = 0
    · subst h0; exact rRow_0 a a' cap cap' w
    · rcases hc with hc | ⟨b, off, rfl, hc⟩
      · exact absurd hc h0
      rcases hd with hd | ⟨b', off', rfl, hd⟩
      · exact absurd hd h0
      exact rRow_go b off b' off' n cap cap' k v t k' v' t' w hlen hc hd
  · have e : vlS n k v t n' k' v' t' = false := by unfold vlS; rw [decide_eq_false hn, Bool.false_and]
    rw [e]
    exact rRow_ne a a' n n' cap cap' w (by rw [beq_eq_false_iff_ne]; omega)
theorem vlS_is (r r' : List Val) : vlS r.length (kAt r) (nAt r) (tAt r) r'.length (kAt r') (nAt r') (tAt r') = decide (r = r') := by
  unfold vlS
  by_cases hl : r.length = r'.length
  · rw [decide_eq_true hl, Bool.true_and]
    by_cases he : r = r'
    · subst he
      rw [decide_eq_true rfl, allF_iff]
      intro j _ _; simp [vlP]
    · rw [decide_eq_false he]
      cases hA : allF (vlP (kAt r) (nAt r) (tAt r) (kAt r') (nAt r') (tAt r')) r.length 0 with
      | false => rfl
      | true =>
        exfalso; apply he
        rw [allF_iff] at hA
        apply List.ext_getElem hl
        intro i h1 h2
        have := hA i (Nat.zero_le _) h1
        simp only [vlP, Bool.and_eq_true, beq_iff_eq] at this
        have e1 : r[i] = (kAt r i, nAt r i, tAt r i) := by rw [at_val, List.getD_eq_getElem?_getD, List.getElem?_eq_getElem h1]; rfl
        have e2 : r'[i] = (kAt r' i, nAt r' i, tAt r' i) := by rw [at_val, List.getD_eq_getElem?_getD, List.getElem?_eq_getElem h2]; rfl
        rw [e1, e2, this.1.1, this.1.2, ba_toList.mp this.2]
  · rw [decide_eq_false hl, Bool.false_and]
    symm; apply decide_eq_false
    rintro rfl; exact hl rfl
theorem SameRow_any (a a' : Option Addr) (cap cap' : Nat) (r r' : List Val) (w : World) (hlen : r.length ≤ 9223372036854775807) (hr : RowAt w a r) (hr' : RowAt w a' r') :
    Calls Tryd.prog 19 #[.slice a r.length cap, .slice a' r'.length cap'] w fun e w' => e = .returned (.bool (decide (r = r'))) ∧ Below w.heap.size w w' := by
  rw [← vlS_is]
  exact rRow_any a a' r.length cap r'.length cap' _ _ _ _ _ _ w hlen hr hr'
end Go.Proofs.YtfjpdflilmcnhaaDoor
