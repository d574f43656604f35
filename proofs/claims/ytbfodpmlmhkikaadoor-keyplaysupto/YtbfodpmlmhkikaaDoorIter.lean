/- The iterator over what a map holds (maps.Values), and what is collected of it (slices.Collect). -/
import Derived.Test.YtbfodpmlmhkikaaDoorMp
import Derived.RangeFuncNested
import Derived.RangeFuncBound
import Derived.RangeFuncCalls
import Derived.RangeFuncLeaves
import Derived.RangeFuncBox
import Derived.Maps.RangeRun
import Derived.Maps.AppendAt
import Derived.Shelf.Abstract
import Derived.Shelf.AbstractIn
import Derived.Shelf.RegionOpen
import Derived.WalkKit
import Derived.OwnWalkIn
import Derived.TacticsInMore
import Derived.LoopNIn
import Derived.LoopIn
namespace Go.Proofs.YtbfodpmlmhkikaaDoor
open Go.ChangeShapes Go.WideShapes Go.ChangeAt Go.RowKit Go.Shelf
open Go.ChangeMaps (setBlock)
attribute [local go_sem] Oper.semAt_some

theorem under73' : Tryd.prog.underlying 73 = some (.map 3 78) := by kernel_rfl
theorem range_run {w : World} {b : Nat} {es : Array MapEntry} {clk : Nat} (h : w.heap[b]? = some (.map es clk)) :
    (Instr.range 73 (.map (some b))).run Tryd.prog w = .ok (.pointer (some ⟨w.heap.size, 0, none⟩)) (w.alloc (.mapIter (some b) clk #[] clk)) := by
  simp only [Instr.range, Sem.run_bind, run_underlying under73', Result.andThen_ok, getM h, Sem.run_pure]
  rfl
/-- Which entries have come: their places. -/
structure Came (HL : List (Int × Ent)) (es : Array MapEntry) (seen : Array Nat) (is : List Nat) : Prop where
  lt : ∀ i ∈ is, i < HL.length
  once : is.Nodup
  seen : seen.toList = is.map fun i => (es.getD i default).born
def entOf (HL : List (Int × Ent)) (i : Nat) : Ent := (HL.getD i (0, ⟨none, 0, [], 0, 0⟩)).2
theorem map_entOf (HL : List (Int × Ent)) : (List.range HL.length).map (entOf HL) = HL.map (·.2) := by
  apply List.ext_getElem?
  intro i
  simp only [List.getElem?_map]
  rcases Nat.lt_or_ge i HL.length with h | h
  · simp [entOf, h]
  · simp [h]
theorem same_at {HL : List (Int × Ent)} {es : Array MapEntry} (h : es.toList.map (fun e => (e.key, e.val)) = HL.map (fun x => (itE x.1, enE x.2))) {i : Nat} (hi : i < HL.length) : (es.getD i default).val = enE (entOf HL i) ∧ i < es.size := by
  have hl : es.size = HL.length := by have := congrArg List.length h; simpa using this
  have := congrArg (fun l => l[i]?) h
  simp only [List.getElem?_map, List.getElem?_eq_getElem hi, Option.map_some] at this
  rw [List.getElem?_eq_getElem (by simpa using (by omega : i < es.size))] at this
  simp only [Option.map_some, Option.some.injEq, Prod.mk.injEq] at this
  refine ⟨?_, by omega⟩
  unfold entOf
  rw [List.getD_eq_getElem?_getD, List.getElem?_eq_getElem hi]
  simp only [Option.getD_some]
  rw [← this.2]
  simp [Array.getD, show i < es.size by omega]
theorem born_inj {es : Array MapEntry} (h : (es.toList.map (·.born)).Nodup) {i j : Nat} (hi : i < es.size) (hj : j < es.size) (e : (es.getD i default).born = (es.getD j default).born) : i = j := by
  have hi' : i < (es.toList.map (·.born)).length := by simpa using hi
  have hj' : j < (es.toList.map (·.born)).length := by simpa using hj
  apply (List.getElem_inj (h₀ := hi') (h₁ := hj') h).1
  simpa [Array.getD, hi, hj] using e
theorem Came.step {HL : List (Int × Ent)} {es : Array MapEntry} {seen : Array Nat} {is : List Nat} (h : Came HL es seen is) (hs : es.toList.map (fun e => (e.key, e.val)) = HL.map (fun x => (itE x.1, enE x.2))) {e : MapEntry} (he : e ∈ (leftOf es seen).toList) :
    ∃ i, Came HL es (seen.push e.born) (is ++ [i]) ∧ e.val = enE (entOf HL i) ∧ e ∈ es.toList := by
  unfold leftOf at he
  simp only [Array.toList_filter, List.mem_filter] at he
  obtain ⟨he1, he2⟩ := he
  obtain ⟨i, hi, rfl⟩ := List.mem_iff_getElem.1 he1
  have hl : es.size = HL.length := by have := congrArg List.length hs; simpa using this
  have hi' : i < es.size := by simpa using hi
  have eg : es.getD i default = es.toList[i] := by simp [Array.getD, hi']
  refine ⟨i, ⟨?_, ?_, ?_⟩, ?_, he1⟩
  · intro j hj
    rcases List.mem_append.1 hj with hj | hj
    · exact h.lt j hj
    · simp only [List.mem_singleton] at hj; omega
  · rw [List.nodup_append]
    refine ⟨h.once, by simp, ?_⟩
    intro x hx y hy
    simp only [List.mem_singleton] at hy; subst hy
    rintro rfl
    simp only [Bool.not_eq_true'] at he2
    have hc : seen.contains es.toList[x].born = true := by
      rw [Array.contains_iff_mem, ← Array.mem_toList_iff, h.seen]
      exact List.mem_map.2 ⟨x, hx, by rw [eg]⟩
    rw [hc] at he2; cases he2
  · rw [Array.toList_push, h.seen, List.map_append, List.map_cons, List.map_nil, eg]
  · rw [← eg]; exact (same_at hs (by omega)).1
theorem Came.done {HL : List (Int × Ent)} {es : Array MapEntry} {seen : Array Nat} {is : List Nat} (h : Came HL es seen is) (hs : es.toList.map (fun e => (e.key, e.val)) = HL.map (fun x => (itE x.1, enE x.2))) (hn : (es.toList.map (·.born)).Nodup) (h0 : (leftOf es seen).size = 0) :
    (is.map (entOf HL)).Perm (HL.map (·.2)) := by
  rw [← map_entOf]
  refine List.Perm.map _ ((List.perm_ext_iff_of_nodup h.once List.nodup_range).2 fun i => ?_)
  rw [List.mem_range]
  refine ⟨h.lt i, fun hi => ?_⟩
  have hl : es.size = HL.length := by have := congrArg List.length hs; simpa using this
  have hx : es.getD i default ∈ es.toList := by simp [Array.getD, show i < es.size by omega]
  have hc : seen.contains (es.getD i default).born = true := by
    cases hb : seen.contains (es.getD i default).born with
    | true => rfl
    | false =>
      have hm : es.getD i default ∈ (leftOf es seen).toList := by
        unfold leftOf
        simp only [Array.toList_filter, List.mem_filter]
        exact ⟨hx, by rw [hb]; rfl⟩
      have : (leftOf es seen).toList.length = 0 := by simpa using h0
      rw [List.length_eq_zero_iff.1 this] at hm
      cases hm
  rw [Array.contains_iff_mem] at hc
  rw [← Array.mem_toList_iff, h.seen] at hc
  obtain ⟨j, hj, e⟩ := List.mem_map.1 hc
  have := born_inj hn (by have := h.lt j hj; omega) (by omega) e
  rw [← this]; exact hj
theorem Came.len {HL : List (Int × Ent)} {es : Array MapEntry} {seen : Array Nat} {is : List Nat} (h : Came HL es seen is) : is.length ≤ HL.length := by
  have := h.once.length_le_of_subset (l₂ := List.range HL.length) (fun i hi => List.mem_range.2 (h.lt i hi))
  simpa using this

/-- How many entries are still to come, read off the world. -/
def itLeft (b r : Nat) (w : World) : Nat := match w.heap[b]?, w.heap[r]? with
  | some (.map es _), some (.mapIter _ _ seen _) => (leftOf es seen).size
  | _, _ => 0
theorem left_less {es : Array MapEntry} {seen : Array Nat} {e : MapEntry} (he : e ∈ (leftOf es seen).toList) : (leftOf es (seen.push e.born)).size < (leftOf es seen).size := by
  have hsub : ∀ l : List MapEntry, (l.filter fun x => !(seen.push e.born).contains x.born).length ≤ (l.filter fun x => !seen.contains x.born).length := by
    intro l
    induction l with
    | nil => simp
    | cons x l ih =>
      simp only [List.filter_cons]
      by_cases h1 : (!(seen.push e.born).contains x.born) = true
      · have h2 : (!seen.contains x.born) = true := by
          simp only [Bool.not_eq_true'] at h1 ⊢
          cases h3 : seen.contains x.born with
          | false => rfl
          | true =>
            rw [Array.contains_iff_mem] at h3
            have : (seen.push e.born).contains x.born = true := by rw [Array.contains_iff_mem]; exact Array.mem_push.2 (Or.inl h3)
            rw [this] at h1; cases h1
        rw [if_pos h1, if_pos h2]; simp only [List.length_cons]; omega
      · rw [if_neg h1]
        split
        · simp only [List.length_cons]; omega
        · exact ih
  have key : ∀ l : List MapEntry, e ∈ l → seen.contains e.born = false → (l.filter fun x => !(seen.push e.born).contains x.born).length < (l.filter fun x => !seen.contains x.born).length := by
    intro l
    induction l with
    | nil => intro h; cases h
    | cons x l ih =>
      intro hm hc
      have hp : (seen.push e.born).contains e.born = true := by rw [Array.contains_iff_mem]; exact Array.mem_push.2 (Or.inr rfl)
      rcases List.mem_cons.1 hm with rfl | hm
      · have h2 : (!seen.contains e.born) = true := by rw [hc]; rfl
        have h1 : ¬ (!(seen.push e.born).contains e.born) = true := by rw [hp]; simp
        simp only [List.filter_cons]
        rw [if_neg h1, if_pos h2]
        have := hsub l
        simp only [List.length_cons]; omega
      · have h3 := ih hm hc
        simp only [List.filter_cons]
        by_cases h1 : (!(seen.push e.born).contains x.born) = true
        · have h2 : (!seen.contains x.born) = true := by
            simp only [Bool.not_eq_true'] at h1 ⊢
            cases h4 : seen.contains x.born with
            | false => rfl
            | true =>
              rw [Array.contains_iff_mem] at h4
              have : (seen.push e.born).contains x.born = true := by rw [Array.contains_iff_mem]; exact Array.mem_push.2 (Or.inl h4)
              rw [this] at h1; cases h1
          rw [if_pos h1, if_pos h2]; simp only [List.length_cons]; omega
        · rw [if_neg h1]
          split
          · simp only [List.length_cons]; omega
          · exact h3
  unfold leftOf at he ⊢
  simp only [Array.toList_filter, List.mem_filter] at he
  have := key es.toList he.1 (by simpa using he.2)
  simpa [← Array.length_toList] using this
theorem grown_put {w : World} {r : Nat} (o : Obj) : w.grownBy (setBlock w r o) (some r) :=
  ⟨rfl, rfl, rfl, by simp [setBlock], fun k _ hk => by simp only [setBlock]; rw [Array.getElem?_setIfInBounds_ne]; rintro rfl; exact hk rfl⟩
set_option maxRecDepth 100000 in
set_option maxHeartbeats 4000000 in
/-- maps.Values's iterator, for every loop body. -/
theorem values1_in (F : Fence) (n : Nat) (h8 : F.fn 50) (hro : F.round = none) (hn : 1 ≤ n) (l Bm b : Nat) (HL : List (Int × Ent)) (es : Array MapEntry) (clk : Nat) (J Jx : List Ent → World → Prop)
    (hY : ∀ pre x W, J pre W → pre.length < HL.length → YieldAt F (n - 1) Tryd.prog l #[enE x] W fun e W' =>
      (e = .returned (.bool true) ∧ J (pre ++ [x]) W' ∧ KeepsWalks W W') ∨ (e = .returned (.bool false) ∧ Jx (pre ++ [x]) W'))
    (W : World) (hJ : AbidesFrom W.heap.size J) (hm : W.cell? ⟨Bm, 0, none⟩ = some (.map (some b))) (hown : MapIs itE enE W b HL es clk) (h0 : J [] W) :
    CallsIn F n Tryd.prog 50 #[.func (.yield l) #[] #[], .pointer (some ⟨Bm, 0, none⟩)] W fun e W' => (∃ v, e = .returned v) ∧
      ((∃ xs, xs.Perm (HL.map (·.2)) ∧ J xs W') ∨ (∃ pre, True ∧ Jx pre W')) := by
  have hrr := range_run hown.at_
  have hbl := heap_lt hown.at_
  refine callsIn_of_wp Tryd.func50 rfl h8 ?_ hro
  simp only [Tryd.ntmps50, List.size_toArray, List.length_cons, List.length_nil, Nat.reduceAdd, Nat.reduceSub, Array.replicate_succ, Array.replicate_zero, List.push_toArray, List.append_toArray, List.nil_append, List.cons_append]
  gi_wp2
  gi_loopw [4] (fun _ wr => ∃ (seen : Array Nat) (c0 : Nat) (is : List Nat), wr.heap[b]? = some (.map es clk) ∧ wr.heap[W.heap.size]? = some (.mapIter (some b) clk seen c0) ∧ clk ≤ c0 ∧ Came HL es seen is ∧ J (is.map (entOf HL)) wr)
    (fun _ wr => itLeft b W.heap.size wr)
  case atStart =>
    exact ⟨#[], clk, [], (Below.heap_alloc _ _ _ hbl).trans hown.at_, World.alloc_heap_new _ _, Nat.le_refl _, ⟨(fun i hi => by cases hi), List.nodup_nil, rfl⟩, hJ [] W _ none h0 (World.grownBy_alloc _ _ none) (fun r e => by cases e)⟩
  case round =>
    obtain ⟨seen, c0, is, hb, hr, hc0, hC, hJs⟩ := hrel
    have hLe : itLeft b W.heap.size wr = (leftOf es seen).size := by unfold itLeft; rw [hb, hr]
    rcases run_next_at (P := Tryd.prog) wr 0 W.heap.size b clk c0 seen es clk hr hb hown.old hc0 with ⟨hz, hnx⟩ | ⟨e, he, w1, hw1, hnx⟩
    · have HD := hC.done hown.same hown.once hz
      gi_wp2
      go_end0
      exact ⟨⟨_, rfl⟩, .inl ⟨_, HD, hJs⟩⟩
    · obtain ⟨i, hC2, hval, hmem⟩ := hC.step hown.same he
      have hne : b ≠ W.heap.size := by omega
      have hrl : W.heap.size < wr.heap.size := heap_lt hr
      have hh1 : w1.heap = wr.heap := by rcases hw1 with rfl | rfl <;> rfl
      have hg1 : wr.grownBy w1 none := by rcases hw1 with rfl | rfl <;> exact ⟨rfl, rfl, rfl, Nat.le_refl _, fun _ _ _ => rfl⟩
      obtain ⟨w2, hw2⟩ : ∃ w2 : World, setBlock w1 W.heap.size (.mapIter (some b) clk (seen.push e.born) clk) = w2 := ⟨_, rfl⟩
      have hb2 : w2.heap[b]? = some (.map es clk) := by rw [← hw2]; simp only [setBlock, hh1]; rw [Array.getElem?_setIfInBounds_ne (by omega)]; exact hb
      have hr2 : w2.heap[W.heap.size]? = some (.mapIter (some b) clk (seen.push e.born) clk) := by rw [← hw2]; simp [setBlock, hh1, hrl]
      have hg2 : wr.grownBy w2 (some W.heap.size) := by
        rw [← hw2]
        refine ⟨by simp [setBlock, hg1.os], by simp [setBlock, hg1.tape], by simp [setBlock, hg1.output], by simp [setBlock, hh1], fun k _ hk => ?_⟩
        simp only [setBlock, hh1]; rw [Array.getElem?_setIfInBounds_ne]; rintro rfl; exact hk rfl
      have hJ2 := hJ _ wr w2 (some W.heap.size) hJs hg2 (fun r e => by cases e; exact ⟨Nat.le_refl _, _, hr, rfl⟩)
      have hen := run_entry_at (P := Tryd.prog) w2 W.heap.size b clk seen es clk e hr2 hb2 hmem hown.once
      rw [hw2] at hnx
      have hlen : (is.map (entOf HL)).length < HL.length := by
        have := hC2.len; simp at this ⊢; omega
      have HX : Hid ((is ++ [i]).map (entOf HL) = is.map (entOf HL) ++ [entOf HL i]) := by show _ = _; simp
      generalize hx : entOf HL i = x at hval HX
      rw [hval] at hnx hen
      have hJ3 := hJ _ w2 (w2.alloc (.cells #[.slice x.a x.row.length x.cap, .int .i64 x.n, .int .i64 x.born] 78)) none hJ2 (World.grownBy_alloc _ _ none) (fun r e => by cases e)
      obtain ⟨fn, tmps, assign, body, hy, hR⟩ := hY (is.map (entOf HL)) x _ hJ3 hlen
      have HLT : Hid ((leftOf es (seen.push e.born)).size < (leftOf es seen).size) := left_less he
      dsimp only [enE] at hy hnx hen
      have HB2 : Hid _ := hb2
      have HR2 : Hid _ := hr2
      have HLE : Hid _ := hLe
      clear hw2 hval hh1 hg1 hg2 hw1 hJ2 hJ3 hJs hb hr hx hrr hb2 hr2 hLe
      gi_wp2
      refine hR.mono ?_
      rintro e1 W3 (⟨rfl, hJ4, hk3⟩ | ⟨rfl, hJx3⟩)
      · have hb3 := hk3.same b _ ((Below.heap_alloc _ _ _ (heap_lt HB2.out)).trans HB2.out) rfl
        have hr3 := hk3.same W.heap.size _ ((Below.heap_alloc _ _ _ (heap_lt HR2.out)).trans HR2.out) rfl
        have HB3 : Hid _ := hb3
        have HR3 : Hid _ := hr3
        have HJ4 : Hid _ := hJ4
        clear hb3 hr3 hJ4 hk3
        gi_wp2
        go_roundw
        case rel => exact ⟨_, clk, is ++ [i], HB3.out, HR3.out, Nat.le_refl _, hC2, by rw [HX.out]; exact HJ4.out⟩
        case measure =>
          rw [HLE.out]
          have : itLeft b W.heap.size W3 = (leftOf es (seen.push e.born)).size := by unfold itLeft; rw [HB3.out, HR3.out]
          rw [this]; exact HLT.out
      · gi_wp2
        refine bodyPost_ret (results_none rfl _ _ _) rfl ?_
        exact ⟨⟨_, rfl⟩, .inr ⟨_, trivial, hJx3⟩⟩
end Go.Proofs.YtbfodpmlmhkikaaDoor
