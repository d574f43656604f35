/- A symbolic run of a program: a call without arguments that reads variables of packages alone. -/
import Derived.Test.YtglnljfdkiihbaaGreatDoorSyE
import Derived.Test.YtglnljfdkiihbaaGreatDoorSyC
namespace Go.Sy
open Go.RowKit (Below)
/-- The variables hold what the reckoning takes them to hold. -/
structure VarsAt (gs : List (Nat × Ent)) (w : World) : Prop where
  at' : ∀ p ∈ gs, p.1 < w.heap.size → ∀ (i : Nat) v, p.2.cs[i]? = some v → w.cell? ⟨p.1, i, none⟩ = some v
  blk : ∀ p ∈ gs, ∃ c el fr, w.heap[p.1]? = some (.cells c el fr)
  one : ∀ p ∈ gs, ∀ v ∈ p.2.cs, v.oneCell' = true
theorem closed_var {P : Program} (hmix : P.follows .mixedOrders = true) (gs : List (Nat × Ent)) (hgs : gOk gs = true) (n : Nat) {f : FuncId} {v : Value} {h' : Hp} {nx' : Nat} (he : evF P noO n f [] (gHp gs) 64 = some (v, h', nx')) (hv : flatN 4 v = true) (w : World) (hw : VarsAt gs w) : Calls P f #[] w (fun e w' => e = .returned v ∧ Below w.heap.size w w') := by
  have hno : ∀ i e, hget (gHp gs) i = some e → ¬ own e := fun i e h => by
    obtain ⟨_, _, a3, _⟩ := gHp_get hgs h
    exact fun ho => own_n0 ho a3
  let E : Env := ⟨fun i => if i < 64 then some (i, 0, 0) else none, fun _ => none⟩
  have hs : Sat E (hget (gHp gs)) w := by
    refine ⟨fun i e h => ?_, fun i j e f p q h _ _ ho => (hno i e h ho).elim⟩
    obtain ⟨a1, a2, a3, a4⟩ := gHp_get hgs h
    refine ⟨(i, 0, 0), if_pos a2, .cells (by rw [a3]; decide) (by rw [a3]; decide) (fun _ => rfl) ?_⟩
    obtain ⟨c, el, fr, hb⟩ := hw.blk _ a1
    refine ⟨c, el, fr, hb, fun j u hu => ?_, fun ho => (hno i e h ho).elim, (fun hk => by rw [hk] at a3; cases a3), fun hk => by rw [hk] at a3; cases a3⟩
    have hlt : i < w.heap.size := by
      rcases Nat.lt_or_ge i w.heap.size with h | h
      · exact h
      · rw [show ((i, e) : Nat × Ent).1 = i from rfl, Array.getElem?_eq_none h] at hb; cases hb
    have hc := hw.at' _ a1 hlt j u hu
    have hm := List.mem_of_getElem? hu
    refine ⟨u, ?_, flat_rn 4 u (List.all_eq_true.1 a4 u hm), hw.one _ a1 u hm⟩
    unfold World.cell? at hc
    simp only at hc hb
    rw [hb] at hc
    simpa using hc
  refine (calls_ok (noO_ok P) noO_mono hmix n f [] (gHp gs) 64 v h' nx' he E w [] hs (fun g hg => if_pos hg) (fun i h _ => if_neg (by omega)) .nil).mono ?_
  rintro e w' ⟨v', E', rfl, hr, hp⟩
  exact ⟨by rw [flat_eq 4 v v' hv hr], ⟨hp.frm.os, hp.frm.tape, hp.frm.output, hp.frm.size, fun k hk => hp.frm.block k hk fun i e p h ho => (hno i e h ho).elim⟩⟩
/-- Unknown values, by number. -/
def unk : Nat → List Value
  | 0 => []
  | n + 1 => unk n ++ [.complex .f64 n 0]
theorem unk_rn {E : Env} : ∀ (vs : List Value), (∀ i, i < vs.length → E.oq i = vs[i]?) → (∀ v ∈ vs, v.oneCell' = true) → Rns E (unk vs.length) vs := by
  intro vs
  induction hn : vs.length generalizing vs with
  | zero => intro _ _; rw [List.eq_nil_of_length_eq_zero hn]; exact .nil
  | succ n ih =>
    intro h1 h2
    have hne : vs ≠ [] := fun e => by rw [e] at hn; cases hn
    have e : vs = vs.dropLast ++ [vs.getLast hne] := (List.dropLast_concat_getLast hne).symm
    have hl : vs.dropLast.length = n := by rw [List.length_dropLast, hn]; rfl
    have hg : vs[n]? = some (vs.getLast hne) := by
      rw [List.getLast_eq_getElem]
      rw [List.getElem?_eq_getElem (by omega)]
      congr 1
      congr 1
      omega
    rw [e]
    refine (ih vs.dropLast hl (fun i hi => ?_) (fun v hv => h2 v (List.dropLast_subset _ hv))).append (.cons (rn_opq.2 ⟨?_, h2 _ (List.getLast_mem hne)⟩) .nil)
    · rw [h1 i (by omega), List.dropLast_eq_take, List.getElem?_take, if_pos (by omega)]
    · rw [h1 n (by omega), hg]
theorem closed_args {P : Program} (hmix : P.follows .mixedOrders = true) (gs : List (Nat × Ent)) (hgs : gOk gs = true) (n : Nat) {f : FuncId} {v : Value} {h' : Hp} {nx' : Nat} (vs : List Value) (h1 : ∀ v ∈ vs, v.oneCell' = true) (he : evF P noO n f (unk vs.length) (gHp gs) 64 = some (v, h', nx')) (hv : flatN 4 v = true) (w : World) (hw : VarsAt gs w) : Calls P f ⟨vs⟩ w (fun e w' => e = .returned v ∧ Below w.heap.size w w') := by
  have hno : ∀ i e, hget (gHp gs) i = some e → ¬ own e := fun i e h => by
    obtain ⟨_, _, a3, _⟩ := gHp_get hgs h
    exact fun ho => own_n0 ho a3
  let E : Env := ⟨fun i => if i < 64 then some (i, 0, 0) else none, fun i => vs[i]?⟩
  have hs : Sat E (hget (gHp gs)) w := by
    refine ⟨fun i e h => ?_, fun i j e f p q h _ _ ho => (hno i e h ho).elim⟩
    obtain ⟨a1, a2, a3, a4⟩ := gHp_get hgs h
    refine ⟨(i, 0, 0), if_pos a2, .cells (by rw [a3]; decide) (by rw [a3]; decide) (fun _ => rfl) ?_⟩
    obtain ⟨c, el, fr, hb⟩ := hw.blk _ a1
    refine ⟨c, el, fr, hb, fun j u hu => ?_, fun ho => (hno i e h ho).elim, (fun hk => by rw [hk] at a3; cases a3), fun hk => by rw [hk] at a3; cases a3⟩
    have hlt : i < w.heap.size := by
      rcases Nat.lt_or_ge i w.heap.size with h | h
      · exact h
      · rw [show ((i, e) : Nat × Ent).1 = i from rfl, Array.getElem?_eq_none h] at hb; cases hb
    have hc := hw.at' _ a1 hlt j u hu
    have hm := List.mem_of_getElem? hu
    refine ⟨u, ?_, flat_rn 4 u (List.all_eq_true.1 a4 u hm), hw.one _ a1 u hm⟩
    unfold World.cell? at hc
    simp only at hc hb
    rw [hb] at hc
    simpa using hc
  refine (calls_ok (noO_ok P) noO_mono hmix n f (unk vs.length) (gHp gs) 64 v h' nx' he E w vs hs (fun g hg => if_pos hg) (fun i h _ => if_neg (by omega)) (unk_rn vs (fun i _ => rfl) h1)).mono ?_
  rintro e w' ⟨v', E', rfl, hr, hp⟩
  exact ⟨by rw [flat_eq 4 v v' hv hr], ⟨hp.frm.os, hp.frm.tape, hp.frm.output, hp.frm.size, fun k hk => hp.frm.block k hk fun i e p h ho => (hno i e h ho).elim⟩⟩
end Go.Sy
