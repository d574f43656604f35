/- A symbolic run of a program: a call without arguments that reads variables of packages alone, calls that were reckoned by themselves at hand. -/
import Derived.Test.YtmadofpbfgbdkaaGreatDoorSyQ
import Derived.Test.YtmadofpbfgbdkaaGreatDoorSyCl
namespace Go.Sy
open Go.RowKit (Below)
theorem closed_orc {P : Program} (hmix : P.follows .mixedOrders = true) (gs : List (Nat × Ent)) (hgs : gOk gs = true) (tbl : List Orc) (ht : ∀ o ∈ tbl, OrcOK P gs o) (n : Nat) {f : FuncId} {v : Value} {h' : Hp} {nx' : Nat} (he : evF P (orcC gs tbl) n f [] (gHp gs) 64 = some (v, h', nx')) (hv : flatN 4 v = true) (w : World) (hw : VarsAt gs w) : Calls P f #[] w (fun e w' => e = .returned v ∧ Below w.heap.size w w') := by
  have hno : ∀ i e, hget (gHp gs) i = some e → ¬ own e := fun i e h => by
    obtain ⟨_, _, a3, _⟩ := gHp_get hgs h
    exact fun ho => own_n0 ho a3
  let E : Env := ⟨fun i => if i < 64 then some (i, 0, 0) else none, fun _ => none⟩
  have hs : Sat E (hget (gHp gs)) w := by
    refine ⟨fun i e h => ?_, fun i j e f p q h _ _ ho => (hno i e h ho).elim⟩
    obtain ⟨a1, a2, a3, a4⟩ := gHp_get hgs h
    refine ⟨(i, 0, 0), if_pos a2, .cells (by rw [a3]; decide) (by rw [a3]; decide) (fun _ => rfl) ?_⟩
    obtain ⟨c, el, fr, hb⟩ := hw.blk _ a1
    refine ⟨c, el, fr, hb, fun j u hu => ?_, fun ho => (hno i e h ho).elim, fun hk => by rw [hk] at a3; cases a3⟩
    have hlt : i < w.heap.size := by
      rcases Nat.lt_or_ge i w.heap.size with h | h
      · exact h
      · rw [show ((i, e) : Nat × Ent).1 = i from rfl, Array.getElem?_eq_none h] at hb; cases hb
    have hc := hw.at' _ a1 hlt j u hu
    have hm := List.mem_of_getElem? hu
    refine ⟨u, ?_, flat_rn 4 u (List.all_eq_true.1 a4 u hm), hw.one _ a1 u hm⟩
    unfold World.cell? at hc
    simp only at hc hb
    rw [hb] at hc
    simpa using hc
  refine (calls_ok (orc_ok hgs ht) orc_mono hmix n f [] (gHp gs) 64 v h' nx' he E w [] hs (fun g hg => if_pos hg) (fun i h _ => if_neg (by omega)) .nil).mono ?_
  rintro e w' ⟨v', E', rfl, hr, hp⟩
  exact ⟨by rw [flat_eq 4 v v' hv hr], ⟨hp.frm.os, hp.frm.tape, hp.frm.output, hp.frm.size, fun k hk => hp.frm.block k hk fun i e p h ho => (hno i e h ho).elim⟩⟩
end Go.Sy
