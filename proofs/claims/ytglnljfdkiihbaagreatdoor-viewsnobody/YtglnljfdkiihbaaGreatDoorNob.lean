/- A set that New did not give does nothing: reckoned by the kernel over any memory, whatever the arrival is. -/
import Derived.Test.YtglnljfdkiihbaaGreatDoorSyCl
import Derived.Test.YtglnljfdkiihbaaGreatDoorChecked
namespace Go.Proofs.YtglnljfdkiihbaaGreatDoor
open Go.Sy
open Go.RowKit (Below)
set_option maxRecDepth 100000
theorem mixed : Tryz.prog.follows .mixedOrders = true := by kernel_rfl
def isTrue (r : Option (Value × Hp × Nat)) : Bool := match r with
  | some (.bool true, _, _) => true
  | _ => false
/-- A call of which what is unknown stands within its arguments: us are the arguments as they are reckoned, qs what is unknown. -/
theorem closed_in {P : Program} (hmix : P.follows .mixedOrders = true) (n : Nat) {f : FuncId} {v : Value} {h' : Hp} {nx' : Nat} (us vs qs : List Value) (hr : ∀ E : Env, (∀ i, E.oq i = qs[i]?) → Rns E us vs) (he : evF P noO n f us (gHp []) 64 = some (v, h', nx')) (hv : flatN 4 v = true) (w : World) : Calls P f ⟨vs⟩ w (fun e w' => e = .returned v ∧ Below w.heap.size w w') := by
  have hno : ∀ i e, hget (gHp []) i = some e → ¬ own e := fun i e h => by
    obtain ⟨h1, _, _, _⟩ := gHp_get (gs := []) rfl h
    cases h1
  let E : Env := ⟨fun i => if i < 64 then some (i, 0, 0) else none, fun i => qs[i]?⟩
  have hs : Sat E (hget (gHp [])) w := by
    refine ⟨fun i e h => ?_, fun i j e f p q h _ _ ho => (hno i e h ho).elim⟩
    obtain ⟨h1, _, _, _⟩ := gHp_get (gs := []) rfl h
    cases h1
  refine (calls_ok (noO_ok P) noO_mono hmix n f us (gHp []) 64 v h' nx' he E w vs hs (fun g hg => if_pos hg) (fun i h _ => if_neg (by omega)) (hr E fun i => rfl)).mono ?_
  rintro e w' ⟨v', E', rfl, hr, hp⟩
  exact ⟨by rw [flat_eq 4 v v' hv hr], ⟨hp.frm.os, hp.frm.tape, hp.frm.output, hp.frm.size, fun k hk => hp.frm.block k hk fun i e p h ho => (hno i e h ho).elim⟩⟩
theorem nob_is : isTrue (evF Tryz.prog noO 100000 3 [.agg #[.complex .f64 0 0, .complex .f64 1 0, .complex .f64 2 0]] (gHp []) 64) = true := by kernel_rfl
theorem nob_any (v0 v1 v2 : Value) (h0 : v0.oneCell' = true) (h1 : v1.oneCell' = true) (h2 : v2.oneCell' = true) (w : World) : Calls Tryz.prog 3 #[.agg #[v0, v1, v2]] w fun e w' => e = .returned (.bool true) ∧ Below w.heap.size w w' := by
  have h := nob_is
  unfold isTrue at h
  split at h
  · rename_i h' nx he
    refine closed_in mixed 100000 [.agg #[.complex .f64 0 0, .complex .f64 1 0, .complex .f64 2 0]] [.agg #[v0, v1, v2]] [v0, v1, v2] (fun E hE => ?_) he rfl w
    refine .cons (rn_agg.2 ⟨_, rfl, ?_⟩) .nil
    exact .cons (rn_opq.2 ⟨by rw [hE]; rfl, h0⟩) (.cons (rn_opq.2 ⟨by rw [hE]; rfl, h1⟩) (.cons (rn_opq.2 ⟨by rw [hE]; rfl, h2⟩) .nil))
  · cases h
end Go.Proofs.YtglnljfdkiihbaaGreatDoor
