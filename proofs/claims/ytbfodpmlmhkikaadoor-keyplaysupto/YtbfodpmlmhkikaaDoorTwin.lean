/- A row copied (twin). -/
import Derived.Test.YtbfodpmlmhkikaaDoorClone
namespace Go.Proofs.YtbfodpmlmhkikaaDoor
open Go.ChangeShapes Go.WideShapes Go.ChangeAt Go.RowKit

set_option maxHeartbeats 8000000 in
theorem Twin_some (ad : Addr) (cap : Nat) (r : List Val) (w : World) (hby : r.length * 32 ≤ 140737488355328) (hc : RowAt w (some ad) r) :
    Calls Tryd.prog 7 #[.slice (some ad) r.length cap] w fun e w' => ∃ a' cap', e = .returned (.slice a' r.length cap') ∧ RowAt w' a' r ∧ (∀ g o, a' = some ⟨g, o, none⟩ → w.heap.size ≤ g ∧ g < w'.heap.size ∧ o = 0 ∧ ∀ j, w'.frozen? ⟨g, j, none⟩ = false) ∧ Below w.heap.size w w' := by
  obtain ⟨i0, hi, hz0⟩ := Option.map_eq_some_iff.1 info53
  simp only [Prod.mk.injEq] at hz0
  obtain ⟨hz, hs, hb3⟩ := hz0
  have hl : Hid _ := rwC_len r
  have hone : Hid _ := rowC_one r.length (kAt r) (nAt r) (tAt r)
  have hnews : Hid _ := rwC_cells hc
  have hown0 : w.ownsRow w.heap.size 53 3 (.slice none 0 0) 0 [] := World.ownsRow_nil _ _ _ _
  have hn1 : 0 + r.length ≤ maxLen := by unfold maxLen; omega
  have hby1 : (0 + r.length) * 32 ≤ 140737488355328 := by omega
  have hbase : w.heap.size ≤ w.heap.size := Nat.le_refl _
  clear hc
  go_enter Tryd.func7, Tryd.ntmps7
  go_wp2_with (at_builtin; refine wpList_append_own _ rfl _ _ 22 rfl w.heap.size 53 i0 (.agg #[.int .i64 0, .int .i64 0, .string ⟨#[]⟩]) 3 32 Tryd.underlying22 hi hz hs hb3 rfl (by decide) _ 0 [] rfl hown0 ad r.length cap (rwC r) rfl hl.out hnews.out hone.out hn1 hby1 hbase ?_)
  intro v1 w1 hown1 hgrow1 hi1
  clear hi1
  have hB1 : Below w.heap.size w w1 := (Below.refl _ _).grown hgrow1 (Nat.le_refl _) (fun kk hk => by cases hk)
  obtain ⟨a', cap', hv, hcc, hgg⟩ := row_of_owns (r := r) (by simpa using hown1)
  rw [hv]
  clear hown1 hgrow1 hv hl hone hnews hown0 hn1 hby1 hbase hi hz hs hb3
  have HC : Hid _ := hcc
  have HG : Hid _ := hgg
  clear hcc hgg
  go_wp2
  go_ret
  exact ⟨_, _, rfl, HC.out, HG.out, hB1⟩
set_option maxHeartbeats 8000000 in
theorem Twin_none (cap : Nat) (w : World) :
    Calls Tryd.prog 7 #[.slice none 0 cap] w fun e w' => e = .returned (.slice none 0 0) ∧ Below w.heap.size w w' := by
  go_enter Tryd.func7, Tryd.ntmps7
  go_wp2
  go_ret
  exact ⟨rfl, (Bel.out (by repeat (first | exact Bel.refl _ | assumption | refine Bel.drew ?_ | refine Bel.drewN ?_ _ | refine Bel.alloc ?_ _ | refine Bel.setCell ?_ (by simp <;> omega) _ | refine Bel.step ?_ (by assumption))))⟩
theorem Twin_any (a : Option Addr) (cap : Nat) (r : List Val) (w : World) (hby : r.length * 32 ≤ 140737488355328) (hc : RowAt w a r) :
    Calls Tryd.prog 7 #[.slice a r.length cap] w fun e w' => ∃ a' cap', e = .returned (.slice a' r.length cap') ∧ RowAt w' a' r ∧ (∀ g o, a' = some ⟨g, o, none⟩ → w.heap.size ≤ g ∧ g < w'.heap.size ∧ o = 0 ∧ ∀ j, w'.frozen? ⟨g, j, none⟩ = false) ∧ Below w.heap.size w w' := by
  cases a with
  | some ad => exact Twin_some ad cap r w hby hc
  | none =>
    obtain rfl := hc.none
    exact (Twin_none cap w).mono fun e w' h => ⟨none, 0, h.1, Or.inl rfl, fun _ _ e => (by cases e), h.2⟩
end Go.Proofs.YtbfodpmlmhkikaaDoor
