/- Events: the document's answer. -/
import Derived.Test.YtjncoihppmbijaaDoorFind2
import Derived.Test.YtjncoihppmbijaaDoorRFits
namespace Go.Proofs.YtjncoihppmbijaaDoor
open Go.ChangeShapes Go.WideShapes Go.ChangeAt Go.RowKit
attribute [local go_sem ↓] Go.wp_at_zero Go.wp_at_succ

set_option maxHeartbeats 8000000 in
theorem rEvent_none (a : Option Addr) (n cap : Nat) (S : Nat → Sch) (en : ByteArray) (a2 : Option Addr) (m cap2 : Nat) (k v : Nat → Int) (t : Nat → ByteArray) (w : World) (hlen : n ≤ 9223372036854775807) (hs : SchsAt w a n S) (ho : (plF (nmS S) en n) = none) :
    Calls Tryd.prog 20 #[.slice a n cap, .agg #[.string en, .slice a2 m cap2]] w fun e w' => e = .returned (.int .i64 (evI S m k v t none)) ∧ Below w.heap.size w w' := by
  go_enter Tryd.func20, Tryd.ntmps20
  go_wp2_with fail
  refine (rFind_any en a n cap S _ hlen (hs.alloc _)).mono ?_
  rintro e w1 ⟨rfl, hb1⟩
  have e0 : fdV S none = .tuple #[.agg #[.string ⟨#[]⟩, .slice none 0 0], .bool false] := rfl
  rw [ho, e0]
  go_wp2
  go_ret
  exact ⟨rfl, (Bel.out (by repeat (first | exact Bel.refl _ | assumption | refine Bel.drew ?_ | refine Bel.drewN ?_ _ | refine Bel.alloc ?_ _ | refine Bel.setCell ?_ (by simp <;> omega) _ | refine Bel.step ?_ (by assumption))))⟩
set_option maxHeartbeats 8000000 in
theorem rEvent_some (hRu : RunesSaid) (a : Option Addr) (n cap : Nat) (S : Nat → Sch) (en : ByteArray) (a2 : Option Addr) (m cap2 : Nat) (k v : Nat → Int) (t : Nat → ByteArray) (w : World) (hlen : n ≤ 9223372036854775807) (hm : m ≤ 9223372036854775807) (hs : SchsAt w a n S) (j : Nat)
    (hc : ColsAt w (S j).a (S j).len (S j).nm (S j).kd) (hv : ValsAt w a2 m k v t) (ho : (plF (nmS S) en n) = some j) :
    Calls Tryd.prog 20 #[.slice a n cap, .agg #[.string en, .slice a2 m cap2]] w fun e w' => e = .returned (.int .i64 (evI S m k v t (some j))) ∧ Below w.heap.size w w' := by
  have hcj : ColsAt (w.alloc (.cells #[.string en, .slice a2 m cap2] 39)) (S j).a (S j).len (S j).nm (S j).kd := hc.alloc _
  have hv1 : ValsAt (w.alloc (.cells #[.string en, .slice a2 m cap2] 39)) a2 m k v t := hv.alloc _
  go_enter Tryd.func20, Tryd.ntmps20
  go_wp2_with fail
  refine (rFind_any en a n cap S _ hlen (hs.alloc _)).mono ?_
  rintro e w1 ⟨rfl, hb1⟩
  have e0 : fdV S (some j) = .tuple #[.agg #[.string (S j).sn, .slice (S j).a (S j).len (S j).cap], .bool true] := rfl
  rw [ho, e0]
  have x1 : w1.cell? ⟨w.heap.size, 1, none⟩ = some (.slice a2 m cap2) := cell_below hb1 (by go_simp)
  have hz1 : w.heap.size < w1.heap.size := cell_lt x1
  clear hs ho hc hv
  go_wp2_with fail
  refine (rFits_any hRu (S j).sn (S j).a (S j).len (S j).cap a2 m cap2 (S j).nm (S j).kd k v t _ hm ((hcj.below hb1).alloc _) ((hv1.below hb1).alloc _)).mono ?_
  rintro e w2 ⟨rfl, hb2⟩
  go_wp2
  go_ret
  exact ⟨rfl, (Bel.out (by repeat (first | exact Bel.refl _ | assumption | refine Bel.drew ?_ | refine Bel.drewN ?_ _ | refine Bel.alloc ?_ _ | refine Bel.setCell ?_ (by simp <;> omega) _ | refine Bel.step ?_ (by assumption))))⟩
end Go.Proofs.YtjncoihppmbijaaDoor
