/- A name that is no word, by the document. -/
import Derived.Test.YtcemogaacicnfaaGreatDoorRf3
import Derived.Test.YtcemogaacicnfaaGreatDoorRsm
namespace Go.Proofs.YtcemogaacicnfaaGreatDoor
set_option linter.unusedSimpArgs false
set_option maxRecDepth 20000
set_option maxHeartbeats 4000000
open Go.ChangeShapes Go.WideShapes Go.ChangeAt Go.RowKit

theorem rid_no (t : List UInt8) (w : World) (hn : s_nameS (bsA t) = false) : Calls Tryz.prog 65 #[.string (bsA t)] w fun e w' => e = .returned (.bool false) ∧ Below w.heap.size w w' := by
  have h1 := rName_any (bsA t) w
  rw [hn] at h1
  clear hn
  go_enter Tryz.func65, Tryz.ntmps65
  go_wp2_with (go_at_call 109; refine h1.mono ?_; rintro e w1 ⟨rfl, rfl⟩; clear h1)
  go_ret
  exact ⟨rfl, Below.refl _ _⟩
theorem rid_yes (t : List UInt8) (w : World) (hn : s_nameS (bsA t) = true) : Calls Tryz.prog 65 #[.string (bsA t)] w fun e w' => e = .returned (.bool (!inF wdL (Lib.toLowerA t))) ∧ Below w.heap.size w w' := by
  have h1 := rName_any (bsA t) w
  rw [hn] at h1
  have h2 := rsmall_any t w (nameS_len hn)
  clear hn
  have hi : ∀ (W : World), Calls Tryz.prog 67 #[.string (bsA (Lib.toLowerA t)), .slice (some ⟨W.heap.size, 0, none⟩) 58 58] (W.alloc (.cells wdV.toArray 9)) fun e w' => e = .returned (.bool (inF wdL (Lib.toLowerA t))) ∧ Below W.heap.size W w' := fun W => rin_b (Lib.toLowerA t) wdL W.heap.size 58 58 W wdV.toArray (by rfl) rfl rfl (by decide)
  have HI : Hid _ := hi
  clear hi
  generalize Lib.toLowerA t = u at h2 HI
  generalize inF wdL u = q at HI
  go_enter Tryz.func65, Tryz.ntmps65
  go_wp2_with (go_at_call 109; refine h1.mono ?_; rintro e w1 ⟨rfl, rfl⟩; clear h1)
  all_goals go_wp2_with (go_at_call 110; refine h2.mono ?_; rintro e w2 ⟨rfl, hb2⟩; clear h2)
  all_goals go_wp2_with (go_at_call 111; refine (rwords_any _).mono ?_; rintro e w3 ⟨rfl, rfl⟩)
  all_goals go_wp2_with (go_at_call 67; refine (HI.out _).mono ?_; rintro e w4 ⟨rfl, hb4⟩)
  go_ret
  exact ⟨rfl, hb2.trans (hb4.mono hb2.size)⟩
theorem rId_said : RIdSaid := fun t w _ => by
  unfold idC
  cases hn : s_nameS (bsA t) with
  | false => exact rid_no t w hn
  | true =>
    rw [Bool.true_and, ← inF_c]
    exact rid_yes t w hn
end Go.Proofs.YtcemogaacicnfaaGreatDoor
