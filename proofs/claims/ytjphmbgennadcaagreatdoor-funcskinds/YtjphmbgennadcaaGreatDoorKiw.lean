/- FuncsKinds: the walk. -/
import Derived.Test.YtjphmbgennadcaaGreatDoorRkg
import Derived.Test.YtjphmbgennadcaaGreatDoorKna
import Derived.Test.YtjphmbgennadcaaGreatDoorSur
namespace Go.Proofs.YtjphmbgennadcaaGreatDoor
set_option maxHeartbeats 4000000
set_option maxRecDepth 20000
set_option linter.unusedSimpArgs false
open Go.ChangeShapes Go.WideShapes Go.ChangeAt Go.RowKit

theorem kinds_walk (s : ByteArray) (a : Option Addr) (cap : Nat) (l : List Int) (w : World) (hR : Ready w) (hlen : l.length ≤ 9223372036854775807) (hcp : l.length ≤ cap) (hk : KsAt w a l) :
    Calls Tryz.prog 3 #[.string s, .slice a l.length cap] w fun e w' => e = .returned (.bool true) ∧ Below w.heap.size w w' := by
  have HK : Hid (KsAt w a l) := hk
  have HR : Hid (Ready w) := hR
  clear hk hR
  go_enter Tryz.func3, Tryz.ntmps3
  go_wp2_with fail
  refine (Names_any w).mono ?_
  rintro e w1 ⟨⟨a1, cap1, rfl, hn1⟩, hb1⟩
  have HB1 : Hid (Below w.heap.size w w1) := hb1
  have HN1 : Hid (NmsAt w1 a1) := hn1
  clear hb1 hn1
  go_wp2_with fail
  refine (rNames_any w1).mono ?_
  rintro e w2 ⟨⟨a2, cap2, rfl, hn2⟩, hb2⟩
  obtain ⟨b1, rfl, h1⟩ := HN1.out.below hb2
  obtain ⟨b2, rfl, h2⟩ := hn2
  have HB2 : Hid (Bel w.heap.size w w2) := by
    have h := HB1.out.trans (hb2.mono HB1.out.size)
    exact ⟨h, h.size⟩
  have H1 : Hid _ := h1
  have H2 : Hid _ := h2
  clear h1 h2 hb2 HB1 HN1
  go_wp2
  go_loopw [7] (fun i wr => ∃ (m : Nat), m ≤ 18 ∧ i = .int .i64 m ∧ Bel w2.heap.size w2 wr) (fun i _ => 18 - (intOf i).toNat)
  case atStart => exact ⟨0, Nat.zero_le _, rfl, Bel.refl _⟩
  case round =>
    obtain ⟨m, hm, rfl, HB⟩ := hrel
    have hW := HB.out
    rcases Nat.lt_or_ge m 18 with hlt | hge
    · have c1 := cell_below hW (H1.out m hlt)
      have c2 := cell_below hW (H2.out m hlt)
      generalize nmA m = n1 at c1 c2
      go_wp2
      go_quiet (fail)
      go_wp2
      go_roundw
      case rel => exact ⟨m + 1, by omega, by go_num, (by repeat (first | exact Bel.refl _ | assumption | refine Bel.drew ?_ | refine Bel.drewN ?_ _ | refine Bel.alloc ?_ _ | refine Bel.setCell ?_ (by simp <;> omega) _ | refine Bel.step ?_ (by assumption)))⟩
      case measure => simp [intOf]; omega
    · obtain rfl : m = 18 := by omega
      have HB3 : Hid (Below w.heap.size w wr) := HB2.out.out.trans (hW.mono HB2.out.out.size)
      have hKd := Kind_any s a cap l wr hlen hcp (HK.out.below HB3.out)
      have hKr := fun W (hb : Below w.heap.size w W) => rKind_any s a cap l W hlen (HK.out.below hb)
      have hS := fun W (hb : Below w.heap.size w W) => sure_any W (HR.out.below hb)
      generalize kinP s l = K at hKd hKr
      obtain ⟨kk, ke⟩ := K
      dsimp only at hKd hKr
      clear H1 H2 HB hW HB2
      go_wp2_with fail
      refine hKd.mono ?_
      rintro e w3 ⟨rfl, hb3⟩
      have HB4 : Hid (Below w.heap.size w w3) := HB3.out.trans (hb3.mono HB3.out.size)
      clear hb3 hKd
      go_wp2_with fail
      refine (hKr w3 HB4.out).mono ?_
      rintro e w4 ⟨rfl, hb4⟩
      have HB5 : Hid (Below w.heap.size w w4) := HB4.out.trans (hb4.mono HB4.out.size)
      clear hb4 hKr
      go_wp2_with fail
      refine (hS w4 HB5.out).mono ?_
      rintro e w5 ⟨rfl, hb5⟩
      have HB6 : Hid (Below w.heap.size w w5) := HB5.out.trans (hb5.mono HB5.out.size)
      clear hb5 hS
      go_wp2
      go_ret
      exact ⟨rfl, HB6.out⟩
end Go.Proofs.YtjphmbgennadcaaGreatDoor
