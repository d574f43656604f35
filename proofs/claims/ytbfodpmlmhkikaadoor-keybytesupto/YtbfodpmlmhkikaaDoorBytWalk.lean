/- The bytes of any row, and the row of any bytes, as the document says: the code's walk. -/
import Derived.Test.YtbfodpmlmhkikaaDoorTwin
import Derived.Test.YtbfodpmlmhkikaaDoorREnc
import Derived.Test.YtbfodpmlmhkikaaDoorRDcd
import Derived.Test.YtbfodpmlmhkikaaDoorRunes
import Derived.Test.YtbfodpmlmhkikaaDoorSure
namespace Go.Proofs.YtbfodpmlmhkikaaDoor
open Go.ChangeShapes Go.WideShapes Go.ChangeAt Go.RowKit

theorem runes_said : RunesSaid := runes_any
/-- The error that both Decodes tell. -/
def dcE (D : Option (List Val)) : Int := match D with
  | none => 31
  | some _ => 0
/-- The row that both Decodes tell. -/
def dcR (D : Option (List Val)) : List Val := match D with
  | none => []
  | some r => r
/-- What both Decodes tell. -/
theorem DecPost.get {D : Option (List Val)} {n : Nat} {e : Ending} {w : World} (h : DecPost D n e w) : ∃ a cap, e = .returned (.tuple #[.slice a (dcR D).length cap, .int .i64 (dcE D)]) ∧ RowAt w a (dcR D) ∧ (dcR D).length ≤ n := by
  cases D with
  | none => exact ⟨none, 0, h, Or.inl rfl, Nat.zero_le _⟩
  | some r =>
    obtain ⟨a, cap, he, hr, hl⟩ := h
    exact ⟨a, cap, he, hr, hl⟩
set_option maxRecDepth 20000 in
set_option maxHeartbeats 8000000 in
theorem keyBytes_walk (a : Option Addr) (cap : Nat) (r : List Val) (s : ByteArray) (w : World) (hR : Ready w) (hl : r.length ≤ 4000000) (hs : s.size ≤ 4000000) (hr : RowAt w a r) (hI : IntR r) :
    Calls Tryd.prog 3 #[.slice a r.length cap, .string s] w fun e w' => e = .returned (.bool true) ∧ Below w.heap.size w w' := by
  have t1 := Twin_any a cap r w (by omega) hr
  have t2 := fun a1 cap1 w1 (hr1 : RowAt w1 a1 r) (hR1 : Ready w1) => Encode_any a1 cap1 r w1 hR1 hl hr1 hI
  have t3 := fun w1 (hr1 : RowAt w1 a r) => REncode_any runes_said a cap r w1 hl hr1 hI
  have t4 := fun w1 (hR1 : Ready w1) => Decode_any s w1 hR1 (by omega)
  have t5 := fun w1 (hR1 : Ready w1) => RDecode_any runes_said s w1 hR1 (by omega)
  generalize enS r = sr at t2 t3
  generalize erI 31 (mayR r) = er at t2 t3
  generalize decS s.data.toList = D at t4 t5
  have HR1 : Hid _ := hr
  clear hr hI
  go_enter Tryd.func3, Tryd.ntmps3
  go_wp2_with fail
  refine t1.mono ?_
  rintro e w1 ⟨a1, cap1, rfl, hr1, _, hb1⟩
  have HRm : Hid _ := hr1
  clear hr1 t1
  go_wp2_with fail
  refine (t2 a1 cap1 w1 HRm.out (hR.below hb1)).mono ?_
  rintro e w2 ⟨rfl, hb2⟩
  have hB2 : Below w.heap.size w w2 := hb1.trans (hb2.mono hb1.size)
  clear t2
  go_wp2_with fail
  refine (t3 w2 (HR1.out.below hB2)).mono ?_
  rintro e w3 ⟨rfl, hb3⟩
  have hB3 : Below w.heap.size w w3 := hB2.trans (hb3.mono hB2.size)
  have hC3 : Below w1.heap.size w1 w3 := hb2.trans (hb3.mono hb2.size)
  clear t3 hb2 hb3 hB2
  go_wp2_with fail
  refine (t4 w3 (hR.below hB3)).mono ?_
  rintro e w4 ⟨hD, hb4⟩
  obtain ⟨a4, cap4, rfl, hr4, hl4⟩ := hD.get
  have hB4 : Below w.heap.size w w4 := hB3.trans (hb4.mono hB3.size)
  have hC4 : Below w1.heap.size w1 w4 := hC3.trans (hb4.mono hC3.size)
  clear t4 hb4 hB3 hC3 hD
  go_wp2_with fail
  refine (t5 w4 (hR.below hB4)).mono ?_
  rintro e w5 ⟨hD, hb5⟩
  obtain ⟨a5, cap5, rfl, hr5, _⟩ := hD.get
  have hB5 : Below w.heap.size w w5 := hB4.trans (hb5.mono hB4.size)
  have hC5 : Below w1.heap.size w1 w5 := hC4.trans (hb5.mono hC4.size)
  have h6 := SameRow_any a4 a5 cap4 cap5 (dcR D) (dcR D) w5 (by omega) (hr4.below hb5) hr5
  rw [decide_eq_true rfl] at h6
  clear t5 hb5 hB4 hC4 hD hr4 hr5
  generalize (dcR D).length = dl at h6 ⊢
  generalize dcE D = de
  go_wp2_with fail
  refine h6.mono ?_
  rintro e w6 ⟨rfl, hb6⟩
  have hB6 : Below w.heap.size w w6 := hB5.trans (hb6.mono hB5.size)
  have hC6 : Below w1.heap.size w1 w6 := hC5.trans (hb6.mono hC5.size)
  have h7 := SameRow_any a1 a cap1 cap r r w6 (by omega) (HRm.out.below hC6) (HR1.out.below hB6)
  rw [decide_eq_true rfl] at h7
  clear h6 hb6 hB5 hC5
  go_wp2_with fail
  refine h7.mono ?_
  rintro e w7 ⟨rfl, hb7⟩
  have hB7 : Below w.heap.size w w7 := hB6.trans (hb7.mono hB6.size)
  have h8 := sure_any w7 (hR.below hB7)
  clear h7 hb7 hB6 hC6
  go_wp2_with (go_at_call 13; refine h8.mono ?_; rintro e ws ⟨rfl, hbs⟩)
  go_ret
  exact ⟨rfl, hB7.trans (hbs.mono hB7.size)⟩
end Go.Proofs.YtbfodpmlmhkikaaDoor
