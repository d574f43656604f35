/- A row that is written is read as it was, and what is read is written as it was: the code's walk. -/
import Derived.Test.YtbfodpmlmhkikaaDoorBackMath
import Derived.Test.YtbfodpmlmhkikaaDoorSure
namespace Go.Proofs.YtbfodpmlmhkikaaDoor
open Go.ChangeShapes Go.WideShapes Go.ChangeAt Go.RowKit

/-- Decode of the bytes of a row that may be. -/
theorem Dec_enc (r : List Val) (w : World) (hR : Ready w) (hm : mayR r = true) (hI : IntR r) (hl : (encR r).length ≤ 4294967296) :
    Calls Tryd.prog 10 #[.string (bsA (encR r))] w fun e w' => ∃ a cap, e = .returned (.tuple #[.slice a r.length cap, .int .i64 0]) ∧ RowAt w' a r ∧ Below w.heap.size w w' := by
  have h := Decode_any (bsA (encR r)) w hR (by rw [bsA_size]; exact hl)
  rw [bsA_list, decS_enc hm hI] at h
  refine h.mono ?_
  rintro e w' ⟨⟨a, cap, he, hr, _⟩, hb⟩
  exact ⟨a, cap, he, hr, hb⟩
theorem Dec_yes (s : ByteArray) (r : List Val) (w : World) (hR : Ready w) (hsz : s.size ≤ 4000000) (hd : decS s.data.toList = some r) :
    Calls Tryd.prog 10 #[.string s] w fun e w' => ∃ a cap, e = .returned (.tuple #[.slice a r.length cap, .int .i64 0]) ∧ RowAt w' a r ∧ r.length ≤ 4000000 ∧ Below w.heap.size w w' := by
  have h := Decode_any s w hR (by omega)
  rw [hd] at h
  refine h.mono ?_
  rintro e w' ⟨⟨a, cap, he, hr, hl⟩, hb⟩
  exact ⟨a, cap, he, hr, by omega, hb⟩
set_option maxRecDepth 20000 in
set_option maxHeartbeats 8000000 in
theorem back_no (a a2 : Option Addr) (cap cap2 : Nat) (r r2 : List Val) (s : ByteArray) (w : World) (hR : Ready w) (hl : r.length ≤ 1048576) (hl2 : r2.length ≤ 1048576) (hs : s.size ≤ 4000000) (hr : RowAt w a r) (hr2 : RowAt w a2 r2) (hI : IntR r) (hI2 : IntR r2) (hm : mayR r = false) :
    Calls Tryd.prog 6 #[.slice a r.length cap, .slice a2 r2.length cap2, .string s] w fun e w' => e = .returned (.bool true) ∧ Below w.heap.size w w' := by
  have X1 : erI 31 (mayR r) = 31 := by rw [hm]; rfl
  have h1 := Encode_any a cap r w hR (by omega) hr hI
  rw [X1] at h1
  have h2 := fun w1 (hb1 : Below w.heap.size w w1) => Encode_any a2 cap2 r2 w1 (hR.below hb1) (by omega) (hr2.below hb1) hI2
  generalize enS r = sr at h1
  generalize enS r2 = sr2 at h2
  generalize erI 31 (mayR r2) = e2 at h2
  have HR2 : Hid _ := hr2
  have HI2 : Hid _ := hI2
  have HI : Hid _ := hI
  clear hr hr2 hI hI2 X1 hm
  go_enter Tryd.func6, Tryd.ntmps6
  go_wp2_with fail
  refine h1.mono ?_
  rintro e w1 ⟨rfl, hb1⟩
  go_wp2_with fail
  refine (h2 w1 hb1).mono ?_
  rintro e w2 ⟨rfl, hb2⟩
  have hB : Below w.heap.size w w2 := hb1.trans (hb2.mono hb1.size)
  clear h1 h2 hb1 hb2
  cases hd : decS s.data.toList with
  | none =>
    go_wp2_with fail
    refine (Dec_bad s w2 (hR.below hB) hs hd).mono ?_
    rintro e wd ⟨rfl, hbd⟩
    have hBd : Below w.heap.size w wd := hB.trans (hbd.mono hB.size)
    have h6 := sure_any wd (hR.below hBd)
    clear hbd hB
    go_wp2_with (go_at_call 13; refine h6.mono ?_; rintro e ws ⟨rfl, hbs⟩)
    go_ret
    exact ⟨rfl, hBd.trans (hbs.mono hBd.size)⟩
  | some q =>
    obtain ⟨q1, q2, q3⟩ := decS_inv hd
    have HS : Hid (bsA (encR q) = s) := by show _ = _; rw [q1, bsA_of]
    go_wp2_with fail
    refine (Dec_yes s q w2 (hR.below hB) hs hd).mono ?_
    rintro e wd ⟨ad, capd, rfl, hrd, hld, hbd⟩
    have hBd : Below w.heap.size w wd := hB.trans (hbd.mono hB.size)
    have hen := Encode_any ad capd q wd (hR.below hBd) hld hrd q3
    rw [show enS q = s by unfold enS; rw [q2]; exact HS.out, show erI 31 (mayR q) = 0 by rw [q2]; rfl] at hen
    clear hbd hB hrd q1 q2 q3 HS hd
    go_wp2_with fail
    refine hen.mono ?_
    rintro e we ⟨rfl, hbe⟩
    have hBe : Below w.heap.size w we := hBd.trans (hbe.mono hBd.size)
    have h6 := sure_any we (hR.below hBe)
    clear hbe hBd hen
    go_wp2_with (go_at_call 13; refine h6.mono ?_; rintro e ws ⟨rfl, hbs⟩)
    go_ret
    exact ⟨rfl, hBe.trans (hbs.mono hBe.size)⟩
set_option maxRecDepth 20000 in
set_option maxHeartbeats 8000000 in
theorem back_yn (a a2 : Option Addr) (cap cap2 : Nat) (r r2 : List Val) (s : ByteArray) (w : World) (hR : Ready w) (hl : r.length ≤ 1048576) (hl2 : r2.length ≤ 1048576) (hs : s.size ≤ 4000000) (hr : RowAt w a r) (hr2 : RowAt w a2 r2) (hI : IntR r) (hI2 : IntR r2) (hm : mayR r = true) (hm2 : mayR r2 = false) :
    Calls Tryd.prog 6 #[.slice a r.length cap, .slice a2 r2.length cap2, .string s] w fun e w' => e = .returned (.bool true) ∧ Below w.heap.size w w' := by
  have X1 : erI 31 (mayR r) = 0 := by rw [hm]; rfl
  have X2 : enS r = bsA (encR r) := by unfold enS; rw [hm]; rfl
  have h1 := Encode_any a cap r w hR (by omega) hr hI
  rw [X1, X2] at h1
  have h2 := fun w1 (hb1 : Below w.heap.size w w1) => Encode_any a2 cap2 r2 w1 (hR.below hb1) (by omega) (hr2.below hb1) hI2
  have hel : (encR r).length ≤ 4294967296 := by have := encR_len hm; omega
  have HM : Hid (mayR r = true) := hm
  have HI : Hid (IntR r) := hI
  have HR1 : Hid (RowAt w a r) := hr
  have HR2 : Hid (RowAt w a2 r2) := hr2
  have X3 : erI 31 (mayR r2) = 31 := by rw [hm2]; rfl
  simp only [X3] at h2
  generalize enS r2 = sr2 at h2
  clear hr hr2 hI hI2 X1 X2 X3 hm hm2
  go_enter Tryd.func6, Tryd.ntmps6
  go_wp2_with fail
  refine h1.mono ?_
  rintro e w1 ⟨rfl, hb1⟩
  go_wp2_with fail
  refine (h2 w1 hb1).mono ?_
  rintro e w2 ⟨rfl, hb2⟩
  have hB2 : Below w.heap.size w w2 := hb1.trans (hb2.mono hb1.size)
  clear h1 h2 hb1 hb2
  go_wp2_with fail
  refine (Dec_enc r w2 (hR.below hB2) HM.out HI.out hel).mono ?_
  rintro e w3 ⟨a3, cap3, rfl, hr3, hb3⟩
  have hB3 : Below w.heap.size w w3 := hB2.trans (hb3.mono hB2.size)
  have hsm := SameRow_any a3 a cap3 cap r r w3 (by omega) hr3 (HR1.out.below hB3)
  rw [decide_eq_true rfl] at hsm
  clear hb3 hr3 hB2
  go_wp2_with fail
  refine hsm.mono ?_
  rintro e w4 ⟨rfl, hb4⟩
  have hB4 : Below w.heap.size w w4 := hB3.trans (hb4.mono hB3.size)
  clear hb4 hsm hB3
  have hB := hB4
  clear hB4
  cases hd : decS s.data.toList with
  | none =>
    go_wp2_with fail
    refine (Dec_bad s w4 (hR.below hB) hs hd).mono ?_
    rintro e wd ⟨rfl, hbd⟩
    have hBd : Below w.heap.size w wd := hB.trans (hbd.mono hB.size)
    have h6 := sure_any wd (hR.below hBd)
    clear hbd hB
    go_wp2_with (go_at_call 13; refine h6.mono ?_; rintro e ws ⟨rfl, hbs⟩)
    go_ret
    exact ⟨rfl, hBd.trans (hbs.mono hBd.size)⟩
  | some q =>
    obtain ⟨q1, q2, q3⟩ := decS_inv hd
    have HS : Hid (bsA (encR q) = s) := by show _ = _; rw [q1, bsA_of]
    go_wp2_with fail
    refine (Dec_yes s q w4 (hR.below hB) hs hd).mono ?_
    rintro e wd ⟨ad, capd, rfl, hrd, hld, hbd⟩
    have hBd : Below w.heap.size w wd := hB.trans (hbd.mono hB.size)
    have hen := Encode_any ad capd q wd (hR.below hBd) hld hrd q3
    rw [show enS q = s by unfold enS; rw [q2]; exact HS.out, show erI 31 (mayR q) = 0 by rw [q2]; rfl] at hen
    clear hbd hB hrd q1 q2 q3 HS hd
    go_wp2_with fail
    refine hen.mono ?_
    rintro e we ⟨rfl, hbe⟩
    have hBe : Below w.heap.size w we := hBd.trans (hbe.mono hBd.size)
    have h6 := sure_any we (hR.below hBe)
    clear hbe hBd hen
    go_wp2_with (go_at_call 13; refine h6.mono ?_; rintro e ws ⟨rfl, hbs⟩)
    go_ret
    exact ⟨rfl, hBe.trans (hbs.mono hBe.size)⟩
set_option maxRecDepth 20000 in
set_option maxHeartbeats 8000000 in
theorem back_yy (a a2 : Option Addr) (cap cap2 : Nat) (r r2 : List Val) (s : ByteArray) (w : World) (hR : Ready w) (hl : r.length ≤ 1048576) (hl2 : r2.length ≤ 1048576) (hs : s.size ≤ 4000000) (hr : RowAt w a r) (hr2 : RowAt w a2 r2) (hI : IntR r) (hI2 : IntR r2) (hm : mayR r = true) (hm2 : mayR r2 = true) :
    Calls Tryd.prog 6 #[.slice a r.length cap, .slice a2 r2.length cap2, .string s] w fun e w' => e = .returned (.bool true) ∧ Below w.heap.size w w' := by
  have X1 : erI 31 (mayR r) = 0 := by rw [hm]; rfl
  have X2 : enS r = bsA (encR r) := by unfold enS; rw [hm]; rfl
  have h1 := Encode_any a cap r w hR (by omega) hr hI
  rw [X1, X2] at h1
  have h2 := fun w1 (hb1 : Below w.heap.size w w1) => Encode_any a2 cap2 r2 w1 (hR.below hb1) (by omega) (hr2.below hb1) hI2
  have hel : (encR r).length ≤ 4294967296 := by have := encR_len hm; omega
  have HM : Hid (mayR r = true) := hm
  have HI : Hid (IntR r) := hI
  have HR1 : Hid (RowAt w a r) := hr
  have HR2 : Hid (RowAt w a2 r2) := hr2
  have X3 : erI 31 (mayR r2) = 0 := by rw [hm2]; rfl
  have X4 : enS r2 = bsA (encR r2) := by unfold enS; rw [hm2]; rfl
  simp only [X3, X4] at h2
  have HQ : Hid ((bsA (encR r) = bsA (encR r2)) ↔ r = r2) := enc_inj hm hI hm2 hI2
  generalize hy : bsA (encR r2) = y at h2 HQ
  clear hr hr2 hI hI2 X1 X2 X3 X4 hm hm2 hy
  go_enter Tryd.func6, Tryd.ntmps6
  go_wp2_with fail
  refine h1.mono ?_
  rintro e w1 ⟨rfl, hb1⟩
  go_wp2_with fail
  refine (h2 w1 hb1).mono ?_
  rintro e w2 ⟨rfl, hb2⟩
  have hB2 : Below w.heap.size w w2 := hb1.trans (hb2.mono hb1.size)
  clear h1 h2 hb1 hb2
  go_wp2_with fail
  refine (Dec_enc r w2 (hR.below hB2) HM.out HI.out hel).mono ?_
  rintro e w3 ⟨a3, cap3, rfl, hr3, hb3⟩
  have hB3 : Below w.heap.size w w3 := hB2.trans (hb3.mono hB2.size)
  have hsm := SameRow_any a3 a cap3 cap r r w3 (by omega) hr3 (HR1.out.below hB3)
  rw [decide_eq_true rfl] at hsm
  clear hb3 hr3 hB2
  go_wp2_with fail
  refine hsm.mono ?_
  rintro e w4 ⟨rfl, hb4⟩
  have hB4 : Below w.heap.size w w4 := hB3.trans (hb4.mono hB3.size)
  clear hb4 hsm hB3
  have hsm := SameRow_any a a2 cap cap2 r r2 w4 (by omega) (HR1.out.below hB4) (HR2.out.below hB4)
  have HE : Hid (decide (r = r2) = ((bsA (encR r)).toList == y.toList)) := by
    show _ = _
    rw [← beq_toListBytes]
    by_cases e : r = r2
    · rw [decide_eq_true e, HQ.out.2 e]
      symm; rw [beq_toListBytes]; simp
    · rw [decide_eq_false e]
      symm; rw [beq_toListBytes]
      have hne : ¬ bsA (encR r) = y := fun h => e (HQ.out.1 h)
      rw [← ba_toList] at hne
      simpa using hne
  rw [HE.out] at hsm
  clear HE
  go_wp2_with fail
  refine hsm.mono ?_
  rintro e w5 ⟨rfl, hb5⟩
  have hB : Below w.heap.size w w5 := hB4.trans (hb5.mono hB4.size)
  clear hb5 hsm hB4
  generalize hbq : ((bsA (encR r)).toList == y.toList) = bq
  cases hd : decS s.data.toList with
  | none =>
    go_wp2_with fail
    refine (Dec_bad s w5 (hR.below hB) hs hd).mono ?_
    rintro e wd ⟨rfl, hbd⟩
    have hBd : Below w.heap.size w wd := hB.trans (hbd.mono hB.size)
    have h6 := sure_any wd (hR.below hBd)
    clear hbd hB
    go_wp2_with (go_at_call 13; refine h6.mono ?_; rintro e ws ⟨rfl, hbs⟩)
    go_ret
    exact ⟨rfl, hBd.trans (hbs.mono hBd.size)⟩
  | some q =>
    obtain ⟨q1, q2, q3⟩ := decS_inv hd
    have HS : Hid (bsA (encR q) = s) := by show _ = _; rw [q1, bsA_of]
    go_wp2_with fail
    refine (Dec_yes s q w5 (hR.below hB) hs hd).mono ?_
    rintro e wd ⟨ad, capd, rfl, hrd, hld, hbd⟩
    have hBd : Below w.heap.size w wd := hB.trans (hbd.mono hB.size)
    have hen := Encode_any ad capd q wd (hR.below hBd) hld hrd q3
    rw [show enS q = s by unfold enS; rw [q2]; exact HS.out, show erI 31 (mayR q) = 0 by rw [q2]; rfl] at hen
    clear hbd hB hrd q1 q2 q3 HS hd
    go_wp2_with fail
    refine hen.mono ?_
    rintro e we ⟨rfl, hbe⟩
    have hBe : Below w.heap.size w we := hBd.trans (hbe.mono hBd.size)
    have h6 := sure_any we (hR.below hBe)
    clear hbe hBd hen
    go_wp2_with (go_at_call 13; refine h6.mono ?_; rintro e ws ⟨rfl, hbs⟩)
    go_ret
    exact ⟨rfl, hBe.trans (hbs.mono hBe.size)⟩
theorem keyBack_walk (a a2 : Option Addr) (cap cap2 : Nat) (r r2 : List Val) (s : ByteArray) (w : World) (hR : Ready w) (hl : r.length ≤ 1048576) (hl2 : r2.length ≤ 1048576) (hs : s.size ≤ 4000000) (hr : RowAt w a r) (hr2 : RowAt w a2 r2) (hI : IntR r) (hI2 : IntR r2) :
    Calls Tryd.prog 6 #[.slice a r.length cap, .slice a2 r2.length cap2, .string s] w fun e w' => e = .returned (.bool true) ∧ Below w.heap.size w w' := by
  cases hm : mayR r with
  | false => exact back_no a a2 cap cap2 r r2 s w hR hl hl2 hs hr hr2 hI hI2 hm
  | true =>
    cases hm2 : mayR r2 with
    | false => exact back_yn a a2 cap cap2 r r2 s w hR hl hl2 hs hr hr2 hI hI2 hm hm2
    | true => exact back_yy a a2 cap cap2 r r2 s w hR hl hl2 hs hr hr2 hI hI2 hm hm2
end Go.Proofs.YtbfodpmlmhkikaaDoor
