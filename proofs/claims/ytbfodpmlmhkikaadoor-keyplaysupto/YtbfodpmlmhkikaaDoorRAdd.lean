/- The document's map: a number grows. -/
import Derived.Test.YtbfodpmlmhkikaaDoorRMap
namespace Go.Proofs.YtbfodpmlmhkikaaDoor
open Go.ChangeShapes Go.WideShapes Go.ChangeAt Go.RowKit

theorem prC_set (P : List Ent) (i : Nat) (h : i < P.length) (m : Int) : prC (P.set i ⟨(pAt P i).a, (pAt P i).cap, (pAt P i).row, m, (pAt P i).born⟩) = (prC P).set (i * 2 + 1) (.int .i64 m) := by
  induction P generalizing i with
  | nil => simp at h
  | cons x P ih =>
    have e : ∀ (y : Ent) (Q : List Ent), prC (y :: Q) = .slice y.a y.row.length y.cap :: .int .i64 y.n :: prC Q := fun _ _ => rfl
    cases i with
    | zero => rfl
    | succ i =>
      have hp : pAt (x :: P) (i + 1) = pAt P i := rfl
      rw [hp, List.set_cons_succ, e, e, ih i (by simpa using h), show (i + 1) * 2 + 1 = i * 2 + 1 + 1 + 1 by omega, List.set_cons_succ, List.set_cons_succ]
theorem RfAt.turn {w : World} {X B g cap : Nat} {P : List Ent} (h : RfAt w X B (.slice (some ⟨g, 0, none⟩) P.length cap) P) {i : Nat} (hi : i < P.length) (m : Int) :
    RfAt (w.setCell ⟨g, i * 2 + 1, none⟩ (.int .i64 m)) X B (.slice (some ⟨g, 0, none⟩) P.length cap) (P.set i ⟨(pAt P i).a, (pAt P i).cap, (pAt P i).row, m, (pAt P i).born⟩) := by
  have hgX : g ≠ X := fun e => h.nX (by rw [e]; rfl)
  have hF : Fr (fun k => k = g) w (w.setCell ⟨g, i * 2 + 1, none⟩ (.int .i64 m)) := (Fr.refl (fun k => k = g) w).setCell (p := ⟨g, i * 2 + 1, none⟩) (Or.inl rfl) _
  refine ⟨hF.cell (fun e => hgX e.symm) h.c, by rw [World.frozen?_setCell]; exact h.f, ?_, fun x hx => ?_, h.nX⟩
  · rw [prC_set P i hi, List.length_set]
    exact (h.own.stored (i * 2 + 1) (.int .i64 m)).1
  · have hrow : ∀ y ∈ P, RowAt (w.setCell ⟨g, i * 2 + 1, none⟩ (.int .i64 m)) y.a y.row ∧ ∀ g' o, y.a = some ⟨g', o, none⟩ → B ≤ g' ∧ g' < (w.setCell ⟨g, i * 2 + 1, none⟩ (.int .i64 m)).heap.size ∧ g' ≠ X ∧ (Value.slice (some ⟨g, 0, none⟩) P.length cap).ownBlock ≠ some g' := fun y hy =>
      ⟨hF.vals (h.rows y hy).1 (fun g' o e => fun e2 => ((h.rows y hy).2 g' o e).2.2.2 (by rw [e2]; rfl)), fun g' o e => ⟨((h.rows y hy).2 g' o e).1, Nat.lt_of_lt_of_le ((h.rows y hy).2 g' o e).2.1 hF.size, ((h.rows y hy).2 g' o e).2.2⟩⟩
    rcases List.mem_or_eq_of_mem_set hx with hx | hx
    · exact hrow x hx
    · subst hx; exact hrow (pAt P i) (pAt_mem hi)
theorem RfAt.slice {w : World} {X B : Nat} {v : Value} {P : List Ent} (h : RfAt w X B v P) (hp : 0 < P.length) : ∃ g cap, v = .slice (some ⟨g, 0, none⟩) P.length cap := by
  obtain ⟨hlen, ⟨rfl, h0⟩ | ⟨g, cap, cur, rfl, hbg, hg, hcap, hcm, hcs, htake⟩⟩ := h.own
  · omega
  · exact ⟨g, cap, rfl⟩
theorem lv_no {x n : Int} (h : lvI x n = false) : -9223372036854775808 ≤ x + n ∧ x + n ≤ 9223372036854775807 := by
  unfold lvI at h
  rw [Bool.or_eq_false_iff, decide_eq_false_iff_not, decide_eq_false_iff_not] at h
  omega
theorem lv_yes {x n : Int} (h : lvI x n = true) : 9223372036854775807 < x + n ∨ x + n < -9223372036854775808 := by
  unfold lvI at h
  rw [Bool.or_eq_true, decide_eq_true_iff, decide_eq_true_iff] at h
  omega
set_option maxRecDepth 20000 in
set_option maxHeartbeats 8000000 in
theorem RAdd_spp (hRu : RunesSaid) (X B : Nat) (v : Value) (P : List Ent) (a : Option Addr) (cap : Nat) (r : List Val) (n : Int) (w : World) (hM : RfAt w X B v P) (hL : P.length ≤ 4000000) (hl : ∀ i, (pAt P i).row.length ≤ 9223372036854775807) (hlen : r.length ≤ 4000000) (hr : RowAt w a r) (hI : IntR r) (hm : mayR r = true) (i : Nat) (hi : i < P.length) (hf : fnI P r = i) (_hn1 : -9223372036854775808 ≤ n) (_hn2 : n ≤ 9223372036854775807) (_hx1 : -9223372036854775808 ≤ (pAt P i).n) (_hx2 : (pAt P i).n ≤ 9223372036854775807) (hlv : lvI (pAt P i).n n = false) (hs1 : 0 < (pAt P i).n) (hs2 : 0 < n) :
    Calls Tryd.prog 16 #[.pointer (some ⟨X, 0, none⟩), .slice a r.length cap, .int .i64 n] w fun e w' => e = .returned (.tuple #[.int .i64 ((pAt P i).n + n), .int .i64 0]) ∧ RfAt w' X B v (P.set i ⟨(pAt P i).a, (pAt P i).cap, (pAt P i).row, (pAt P i).n + n, (pAt P i).born⟩) ∧ Fr (fun k => v.ownBlock = some k) w w' := by
  have h1 := REncode_any hRu a cap r w hlen hr hI
  rw [hm] at h1
  simp only [erI, if_true] at h1
  have h2 := fun w1 (hb : Below w.heap.size w w1) => rfind_any X v P a cap r w1 (hM.below hb).c (hM.below hb).view (by omega) hl (hr.below hb)
  rw [hf] at h2
  generalize enS r = sr at h1
  obtain ⟨g, capL, rfl⟩ := hM.slice (by omega)
  have HM : Hid (RfAt w X B (.slice (some ⟨g, 0, none⟩) P.length capL) P) := hM
  have hv := hM.view
  have hc : w.cell? ⟨g, i * 2 + 1, none⟩ = some (.int .i64 (pAt P i).n) := by
    rcases hv with ⟨hc, _⟩ | ⟨g', cap', e, hP⟩
    · cases hc
    · injection e with e1 _ _
      injection e1 with e1
      injection e1 with e1 _ _
      rw [e1]; exact (hP i hi).2.1
  have hX := hM.c
  have hfz : w.frozen? ⟨g, i * 2 + 1, none⟩ = false := hM.own.frozenAt _
  clear hM hl hr hI hm hf hv
  have hy := lv_no hlv
  clear hlv
  have hw : wrap64 ((pAt P i).n + n) = (pAt P i).n + n := by unfold wrap64; omega
  generalize hxn : (pAt P i).n = x at *
  obtain ⟨S, hS⟩ : ∃ S, wrap64 (x + n) = S := ⟨_, rfl⟩
  have hSS : S = x + n := by rw [← hS]; exact hw
  have e1 : (0 < x) = True := eq_true (by omega)
  have e2 : (0 < n) = True := eq_true (by omega)
  have e4 : (x < 0) = False := eq_false (by omega)
  have e5 : (n < 0) = False := eq_false (by omega)
  have e3 : (S < 0) = False := eq_false (by omega)
  have HSS : Hid _ := hSS
  have HS : Hid _ := hS
  have HX : Hid _ := hxn
  have g1 : wrap64 (x + n) = S := hS
  clear hw hy hS hSS hs1 hs2 _hn1 _hn2 _hx1 _hx2 hxn
  go_enter Tryd.func16, Tryd.ntmps16
  go_wp2_with fail
  refine h1.mono ?_
  rintro e w1 ⟨rfl, hb1⟩
  have h3 := h2 w1 hb1
  clear h1 h2
  go_wp2_with fail
  refine h3.mono ?_
  rintro e w2 ⟨rfl, hb2⟩
  have hB2 : Below w.heap.size w w2 := hb1.trans (hb2.mono hb1.size)
  have d1 := cell_below hB2 hc
  have dX := cell_below hB2 hX
  have dF : w2.frozen? ⟨g, i * 2 + 1, none⟩ = false := (hB2.frozen (p := ⟨g, i * 2 + 1, none⟩) (cell_lt hc)).trans hfz
  clear h3 hb1 hb2 hc hX hfz
  go_wp2
  go_ret2
  refine ⟨?_, ?_, ?_⟩
  · show Ending.returned (Value.tuple #[.int .i64 (wrap64 (x + n)), .int .i64 0]) = _
    rw [HS.out, HSS.out]
  · have h := (HM.out.below hB2).turn hi S
    rw [HX.out] at *
    rw [← HSS.out]; exact h
  · exact Fr.setCell (S := fun k => (Value.slice (some ⟨g, 0, none⟩) P.length capL).ownBlock = some k) (p := ⟨g, i * 2 + 1, none⟩) (Fr.of hB2) (Or.inl rfl) _
set_option maxRecDepth 20000 in
set_option maxHeartbeats 8000000 in
theorem RAdd_spz (hRu : RunesSaid) (X B : Nat) (v : Value) (P : List Ent) (a : Option Addr) (cap : Nat) (r : List Val) (n : Int) (w : World) (hM : RfAt w X B v P) (hL : P.length ≤ 4000000) (hl : ∀ i, (pAt P i).row.length ≤ 9223372036854775807) (hlen : r.length ≤ 4000000) (hr : RowAt w a r) (hI : IntR r) (hm : mayR r = true) (i : Nat) (hi : i < P.length) (hf : fnI P r = i) (_hn1 : -9223372036854775808 ≤ n) (_hn2 : n ≤ 9223372036854775807) (_hx1 : -9223372036854775808 ≤ (pAt P i).n) (_hx2 : (pAt P i).n ≤ 9223372036854775807) (hlv : lvI (pAt P i).n n = false) (hs1 : 0 < (pAt P i).n) (hs2 : n = 0) :
    Calls Tryd.prog 16 #[.pointer (some ⟨X, 0, none⟩), .slice a r.length cap, .int .i64 n] w fun e w' => e = .returned (.tuple #[.int .i64 ((pAt P i).n + n), .int .i64 0]) ∧ RfAt w' X B v (P.set i ⟨(pAt P i).a, (pAt P i).cap, (pAt P i).row, (pAt P i).n + n, (pAt P i).born⟩) ∧ Fr (fun k => v.ownBlock = some k) w w' := by
  have h1 := REncode_any hRu a cap r w hlen hr hI
  rw [hm] at h1
  simp only [erI, if_true] at h1
  have h2 := fun w1 (hb : Below w.heap.size w w1) => rfind_any X v P a cap r w1 (hM.below hb).c (hM.below hb).view (by omega) hl (hr.below hb)
  rw [hf] at h2
  generalize enS r = sr at h1
  obtain ⟨g, capL, rfl⟩ := hM.slice (by omega)
  have HM : Hid (RfAt w X B (.slice (some ⟨g, 0, none⟩) P.length capL) P) := hM
  have hv := hM.view
  have hc : w.cell? ⟨g, i * 2 + 1, none⟩ = some (.int .i64 (pAt P i).n) := by
    rcases hv with ⟨hc, _⟩ | ⟨g', cap', e, hP⟩
    · cases hc
    · injection e with e1 _ _
      injection e1 with e1
      injection e1 with e1 _ _
      rw [e1]; exact (hP i hi).2.1
  have hX := hM.c
  have hfz : w.frozen? ⟨g, i * 2 + 1, none⟩ = false := hM.own.frozenAt _
  clear hM hl hr hI hm hf hv
  have hy := lv_no hlv
  clear hlv
  have hw : wrap64 ((pAt P i).n + n) = (pAt P i).n + n := by unfold wrap64; omega
  generalize hxn : (pAt P i).n = x at *
  obtain ⟨S, hS⟩ : ∃ S, wrap64 (x + n) = S := ⟨_, rfl⟩
  have hSS : S = x + n := by rw [← hS]; exact hw
  have e1 : (0 < x) = True := eq_true (by omega)
  have e2 : (0 < n) = False := eq_false (by omega)
  have e4 : (x < 0) = False := eq_false (by omega)
  have e5 : (n < 0) = False := eq_false (by omega)
  have HSS : Hid _ := hSS
  have HS : Hid _ := hS
  have HX : Hid _ := hxn
  have g1 : wrap64 (x + n) = S := hS
  clear hw hy hS hSS hs1 hs2 _hn1 _hn2 _hx1 _hx2 hxn
  go_enter Tryd.func16, Tryd.ntmps16
  go_wp2_with fail
  refine h1.mono ?_
  rintro e w1 ⟨rfl, hb1⟩
  have h3 := h2 w1 hb1
  clear h1 h2
  go_wp2_with fail
  refine h3.mono ?_
  rintro e w2 ⟨rfl, hb2⟩
  have hB2 : Below w.heap.size w w2 := hb1.trans (hb2.mono hb1.size)
  have d1 := cell_below hB2 hc
  have dX := cell_below hB2 hX
  have dF : w2.frozen? ⟨g, i * 2 + 1, none⟩ = false := (hB2.frozen (p := ⟨g, i * 2 + 1, none⟩) (cell_lt hc)).trans hfz
  clear h3 hb1 hb2 hc hX hfz
  go_wp2
  go_ret2
  refine ⟨?_, ?_, ?_⟩
  · show Ending.returned (Value.tuple #[.int .i64 (wrap64 (x + n)), .int .i64 0]) = _
    rw [HS.out, HSS.out]
  · have h := (HM.out.below hB2).turn hi S
    rw [HX.out] at *
    rw [← HSS.out]; exact h
  · exact Fr.setCell (S := fun k => (Value.slice (some ⟨g, 0, none⟩) P.length capL).ownBlock = some k) (p := ⟨g, i * 2 + 1, none⟩) (Fr.of hB2) (Or.inl rfl) _
set_option maxRecDepth 20000 in
set_option maxHeartbeats 8000000 in
theorem RAdd_spm (hRu : RunesSaid) (X B : Nat) (v : Value) (P : List Ent) (a : Option Addr) (cap : Nat) (r : List Val) (n : Int) (w : World) (hM : RfAt w X B v P) (hL : P.length ≤ 4000000) (hl : ∀ i, (pAt P i).row.length ≤ 9223372036854775807) (hlen : r.length ≤ 4000000) (hr : RowAt w a r) (hI : IntR r) (hm : mayR r = true) (i : Nat) (hi : i < P.length) (hf : fnI P r = i) (_hn1 : -9223372036854775808 ≤ n) (_hn2 : n ≤ 9223372036854775807) (_hx1 : -9223372036854775808 ≤ (pAt P i).n) (_hx2 : (pAt P i).n ≤ 9223372036854775807) (hlv : lvI (pAt P i).n n = false) (hs1 : 0 < (pAt P i).n) (hs2 : n < 0) :
    Calls Tryd.prog 16 #[.pointer (some ⟨X, 0, none⟩), .slice a r.length cap, .int .i64 n] w fun e w' => e = .returned (.tuple #[.int .i64 ((pAt P i).n + n), .int .i64 0]) ∧ RfAt w' X B v (P.set i ⟨(pAt P i).a, (pAt P i).cap, (pAt P i).row, (pAt P i).n + n, (pAt P i).born⟩) ∧ Fr (fun k => v.ownBlock = some k) w w' := by
  have h1 := REncode_any hRu a cap r w hlen hr hI
  rw [hm] at h1
  simp only [erI, if_true] at h1
  have h2 := fun w1 (hb : Below w.heap.size w w1) => rfind_any X v P a cap r w1 (hM.below hb).c (hM.below hb).view (by omega) hl (hr.below hb)
  rw [hf] at h2
  generalize enS r = sr at h1
  obtain ⟨g, capL, rfl⟩ := hM.slice (by omega)
  have HM : Hid (RfAt w X B (.slice (some ⟨g, 0, none⟩) P.length capL) P) := hM
  have hv := hM.view
  have hc : w.cell? ⟨g, i * 2 + 1, none⟩ = some (.int .i64 (pAt P i).n) := by
    rcases hv with ⟨hc, _⟩ | ⟨g', cap', e, hP⟩
    · cases hc
    · injection e with e1 _ _
      injection e1 with e1
      injection e1 with e1 _ _
      rw [e1]; exact (hP i hi).2.1
  have hX := hM.c
  have hfz : w.frozen? ⟨g, i * 2 + 1, none⟩ = false := hM.own.frozenAt _
  clear hM hl hr hI hm hf hv
  have hy := lv_no hlv
  clear hlv
  have hw : wrap64 ((pAt P i).n + n) = (pAt P i).n + n := by unfold wrap64; omega
  generalize hxn : (pAt P i).n = x at *
  obtain ⟨S, hS⟩ : ∃ S, wrap64 (x + n) = S := ⟨_, rfl⟩
  have hSS : S = x + n := by rw [← hS]; exact hw
  have e1 : (0 < x) = True := eq_true (by omega)
  have e2 : (0 < n) = False := eq_false (by omega)
  have e4 : (x < 0) = False := eq_false (by omega)
  have e5 : (n < 0) = True := eq_true (by omega)
  have HSS : Hid _ := hSS
  have HS : Hid _ := hS
  have HX : Hid _ := hxn
  have g1 : wrap64 (x + n) = S := hS
  clear hw hy hS hSS hs1 hs2 _hn1 _hn2 _hx1 _hx2 hxn
  go_enter Tryd.func16, Tryd.ntmps16
  go_wp2_with fail
  refine h1.mono ?_
  rintro e w1 ⟨rfl, hb1⟩
  have h3 := h2 w1 hb1
  clear h1 h2
  go_wp2_with fail
  refine h3.mono ?_
  rintro e w2 ⟨rfl, hb2⟩
  have hB2 : Below w.heap.size w w2 := hb1.trans (hb2.mono hb1.size)
  have d1 := cell_below hB2 hc
  have dX := cell_below hB2 hX
  have dF : w2.frozen? ⟨g, i * 2 + 1, none⟩ = false := (hB2.frozen (p := ⟨g, i * 2 + 1, none⟩) (cell_lt hc)).trans hfz
  clear h3 hb1 hb2 hc hX hfz
  go_wp2
  go_ret2
  refine ⟨?_, ?_, ?_⟩
  · show Ending.returned (Value.tuple #[.int .i64 (wrap64 (x + n)), .int .i64 0]) = _
    rw [HS.out, HSS.out]
  · have h := (HM.out.below hB2).turn hi S
    rw [HX.out] at *
    rw [← HSS.out]; exact h
  · exact Fr.setCell (S := fun k => (Value.slice (some ⟨g, 0, none⟩) P.length capL).ownBlock = some k) (p := ⟨g, i * 2 + 1, none⟩) (Fr.of hB2) (Or.inl rfl) _
set_option maxRecDepth 20000 in
set_option maxHeartbeats 8000000 in
theorem RAdd_szp (hRu : RunesSaid) (X B : Nat) (v : Value) (P : List Ent) (a : Option Addr) (cap : Nat) (r : List Val) (n : Int) (w : World) (hM : RfAt w X B v P) (hL : P.length ≤ 4000000) (hl : ∀ i, (pAt P i).row.length ≤ 9223372036854775807) (hlen : r.length ≤ 4000000) (hr : RowAt w a r) (hI : IntR r) (hm : mayR r = true) (i : Nat) (hi : i < P.length) (hf : fnI P r = i) (_hn1 : -9223372036854775808 ≤ n) (_hn2 : n ≤ 9223372036854775807) (_hx1 : -9223372036854775808 ≤ (pAt P i).n) (_hx2 : (pAt P i).n ≤ 9223372036854775807) (hlv : lvI (pAt P i).n n = false) (hs1 : (pAt P i).n = 0) (hs2 : 0 < n) :
    Calls Tryd.prog 16 #[.pointer (some ⟨X, 0, none⟩), .slice a r.length cap, .int .i64 n] w fun e w' => e = .returned (.tuple #[.int .i64 ((pAt P i).n + n), .int .i64 0]) ∧ RfAt w' X B v (P.set i ⟨(pAt P i).a, (pAt P i).cap, (pAt P i).row, (pAt P i).n + n, (pAt P i).born⟩) ∧ Fr (fun k => v.ownBlock = some k) w w' := by
  have h1 := REncode_any hRu a cap r w hlen hr hI
  rw [hm] at h1
  simp only [erI, if_true] at h1
  have h2 := fun w1 (hb : Below w.heap.size w w1) => rfind_any X v P a cap r w1 (hM.below hb).c (hM.below hb).view (by omega) hl (hr.below hb)
  rw [hf] at h2
  generalize enS r = sr at h1
  obtain ⟨g, capL, rfl⟩ := hM.slice (by omega)
  have HM : Hid (RfAt w X B (.slice (some ⟨g, 0, none⟩) P.length capL) P) := hM
  have hv := hM.view
  have hc : w.cell? ⟨g, i * 2 + 1, none⟩ = some (.int .i64 (pAt P i).n) := by
    rcases hv with ⟨hc, _⟩ | ⟨g', cap', e, hP⟩
    · cases hc
    · injection e with e1 _ _
      injection e1 with e1
      injection e1 with e1 _ _
      rw [e1]; exact (hP i hi).2.1
  have hX := hM.c
  have hfz : w.frozen? ⟨g, i * 2 + 1, none⟩ = false := hM.own.frozenAt _
  clear hM hl hr hI hm hf hv
  have hy := lv_no hlv
  clear hlv
  have hw : wrap64 ((pAt P i).n + n) = (pAt P i).n + n := by unfold wrap64; omega
  generalize hxn : (pAt P i).n = x at *
  obtain ⟨S, hS⟩ : ∃ S, wrap64 (x + n) = S := ⟨_, rfl⟩
  have hSS : S = x + n := by rw [← hS]; exact hw
  have e1 : (0 < x) = False := eq_false (by omega)
  have e2 : (0 < n) = True := eq_true (by omega)
  have e4 : (x < 0) = False := eq_false (by omega)
  have e5 : (n < 0) = False := eq_false (by omega)
  have HSS : Hid _ := hSS
  have HS : Hid _ := hS
  have HX : Hid _ := hxn
  have g1 : wrap64 (x + n) = S := hS
  clear hw hy hS hSS hs1 hs2 _hn1 _hn2 _hx1 _hx2 hxn
  go_enter Tryd.func16, Tryd.ntmps16
  go_wp2_with fail
  refine h1.mono ?_
  rintro e w1 ⟨rfl, hb1⟩
  have h3 := h2 w1 hb1
  clear h1 h2
  go_wp2_with fail
  refine h3.mono ?_
  rintro e w2 ⟨rfl, hb2⟩
  have hB2 : Below w.heap.size w w2 := hb1.trans (hb2.mono hb1.size)
  have d1 := cell_below hB2 hc
  have dX := cell_below hB2 hX
  have dF : w2.frozen? ⟨g, i * 2 + 1, none⟩ = false := (hB2.frozen (p := ⟨g, i * 2 + 1, none⟩) (cell_lt hc)).trans hfz
  clear h3 hb1 hb2 hc hX hfz
  go_wp2
  go_ret2
  refine ⟨?_, ?_, ?_⟩
  · show Ending.returned (Value.tuple #[.int .i64 (wrap64 (x + n)), .int .i64 0]) = _
    rw [HS.out, HSS.out]
  · have h := (HM.out.below hB2).turn hi S
    rw [HX.out] at *
    rw [← HSS.out]; exact h
  · exact Fr.setCell (S := fun k => (Value.slice (some ⟨g, 0, none⟩) P.length capL).ownBlock = some k) (p := ⟨g, i * 2 + 1, none⟩) (Fr.of hB2) (Or.inl rfl) _
set_option maxRecDepth 20000 in
set_option maxHeartbeats 8000000 in
theorem RAdd_szz (hRu : RunesSaid) (X B : Nat) (v : Value) (P : List Ent) (a : Option Addr) (cap : Nat) (r : List Val) (n : Int) (w : World) (hM : RfAt w X B v P) (hL : P.length ≤ 4000000) (hl : ∀ i, (pAt P i).row.length ≤ 9223372036854775807) (hlen : r.length ≤ 4000000) (hr : RowAt w a r) (hI : IntR r) (hm : mayR r = true) (i : Nat) (hi : i < P.length) (hf : fnI P r = i) (_hn1 : -9223372036854775808 ≤ n) (_hn2 : n ≤ 9223372036854775807) (_hx1 : -9223372036854775808 ≤ (pAt P i).n) (_hx2 : (pAt P i).n ≤ 9223372036854775807) (hlv : lvI (pAt P i).n n = false) (hs1 : (pAt P i).n = 0) (hs2 : n = 0) :
    Calls Tryd.prog 16 #[.pointer (some ⟨X, 0, none⟩), .slice a r.length cap, .int .i64 n] w fun e w' => e = .returned (.tuple #[.int .i64 ((pAt P i).n + n), .int .i64 0]) ∧ RfAt w' X B v (P.set i ⟨(pAt P i).a, (pAt P i).cap, (pAt P i).row, (pAt P i).n + n, (pAt P i).born⟩) ∧ Fr (fun k => v.ownBlock = some k) w w' := by
  have h1 := REncode_any hRu a cap r w hlen hr hI
  rw [hm] at h1
  simp only [erI, if_true] at h1
  have h2 := fun w1 (hb : Below w.heap.size w w1) => rfind_any X v P a cap r w1 (hM.below hb).c (hM.below hb).view (by omega) hl (hr.below hb)
  rw [hf] at h2
  generalize enS r = sr at h1
  obtain ⟨g, capL, rfl⟩ := hM.slice (by omega)
  have HM : Hid (RfAt w X B (.slice (some ⟨g, 0, none⟩) P.length capL) P) := hM
  have hv := hM.view
  have hc : w.cell? ⟨g, i * 2 + 1, none⟩ = some (.int .i64 (pAt P i).n) := by
    rcases hv with ⟨hc, _⟩ | ⟨g', cap', e, hP⟩
    · cases hc
    · injection e with e1 _ _
      injection e1 with e1
      injection e1 with e1 _ _
      rw [e1]; exact (hP i hi).2.1
  have hX := hM.c
  have hfz : w.frozen? ⟨g, i * 2 + 1, none⟩ = false := hM.own.frozenAt _
  clear hM hl hr hI hm hf hv
  have hy := lv_no hlv
  clear hlv
  have hw : wrap64 ((pAt P i).n + n) = (pAt P i).n + n := by unfold wrap64; omega
  generalize hxn : (pAt P i).n = x at *
  obtain ⟨S, hS⟩ : ∃ S, wrap64 (x + n) = S := ⟨_, rfl⟩
  have hSS : S = x + n := by rw [← hS]; exact hw
  have e1 : (0 < x) = False := eq_false (by omega)
  have e2 : (0 < n) = False := eq_false (by omega)
  have e4 : (x < 0) = False := eq_false (by omega)
  have e5 : (n < 0) = False := eq_false (by omega)
  have HSS : Hid _ := hSS
  have HS : Hid _ := hS
  have HX : Hid _ := hxn
  have g1 : wrap64 (x + n) = S := hS
  clear hw hy hS hSS hs1 hs2 _hn1 _hn2 _hx1 _hx2 hxn
  go_enter Tryd.func16, Tryd.ntmps16
  go_wp2_with fail
  refine h1.mono ?_
  rintro e w1 ⟨rfl, hb1⟩
  have h3 := h2 w1 hb1
  clear h1 h2
  go_wp2_with fail
  refine h3.mono ?_
  rintro e w2 ⟨rfl, hb2⟩
  have hB2 : Below w.heap.size w w2 := hb1.trans (hb2.mono hb1.size)
  have d1 := cell_below hB2 hc
  have dX := cell_below hB2 hX
  have dF : w2.frozen? ⟨g, i * 2 + 1, none⟩ = false := (hB2.frozen (p := ⟨g, i * 2 + 1, none⟩) (cell_lt hc)).trans hfz
  clear h3 hb1 hb2 hc hX hfz
  go_wp2
  go_ret2
  refine ⟨?_, ?_, ?_⟩
  · show Ending.returned (Value.tuple #[.int .i64 (wrap64 (x + n)), .int .i64 0]) = _
    rw [HS.out, HSS.out]
  · have h := (HM.out.below hB2).turn hi S
    rw [HX.out] at *
    rw [← HSS.out]; exact h
  · exact Fr.setCell (S := fun k => (Value.slice (some ⟨g, 0, none⟩) P.length capL).ownBlock = some k) (p := ⟨g, i * 2 + 1, none⟩) (Fr.of hB2) (Or.inl rfl) _
set_option maxRecDepth 20000 in
set_option maxHeartbeats 8000000 in
theorem RAdd_szm (hRu : RunesSaid) (X B : Nat) (v : Value) (P : List Ent) (a : Option Addr) (cap : Nat) (r : List Val) (n : Int) (w : World) (hM : RfAt w X B v P) (hL : P.length ≤ 4000000) (hl : ∀ i, (pAt P i).row.length ≤ 9223372036854775807) (hlen : r.length ≤ 4000000) (hr : RowAt w a r) (hI : IntR r) (hm : mayR r = true) (i : Nat) (hi : i < P.length) (hf : fnI P r = i) (_hn1 : -9223372036854775808 ≤ n) (_hn2 : n ≤ 9223372036854775807) (_hx1 : -9223372036854775808 ≤ (pAt P i).n) (_hx2 : (pAt P i).n ≤ 9223372036854775807) (hlv : lvI (pAt P i).n n = false) (hs1 : (pAt P i).n = 0) (hs2 : n < 0) :
    Calls Tryd.prog 16 #[.pointer (some ⟨X, 0, none⟩), .slice a r.length cap, .int .i64 n] w fun e w' => e = .returned (.tuple #[.int .i64 ((pAt P i).n + n), .int .i64 0]) ∧ RfAt w' X B v (P.set i ⟨(pAt P i).a, (pAt P i).cap, (pAt P i).row, (pAt P i).n + n, (pAt P i).born⟩) ∧ Fr (fun k => v.ownBlock = some k) w w' := by
  have h1 := REncode_any hRu a cap r w hlen hr hI
  rw [hm] at h1
  simp only [erI, if_true] at h1
  have h2 := fun w1 (hb : Below w.heap.size w w1) => rfind_any X v P a cap r w1 (hM.below hb).c (hM.below hb).view (by omega) hl (hr.below hb)
  rw [hf] at h2
  generalize enS r = sr at h1
  obtain ⟨g, capL, rfl⟩ := hM.slice (by omega)
  have HM : Hid (RfAt w X B (.slice (some ⟨g, 0, none⟩) P.length capL) P) := hM
  have hv := hM.view
  have hc : w.cell? ⟨g, i * 2 + 1, none⟩ = some (.int .i64 (pAt P i).n) := by
    rcases hv with ⟨hc, _⟩ | ⟨g', cap', e, hP⟩
    · cases hc
    · injection e with e1 _ _
      injection e1 with e1
      injection e1 with e1 _ _
      rw [e1]; exact (hP i hi).2.1
  have hX := hM.c
  have hfz : w.frozen? ⟨g, i * 2 + 1, none⟩ = false := hM.own.frozenAt _
  clear hM hl hr hI hm hf hv
  have hy := lv_no hlv
  clear hlv
  have hw : wrap64 ((pAt P i).n + n) = (pAt P i).n + n := by unfold wrap64; omega
  generalize hxn : (pAt P i).n = x at *
  obtain ⟨S, hS⟩ : ∃ S, wrap64 (x + n) = S := ⟨_, rfl⟩
  have hSS : S = x + n := by rw [← hS]; exact hw
  have e1 : (0 < x) = False := eq_false (by omega)
  have e2 : (0 < n) = False := eq_false (by omega)
  have e4 : (x < 0) = False := eq_false (by omega)
  have e5 : (n < 0) = True := eq_true (by omega)
  have HSS : Hid _ := hSS
  have HS : Hid _ := hS
  have HX : Hid _ := hxn
  have g1 : wrap64 (x + n) = S := hS
  clear hw hy hS hSS hs1 hs2 _hn1 _hn2 _hx1 _hx2 hxn
  go_enter Tryd.func16, Tryd.ntmps16
  go_wp2_with fail
  refine h1.mono ?_
  rintro e w1 ⟨rfl, hb1⟩
  have h3 := h2 w1 hb1
  clear h1 h2
  go_wp2_with fail
  refine h3.mono ?_
  rintro e w2 ⟨rfl, hb2⟩
  have hB2 : Below w.heap.size w w2 := hb1.trans (hb2.mono hb1.size)
  have d1 := cell_below hB2 hc
  have dX := cell_below hB2 hX
  have dF : w2.frozen? ⟨g, i * 2 + 1, none⟩ = false := (hB2.frozen (p := ⟨g, i * 2 + 1, none⟩) (cell_lt hc)).trans hfz
  clear h3 hb1 hb2 hc hX hfz
  go_wp2
  go_ret2
  refine ⟨?_, ?_, ?_⟩
  · show Ending.returned (Value.tuple #[.int .i64 (wrap64 (x + n)), .int .i64 0]) = _
    rw [HS.out, HSS.out]
  · have h := (HM.out.below hB2).turn hi S
    rw [HX.out] at *
    rw [← HSS.out]; exact h
  · exact Fr.setCell (S := fun k => (Value.slice (some ⟨g, 0, none⟩) P.length capL).ownBlock = some k) (p := ⟨g, i * 2 + 1, none⟩) (Fr.of hB2) (Or.inl rfl) _
set_option maxRecDepth 20000 in
set_option maxHeartbeats 8000000 in
theorem RAdd_smp (hRu : RunesSaid) (X B : Nat) (v : Value) (P : List Ent) (a : Option Addr) (cap : Nat) (r : List Val) (n : Int) (w : World) (hM : RfAt w X B v P) (hL : P.length ≤ 4000000) (hl : ∀ i, (pAt P i).row.length ≤ 9223372036854775807) (hlen : r.length ≤ 4000000) (hr : RowAt w a r) (hI : IntR r) (hm : mayR r = true) (i : Nat) (hi : i < P.length) (hf : fnI P r = i) (_hn1 : -9223372036854775808 ≤ n) (_hn2 : n ≤ 9223372036854775807) (_hx1 : -9223372036854775808 ≤ (pAt P i).n) (_hx2 : (pAt P i).n ≤ 9223372036854775807) (hlv : lvI (pAt P i).n n = false) (hs1 : (pAt P i).n < 0) (hs2 : 0 < n) :
    Calls Tryd.prog 16 #[.pointer (some ⟨X, 0, none⟩), .slice a r.length cap, .int .i64 n] w fun e w' => e = .returned (.tuple #[.int .i64 ((pAt P i).n + n), .int .i64 0]) ∧ RfAt w' X B v (P.set i ⟨(pAt P i).a, (pAt P i).cap, (pAt P i).row, (pAt P i).n + n, (pAt P i).born⟩) ∧ Fr (fun k => v.ownBlock = some k) w w' := by
  have h1 := REncode_any hRu a cap r w hlen hr hI
  rw [hm] at h1
  simp only [erI, if_true] at h1
  have h2 := fun w1 (hb : Below w.heap.size w w1) => rfind_any X v P a cap r w1 (hM.below hb).c (hM.below hb).view (by omega) hl (hr.below hb)
  rw [hf] at h2
  generalize enS r = sr at h1
  obtain ⟨g, capL, rfl⟩ := hM.slice (by omega)
  have HM : Hid (RfAt w X B (.slice (some ⟨g, 0, none⟩) P.length capL) P) := hM
  have hv := hM.view
  have hc : w.cell? ⟨g, i * 2 + 1, none⟩ = some (.int .i64 (pAt P i).n) := by
    rcases hv with ⟨hc, _⟩ | ⟨g', cap', e, hP⟩
    · cases hc
    · injection e with e1 _ _
      injection e1 with e1
      injection e1 with e1 _ _
      rw [e1]; exact (hP i hi).2.1
  have hX := hM.c
  have hfz : w.frozen? ⟨g, i * 2 + 1, none⟩ = false := hM.own.frozenAt _
  clear hM hl hr hI hm hf hv
  have hy := lv_no hlv
  clear hlv
  have hw : wrap64 ((pAt P i).n + n) = (pAt P i).n + n := by unfold wrap64; omega
  generalize hxn : (pAt P i).n = x at *
  obtain ⟨S, hS⟩ : ∃ S, wrap64 (x + n) = S := ⟨_, rfl⟩
  have hSS : S = x + n := by rw [← hS]; exact hw
  have e1 : (0 < x) = False := eq_false (by omega)
  have e2 : (0 < n) = True := eq_true (by omega)
  have e4 : (x < 0) = True := eq_true (by omega)
  have e5 : (n < 0) = False := eq_false (by omega)
  have HSS : Hid _ := hSS
  have HS : Hid _ := hS
  have HX : Hid _ := hxn
  have g1 : wrap64 (x + n) = S := hS
  clear hw hy hS hSS hs1 hs2 _hn1 _hn2 _hx1 _hx2 hxn
  go_enter Tryd.func16, Tryd.ntmps16
  go_wp2_with fail
  refine h1.mono ?_
  rintro e w1 ⟨rfl, hb1⟩
  have h3 := h2 w1 hb1
  clear h1 h2
  go_wp2_with fail
  refine h3.mono ?_
  rintro e w2 ⟨rfl, hb2⟩
  have hB2 : Below w.heap.size w w2 := hb1.trans (hb2.mono hb1.size)
  have d1 := cell_below hB2 hc
  have dX := cell_below hB2 hX
  have dF : w2.frozen? ⟨g, i * 2 + 1, none⟩ = false := (hB2.frozen (p := ⟨g, i * 2 + 1, none⟩) (cell_lt hc)).trans hfz
  clear h3 hb1 hb2 hc hX hfz
  go_wp2
  go_ret2
  refine ⟨?_, ?_, ?_⟩
  · show Ending.returned (Value.tuple #[.int .i64 (wrap64 (x + n)), .int .i64 0]) = _
    rw [HS.out, HSS.out]
  · have h := (HM.out.below hB2).turn hi S
    rw [HX.out] at *
    rw [← HSS.out]; exact h
  · exact Fr.setCell (S := fun k => (Value.slice (some ⟨g, 0, none⟩) P.length capL).ownBlock = some k) (p := ⟨g, i * 2 + 1, none⟩) (Fr.of hB2) (Or.inl rfl) _
set_option maxRecDepth 20000 in
set_option maxHeartbeats 8000000 in
theorem RAdd_smz (hRu : RunesSaid) (X B : Nat) (v : Value) (P : List Ent) (a : Option Addr) (cap : Nat) (r : List Val) (n : Int) (w : World) (hM : RfAt w X B v P) (hL : P.length ≤ 4000000) (hl : ∀ i, (pAt P i).row.length ≤ 9223372036854775807) (hlen : r.length ≤ 4000000) (hr : RowAt w a r) (hI : IntR r) (hm : mayR r = true) (i : Nat) (hi : i < P.length) (hf : fnI P r = i) (_hn1 : -9223372036854775808 ≤ n) (_hn2 : n ≤ 9223372036854775807) (_hx1 : -9223372036854775808 ≤ (pAt P i).n) (_hx2 : (pAt P i).n ≤ 9223372036854775807) (hlv : lvI (pAt P i).n n = false) (hs1 : (pAt P i).n < 0) (hs2 : n = 0) :
    Calls Tryd.prog 16 #[.pointer (some ⟨X, 0, none⟩), .slice a r.length cap, .int .i64 n] w fun e w' => e = .returned (.tuple #[.int .i64 ((pAt P i).n + n), .int .i64 0]) ∧ RfAt w' X B v (P.set i ⟨(pAt P i).a, (pAt P i).cap, (pAt P i).row, (pAt P i).n + n, (pAt P i).born⟩) ∧ Fr (fun k => v.ownBlock = some k) w w' := by
  have h1 := REncode_any hRu a cap r w hlen hr hI
  rw [hm] at h1
  simp only [erI, if_true] at h1
  have h2 := fun w1 (hb : Below w.heap.size w w1) => rfind_any X v P a cap r w1 (hM.below hb).c (hM.below hb).view (by omega) hl (hr.below hb)
  rw [hf] at h2
  generalize enS r = sr at h1
  obtain ⟨g, capL, rfl⟩ := hM.slice (by omega)
  have HM : Hid (RfAt w X B (.slice (some ⟨g, 0, none⟩) P.length capL) P) := hM
  have hv := hM.view
  have hc : w.cell? ⟨g, i * 2 + 1, none⟩ = some (.int .i64 (pAt P i).n) := by
    rcases hv with ⟨hc, _⟩ | ⟨g', cap', e, hP⟩
    · cases hc
    · injection e with e1 _ _
      injection e1 with e1
      injection e1 with e1 _ _
      rw [e1]; exact (hP i hi).2.1
  have hX := hM.c
  have hfz : w.frozen? ⟨g, i * 2 + 1, none⟩ = false := hM.own.frozenAt _
  clear hM hl hr hI hm hf hv
  have hy := lv_no hlv
  clear hlv
  have hw : wrap64 ((pAt P i).n + n) = (pAt P i).n + n := by unfold wrap64; omega
  generalize hxn : (pAt P i).n = x at *
  obtain ⟨S, hS⟩ : ∃ S, wrap64 (x + n) = S := ⟨_, rfl⟩
  have hSS : S = x + n := by rw [← hS]; exact hw
  have e1 : (0 < x) = False := eq_false (by omega)
  have e2 : (0 < n) = False := eq_false (by omega)
  have e4 : (x < 0) = True := eq_true (by omega)
  have e5 : (n < 0) = False := eq_false (by omega)
  have HSS : Hid _ := hSS
  have HS : Hid _ := hS
  have HX : Hid _ := hxn
  have g1 : wrap64 (x + n) = S := hS
  clear hw hy hS hSS hs1 hs2 _hn1 _hn2 _hx1 _hx2 hxn
  go_enter Tryd.func16, Tryd.ntmps16
  go_wp2_with fail
  refine h1.mono ?_
  rintro e w1 ⟨rfl, hb1⟩
  have h3 := h2 w1 hb1
  clear h1 h2
  go_wp2_with fail
  refine h3.mono ?_
  rintro e w2 ⟨rfl, hb2⟩
  have hB2 : Below w.heap.size w w2 := hb1.trans (hb2.mono hb1.size)
  have d1 := cell_below hB2 hc
  have dX := cell_below hB2 hX
  have dF : w2.frozen? ⟨g, i * 2 + 1, none⟩ = false := (hB2.frozen (p := ⟨g, i * 2 + 1, none⟩) (cell_lt hc)).trans hfz
  clear h3 hb1 hb2 hc hX hfz
  go_wp2
  go_ret2
  refine ⟨?_, ?_, ?_⟩
  · show Ending.returned (Value.tuple #[.int .i64 (wrap64 (x + n)), .int .i64 0]) = _
    rw [HS.out, HSS.out]
  · have h := (HM.out.below hB2).turn hi S
    rw [HX.out] at *
    rw [← HSS.out]; exact h
  · exact Fr.setCell (S := fun k => (Value.slice (some ⟨g, 0, none⟩) P.length capL).ownBlock = some k) (p := ⟨g, i * 2 + 1, none⟩) (Fr.of hB2) (Or.inl rfl) _
set_option maxRecDepth 20000 in
set_option maxHeartbeats 8000000 in
theorem RAdd_smm (hRu : RunesSaid) (X B : Nat) (v : Value) (P : List Ent) (a : Option Addr) (cap : Nat) (r : List Val) (n : Int) (w : World) (hM : RfAt w X B v P) (hL : P.length ≤ 4000000) (hl : ∀ i, (pAt P i).row.length ≤ 9223372036854775807) (hlen : r.length ≤ 4000000) (hr : RowAt w a r) (hI : IntR r) (hm : mayR r = true) (i : Nat) (hi : i < P.length) (hf : fnI P r = i) (_hn1 : -9223372036854775808 ≤ n) (_hn2 : n ≤ 9223372036854775807) (_hx1 : -9223372036854775808 ≤ (pAt P i).n) (_hx2 : (pAt P i).n ≤ 9223372036854775807) (hlv : lvI (pAt P i).n n = false) (hs1 : (pAt P i).n < 0) (hs2 : n < 0) :
    Calls Tryd.prog 16 #[.pointer (some ⟨X, 0, none⟩), .slice a r.length cap, .int .i64 n] w fun e w' => e = .returned (.tuple #[.int .i64 ((pAt P i).n + n), .int .i64 0]) ∧ RfAt w' X B v (P.set i ⟨(pAt P i).a, (pAt P i).cap, (pAt P i).row, (pAt P i).n + n, (pAt P i).born⟩) ∧ Fr (fun k => v.ownBlock = some k) w w' := by
  have h1 := REncode_any hRu a cap r w hlen hr hI
  rw [hm] at h1
  simp only [erI, if_true] at h1
  have h2 := fun w1 (hb : Below w.heap.size w w1) => rfind_any X v P a cap r w1 (hM.below hb).c (hM.below hb).view (by omega) hl (hr.below hb)
  rw [hf] at h2
  generalize enS r = sr at h1
  obtain ⟨g, capL, rfl⟩ := hM.slice (by omega)
  have HM : Hid (RfAt w X B (.slice (some ⟨g, 0, none⟩) P.length capL) P) := hM
  have hv := hM.view
  have hc : w.cell? ⟨g, i * 2 + 1, none⟩ = some (.int .i64 (pAt P i).n) := by
    rcases hv with ⟨hc, _⟩ | ⟨g', cap', e, hP⟩
    · cases hc
    · injection e with e1 _ _
      injection e1 with e1
      injection e1 with e1 _ _
      rw [e1]; exact (hP i hi).2.1
  have hX := hM.c
  have hfz : w.frozen? ⟨g, i * 2 + 1, none⟩ = false := hM.own.frozenAt _
  clear hM hl hr hI hm hf hv
  have hy := lv_no hlv
  clear hlv
  have hw : wrap64 ((pAt P i).n + n) = (pAt P i).n + n := by unfold wrap64; omega
  generalize hxn : (pAt P i).n = x at *
  obtain ⟨S, hS⟩ : ∃ S, wrap64 (x + n) = S := ⟨_, rfl⟩
  have hSS : S = x + n := by rw [← hS]; exact hw
  have e1 : (0 < x) = False := eq_false (by omega)
  have e2 : (0 < n) = False := eq_false (by omega)
  have e4 : (x < 0) = True := eq_true (by omega)
  have e5 : (n < 0) = True := eq_true (by omega)
  have e6 : (0 ≤ S) = False := eq_false (by omega)
  have HSS : Hid _ := hSS
  have HS : Hid _ := hS
  have HX : Hid _ := hxn
  have g1 : wrap64 (x + n) = S := hS
  clear hw hy hS hSS hs1 hs2 _hn1 _hn2 _hx1 _hx2 hxn
  go_enter Tryd.func16, Tryd.ntmps16
  go_wp2_with fail
  refine h1.mono ?_
  rintro e w1 ⟨rfl, hb1⟩
  have h3 := h2 w1 hb1
  clear h1 h2
  go_wp2_with fail
  refine h3.mono ?_
  rintro e w2 ⟨rfl, hb2⟩
  have hB2 : Below w.heap.size w w2 := hb1.trans (hb2.mono hb1.size)
  have d1 := cell_below hB2 hc
  have dX := cell_below hB2 hX
  have dF : w2.frozen? ⟨g, i * 2 + 1, none⟩ = false := (hB2.frozen (p := ⟨g, i * 2 + 1, none⟩) (cell_lt hc)).trans hfz
  clear h3 hb1 hb2 hc hX hfz
  go_wp2
  go_ret2
  refine ⟨?_, ?_, ?_⟩
  · show Ending.returned (Value.tuple #[.int .i64 (wrap64 (x + n)), .int .i64 0]) = _
    rw [HS.out, HSS.out]
  · have h := (HM.out.below hB2).turn hi S
    rw [HX.out] at *
    rw [← HSS.out]; exact h
  · exact Fr.setCell (S := fun k => (Value.slice (some ⟨g, 0, none⟩) P.length capL).ownBlock = some k) (p := ⟨g, i * 2 + 1, none⟩) (Fr.of hB2) (Or.inl rfl) _
set_option maxRecDepth 20000 in
set_option maxHeartbeats 8000000 in
theorem RAdd_opp (hRu : RunesSaid) (X B : Nat) (v : Value) (P : List Ent) (a : Option Addr) (cap : Nat) (r : List Val) (n : Int) (w : World) (hM : RfAt w X B v P) (hL : P.length ≤ 4000000) (hl : ∀ i, (pAt P i).row.length ≤ 9223372036854775807) (hlen : r.length ≤ 4000000) (hr : RowAt w a r) (hI : IntR r) (hm : mayR r = true) (i : Nat) (hi : i < P.length) (hf : fnI P r = i) (_hn1 : -9223372036854775808 ≤ n) (_hn2 : n ≤ 9223372036854775807) (_hx1 : -9223372036854775808 ≤ (pAt P i).n) (_hx2 : (pAt P i).n ≤ 9223372036854775807) (hlv : lvI (pAt P i).n n = true) (hs1 : 0 < (pAt P i).n) (hs2 : 0 < n) :
    Calls Tryd.prog 16 #[.pointer (some ⟨X, 0, none⟩), .slice a r.length cap, .int .i64 n] w fun e w' => e = .returned (.tuple #[.int .i64 0, .int .i64 20]) ∧ Below w.heap.size w w' := by
  have h1 := REncode_any hRu a cap r w hlen hr hI
  rw [hm] at h1
  simp only [erI, if_true] at h1
  have h2 := fun w1 (hb : Below w.heap.size w w1) => rfind_any X v P a cap r w1 (hM.below hb).c (hM.below hb).view (by omega) hl (hr.below hb)
  rw [hf] at h2
  generalize enS r = sr at h1
  obtain ⟨g, capL, rfl⟩ := hM.slice (by omega)
  have HM : Hid (RfAt w X B (.slice (some ⟨g, 0, none⟩) P.length capL) P) := hM
  have hv := hM.view
  have hc : w.cell? ⟨g, i * 2 + 1, none⟩ = some (.int .i64 (pAt P i).n) := by
    rcases hv with ⟨hc, _⟩ | ⟨g', cap', e, hP⟩
    · cases hc
    · injection e with e1 _ _
      injection e1 with e1
      injection e1 with e1 _ _
      rw [e1]; exact (hP i hi).2.1
  have hX := hM.c
  have hfz : w.frozen? ⟨g, i * 2 + 1, none⟩ = false := hM.own.frozenAt _
  clear hM hl hr hI hm hf hv
  have hy := lv_yes hlv
  clear hlv
  have hw : wrap64 ((pAt P i).n + n) = (pAt P i).n + n - 18446744073709551616 := by unfold wrap64; omega
  generalize hxn : (pAt P i).n = x at *
  obtain ⟨S, hS⟩ : ∃ S, wrap64 (x + n) = S := ⟨_, rfl⟩
  have hSS : S = x + n - 18446744073709551616 := by rw [← hS]; exact hw
  have e1 : (0 < x) = True := eq_true (by omega)
  have e2 : (0 < n) = True := eq_true (by omega)
  have e4 : (x < 0) = False := eq_false (by omega)
  have e5 : (n < 0) = False := eq_false (by omega)
  have e3 : (S < 0) = True := eq_true (by omega)
  have HSS : Hid _ := hSS
  have HS : Hid _ := hS
  have HX : Hid _ := hxn
  have g1 : wrap64 (x + n) = S := hS
  clear hw hy hS hSS hs1 hs2 _hn1 _hn2 _hx1 _hx2 hxn
  go_enter Tryd.func16, Tryd.ntmps16
  go_wp2_with fail
  refine h1.mono ?_
  rintro e w1 ⟨rfl, hb1⟩
  have h3 := h2 w1 hb1
  clear h1 h2
  go_wp2_with fail
  refine h3.mono ?_
  rintro e w2 ⟨rfl, hb2⟩
  have hB2 : Below w.heap.size w w2 := hb1.trans (hb2.mono hb1.size)
  have d1 := cell_below hB2 hc
  have dX := cell_below hB2 hX
  have dF : w2.frozen? ⟨g, i * 2 + 1, none⟩ = false := (hB2.frozen (p := ⟨g, i * 2 + 1, none⟩) (cell_lt hc)).trans hfz
  clear h3 hb1 hb2 hc hX hfz
  go_wp2
  go_ret2
  exact ⟨rfl, hB2⟩
set_option maxRecDepth 20000 in
set_option maxHeartbeats 8000000 in
theorem RAdd_omm (hRu : RunesSaid) (X B : Nat) (v : Value) (P : List Ent) (a : Option Addr) (cap : Nat) (r : List Val) (n : Int) (w : World) (hM : RfAt w X B v P) (hL : P.length ≤ 4000000) (hl : ∀ i, (pAt P i).row.length ≤ 9223372036854775807) (hlen : r.length ≤ 4000000) (hr : RowAt w a r) (hI : IntR r) (hm : mayR r = true) (i : Nat) (hi : i < P.length) (hf : fnI P r = i) (_hn1 : -9223372036854775808 ≤ n) (_hn2 : n ≤ 9223372036854775807) (_hx1 : -9223372036854775808 ≤ (pAt P i).n) (_hx2 : (pAt P i).n ≤ 9223372036854775807) (hlv : lvI (pAt P i).n n = true) (hs1 : (pAt P i).n < 0) (hs2 : n < 0) :
    Calls Tryd.prog 16 #[.pointer (some ⟨X, 0, none⟩), .slice a r.length cap, .int .i64 n] w fun e w' => e = .returned (.tuple #[.int .i64 0, .int .i64 20]) ∧ Below w.heap.size w w' := by
  have h1 := REncode_any hRu a cap r w hlen hr hI
  rw [hm] at h1
  simp only [erI, if_true] at h1
  have h2 := fun w1 (hb : Below w.heap.size w w1) => rfind_any X v P a cap r w1 (hM.below hb).c (hM.below hb).view (by omega) hl (hr.below hb)
  rw [hf] at h2
  generalize enS r = sr at h1
  obtain ⟨g, capL, rfl⟩ := hM.slice (by omega)
  have HM : Hid (RfAt w X B (.slice (some ⟨g, 0, none⟩) P.length capL) P) := hM
  have hv := hM.view
  have hc : w.cell? ⟨g, i * 2 + 1, none⟩ = some (.int .i64 (pAt P i).n) := by
    rcases hv with ⟨hc, _⟩ | ⟨g', cap', e, hP⟩
    · cases hc
    · injection e with e1 _ _
      injection e1 with e1
      injection e1 with e1 _ _
      rw [e1]; exact (hP i hi).2.1
  have hX := hM.c
  have hfz : w.frozen? ⟨g, i * 2 + 1, none⟩ = false := hM.own.frozenAt _
  clear hM hl hr hI hm hf hv
  have hy := lv_yes hlv
  clear hlv
  have hw : wrap64 ((pAt P i).n + n) = (pAt P i).n + n + 18446744073709551616 := by unfold wrap64; omega
  generalize hxn : (pAt P i).n = x at *
  obtain ⟨S, hS⟩ : ∃ S, wrap64 (x + n) = S := ⟨_, rfl⟩
  have hSS : S = x + n + 18446744073709551616 := by rw [← hS]; exact hw
  have e1 : (0 < x) = False := eq_false (by omega)
  have e2 : (0 < n) = False := eq_false (by omega)
  have e4 : (x < 0) = True := eq_true (by omega)
  have e5 : (n < 0) = True := eq_true (by omega)
  have e6 : (0 ≤ S) = True := eq_true (by omega)
  have HSS : Hid _ := hSS
  have HS : Hid _ := hS
  have HX : Hid _ := hxn
  have g1 : wrap64 (x + n) = S := hS
  clear hw hy hS hSS hs1 hs2 _hn1 _hn2 _hx1 _hx2 hxn
  go_enter Tryd.func16, Tryd.ntmps16
  go_wp2_with fail
  refine h1.mono ?_
  rintro e w1 ⟨rfl, hb1⟩
  have h3 := h2 w1 hb1
  clear h1 h2
  go_wp2_with fail
  refine h3.mono ?_
  rintro e w2 ⟨rfl, hb2⟩
  have hB2 : Below w.heap.size w w2 := hb1.trans (hb2.mono hb1.size)
  have d1 := cell_below hB2 hc
  have dX := cell_below hB2 hX
  have dF : w2.frozen? ⟨g, i * 2 + 1, none⟩ = false := (hB2.frozen (p := ⟨g, i * 2 + 1, none⟩) (cell_lt hc)).trans hfz
  clear h3 hb1 hb2 hc hX hfz
  go_wp2
  go_ret2
  exact ⟨rfl, hB2⟩
theorem RAdd_sum (hRu : RunesSaid) (X B : Nat) (v : Value) (P : List Ent) (a : Option Addr) (cap : Nat) (r : List Val) (n : Int) (w : World) (hM : RfAt w X B v P) (hL : P.length ≤ 4000000) (hl : ∀ i, (pAt P i).row.length ≤ 9223372036854775807) (hlen : r.length ≤ 4000000) (hr : RowAt w a r) (hI : IntR r) (hm : mayR r = true) (i : Nat) (hi : i < P.length) (hf : fnI P r = i) (_hn1 : -9223372036854775808 ≤ n) (_hn2 : n ≤ 9223372036854775807) (_hx1 : -9223372036854775808 ≤ (pAt P i).n) (_hx2 : (pAt P i).n ≤ 9223372036854775807) (hlv : lvI (pAt P i).n n = false) :
    Calls Tryd.prog 16 #[.pointer (some ⟨X, 0, none⟩), .slice a r.length cap, .int .i64 n] w fun e w' => e = .returned (.tuple #[.int .i64 ((pAt P i).n + n), .int .i64 0]) ∧ RfAt w' X B v (P.set i ⟨(pAt P i).a, (pAt P i).cap, (pAt P i).row, (pAt P i).n + n, (pAt P i).born⟩) ∧ Fr (fun k => v.ownBlock = some k) w w' := by
  rcases Int.lt_trichotomy (pAt P i).n 0 with h | h | h <;> rcases Int.lt_trichotomy n 0 with k | k | k
  · exact RAdd_smm hRu X B v P a cap r n w hM hL hl hlen hr hI hm i hi hf _hn1 _hn2 _hx1 _hx2 hlv h k
  · exact RAdd_smz hRu X B v P a cap r n w hM hL hl hlen hr hI hm i hi hf _hn1 _hn2 _hx1 _hx2 hlv h k
  · exact RAdd_smp hRu X B v P a cap r n w hM hL hl hlen hr hI hm i hi hf _hn1 _hn2 _hx1 _hx2 hlv h k
  · exact RAdd_szm hRu X B v P a cap r n w hM hL hl hlen hr hI hm i hi hf _hn1 _hn2 _hx1 _hx2 hlv h k
  · exact RAdd_szz hRu X B v P a cap r n w hM hL hl hlen hr hI hm i hi hf _hn1 _hn2 _hx1 _hx2 hlv h k
  · exact RAdd_szp hRu X B v P a cap r n w hM hL hl hlen hr hI hm i hi hf _hn1 _hn2 _hx1 _hx2 hlv h k
  · exact RAdd_spm hRu X B v P a cap r n w hM hL hl hlen hr hI hm i hi hf _hn1 _hn2 _hx1 _hx2 hlv h k
  · exact RAdd_spz hRu X B v P a cap r n w hM hL hl hlen hr hI hm i hi hf _hn1 _hn2 _hx1 _hx2 hlv h k
  · exact RAdd_spp hRu X B v P a cap r n w hM hL hl hlen hr hI hm i hi hf _hn1 _hn2 _hx1 _hx2 hlv h k
theorem RAdd_over (hRu : RunesSaid) (X B : Nat) (v : Value) (P : List Ent) (a : Option Addr) (cap : Nat) (r : List Val) (n : Int) (w : World) (hM : RfAt w X B v P) (hL : P.length ≤ 4000000) (hl : ∀ i, (pAt P i).row.length ≤ 9223372036854775807) (hlen : r.length ≤ 4000000) (hr : RowAt w a r) (hI : IntR r) (hm : mayR r = true) (i : Nat) (hi : i < P.length) (hf : fnI P r = i) (_hn1 : -9223372036854775808 ≤ n) (_hn2 : n ≤ 9223372036854775807) (_hx1 : -9223372036854775808 ≤ (pAt P i).n) (_hx2 : (pAt P i).n ≤ 9223372036854775807) (hlv : lvI (pAt P i).n n = true) :
    Calls Tryd.prog 16 #[.pointer (some ⟨X, 0, none⟩), .slice a r.length cap, .int .i64 n] w fun e w' => e = .returned (.tuple #[.int .i64 0, .int .i64 20]) ∧ Below w.heap.size w w' := by
  rcases lv_yes hlv with h | h
  · exact RAdd_opp hRu X B v P a cap r n w hM hL hl hlen hr hI hm i hi hf _hn1 _hn2 _hx1 _hx2 hlv (by omega) (by omega)
  · exact RAdd_omm hRu X B v P a cap r n w hM hL hl hlen hr hI hm i hi hf _hn1 _hn2 _hx1 _hx2 hlv (by omega) (by omega)
end Go.Proofs.YtbfodpmlmhkikaaDoor
