/- Which values may be, and their texts: package value's Check and Show, for any value. -/
import Derived.Test.YtjphmbgennadcaaGreatDoorDec
import Derived.Test.YtjphmbgennadcaaGreatDoorTxt
namespace Go.Proofs.YtjphmbgennadcaaGreatDoor
open Go.Shelf Go.RowKit Go.Lib

/-- What the library's tables and its one variable hold, as its initialisers lay them. -/
structure Ready (w : World) : Prop where
  pow : Lib.TabIs Tryz.prog w "internal/strconv.uint64pow10" .u64 Lib.pow10Tab
  utf : Lib.Utf8Tabs 0 1 w
  maxl : ∃ m, w.cell? ⟨2, 0, none⟩ = some (.int .i64 m)
theorem Ready.below {w w' : World} (h : Ready w) (hb : Below w.heap.size w w') : Ready w' where
  pow := tabBelow h.pow hb
  utf := ⟨fun c hc => cell_below hb (h.utf.1 c hc), fun i hi => ⟨cell_below hb (h.utf.2 i hi).1, cell_below hb (h.utf.2 i hi).2⟩⟩
  maxl := by obtain ⟨m, hm⟩ := h.maxl; exact ⟨m, cell_below hb hm⟩
theorem Ready.alloc {w : World} (h : Ready w) (o : Obj) : Ready (w.alloc o) := h.below ((Below.refl _ _).alloc (Nat.le_refl _) o)

def mayS (k n : Int) (t : ByteArray) : Bool :=
  if k == 0 then n == 0 && t.toList.isEmpty else if k == 1 then (n == 0 || n == 1) && t.toList.isEmpty else if k == 2 then t.toList.isEmpty else if k == 3 then t.toList.isEmpty
  else if k == 4 then n == 0 && (decide ((t.size : Int) ≤ 1024) && Lib.validD t.data.toList) else false
def showS (k n : Int) (t : ByteArray) : List UInt8 :=
  if mayS k n t then (if k == 1 then Lib.formatBool (lg k n == 1) else if k == 2 then Lib.itoa n else if k == 3 then decS n else if k == 4 then [39] ++ dbl t.data.toList ++ [39] else [110, 117, 108, 108]) else []

set_option maxHeartbeats 1000000 in
theorem mayBe_00 (t : ByteArray) (w : World) (_hR : Ready w) : Calls Tryz.prog 103 #[.agg #[.int .i64 0, .int .i64 0, .string t]] w fun e w' => e = .returned (.bool t.toList.isEmpty) ∧ Below w.heap.size w w' := by
  go_enter Tryz.func103, Tryz.ntmps103
  go_wp2
  go_ret
  exact ⟨rfl, (Bel.out (by repeat (first | exact Bel.refl _ | refine Bel.drew ?_ | refine Bel.drewN ?_ _ | refine Bel.alloc ?_ _ | refine Bel.setCell ?_ (by simp <;> omega) _ | refine Bel.step ?_ (by assumption))))⟩

set_option maxHeartbeats 1000000 in
theorem mayBe_0n (n : Int) (t : ByteArray) (hz : (n == 0) = false) (w : World) (_hR : Ready w) : Calls Tryz.prog 103 #[.agg #[.int .i64 0, .int .i64 n, .string t]] w fun e w' => e = .returned (.bool false) ∧ Below w.heap.size w w' := by
  go_enter Tryz.func103, Tryz.ntmps103
  go_wp2
  go_ret
  exact ⟨rfl, (Bel.out (by repeat (first | exact Bel.refl _ | refine Bel.drew ?_ | refine Bel.drewN ?_ _ | refine Bel.alloc ?_ _ | refine Bel.setCell ?_ (by simp <;> omega) _ | refine Bel.step ?_ (by assumption))))⟩

set_option maxHeartbeats 1000000 in
theorem mayBe_10 (t : ByteArray) (w : World) (_hR : Ready w) : Calls Tryz.prog 103 #[.agg #[.int .i64 1, .int .i64 0, .string t]] w fun e w' => e = .returned (.bool t.toList.isEmpty) ∧ Below w.heap.size w w' := by
  go_enter Tryz.func103, Tryz.ntmps103
  go_wp2
  go_ret
  exact ⟨rfl, (Bel.out (by repeat (first | exact Bel.refl _ | refine Bel.drew ?_ | refine Bel.drewN ?_ _ | refine Bel.alloc ?_ _ | refine Bel.setCell ?_ (by simp <;> omega) _ | refine Bel.step ?_ (by assumption))))⟩

set_option maxHeartbeats 1000000 in
theorem mayBe_11 (t : ByteArray) (w : World) (_hR : Ready w) : Calls Tryz.prog 103 #[.agg #[.int .i64 1, .int .i64 1, .string t]] w fun e w' => e = .returned (.bool t.toList.isEmpty) ∧ Below w.heap.size w w' := by
  go_enter Tryz.func103, Tryz.ntmps103
  go_wp2
  go_ret
  exact ⟨rfl, (Bel.out (by repeat (first | exact Bel.refl _ | refine Bel.drew ?_ | refine Bel.drewN ?_ _ | refine Bel.alloc ?_ _ | refine Bel.setCell ?_ (by simp <;> omega) _ | refine Bel.step ?_ (by assumption))))⟩

set_option maxHeartbeats 1000000 in
theorem mayBe_1n (n : Int) (t : ByteArray) (hz : (n == 0) = false) (hz1 : (n == 1) = false) (w : World) (_hR : Ready w) : Calls Tryz.prog 103 #[.agg #[.int .i64 1, .int .i64 n, .string t]] w fun e w' => e = .returned (.bool false) ∧ Below w.heap.size w w' := by
  go_enter Tryz.func103, Tryz.ntmps103
  go_wp2
  go_ret
  exact ⟨rfl, (Bel.out (by repeat (first | exact Bel.refl _ | refine Bel.drew ?_ | refine Bel.drewN ?_ _ | refine Bel.alloc ?_ _ | refine Bel.setCell ?_ (by simp <;> omega) _ | refine Bel.step ?_ (by assumption))))⟩

set_option maxHeartbeats 1000000 in
theorem mayBe_2 (n : Int) (t : ByteArray) (w : World) (_hR : Ready w) : Calls Tryz.prog 103 #[.agg #[.int .i64 2, .int .i64 n, .string t]] w fun e w' => e = .returned (.bool t.toList.isEmpty) ∧ Below w.heap.size w w' := by
  go_enter Tryz.func103, Tryz.ntmps103
  go_wp2
  go_ret
  exact ⟨rfl, (Bel.out (by repeat (first | exact Bel.refl _ | refine Bel.drew ?_ | refine Bel.drewN ?_ _ | refine Bel.alloc ?_ _ | refine Bel.setCell ?_ (by simp <;> omega) _ | refine Bel.step ?_ (by assumption))))⟩

set_option maxHeartbeats 1000000 in
theorem mayBe_3 (n : Int) (t : ByteArray) (w : World) (_hR : Ready w) : Calls Tryz.prog 103 #[.agg #[.int .i64 3, .int .i64 n, .string t]] w fun e w' => e = .returned (.bool t.toList.isEmpty) ∧ Below w.heap.size w w' := by
  go_enter Tryz.func103, Tryz.ntmps103
  go_wp2
  go_ret
  exact ⟨rfl, (Bel.out (by repeat (first | exact Bel.refl _ | refine Bel.drew ?_ | refine Bel.drewN ?_ _ | refine Bel.alloc ?_ _ | refine Bel.setCell ?_ (by simp <;> omega) _ | refine Bel.step ?_ (by assumption))))⟩

set_option maxHeartbeats 1000000 in
theorem mayBe_4n (n : Int) (t : ByteArray) (hz : (n == 0) = false) (w : World) (_hR : Ready w) : Calls Tryz.prog 103 #[.agg #[.int .i64 4, .int .i64 n, .string t]] w fun e w' => e = .returned (.bool false) ∧ Below w.heap.size w w' := by
  go_enter Tryz.func103, Tryz.ntmps103
  go_wp2
  go_ret
  exact ⟨rfl, (Bel.out (by repeat (first | exact Bel.refl _ | refine Bel.drew ?_ | refine Bel.drewN ?_ _ | refine Bel.alloc ?_ _ | refine Bel.setCell ?_ (by simp <;> omega) _ | refine Bel.step ?_ (by assumption))))⟩

set_option maxHeartbeats 1000000 in
theorem mayBe_4l (t : ByteArray) (hz : ¬ (t.size : Int) ≤ 1024) (w : World) (_hR : Ready w) : Calls Tryz.prog 103 #[.agg #[.int .i64 4, .int .i64 0, .string t]] w fun e w' => e = .returned (.bool false) ∧ Below w.heap.size w w' := by
  have hz2 : decide ((t.size : Int) ≤ 1024) = false := decide_eq_false hz
  go_enter Tryz.func103, Tryz.ntmps103
  go_wp2
  go_ret
  exact ⟨rfl, (Bel.out (by repeat (first | exact Bel.refl _ | refine Bel.drew ?_ | refine Bel.drewN ?_ _ | refine Bel.alloc ?_ _ | refine Bel.setCell ?_ (by simp <;> omega) _ | refine Bel.step ?_ (by assumption))))⟩

set_option maxHeartbeats 1000000 in
theorem mayBe_4v (t : ByteArray) (hz : (t.size : Int) ≤ 1024) (w : World) (hR : Ready w) : Calls Tryz.prog 103 #[.agg #[.int .i64 4, .int .i64 0, .string t]] w fun e w' => e = .returned (.bool (Lib.validD t.data.toList)) ∧ Below w.heap.size w w' := by
  go_enter Tryz.func103, Tryz.ntmps103
  go_wp2_with (go_at_call 133; refine (validString t _ (by omega) (hR.alloc _).utf).mono ?_; rintro e w' ⟨rfl, hb⟩)
  go_ret
  exact ⟨rfl, (Bel.out (by repeat (first | exact Bel.refl _ | refine Bel.drew ?_ | refine Bel.drewN ?_ _ | refine Bel.alloc ?_ _ | refine Bel.setCell ?_ (by simp <;> omega) _ | refine Bel.step ?_ (by assumption))))⟩

set_option maxHeartbeats 1000000 in
theorem mayBe_x (k n : Int) (t : ByteArray) (h0 : (k == 0) = false) (h1 : (k == 1) = false) (h2 : (k == 2) = false) (h3 : (k == 3) = false) (h4 : (k == 4) = false) (w : World) (_hR : Ready w) : Calls Tryz.prog 103 #[.agg #[.int .i64 k, .int .i64 n, .string t]] w fun e w' => e = .returned (.bool false) ∧ Below w.heap.size w w' := by
  go_enter Tryz.func103, Tryz.ntmps103
  go_wp2
  go_ret
  exact ⟨rfl, (Bel.out (by repeat (first | exact Bel.refl _ | refine Bel.drew ?_ | refine Bel.drewN ?_ _ | refine Bel.alloc ?_ _ | refine Bel.setCell ?_ (by simp <;> omega) _ | refine Bel.step ?_ (by assumption))))⟩

theorem mayBe_any (k n : Int) (t : ByteArray) (w : World) (hR : Ready w) : Calls Tryz.prog 103 #[.agg #[.int .i64 k, .int .i64 n, .string t]] w fun e w' => e = .returned (.bool (mayS k n t)) ∧ Below w.heap.size w w' := by
  by_cases k0 : k = 0
  · subst k0
    by_cases n0 : n = 0
    · subst n0; simpa [mayS] using mayBe_00 t w hR
    · have hz : (n == 0) = false := by simpa using n0
      simpa [mayS, hz] using mayBe_0n n t hz w hR
  by_cases k1 : k = 1
  · subst k1
    by_cases n0 : n = 0
    · subst n0; simpa [mayS] using mayBe_10 t w hR
    by_cases n1 : n = 1
    · subst n1; simpa [mayS] using mayBe_11 t w hR
    have hz : (n == 0) = false := by simpa using n0
    have hz1 : (n == 1) = false := by simpa using n1
    simpa [mayS, hz, hz1] using mayBe_1n n t hz hz1 w hR
  by_cases k2 : k = 2
  · subst k2; simpa [mayS] using mayBe_2 n t w hR
  by_cases k3 : k = 3
  · subst k3; simpa [mayS] using mayBe_3 n t w hR
  by_cases k4 : k = 4
  · subst k4
    by_cases n0 : n = 0
    · subst n0
      by_cases hl : (t.size : Int) ≤ 1024
      · have e : mayS 4 0 t = Lib.validD t.data.toList := by
          unfold mayS; rw [decide_eq_true hl]; simp
        rw [e]; exact mayBe_4v t hl w hR
      · have e : mayS 4 0 t = false := by
          unfold mayS; rw [decide_eq_false hl]; simp
        rw [e]; exact mayBe_4l t hl w hR
    · have hz : (n == 0) = false := by simpa using n0
      simpa [mayS, hz] using mayBe_4n n t hz w hR
  have h0 : (k == 0) = false := by simpa using k0
  have h1 : (k == 1) = false := by simpa using k1
  have h2 : (k == 2) = false := by simpa using k2
  have h3 : (k == 3) = false := by simpa using k3
  have h4 : (k == 4) = false := by simpa using k4
  simpa [mayS, h0, h1, h2, h3, h4] using mayBe_x k n t h0 h1 h2 h3 h4 w hR

set_option maxHeartbeats 1000000 in
theorem Check_any (k n : Int) (t : ByteArray) (w : World) (hR : Ready w) : Calls Tryz.prog 69 #[.agg #[.int .i64 k, .int .i64 n, .string t]] w fun e w' => e = .returned (.int .i64 (if mayS k n t then 0 else 1)) ∧ Below w.heap.size w w' := by
  generalize hm : mayS k n t = m
  cases m
  all_goals
    go_enter Tryz.func69, Tryz.ntmps69
    go_wp2_with (go_at_call 103; refine (mayBe_any k n t _ (hR.alloc _)).mono ?_; rintro e w' ⟨rfl, hb⟩)
    go_ret
    exact ⟨rfl, (Bel.out (by repeat (first | exact Bel.refl _ | refine Bel.drew ?_ | refine Bel.drewN ?_ _ | refine Bel.alloc ?_ _ | refine Bel.setCell ?_ (by simp <;> omega) _ | refine Bel.step ?_ (by assumption))))⟩
end Go.Proofs.YtjphmbgennadcaaGreatDoor
