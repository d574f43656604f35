/- The document's map in memory. -/
import Derived.Test.YtbfodpmlmhkikaaDoorRGet
import Derived.Test.YtbfodpmlmhkikaaDoorREnc
namespace Go.Proofs.YtbfodpmlmhkikaaDoor
open Go.ChangeShapes Go.WideShapes Go.ChangeAt Go.RowKit

/-- The cells of pairs. -/
def prC (P : List Ent) : List Value := P.flatMap fun x => [.slice x.a x.row.length x.cap, .int .i64 x.n]
theorem prC_app (P Q : List Ent) : prC (P ++ Q) = prC P ++ prC Q := by simp [prC]
theorem prC_len (P : List Ent) : (prC P).length = P.length * 2 := by
  induction P with
  | nil => rfl
  | cons x P ih =>
    have : prC (x :: P) = [.slice x.a x.row.length x.cap, .int .i64 x.n] ++ prC P := rfl
    rw [this, List.length_append, ih, List.length_cons]; simp; omega
theorem prC_at {P : List Ent} {i : Nat} (h : i < P.length) : (prC P)[i * 2]? = some (.slice (pAt P i).a (pAt P i).row.length (pAt P i).cap) ∧ (prC P)[i * 2 + 1]? = some (.int .i64 (pAt P i).n) := by
  induction P generalizing i with
  | nil => simp at h
  | cons x P ih =>
    have e : prC (x :: P) = .slice x.a x.row.length x.cap :: .int .i64 x.n :: prC P := rfl
    rw [e]
    cases i with
    | zero => exact ⟨rfl, rfl⟩
    | succ i =>
      have := ih (i := i) (by simpa using h)
      rw [show (i + 1) * 2 = i * 2 + 1 + 1 by omega, List.getElem?_cons_succ, List.getElem?_cons_succ, List.getElem?_cons_succ, List.getElem?_cons_succ]
      exact this
theorem prC_one (P : List Ent) : ∀ u ∈ prC P, u.oneCell' = true := by
  intro u hu
  unfold prC at hu
  rw [List.mem_flatMap] at hu
  obtain ⟨x, _, hu⟩ := hu
  simp only [List.mem_cons, List.not_mem_nil, or_false] at hu
  rcases hu with rfl | rfl <;> rfl
/-- The document's map: its cell X, its slice v, made since B. -/
structure RfAt (w : World) (X B : Nat) (v : Value) (P : List Ent) : Prop where
  c : w.cell? ⟨X, 0, none⟩ = some v
  f : w.frozen? ⟨X, 0, none⟩ = false
  own : w.ownsRow B 82 2 v P.length (prC P)
  rows : ∀ x ∈ P, RowAt w x.a x.row ∧ ∀ g o, x.a = some ⟨g, o, none⟩ → B ≤ g ∧ g < w.heap.size ∧ g ≠ X ∧ v.ownBlock ≠ some g
  nX : v.ownBlock ≠ some X
theorem pAt_mem {P : List Ent} {i : Nat} (h : i < P.length) : pAt P i ∈ P := List.mem_of_getElem? (pAt_get h)
theorem RfAt.view {w : World} {X B : Nat} {v : Value} {P : List Ent} (h : RfAt w X B v P) : RfV w v P := by
  have h' := h.own
  obtain ⟨hlen, ⟨rfl, h0⟩ | ⟨g, cap, cur, rfl, hbg, hg, hcap, hcm, hcs, htake⟩⟩ := h.own
  · exact Or.inl ⟨rfl, List.length_eq_zero_iff.1 h0⟩
  · refine Or.inr ⟨g, cap, rfl, fun i hi => ?_⟩
    have hc := h'.cells (g := g) rfl
    obtain ⟨a, b⟩ := prC_at hi
    have ea := hc _ _ a
    have eb := hc _ _ b
    rw [add_plain, Nat.zero_add] at ea eb
    exact ⟨ea, eb, (h.rows _ (pAt_mem hi)).1⟩
theorem RfAt.below {w w' : World} {X B : Nat} {v : Value} {P : List Ent} (h : RfAt w X B v P) (hb : Below w.heap.size w w') : RfAt w' X B v P where
  c := cell_below hb h.c
  f := (hb.frozen (p := ⟨X, 0, none⟩) (cell_lt h.c)).trans h.f
  own := h.own.kept (row := none) ⟨hb.os, hb.tape, hb.output, hb.size, fun k hk _ => hb.block k hk⟩ (by cases v.ownBlock <;> simp)
  rows := fun x hx => ⟨(h.rows x hx).1.below hb, fun g o e => ⟨((h.rows x hx).2 g o e).1, Nat.lt_of_lt_of_le ((h.rows x hx).2 g o e).2.1 hb.size, ((h.rows x hx).2 g o e).2.2⟩⟩
  nX := h.nX
set_option maxRecDepth 20000 in
set_option maxHeartbeats 4000000 in
theorem RRemove_no (X B : Nat) (v : Value) (P : List Ent) (a : Option Addr) (cap : Nat) (r : List Val) (w : World) (hM : RfAt w X B v P) (hL : P.length ≤ 9223372036854775807) (hl : ∀ i, (pAt P i).row.length ≤ 9223372036854775807) (hr : RowAt w a r) (hn : fnI P r = -1) :
    Calls Tryd.prog 18 #[.pointer (some ⟨X, 0, none⟩), .slice a r.length cap] w fun e w' => e = .returned (.bool false) ∧ Below w.heap.size w w' := by
  have hf := rfind_any X v P a cap r w hM.c hM.view hL hl hr
  rw [hn] at hf
  clear hM hl hr hn
  go_enter Tryd.func18, Tryd.ntmps18
  go_wp2_with fail
  refine hf.mono ?_
  rintro e w1 ⟨rfl, hb1⟩
  go_wp2
  go_ret
  exact ⟨rfl, hb1⟩
set_option maxRecDepth 20000 in
set_option maxHeartbeats 4000000 in
theorem RAdd_bad (hRu : RunesSaid) (X : Nat) (a : Option Addr) (cap : Nat) (r : List Val) (n : Int) (w : World) (hlen : r.length ≤ 4000000) (hr : RowAt w a r) (hI : IntR r) (hm : mayR r = false) :
    Calls Tryd.prog 16 #[.pointer (some ⟨X, 0, none⟩), .slice a r.length cap, .int .i64 n] w fun e w' => e = .returned (.tuple #[.int .i64 0, .int .i64 31]) ∧ Below w.heap.size w w' := by
  have hf := REncode_any hRu a cap r w hlen hr hI
  rw [hm] at hf
  simp only [erI, Bool.false_eq_true, if_false] at hf
  generalize enS r = sr at hf
  clear hr hI hm
  go_enter Tryd.func16, Tryd.ntmps16
  go_wp2_with fail
  refine hf.mono ?_
  rintro e w1 ⟨rfl, hb1⟩
  go_wp2
  go_ret2
  exact ⟨rfl, hb1⟩
end Go.Proofs.YtbfodpmlmhkikaaDoor
