/- The document's map: what stands under a row, and all rows. -/
import Derived.Test.YtbfodpmlmhkikaaDoorRFnd
namespace Go.Proofs.YtbfodpmlmhkikaaDoor
open Go.ChangeShapes Go.WideShapes Go.ChangeAt Go.RowKit

/-- A slice of pairs. -/
def RfV (w : World) (v : Value) (P : List Ent) : Prop := (v = .slice none 0 0 ∧ P = []) ∨ ∃ g cap, v = .slice (some ⟨g, 0, none⟩) P.length cap ∧ PrAt w g P
set_option maxRecDepth 20000 in
set_option maxHeartbeats 4000000 in
theorem rfind_none (X : Nat) (a : Option Addr) (len cap : Nat) (w : World) (hX : w.cell? ⟨X, 0, none⟩ = some (.slice none 0 0)) :
    Calls Tryd.prog 35 #[.pointer (some ⟨X, 0, none⟩), .slice a len cap] w fun e w' => e = .returned (.int .i64 (-1)) ∧ Below w.heap.size w w' := by
  go_enter Tryd.func35, Tryd.ntmps35
  go_wp2
  refine wp_loop_rounds 1 ?_
  rw [rounds_succ]
  go_wp2
  go_ret
  exact ⟨rfl, Below.refl _ _⟩
theorem rfind_any (X : Nat) (v : Value) (P : List Ent) (a : Option Addr) (cap : Nat) (r : List Val) (w : World) (hX : w.cell? ⟨X, 0, none⟩ = some v) (hP : RfV w v P) (hL : P.length ≤ 9223372036854775807) (hl : ∀ i, (pAt P i).row.length ≤ 9223372036854775807) (hr : RowAt w a r) :
    Calls Tryd.prog 35 #[.pointer (some ⟨X, 0, none⟩), .slice a r.length cap] w fun e w' => e = .returned (.int .i64 (fnI P r)) ∧ Below w.heap.size w w' := by
  rcases hP with ⟨rfl, rfl⟩ | ⟨g, capL, rfl, hP⟩
  · exact rfind_none X a r.length cap w hX
  · exact rfind_some X g capL P a cap r w hX hP hL hl hr
theorem fnI_cases (P : List Ent) (r : List Val) : (fnI P r = -1 ∧ P.findIdx? (fun x => decide (x.row = r)) = none) ∨ ∃ i : Nat, fnI P r = i ∧ i < P.length ∧ P.findIdx? (fun x => decide (x.row = r)) = some i := by
  unfold fnI
  cases h : P.findIdx? (fun x => decide (x.row = r)) with
  | none => exact Or.inl ⟨rfl, rfl⟩
  | some i => exact Or.inr ⟨i, rfl, (List.findIdx?_eq_some_iff_getElem.1 h).1, rfl⟩
/-- What stands under a row among pairs. -/
def rgP (P : List Ent) (r : List Val) : Int × Bool := match P.findIdx? (fun x => decide (x.row = r)) with
  | none => (0, false)
  | some i => ((pAt P i).n, true)
set_option maxRecDepth 20000 in
set_option maxHeartbeats 4000000 in
theorem RGet_any (X : Nat) (v : Value) (P : List Ent) (a : Option Addr) (cap : Nat) (r : List Val) (w : World) (hX : w.cell? ⟨X, 0, none⟩ = some v) (hP : RfV w v P) (hL : P.length ≤ 9223372036854775807) (hl : ∀ i, (pAt P i).row.length ≤ 9223372036854775807) (hr : RowAt w a r) :
    Calls Tryd.prog 20 #[.pointer (some ⟨X, 0, none⟩), .slice a r.length cap] w fun e w' => e = .returned (.tuple #[.int .i64 (rgP P r).1, .bool (rgP P r).2]) ∧ Below w.heap.size w w' := by
  have hf := rfind_any X v P a cap r w hX hP hL hl hr
  rcases fnI_cases P r with ⟨h1, h2⟩ | ⟨i, h1, hi, h2⟩
  · have e : rgP P r = (0, false) := by unfold rgP; rw [h2]
    rw [e]
    rw [h1] at hf
    clear h1 h2 e hr hP
    go_enter Tryd.func20, Tryd.ntmps20
    go_wp2_with fail
    refine hf.mono ?_
    rintro e w1 ⟨rfl, hb1⟩
    go_wp2
    go_ret2
    exact ⟨rfl, hb1⟩
  · have e : rgP P r = ((pAt P i).n, true) := by unfold rgP; rw [h2]
    rw [e]
    rw [h1] at hf
    rcases hP with ⟨_, rfl⟩ | ⟨g, capL, rfl, hP⟩
    · simp at hi
    · have c1 := (hP i hi).2.1
      generalize (pAt P i).n = n at c1 ⊢
      clear h1 h2 e hr hP hl
      go_enter Tryd.func20, Tryd.ntmps20
      go_wp2_with fail
      refine hf.mono ?_
      rintro e w1 ⟨rfl, hb1⟩
      have d1 := cell_below hb1 c1
      have dX := cell_below hb1 hX
      clear c1 hX hf
      go_wp2
      go_ret2
      exact ⟨rfl, hb1⟩
/-- The rows' slices. -/
def slC (P : List Ent) : List Value := P.map fun x => .slice x.a x.row.length x.cap
theorem slC_len (P : List Ent) : (slC P).length = P.length := by simp [slC]
theorem slC_take {P : List Ent} {m : Nat} (h : m < P.length) : slC (P.take (m + 1)) = slC (P.take m) ++ [.slice (pAt P m).a (pAt P m).row.length (pAt P m).cap] := by
  have e : P[m] = pAt P m := by have := pAt_get h; rw [List.getElem?_eq_getElem h] at this; injection this
  rw [List.take_succ_eq_append_getElem h, slC, List.map_append, e]; rfl
theorem rs_of_owns {w : World} {base : Nat} {v : Value} {P : List Ent} (h : w.ownsRow base 22 1 v P.length (slC P)) (hP : ∀ i, i < P.length → RowAt w (pAt P i).a (pAt P i).row) : ∃ a cap, v = .slice a P.length cap ∧ RsAt w a (P.map (·.row)) := by
  have h' := h
  obtain ⟨hlen, ⟨rfl, h0⟩ | ⟨g, cap, cur, rfl, hbg, hg, hcap, hcm, hcs, htake⟩⟩ := h
  · exact ⟨none, 0, by rw [h0], Or.inl (by rw [List.length_eq_zero_iff.1 h0]; rfl)⟩
  · refine ⟨_, cap, rfl, Or.inr ⟨g, 0, rfl, fun i hi => ?_⟩⟩
    have hi' : i < P.length := by simpa using hi
    have hc := h'.cells (g := g) rfl i (.slice (pAt P i).a (pAt P i).row.length (pAt P i).cap) (by unfold slC; rw [List.getElem?_map, pAt_get hi']; rfl)
    rw [add_plain] at hc
    have er : (P.map (·.row)).getD i [] = (pAt P i).row := by rw [List.getD_eq_getElem?_getD, List.getElem?_map, pAt_get hi']; rfl
    rw [er]
    exact ⟨_, _, hc, hP i hi'⟩
set_option maxRecDepth 20000 in
set_option maxHeartbeats 8000000 in
theorem RRows_some (X g capL : Nat) (P : List Ent) (w : World) (hX : w.cell? ⟨X, 0, none⟩ = some (.slice (some ⟨g, 0, none⟩) P.length capL)) (hP : PrAt w g P) (hL : P.length ≤ 4000000) :
    Calls Tryd.prog 24 #[.pointer (some ⟨X, 0, none⟩)] w fun e w' => (∃ a cap, e = .returned (.slice a P.length cap) ∧ RsAt w' a (P.map (·.row))) ∧ Below w.heap.size w w' := by
  obtain ⟨i0, hi, hz0, hz1, hz2⟩ := info_parts info22
  have HP : Hid (PrAt w g P) := hP
  clear hP
  go_enter Tryd.func24, Tryd.ntmps24
  go_wp2
  go_loopw [3, 4] (fun x i wr => ∃ (m : Nat) (v1 : Value), m ≤ P.length ∧ x = v1 ∧ i = .int .i64 m ∧ wr.ownsRow w.heap.size 22 1 v1 m (slC (P.take m)) ∧ Bel w.heap.size w wr) (fun _ i _ => P.length - (intOf i).toNat)
  case atStart => exact ⟨0, _, Nat.zero_le _, rfl, rfl, World.ownsRow_nil _ _ _ _, Bel.refl _⟩
  case round =>
    obtain ⟨m, v1, hm, hx1, rfl, hO, HB⟩ := hrel
    have hx2 := hx1.symm
    clear hx1
    subst hx2
    have HO : Hid (wr.ownsRow w.heap.size 22 1 v1 m (slC (P.take m))) := hO
    have hW := HB.out
    have x0 := cell_below hW hX
    clear hO
    rcases Nat.lt_or_ge m P.length with hlt | hge
    · have c0 := cell_below hW (HP.out m hlt).1
      have HT : Hid _ := slC_take hlt
      generalize (pAt P m).a = am at c0 HT
      generalize (pAt P m).row.length = lm at c0 HT
      generalize (pAt P m).cap = cm at c0 HT
      have hnl : m + 1 ≤ maxLen := by unfold maxLen; omega
      have hby : (m + 1) * 24 ≤ 140737488355328 := by omega
      have hone : Hid (∀ u ∈ [Value.slice am lm cm], u.oneCell' = true) := by intro u hu; simp only [List.mem_singleton] at hu; subst hu; rfl
      have hcel : Hid _ := cell_one_new wr (.slice am lm cm) 22
      have hrow : Hid ((wr.alloc (.cells #[.slice am lm cm] 22)).ownsRow w.heap.size 22 1 v1 m (slC (P.take m))) := World.ownsRow.alloc HO.out _
      have hbw : w.heap.size ≤ (wr.alloc (.cells #[.slice am lm cm] 22)).heap.size := by rw [World.size_alloc]; have := hW.size; omega
      go_wp2_with (at_builtin; refine wpList_append_own_at _ rfl _ _ 54 rfl w.heap.size 22 i0 (.slice none 0 0) 1 24 Tryd.underlying54 hi hz0 hz1 hz2 rfl (by decide) _ _ _ rfl hrow.out ⟨wr.heap.size, 0, none⟩ 1 1 [.slice am lm cm] rfl rfl hcel.out hone.out hnl hby hbw ?_)
      intro v2 w2 hown2 hgrow2 _ hloc2
      have HO2 : Hid (w2.ownsRow w.heap.size 22 1 v2 (m + 1) (slC (P.take (m + 1)))) := by
        show World.ownsRow _ _ _ _ _ _ _
        rw [HT.out]; exact hown2
      have hB2 : Bel w.heap.size w w2 := by
        have h := (hW.alloc hW.size (.cells #[.slice am lm cm] 22)).grown hgrow2 hbw (fun j hj => (World.ownsRow.lt hrow.out j hj).1)
        exact ⟨h, h.size⟩
      clear hown2 hgrow2 hloc2 hone hcel hrow HO HT
      go_wp2
      go_roundw
      case rel => exact ⟨m + 1, v2, by omega, rfl, by go_num, HO2.out, hB2⟩
      case measure => simp [intOf]; omega
    · obtain rfl : m = P.length := by omega
      have h := HO.out
      rw [List.take_length] at h
      obtain ⟨a, cap, rfl, hra⟩ := rs_of_owns h (fun i hi => (HP.out i hi).2.2.below hW)
      have HRA : Hid _ := hra
      clear h hra HO
      go_wp2
      go_ret
      exact ⟨⟨a, cap, rfl, HRA.out⟩, hW⟩
end Go.Proofs.YtbfodpmlmhkikaaDoor
