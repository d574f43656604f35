/- A place is come to with a height (come). -/
import Derived.Test.YtmadofpbfgbdkaaGreatDoorNmw
namespace Go.Proofs.YtmadofpbfgbdkaaGreatDoor
open Go.ChangeShapes Go.WideShapes Go.ChangeAt Go.RowKit
set_option linter.unusedSimpArgs false
set_option maxRecDepth 20000
set_option maxHeartbeats 4000000

def hiC (H : List Int) : List Value := H.map fun x => .int .i64 x
/-- The heights' row. -/
def RowI (w : World) (base g cap : Nat) (H : List Int) : Prop := w.ownsRow base 3 1 (.slice (some ⟨g, 0, none⟩) H.length cap) H.length (hiC H)
theorem RowI.get {w : World} {base g cap : Nat} {H : List Int} (h : RowI w base g cap H) {i : Nat} {x : Int} (hx : H[i]? = some x) : w.cell? ⟨g, i, none⟩ = some (.int .i64 x) := by
  have hi := (List.getElem?_eq_some_iff.1 hx).1
  rw [World.ownsRow.cellAt h i (by omega)]
  unfold hiC
  rw [List.getElem?_map, hx]
  rfl
theorem RowI.fr {w : World} {base g cap : Nat} {H : List Int} (h : RowI w base g cap H) (i : Nat) : w.frozen? ⟨g, i, none⟩ = false := World.ownsRow.frozenAt h i
theorem RowI.put {w : World} {base g cap : Nat} {H : List Int} (h : RowI w base g cap H) (i : Nat) (x : Int) : RowI (w.setCell ⟨g, i, none⟩ (.int .i64 x)) base g cap (H.set i x) := by
  have e : hiC (H.set i x) = (hiC H).set i (.int .i64 x) := by unfold hiC; rw [List.map_set]
  unfold RowI
  rw [e, List.length_set]
  exact (World.ownsRow.stored h i _).1
theorem RowI.lt {w : World} {base g cap : Nat} {H : List Int} (h : RowI w base g cap H) : base ≤ g ∧ g < w.heap.size := World.ownsRow.lt h g rfl
theorem owns_below {w w' : World} {base e size n : Nat} {v : Value} {xs : List Value} (h : w.ownsRow base e size v n xs) (hb : Below w.heap.size w w') : w'.ownsRow base e size v n xs :=
  h.kept (row := none) ⟨hb.os, hb.tape, hb.output, hb.size, fun k hk _ => hb.block k hk⟩ (by cases v.ownBlock <;> simp)
theorem RowI.below {w w' : World} {base g cap : Nat} {H : List Int} (h : RowI w base g cap H) (hb : Below w.heap.size w w') : RowI w' base g cap H := owns_below h hb
/-- All blocks but one as they were. -/
structure Gr (g : Nat) (w w' : World) : Prop where
  os : w'.os = w.os
  tape : w'.tape = w.tape
  output : w'.output = w.output
  size : w.heap.size ≤ w'.heap.size
  block : ∀ k, k < w.heap.size → k ≠ g → w'.heap[k]? = w.heap[k]?
theorem Gr.of {g : Nat} {w w' : World} (h : Below w.heap.size w w') : Gr g w w' := ⟨h.os, h.tape, h.output, h.size, fun k hk _ => h.block k hk⟩
theorem Gr.trans {g : Nat} {a b c : World} (h : Gr g a b) (k : Gr g b c) : Gr g a c := ⟨k.os.trans h.os, k.tape.trans h.tape, k.output.trans h.output, Nat.le_trans h.size k.size, fun j hj hn => (k.block j (Nat.lt_of_lt_of_le hj h.size) hn).trans (h.block j hj hn)⟩
theorem Gr.put {g : Nat} {w w' : World} (h : Gr g w w') (j : Nat) (v : Value) : Gr g w (w'.setCell ⟨g, j, none⟩ v) := ⟨h.os, h.tape, h.output, by simpa [World.setCell] using h.size, fun k hk hn => (Below.heap_setCell _ _ _ _ hn).trans (h.block k hk hn)⟩
theorem Gr.cell {g : Nat} {w w' : World} (h : Gr g w w') {b j : Nat} {v : Value} (hb : b ≠ g) (hc : w.cell? ⟨b, j, none⟩ = some v) : w'.cell? ⟨b, j, none⟩ = some v := (World.cell?_of_block (a := ⟨b, j, none⟩) (h.block b (cell_lt' hc) hb)).trans hc
/-- What come leaves. -/
def ComePost (base g cap : Nat) (H : List Int) (r : Option (List Int)) (w : World) (e : Ending) (w' : World) : Prop :=
  (match r with
    | none => e = .returned (.bool false) ∧ RowI w' base g cap H
    | some H1 => e = .returned (.bool true) ∧ RowI w' base g cap H1) ∧ Gr g w w'
theorem come_any (ov : Value) (f a : Int) (base g cap : Nat) (H : List Int) (hn : Nat) (hhn : H.length = hn) (t : Nat) (h : Int) (ht : t < H.length) (hl : H.length ≤ 4611686018427387904) (w : World) (hr : RowI w base g cap H) :
    Calls Tryz.prog 27 #[.agg #[ov, .int .i64 f, .int .i64 a, .slice (some ⟨g, 0, none⟩) hn cap], .int .i64 t, .int .i64 h] w (ComePost base g cap H (cmP H t h) w) := by
  obtain ⟨x, hx⟩ : ∃ x, H[t]? = some x := ⟨_, List.getElem?_eq_getElem ht⟩
  have HR : Hid (RowI w base g cap H) := hr
  have HCM : Hid (cmP H t h = if x = -1 ∨ x = h then some (H.set t h) else none) := by show _ = _; unfold cmP; rw [hx]
  have HX : Hid (H[t]? = some x) := hx
  have hlt : t < hn := by omega
  have hnb : hn ≤ 4611686018427387904 := by omega
  have HCP : Hid (∀ r e w', cmP H t h = r → ((match r with
    | none => e = .returned (.bool false) ∧ RowI w' base g cap H
    | some H1 => e = .returned (.bool true) ∧ RowI w' base g cap H1) ∧ Gr g w w') → ComePost base g cap H (cmP H t h) w e w') := fun r e w' e1 e2 => by rw [e1]; exact e2
  generalize cmP H t h = r at HCM HCP ⊢
  clear hr hx ht hl hhn
  go_enter Tryz.func27, Tryz.ntmps27
  go_upto_region 1 with (fail)
  have hB : Below w.heap.size w (w.alloc (Obj.cells #[ov, .int .i64 f, .int .i64 a, .slice (some ⟨g, 0, none⟩) hn cap] 47)) := (Below.refl _ _).alloc (Nat.le_refl _) _
  have z3 : (w.alloc (Obj.cells #[ov, .int .i64 f, .int .i64 a, .slice (some ⟨g, 0, none⟩) hn cap] 47)).cell? ⟨w.heap.size, 3, none⟩ = some (.slice (some ⟨g, 0, none⟩) hn cap) := (World.cell?_alloc_mark w #[ov, .int .i64 f, .int .i64 a, .slice (some ⟨g, 0, none⟩) hn cap] 47 (0, 0) 3).trans rfl
  have HR1 : Hid (RowI (w.alloc (Obj.cells #[ov, .int .i64 f, .int .i64 a, .slice (some ⟨g, 0, none⟩) hn cap] 47)) base g cap H) := HR.out.below hB
  have HB : Hid (Gr g w (w.alloc (Obj.cells #[ov, .int .i64 f, .int .i64 a, .slice (some ⟨g, 0, none⟩) hn cap] 47))) := Gr.of hB
  have hgx : g ≠ w.heap.size := by have := HR.out.lt; omega
  obtain ⟨bx, hbx⟩ : ∃ bx, w.heap.size = bx := ⟨_, rfl⟩
  rw [hbx] at z3 hgx
  rw [hbx]
  clear hB hbx HR
  generalize (w.alloc (Obj.cells #[ov, .int .i64 f, .int .i64 a, .slice (some ⟨g, 0, none⟩) hn cap] 47)) = w1 at *
  have c0 := HR1.out.get HX.out
  have f0 := HR1.out.fr t
  by_cases q1 : x = -1
  · subst q1
    have HR2 : Hid (RowI (w1.setCell ⟨g, t, none⟩ (.int .i64 h)) base g cap (H.set t h)) := HR1.out.put t h
    have HB2 : Hid (Gr g w (w1.setCell ⟨g, t, none⟩ (.int .i64 h))) := HB.out.put t _
    have HP : Hid (ComePost base g cap H r w (.returned (.bool true)) (w1.setCell ⟨g, t, none⟩ (.int .i64 h))) := HCP.out _ _ _ HCM.out ⟨by rw [if_pos (Or.inl rfl)]; exact ⟨rfl, HR2.out⟩, HB2.out⟩
    have d0 : (w1.setCell ⟨g, t, none⟩ (.int .i64 h)).cell? ⟨g, t, none⟩ = some (.int .i64 h) := World.cell?_setCell_same _ _ _ c0
    have d3 : (w1.setCell ⟨g, t, none⟩ (.int .i64 h)).cell? ⟨bx, 3, none⟩ = some (.slice (some ⟨g, 0, none⟩) hn cap) := (World.cell?_setCell_other _ _ _ _ (by simp [hgx])).trans z3
    clear HR1 HB HR2 HB2 HCM HCP
    go_wp2
    refine bodyPost_ret (v := .bool true) (by simp [results, Tryz.results27, go_sem]) rfl HP.out
  · have b1 : (x == -1) = false := by simpa using q1
    by_cases q2 : x = h
    · subst q2
      have HS : Hid (H.set t x = H) := by
        show _ = _
        apply List.ext_getElem?
        intro j
        rw [List.getElem?_set]
        by_cases e : t = j
        · subst e
          have hx := HX.out
          have := (List.getElem?_eq_some_iff.1 hx).1
          rw [if_pos rfl, if_pos this]
          exact hx.symm
        · simp [e]
      have HP : Hid (ComePost base g cap H r w (.returned (.bool true)) w1) := HCP.out _ _ _ HCM.out ⟨by rw [if_pos (Or.inr rfl), HS.out]; exact ⟨rfl, HR1.out⟩, HB.out⟩
      clear HR1 HB HCM HCP HS
      go_wp2
      refine bodyPost_ret (v := .bool true) (by simp [results, Tryz.results27, go_sem]) rfl HP.out
    · have b2 : (x == h) = false := by simpa using q2
      have HP : Hid (ComePost base g cap H r w (.returned (.bool false)) w1) := HCP.out _ _ _ HCM.out ⟨by rw [if_neg (by simp [q1, q2])]; exact ⟨rfl, HR1.out⟩, HB.out⟩
      clear HR1 HB HCM HCP
      go_wp2
      refine bodyPost_ret (v := .bool false) (by simp [results, Tryz.results27, go_sem]) rfl HP.out
end Go.Proofs.YtmadofpbfgbdkaaGreatDoor
