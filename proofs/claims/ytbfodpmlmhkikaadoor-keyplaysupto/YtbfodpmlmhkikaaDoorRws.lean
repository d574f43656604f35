/- All rows of a map (Rows). -/
import Derived.Test.YtbfodpmlmhkikaaDoorSrt2
import Derived.Test.YtbfodpmlmhkikaaDoorClone
import Derived.Test.YtbfodpmlmhkikaaDoorPut
namespace Go.Proofs.YtbfodpmlmhkikaaDoor
open Go.ChangeShapes Go.WideShapes Go.ChangeAt Go.RowKit Go.Shelf
open Go.RowKit (Below)

theorem Values_any (b : Nat) (w : World) : Calls Tryd.prog 38 #[.map (some b)] w fun e w' => e = .returned (.func (.func 50) #[] #[.pointer (some ⟨w.heap.size, 0, none⟩)]) ∧ w' = w.alloc (.cells #[.map (some b)] 73) := by
  go_enter Tryd.func38, Tryd.ntmps38
  go_wp2
  go_ret
  exact ⟨rfl, rfl⟩
theorem info22 : (Tryd.prog.info? 22).map (fun i => (i.zero, i.size, i.bytes)) = some (some (.slice none 0 0), 1, 24) := by kernel_rfl
def nilC (n : Nat) : Array Value := madeCells #[.slice none 0 0] n
theorem made_run (n : Nat) (hn : n * 24 ≤ 140737488355328) (w : World) : (Instr.makeSlice 54 (.int .i64 (n : Int)) (.int .i64 (n : Int))).run Tryd.prog w = .ok (.slice (some ⟨w.heap.size, 0, none⟩) n n) (w.alloc (.cells (nilC n) 22)) := by
  obtain ⟨i0, hi, hz0⟩ := Option.map_eq_some_iff.1 info22
  simp only [Prod.mk.injEq] at hz0
  obtain ⟨hz, hs, hb⟩ := hz0
  have h := run_make (P := Tryd.prog) w 54 22 i0 (.slice none 0 0) Tryd.underlying54 hi hz .i64 .i64 (n : Int) (n : Int) (by omega) (Int.le_refl _) (by rw [hb]; omega) (by omega)
  simpa [hs, nilC, Value.cells] using h
theorem nilC_at (n i : Nat) (h : i < n) : (nilC n)[i]? = some (.slice none 0 0) := by
  unfold nilC madeCells
  have e : i % 1 = 0 := Nat.mod_one i
  simp [h, e]
/-- The first m rows lie in the block g, each in a block of its own. -/
structure RowsUpto (w : World) (B g n : Nat) (rs : List (List Val)) (m : Nat) : Prop where
  has : ∀ i, i < m → ∃ ai cap, w.cell? ⟨g, i, none⟩ = some (.slice ai (rs.getD i []).length cap) ∧ RowAt w ai (rs.getD i []) ∧ ∀ h o, ai = some ⟨h, o, none⟩ → B ≤ h ∧ h < w.heap.size ∧ h ≠ g ∧ o = 0 ∧ ∀ j, w.frozen? ⟨h, j, none⟩ = false
  not : ∀ i, m ≤ i → i < n → w.cell? ⟨g, i, none⟩ = some (.slice none 0 0)
  warm : ∀ i, i < n → w.frozen? ⟨g, i, none⟩ = false
theorem RowsUpto.below {w w' : World} {B g n : Nat} {rs : List (List Val)} {m : Nat} (h : RowsUpto w B g n rs m) (hg : g < w.heap.size) (hb : Below w.heap.size w w') : RowsUpto w' B g n rs m where
  has := fun i hi => by
    obtain ⟨ai, cap, h1, h2, h3⟩ := h.has i hi
    refine ⟨ai, cap, cell_below hb h1, h2.below hb, fun hh o e => ?_⟩
    obtain ⟨a1, a2, a3, a4, a5⟩ := h3 hh o e
    exact ⟨a1, Nat.lt_of_lt_of_le a2 hb.size, a3, a4, fun j => (hb.frozen (p := ⟨hh, j, none⟩) a2).trans (a5 j)⟩
  not := fun i h1 h2 => cell_below hb (h.not i h1 h2)
  warm := fun i hi => (hb.frozen (p := ⟨g, i, none⟩) hg).trans (h.warm i hi)
theorem RowsUpto.put {w : World} {B g n : Nat} {rs : List (List Val)} {m : Nat} (h : RowsUpto w B g n rs m) (hm : m < n) {a : Option Addr} {cap : Nat} (hr : RowAt w a (rs.getD m [])) (ha : ∀ h o, a = some ⟨h, o, none⟩ → B ≤ h ∧ h < w.heap.size ∧ h ≠ g ∧ o = 0 ∧ ∀ j, w.frozen? ⟨h, j, none⟩ = false) :
    RowsUpto (w.setCell ⟨g, m, none⟩ (.slice a (rs.getD m []).length cap)) B g n rs (m + 1) where
  has := fun i hi => by
    have key : ∀ ai, RowAt w ai (rs.getD i []) → (∀ h o, ai = some ⟨h, o, none⟩ → B ≤ h ∧ h < w.heap.size ∧ h ≠ g ∧ o = 0 ∧ ∀ j, w.frozen? ⟨h, j, none⟩ = false) → RowAt (w.setCell ⟨g, m, none⟩ (.slice a (rs.getD m []).length cap)) ai (rs.getD i []) ∧ ∀ h o, ai = some ⟨h, o, none⟩ → B ≤ h ∧ h < (w.setCell ⟨g, m, none⟩ (.slice a (rs.getD m []).length cap)).heap.size ∧ h ≠ g ∧ o = 0 ∧ ∀ j, (w.setCell ⟨g, m, none⟩ (.slice a (rs.getD m []).length cap)).frozen? ⟨h, j, none⟩ = false := by
      intro ai h2 h3
      refine ⟨(Fr.cnt w g m _).vals h2 (fun hh o e => (h3 hh o e).2.2.1), fun hh o e => ?_⟩
      obtain ⟨a1, a2, a3, a4, a5⟩ := h3 hh o e
      exact ⟨a1, by simpa [World.setCell] using a2, a3, a4, fun j => by rw [World.frozen?_setCell]; exact a5 j⟩
    rcases Nat.lt_or_ge i m with h1 | h1
    · obtain ⟨ai, c, h1', h2, h3⟩ := h.has i h1
      obtain ⟨k1, k2⟩ := key ai h2 h3
      exact ⟨ai, c, by rw [set_off (by omega)]; exact h1', k1, k2⟩
    · obtain rfl : i = m := by omega
      obtain ⟨k1, k2⟩ := key a hr ha
      exact ⟨a, cap, World.cell?_setCell_same _ _ _ (h.not i (Nat.le_refl _) hm), k1, k2⟩
  not := fun i h1 h2 => by rw [set_off (by omega)]; exact h.not i (by omega) h2
  warm := fun i hi => by rw [World.frozen?_setCell]; exact h.warm i hi
def rwH (HL : List (Int × Ent)) : List (List Val) := HL.map fun x => x.2.row
theorem rwH_len (HL : List (Int × Ent)) : (rwH HL).length = HL.length := by simp [rwH]
theorem rwH_at (HL : List (Int × Ent)) (i : Nat) : (rwH HL).getD i [] = (ex (HL.map (·.2)) i).row := by
  unfold rwH ex
  simp only [List.getD_eq_getElem?_getD, List.getElem?_map]
  cases HL[i]? <;> rfl
theorem ex_mem {HL : List (Int × Ent)} {i : Nat} (h : i < HL.length) : ∃ x ∈ HL, x.2 = ex (HL.map (·.2)) i := by
  refine ⟨HL[i], List.getElem_mem h, ?_⟩
  simp [ex, h]
theorem made_upto (w : World) (B n : Nat) (rs : List (List Val)) (_hB : B ≤ w.heap.size) : RowsUpto (w.alloc (.cells (nilC n) 22)) B w.heap.size n rs 0 where
  has := fun i hi => by omega
  not := fun i _ h2 => by
    have e := new_at w (.cells (nilC n) 22)
    unfold World.cell?; dsimp only; rw [e]; dsimp only; rw [nilC_at n i h2]; rfl
  warm := fun i _ => by
    have e := new_at w (.cells (nilC n) 22)
    unfold World.frozen?; dsimp only; rw [e]; simp
set_option maxRecDepth 20000 in
set_option maxHeartbeats 8000000 in
theorem Rows_any (M : Mb) (WL : List (Pce × Way)) (HL : List (Int × Ent)) (pl bi : Int) (w : World) (hM : MpAt w M WL HL pl bi) (hR : Rising HL) (hlen : HL.length * 40 ≤ 140737488355328) (hrl : ∀ x ∈ HL, x.2.row.length * 32 ≤ 140737488355328) :
    Calls Tryd.prog 21 #[.pointer (some ⟨M.m, 0, none⟩)] w fun e w' => ∃ g cap, e = .returned (.slice (some ⟨g, 0, none⟩) HL.length cap) ∧ w.heap.size ≤ g ∧ g < w'.heap.size ∧ RowsUpto w' w.heap.size g HL.length (rwH HL) HL.length ∧ Below w.heap.size w w' := by
  have m1 := hM.c1
  have HM : Hid (MpAt w M WL HL pl bi) := hM
  have HRL : Hid (∀ x ∈ HL, x.2.row.length * 32 ≤ 140737488355328) := hrl
  have HR : Hid (Rising HL) := hR
  obtain ⟨es, clk, hH⟩ := hM.held
  have hB1 : Below w.heap.size w (w.alloc (.cells #[.map (some M.h)] 73)) := (Below.refl _ _).alloc (Nat.le_refl _) _
  have hS := SortedFunc_any w.heap.size M.h HL es clk (w.alloc (.cells #[.map (some M.h)] 73)) hlen hR (by go_simp) (hH.below hB1)
  clear hM hrl hR hH
  have hval := Values_any M.h
  go_enter Tryd.func21, Tryd.ntmps21
  go_wp2_with (go_at_call 38; refine (hval _).mono ?_; rintro e w' ⟨rfl, rfl⟩)
  refine hS.mono ?_
  rintro e w2 ⟨a, cap, rfl, hE, hb2⟩
  have HE : Hid _ := hE
  have hB2 : Below w.heap.size w w2 := hB1.trans (hb2.mono (by simp))
  have hmk := made_run HL.length (by omega) w2
  have HU : Hid _ := made_upto w2 w.heap.size HL.length (rwH HL) hB2.size
  clear hE hS hval m1 hb2 hB1
  go_wp2
  go_loopw [20] (fun i wr => ∃ m : Nat, m ≤ HL.length ∧ i = .int .i64 m ∧ RowsUpto wr w.heap.size w2.heap.size HL.length (rwH HL) m ∧ w2.heap.size < wr.heap.size ∧ Bel w2.heap.size w2 wr) (fun i _ => HL.length - (intOf i).toNat)
  case atStart => exact ⟨0, Nat.zero_le _, rfl, HU.out, by simp, (Bel.refl _).alloc _⟩
  case round =>
    obtain ⟨m, hm, rfl, hU, hgl, HB⟩ := hrel
    clear HU hmk
    have HU : Hid _ := hU
    have hW := HB.out
    clear hU
    rcases Nat.lt_or_ge m HL.length with hlt | hge
    · rcases HE.out with h0 | ⟨g1, rfl, hcE⟩
      · exfalso
        have : (HL.map (·.2)).length = 0 := by rw [h0]; rfl
        simp at this; subst this; simp at hlt
      · obtain ⟨x, hx, hxe⟩ := ex_mem hlt
        have c0 := cell_below hW (hcE m (by simpa using hlt)).1
        have c1 := cell_below hW (hcE m (by simpa using hlt)).2.1
        have c2 := cell_below hW (hcE m (by simpa using hlt)).2.2
        have hrow := ((HM.out.below hB2).below hW).rows x hx
        have hby := HRL.out x hx
        have HRW : Hid ((rwH HL).getD m [] = x.2.row) := by show _ = _; rw [rwH_at, hxe]
        rw [← hxe] at c0 c1 c2
        have HRO : Hid (RowAt wr x.2.a x.2.row) := hrow.1
        have k0 := HU.out.not m (Nat.le_refl _) hlt
        have k1 := HU.out.warm m hlt
        clear hxe hrow hcE
        generalize x.2 = y at c0 c1 c2 hby HRW HRO
        go_wp2_with fail
        refine (Clone_any y.a y.cap y.row _ hby (HRO.out.alloc _)).mono ?_
        rintro e w4 ⟨a', cap', rfl, hr4, hg4, hb4⟩
        have hB4 : Below wr.heap.size wr w4 := ((Below.refl _ _).alloc (Nat.le_refl _) _).trans (hb4.mono (by simp))
        have q0 := cell_below hB4 k0
        have q1 := (hB4.frozen (p := ⟨w2.heap.size, m, none⟩) hgl).trans k1
        have HU4 : Hid (RowsUpto (w4.setCell ⟨w2.heap.size, m, none⟩ (.slice a' y.row.length cap')) w.heap.size w2.heap.size HL.length (rwH HL) (m + 1)) := by
          have h := (HU.out.below hgl hB4).put hlt (a := a') (cap := cap') (by rw [HRW.out]; exact hr4) (fun h o e => by
            obtain ⟨a1, a2, a3, a4⟩ := hg4 h o e
            have := hB2.size
            simp at a1
            exact ⟨by omega, a2, by omega, a3, a4⟩)
          rw [HRW.out] at h
          exact h
        have hgl4 : w2.heap.size < (w4.setCell ⟨w2.heap.size, m, none⟩ (.slice a' y.row.length cap')).heap.size := by have := hB4.size; simp [World.setCell]; omega
        clear hr4 hg4 hb4 k0 k1 c0 c1 c2
        go_wp2
        go_roundw
        case rel => exact ⟨m + 1, by omega, by go_num, HU4.out, hgl4, (HB.step hB4).setCell (Nat.le_refl _) _⟩
        case measure => simp [intOf]; omega
    · obtain rfl : m = HL.length := by omega
      go_wp2
      go_ret
      exact ⟨w2.heap.size, _, rfl, hB2.size, hgl, HU.out, hB2.trans (hW.mono hB2.size)⟩
end Go.Proofs.YtbfodpmlmhkikaaDoor
