/- Letters made small, the words, a name that is no word: by the document. -/
import Derived.Test.YtcemogaacicnfaaGreatDoorPlc
import Derived.Test.YtcemogaacicnfaaGreatDoorRnm
import Derived.Test.YtcemogaacicnfaaGreatDoorCpy
import Derived.Laws.IdiomStrings
namespace Go.Proofs.YtcemogaacicnfaaGreatDoor
set_option linter.unusedSimpArgs false
set_option maxRecDepth 20000
set_option maxHeartbeats 4000000
open Go.ChangeShapes Go.WideShapes Go.ChangeAt Go.RowKit

theorem low_up {c : UInt8} (h1 : 65 ≤ c.toNat) (h2 : c.toNat ≤ 90) : (Lib.lowerB c).toNat = c.toNat + 32 := by
  have h : Lib.isUpperB c = true := by
    unfold Lib.isUpperB
    rw [Bool.and_eq_true, decide_eq_true_eq, decide_eq_true_eq]
    exact ⟨UInt8.le_iff_toNat_le.2 h1, UInt8.le_iff_toNat_le.2 h2⟩
  unfold Lib.lowerB
  rw [h, if_pos rfl, UInt8.toNat_add]
  show (c.toNat + 32) % 256 = _
  omega
theorem low_no {c : UInt8} (h : ¬ (65 ≤ c.toNat ∧ c.toNat ≤ 90)) : Lib.lowerB c = c := by
  have h : Lib.isUpperB c = false := by
    unfold Lib.isUpperB
    rw [Bool.and_eq_false_iff, decide_eq_false_iff_not, decide_eq_false_iff_not, UInt8.le_iff_toNat_le, UInt8.le_iff_toNat_le]
    have e1 : (65 : UInt8).toNat = 65 := rfl
    have e2 : (90 : UInt8).toNat = 90 := rfl
    omega
  unfold Lib.lowerB
  rw [h]; rfl
/-- The bytes when m of them are made small. -/
def smT (l : List UInt8) (m j : Nat) : UInt8 := if j < m then Lib.lowerB (l.getD j 0) else l.getD j 0
structure SmAt (l : List UInt8) (g m : Nat) (w : World) : Prop where
  cell : ∀ j, j < l.length → w.cell? ⟨g, j, none⟩ = some (.int .u8 ((smT l m j).toNat : Int))
  thaw : ∀ j, j < l.length → w.frozen? ⟨g, j, none⟩ = false
theorem smT_le {l : List UInt8} {m j : Nat} (h : m ≤ j) : smT l m j = l.getD j 0 := by unfold smT; rw [if_neg (by omega)]
theorem smT_set (l : List UInt8) (m j : Nat) (h : j ≠ m) : smT l (m + 1) j = smT l m j := by
  unfold smT
  by_cases h1 : j < m
  · rw [if_pos h1, if_pos (by omega)]
  · rw [if_neg h1, if_neg (by omega)]
theorem SmAt.step {l : List UInt8} {g m : Nat} {w : World} (h : SmAt l g m w) (hm : m < l.length) (v : Int) (hv : v = ((Lib.lowerB (l.getD m 0)).toNat : Int)) : SmAt l g (m + 1) (w.setCell ⟨g, m, none⟩ (.int .u8 v)) := by
  refine ⟨fun j hj => ?_, fun j hj => by rw [World.frozen?_setCell]; exact h.thaw j hj⟩
  by_cases hjm : j = m
  · subst hjm
    rw [sc_eq (h.cell j hj)]
    unfold smT
    rw [if_pos (by omega), hv]
  · rw [sc_ne (fun e => hjm (by injection e; omega)), h.cell j hj, smT_set l m j hjm]
theorem SmAt.same {l : List UInt8} {g m : Nat} {w : World} (h : SmAt l g m w) (hv : Lib.lowerB (l.getD m 0) = l.getD m 0) : SmAt l g (m + 1) w := by
  refine ⟨fun j hj => ?_, h.thaw⟩
  rw [h.cell j hj]
  by_cases hjm : j = m
  · subst hjm
    unfold smT
    rw [if_neg (by omega), if_pos (by omega), hv]
  · rw [smT_set l m j hjm]
theorem SmAt.new (l : List UInt8) (w : World) (cap : Nat) (mk : Nat × Nat) (hmk : mk.1 ≥ l.length) : SmAt l w.heap.size 0 (w.drew.alloc (.cells (bytesRow (bsA l) cap) 5 mk)) := by
  have hb : (w.drew.alloc (.cells (bytesRow (bsA l) cap) 5 mk)).heap[w.heap.size]? = some (.cells (bytesRow (bsA l) cap) 5 mk) := by
    show (w.heap.push _)[w.heap.size]? = _
    simp
  refine ⟨fun j hj => ?_, fun j hj => ?_⟩
  · unfold World.cell?
    rw [hb]
    have e : (bytesRow (bsA l) cap)[j]? = some (.int .u8 ((l.getD j 0).toNat : Int)) := by
      unfold bytesRow
      rw [Array.getElem?_append_left (by simpa [bsA] using hj)]
      simp [bsA, hj]
    simpa [smT] using e
  · unfold World.frozen?
    rw [hb]
    simp
    omega
theorem SmAt.end {l : List UInt8} {g m cap : Nat} {w : World} (h : SmAt l g m w) (hm : l.length ≤ m) : (convert 80 9 (.slice (some ⟨g, 0, none⟩) l.length cap)).run Tryz.prog w = .ok (.string (bsA (Lib.toLowerA l))) w := by
  have hl : (Lib.toLowerA l).length = l.length := by simp [Lib.toLowerA]
  have e := run_convert_bytes_back (P := Tryz.prog) w 80 9 5 ⟨g, 0, none⟩ cap (Lib.toLowerA l) Tryz.underlying80 Tryz.underlying5 Tryz.underlying9 (fun j hj => by
    rw [hl] at hj
    have h1 := h.cell j hj
    rw [add_plain, Nat.zero_add, h1]
    unfold smT
    rw [if_pos (by omega)]
    simp [Lib.toLowerA, hj])
  rw [hl] at e
  exact e
theorem rsmall_any (l : List UInt8) (w : World) (hl : l.length ≤ 64) : Calls Tryz.prog 110 #[.string (bsA l)] w fun e w' => e = .returned (.string (bsA (Lib.toLowerA l))) ∧ Below w.heap.size w w' := by
  have hconv := run_bytes_of_string (P := Tryz.prog) w 9 80 5 (bsA l) Tryz.underlying9 Tryz.underlying80 Tryz.underlying5
  rw [bsA_size] at hconv
  have hS := SmAt.new l w (grownCap w l.length 0 5) ((bytesRow (bsA l) (grownCap w l.length 0 5)).size, (bytesRow (bsA l) (grownCap w l.length 0 5)).size + 1) (by simp [bytesRow, bsA])
  have hA : Below w.heap.size w (w.drew.alloc (.cells (bytesRow (bsA l) (grownCap w l.length 0 5)) 5 ((bytesRow (bsA l) (grownCap w l.length 0 5)).size, (bytesRow (bsA l) (grownCap w l.length 0 5)).size + 1))) := (Below.refl _ _).drew.alloc (Nat.le_refl _) _
  generalize w.drew.alloc (.cells (bytesRow (bsA l) (grownCap w l.length 0 5)) 5 ((bytesRow (bsA l) (grownCap w l.length 0 5)).size, (bytesRow (bsA l) (grownCap w l.length 0 5)).size + 1)) = W1 at hconv hS hA
  generalize grownCap w l.length 0 5 = cap at hconv
  have HS0 : Hid (SmAt l w.heap.size 0 W1) := hS
  clear hS
  have hg : ∃ g, g = w.heap.size := ⟨_, rfl⟩
  obtain ⟨g, hg⟩ := hg
  rw [← hg] at hconv HS0
  have hgl : w.heap.size ≤ g := by omega
  clear hg
  go_enter Tryz.func110, Tryz.ntmps110
  go_wp2
  go_loopw [4] (fun i wr => ∃ m : Nat, m ≤ l.length ∧ i = .int .i64 m ∧ SmAt l g m wr ∧ Bel w.heap.size w wr) (fun i _ => l.length - (intOf i).toNat)
  case atStart => exact ⟨0, Nat.zero_le _, rfl, HS0.out, ⟨hA, hA.size⟩⟩
  case round =>
    obtain ⟨m, hm, rfl, hS, HB⟩ := hrel
    have HS : Hid (SmAt l g m wr) := hS
    clear hS HS0 hA
    rcases Nat.lt_or_ge m l.length with hlt | hge
    · have c0 := HS.out.cell m hlt
      have f0 := HS.out.thaw m hlt
      rw [smT_le (Nat.le_refl m)] at c0
      have HW : Hid (w.heap.size ≤ g) := hgl
      by_cases hup : 65 ≤ (l.getD m 0).toNat ∧ (l.getD m 0).toNat ≤ 90
      · have e1 : ((65 : Int) ≤ ((l.getD m 0).toNat : Int)) = True := eq_true (by omega)
        have e2 : (((l.getD m 0).toNat : Int) ≤ (90 : Int)) = True := eq_true (by omega)
        have HN : Hid ((((l.getD m 0).toNat : Int) + 32) % 256 = ((Lib.lowerB (l.getD m 0)).toNat : Int)) := by
          have := low_up hup.1 hup.2
          show _ = _
          omega
        have HXX : Hid (SmAt l g (m + 1) (wr.setCell ⟨g, m, none⟩ (.int .u8 ((((l.getD m 0).toNat : Int) + 32) % 256)))) := HS.out.step hlt _ HN.out
        clear hup
        generalize (l.getD m 0) = c at c0 e1 e2 HN HXX
        go_wp2
        go_roundw
        case rel => exact ⟨m + 1, by omega, by go_num, HXX.out, ⟨HB.out.setCell (p := ⟨g, m, none⟩) HW.out _, by simp; exact HB.le⟩⟩
        case measure => simp [intOf]; omega
      · have hno := low_no hup
        have HX : Hid _ := HS.out.same hno
        clear hno
        rcases Nat.lt_or_ge (l.getD m 0).toNat 65 with h1 | h1
        · have e1 : ((65 : Int) ≤ ((l.getD m 0).toNat : Int)) = False := eq_false (by omega)
          clear hup h1
          generalize (l.getD m 0) = c at c0 e1
          go_wp2
          go_roundw
          case rel => exact ⟨m + 1, by omega, by go_num, HX.out, HB⟩
          case measure => simp [intOf]; omega
        · have e1 : ((65 : Int) ≤ ((l.getD m 0).toNat : Int)) = True := eq_true (by omega)
          have e2 : (((l.getD m 0).toNat : Int) ≤ (90 : Int)) = False := eq_false (by omega)
          clear hup h1
          generalize (l.getD m 0) = c at c0 e1 e2
          go_wp2
          go_roundw
          case rel => exact ⟨m + 1, by omega, by go_num, HX.out, HB⟩
          case measure => simp [intOf]; omega
    · have hend := HS.out.end (cap := cap) hge
      go_wp2
      go_ret
      exact ⟨rfl, HB.out⟩
theorem rwords_any (w : World) : Calls Tryz.prog 111 #[] w fun e w' => e = .returned (.slice (some ⟨w.heap.size, 0, none⟩) 58 58) ∧ w' = w.alloc (.cells wdV.toArray 9) := by
  go_enter Tryz.func111, Tryz.ntmps111
  go_wp2
  go_ret
  exact ⟨rfl, rfl⟩
end Go.Proofs.YtcemogaacicnfaaGreatDoor
