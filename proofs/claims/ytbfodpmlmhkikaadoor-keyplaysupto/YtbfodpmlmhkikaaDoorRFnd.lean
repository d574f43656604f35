/- The document's map: where a row stands. -/
import Derived.Test.YtbfodpmlmhkikaaDoorTree3
import Derived.Test.YtbfodpmlmhkikaaDoorSame
namespace Go.Proofs.YtbfodpmlmhkikaaDoor
open Go.ChangeShapes Go.WideShapes Go.ChangeAt Go.RowKit

/-- The i-th pair. -/
def pAt (P : List Ent) (i : Nat) : Ent := P.getD i ⟨none, 0, [], 0, 0⟩
theorem pAt_get {P : List Ent} {i : Nat} (h : i < P.length) : P[i]? = some (pAt P i) := by
  unfold pAt; rw [List.getD_eq_getElem?_getD, List.getElem?_eq_getElem h]; rfl
/-- Where a row stands, or -1. -/
def fnI (P : List Ent) (r : List Val) : Int := match P.findIdx? (fun x => decide (x.row = r)) with
  | none => -1
  | some i => (i : Int)
theorem fnI_at {P : List Ent} {r : List Val} {m : Nat} (hm : m < P.length) (he : (pAt P m).row = r) (hn : ∀ j, j < m → (pAt P j).row ≠ r) : fnI P r = m := by
  have : P.findIdx? (fun x => decide (x.row = r)) = some m := by
    rw [List.findIdx?_eq_some_iff_getElem]
    have hp : ∀ j (h : j < P.length), P[j] = pAt P j := fun j h => by
      have := pAt_get h; rw [List.getElem?_eq_getElem h] at this; injection this
    refine ⟨hm, by rw [hp]; simp [he], fun j hj => ?_⟩
    rw [hp]; simp [hn j hj]
  unfold fnI; rw [this]
theorem fnI_no {P : List Ent} {r : List Val} (hn : ∀ j, j < P.length → (pAt P j).row ≠ r) : fnI P r = -1 := by
  have : P.findIdx? (fun x => decide (x.row = r)) = none := by
    rw [List.findIdx?_eq_none_iff]
    intro x hx
    obtain ⟨j, hj, e⟩ := List.getElem_of_mem hx
    have h1 := pAt_get hj
    rw [List.getElem?_eq_getElem hj] at h1
    injection h1 with h1
    have := hn j hj
    rw [← h1, e] at this
    simpa using this
  unfold fnI; rw [this]
/-- Pairs behind an address. -/
def PrAt (w : World) (g : Nat) (P : List Ent) : Prop := ∀ i, i < P.length → w.cell? ⟨g, i * 2, none⟩ = some (.slice (pAt P i).a (pAt P i).row.length (pAt P i).cap) ∧ w.cell? ⟨g, i * 2 + 1, none⟩ = some (.int .i64 (pAt P i).n) ∧ RowAt w (pAt P i).a (pAt P i).row
set_option maxRecDepth 20000 in
set_option maxHeartbeats 4000000 in
theorem rfind_some (X g capL : Nat) (P : List Ent) (a : Option Addr) (cap : Nat) (r : List Val) (w : World) (hX : w.cell? ⟨X, 0, none⟩ = some (.slice (some ⟨g, 0, none⟩) P.length capL)) (hP : PrAt w g P) (hL : P.length ≤ 9223372036854775807) (hl : ∀ i, (pAt P i).row.length ≤ 9223372036854775807) (hr : RowAt w a r) :
    Calls Tryd.prog 35 #[.pointer (some ⟨X, 0, none⟩), .slice a r.length cap] w fun e w' => e = .returned (.int .i64 (fnI P r)) ∧ Below w.heap.size w w' := by
  have HP : Hid _ := hP
  have HL : Hid _ := hl
  have HR : Hid _ := hr
  clear hP hl hr
  go_enter Tryd.func35, Tryd.ntmps35
  go_wp2
  go_loopw [5] (fun i wr => ∃ m : Nat, m ≤ P.length ∧ i = .int .i64 m ∧ (∀ j, j < m → (pAt P j).row ≠ r) ∧ Bel w.heap.size w wr) (fun i _ => P.length - (intOf i).toNat)
  case atStart => exact ⟨0, Nat.zero_le _, rfl, fun j hj => by omega, Bel.refl _⟩
  case round =>
    obtain ⟨m, hm, rfl, hn, HB⟩ := hrel
    have HN : Hid _ := hn
    have hW := HB.out
    have x0 := cell_below hW hX
    clear hn
    rcases Nat.lt_or_ge m P.length with hlt | hge
    · have c0 := cell_below hW (HP.out m hlt).1
      have h1 := SameRow_any (pAt P m).a a (pAt P m).cap cap (pAt P m).row r wr (HL.out m) ((HP.out m hlt).2.2.below hW) (HR.out.below hW)
      by_cases he : (pAt P m).row = r
      · have HE : Hid (fnI P r = m) := fnI_at hlt he HN.out
        rw [decide_eq_true he] at h1
        clear he
        go_wp2_with fail
        refine h1.mono ?_
        rintro e w1 ⟨rfl, hb1⟩
        go_wp2
        go_ret
        rw [HE.out]
        exact ⟨rfl, hW.trans (hb1.mono hW.size)⟩
      · have HE : Hid (∀ j, j < m + 1 → (pAt P j).row ≠ r) := fun j hj => by
          rcases Nat.lt_or_ge j m with h | h
          · exact HN.out j h
          · obtain rfl : j = m := by omega
            exact he
        rw [decide_eq_false he] at h1
        clear he
        go_wp2_with fail
        refine h1.mono ?_
        rintro e w1 ⟨rfl, hb1⟩
        have hB1 : Bel w.heap.size w w1 := ⟨hW.trans (hb1.mono hW.size), Nat.le_trans hW.size hb1.size⟩
        go_wp2
        go_roundw
        case rel => exact ⟨m + 1, by omega, by go_num, HE.out, hB1⟩
        case measure => simp [intOf]; omega
    · obtain rfl : m = P.length := by omega
      have HE : Hid (fnI P r = -1) := fnI_no HN.out
      go_wp2
      go_ret
      rw [HE.out]
      exact ⟨rfl, hW⟩
end Go.Proofs.YtbfodpmlmhkikaaDoor
