/- The document's own digits: of any uint64 they are its decimal numeral; of any int with its sign. -/
import Derived.Test.YtejniencggnkiaaDoorDec
import Derived.LoopN
namespace Go.Proofs.YtejniencggnkiaaDoor
open Go.Shelf Go.RowKit Go.Lib

/-- A digit as a byte. -/
def dgt (x : Int) : UInt8 := UInt8.ofNat x.toNat
theorem conv1 (W : World) (x : Int) (h0 : 0 ≤ x) (h1 : x < 256) :
    (convert 72 9 (.slice (some ⟨W.heap.size, 0, none⟩) 1 1)).run Tryd.prog (W.alloc (.cells #[.int .u8 x] 5)) = .ok (.string ⟨#[dgt x]⟩) (W.alloc (.cells #[.int .u8 x] 5)) := by
  have h := run_convert_bytes_back (P := Tryd.prog) (W.alloc (.cells #[.int .u8 x] 5)) 72 9 5 ⟨W.heap.size, 0, none⟩ 1 [dgt x] Tryd.underlying72 Tryd.underlying5 Tryd.underlying9 (fun j hj => by
    have : j = 0 := by simpa using hj
    subst this
    rw [Lib.add_plain, World.cell?_alloc_new]
    have e : ((dgt x).toNat : Int) = x := by unfold dgt; rw [UInt8.toNat_ofNat']; omega
    simp only [List.getElem_cons_zero]
    rw [e]; rfl)
  exact h
def dor (v : Nat) : List UInt8 := if v = 0 then [] else decDigits v
theorem dor_step (v : Nat) : dor (v / 10) ++ [UInt8.ofNat (48 + v % 10)] = decDigits v := by
  unfold dor
  by_cases h : v < 10
  · rw [if_pos (by omega), decDigits, dif_pos h, show v % 10 = v from by omega]; rfl
  · rw [if_neg (by omega)]
    conv => rhs; rw [decDigits, dif_neg h]
theorem dor_pos {v : Nat} (h : 0 < v) : dor v = decDigits v := by unfold dor; rw [if_neg (by omega)]

set_option maxRecDepth 100000 in
set_option maxHeartbeats 1000000 in
theorem rdigits (u : Nat) (hu : u < 18446744073709551616) (w : World) : Calls Tryd.prog 59 #[.int .u64 u] w fun e w' => e = .returned (.string ⟨(Lib.decDigits u).toArray⟩) ∧ Below w.heap.size w w' := by
  have hc := fun W => conv1 W (48 + (u : Int) % 10) (by omega) (by omega)
  have HS : Hid (dor (u / 10) ++ [dgt (48 + (u : Int) % 10)] = decDigits u) := by
    show _ = _
    unfold dgt; rw [show (48 + (u : Int) % 10).toNat = 48 + u % 10 from by omega]; exact dor_step u
  go_enter Tryd.func59, Tryd.ntmps59
  go_wp2_with fail
  go_loopw [0, 3] (fun su ss wx => ∃ (v : Nat) (B : ByteArray), v ≤ u ∧ su = .int .u64 v ∧ ss = .string B ∧ dor v ++ B.data.toList = decDigits u ∧ Below w.heap.size w wx) (fun su _ _ => (RowKit.intOf su).toNat)
  case atStart => exact ⟨u / 10, ⟨#[dgt (48 + (u : Int) % 10)]⟩, by omega, by go_num, rfl, HS.out, (Below.refl _ _).alloc (Nat.le_refl _) _⟩
  case round =>
    obtain ⟨v, B, hvu, rfl, rfl, hB, hb⟩ := hrel
    have HB : Hid (dor v ++ B.data.toList = decDigits u) := hB
    have hl := congrArg List.length hB
    have h20 := digits20 u hu
    have hsz : B.size ≤ 20 := by rw [Lib.size_eq]; rw [List.length_append] at hl; omega
    clear hB hl h20 hc
    by_cases hv : 0 < v
    · have hvi : (0 : Int) < (v : Int) := by omega
      have hc := fun W => conv1 W (48 + (v : Int) % 10) (by omega) (by omega)
      have z1 : (⟨#[dgt (48 + (v : Int) % 10)]⟩ : ByteArray).size ≤ 1 := Nat.le_refl 1
      have ha := addOk ⟨#[dgt (48 + (v : Int) % 10)]⟩ B 1 20 z1 hsz (by omega)
      have HN : Hid (dor (v / 10) ++ ((⟨#[dgt (48 + (v : Int) % 10)]⟩ : ByteArray) ++ B).data.toList = decDigits u) := by
        show _ = _
        rw [← HB.out, dor_pos hv, ← dor_step v, ByteArray.data_append, Array.toList_append, ← List.append_assoc]
        unfold dgt; rw [show (48 + (v : Int) % 10).toNat = 48 + v % 10 from by omega]
      clear z1 hsz HB
      go_wp2
      go_roundw
      case rel => exact ⟨v / 10, _, by omega, by go_num, rfl, HN.out, hb.alloc hb.size _⟩
      case measure => simp [RowKit.intOf]; omega
    · have hv0 : v = 0 := by omega
      subst hv0
      have HE : Hid (B.data.toList = decDigits u) := by show _ = _; rw [← HB.out]; rfl
      clear HB hsz
      go_wp2
      go_ret
      exact ⟨ret_str HE.out, hb⟩
end Go.Proofs.YtejniencggnkiaaDoor
