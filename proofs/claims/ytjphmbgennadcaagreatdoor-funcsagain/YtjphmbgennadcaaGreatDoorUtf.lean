/- Runes: how many bytes the first ones have (sizeOf). -/
import Derived.Test.YtjphmbgennadcaaGreatDoorNmb
import Derived.Lib.TrimUEq
import Derived.Lib.DecodeN
import Derived.Lib.RuneCount
import Derived.Laws.RangeAny
namespace Go.Proofs.YtjphmbgennadcaaGreatDoor
set_option maxHeartbeats 4000000
set_option linter.unusedSimpArgs false
open Go.ChangeShapes Go.WideShapes Go.ChangeAt Go.RowKit


def bsA (bs : List UInt8) : ByteArray := ⟨bs.toArray⟩
theorem bsA_list (l : List UInt8) : (bsA l).data.toList = l := by simp [bsA]
theorem bsA_size (l : List UInt8) : (bsA l).size = l.length := by simp [bsA, ByteArray.size]
theorem bsA_of (s : ByteArray) : bsA s.data.toList = s := by cases s; simp [bsA]
theorem bsA_tl (l : List UInt8) : (bsA l).toList = l := by rw [ByteArray.toList_eq, bsA_list]
theorem bsA_inj {a b : List UInt8} : bsA a = bsA b ↔ a = b := by
  constructor
  · intro h
    have := congrArg (fun x => x.data.toList) h
    simpa [bsA_list] using this
  · intro h; rw [h]
theorem ext_drop (l : List UInt8) (z : Nat) : (bsA l).extract z (bsA l).size = bsA (l.drop z) := by
  apply ba_ext
  simp only [bsA, ByteArray.data_extract, Array.toList_extract]
  rw [show ByteArray.size ⟨l.toArray⟩ = l.length by simp [ByteArray.size], List.extract_eq_take_drop, List.take_of_length_le (by simp)]
theorem ext_drop' (l : List UInt8) (z : Nat) : (bsA l).extract z l.length = bsA (l.drop z) := by rw [← ext_drop, bsA_size]
theorem ext_take (l : List UInt8) (z : Nat) : (bsA l).extract 0 z = bsA (l.take z) := by
  apply ba_ext
  simp [bsA, ByteArray.data_extract, List.extract_eq_take_drop]
/-- How wide the first rune is. -/
def rwd (l : List UInt8) : Nat := (Lib.decodeL l).2
theorem rwd_pos (l : List UInt8) : 1 ≤ rwd l := Lib.decodeL_width l
theorem rwd_le {l : List UInt8} (h : l ≠ []) : rwd l ≤ l.length := by
  have h0 : 1 ≤ l.length := by cases l with | nil => exact absurd rfl h | cons a r => simp
  unfold rwd
  rw [Lib.decodeL_N]
  unfold Lib.decodeN
  repeat' split
  all_goals first | (simp only; omega) | omega
/-- How many bytes the first n runes have. -/
def szF : Nat → List UInt8 → Nat
  | 0, _ => 0
  | n + 1, l => if l.isEmpty then 0 else rwd l + szF n (l.drop (rwd l))
theorem szF_le : ∀ (n : Nat) (l : List UInt8), szF n l ≤ l.length
  | 0, _ => Nat.zero_le _
  | n + 1, l => by
    unfold szF
    by_cases h : l = []
    · subst h; simp
    · rw [if_neg (by simpa using h)]
      have h1 := rwd_le h
      have h2 := szF_le n (l.drop (rwd l))
      rw [List.length_drop] at h2
      omega
theorem iter_below (w : World) (s : ByteArray) (pos : Nat) : Below w.heap.size w (w.iter s pos) := by
  unfold World.iter
  exact (Below.refl _ _).alloc (Nat.le_refl _) _
theorem sizeOf_any (l : List UInt8) (n : Int) (hn : I64 n) (w : World) :
    Calls Tryz.prog 98 #[.string (bsA l), .int .i64 n] w fun e w' => e = .returned (.int .i64 (szF n.toNat l : Nat)) ∧ Below w.heap.size w w' := by
  have hz := bsA_size l
  have HDc : Hid (∀ pos, Utf8.decode (bsA l) pos = Lib.decodeL (l.drop pos)) := fun pos => by
    have := Lib.decodeL_drop (bsA l) pos
    rw [bsA_list] at this; exact this.symm
  generalize hs : bsA l = s at *
  have HS : Hid _ := hs
  clear hs
  go_enter Tryz.func98, Tryz.ntmps98
  go_wp2
  go_loopw [1] (fun t wr => ∃ (pos : Nat) (m : Int), wr = w.iter s pos ∧ t = .int .i64 m ∧ pos ≤ l.length ∧ I64 m ∧ pos + szF m.toNat (l.drop pos) = szF n.toNat l) (fun _ wr => l.length - wr.iterPos w.heap.size)
  case atStart => exact ⟨0, n, rfl, rfl, Nat.zero_le _, hn, by rw [List.drop_zero, Nat.zero_add]⟩
  case round =>
    obtain ⟨pos, m, rfl, rfl, hp, hm, hV⟩ := hrel
    have HV : Hid (pos + szF m.toNat (l.drop pos) = szF n.toNat l) := hV
    clear hV
    by_cases hlt : pos < l.length
    · have hps : pos < s.size := by omega
      have hdc := HDc.out pos
      have hnx : ∀ ty, (Instr.next (.pointer (some ⟨w.heap.size, 0, none⟩)) true ty).run Tryz.prog (w.iter s pos) = _ := fun ty => run_next_any w s pos ty hps
      have hne : l.drop pos ≠ [] := by intro e; have := congrArg List.length e; simp at this; omega
      have h1 := rwd_le hne
      have h2 := rwd_pos (l.drop pos)
      rw [List.length_drop] at h1
      have hrw : (Utf8.decode s pos).2 = rwd (l.drop pos) := by rw [hdc]; rfl
      rw [hrw] at hnx
      generalize (Utf8.decode s pos).1 = rn at hnx
      have HE : Hid (l.drop pos ≠ []) := hne
      generalize hq : rwd (l.drop pos) = q at hnx h1 h2
      have HQ : Hid (rwd (l.drop pos) = q) := hq
      clear hq hdc hrw hne
      rcases Int.lt_or_le 0 m with h0 | h0
      · have HN : Hid (pos + q + szF (m - 1).toNat (l.drop (pos + q)) = szF n.toNat l) := by
          show _ = _
          rw [← HV.out]
          obtain ⟨k, hk⟩ : ∃ k : Nat, m.toNat = k + 1 := ⟨m.toNat - 1, by omega⟩
          rw [hk, show (m - 1).toNat = k by omega, szF, if_neg (by simpa using HE.out), HQ.out, List.drop_drop]
          omega
        go_wp2
        go_roundw
        case rel => exact ⟨pos + q, m - 1, rfl, rfl, by omega, by unfold I64 at *; omega, HN.out⟩
        case measure => simp; omega
      · have HN : Hid ((szF n.toNat l : Nat) = pos) := by show _ = _; rw [← HV.out, show m.toNat = 0 by omega, szF, Nat.add_zero]
        go_wp2
        go_ret
        exact ⟨ret_int (by rw [HN.out]), iter_below _ _ _⟩
    · obtain rfl : pos = l.length := by omega
      have hnx : ∀ ty, (Instr.next (.pointer (some ⟨w.heap.size, 0, none⟩)) true ty).run Tryz.prog (w.iter s l.length) = _ := fun ty => run_next_end w s l.length ty (by omega)
      have HN : Hid ((szF n.toNat l : Nat) = l.length) := by
        show _ = _
        rw [← HV.out, List.drop_length]
        cases m.toNat <;> simp [szF]
      go_wp2
      go_ret
      exact ⟨ret_int (by rw [HN.out]), iter_below _ _ _⟩
end Go.Proofs.YtjphmbgennadcaaGreatDoor
