/- What each function answers for the arguments that it takes. -/
import Derived.Test.YtjphmbgennadcaaGreatDoorCon
namespace Go.Proofs.YtjphmbgennadcaaGreatDoor
set_option maxHeartbeats 4000000
set_option linter.unusedSimpArgs false
open Go.ChangeShapes Go.WideShapes Go.ChangeAt Go.RowKit


/-- What the k-th function answers. -/
def dsP : Nat → List Val → Val × Int
  | 0, r => (((absP (kAt r 0) (nAt r 0) (tAt r 0)).1, (absP (kAt r 0) (nAt r 0) (tAt r 0)).2.1, (absP (kAt r 0) (nAt r 0) (tAt r 0)).2.2.1), (absP (kAt r 0) (nAt r 0) (tAt r 0)).2.2.2)
  | 1, r => ((2, ceilP (kAt r 0) (nAt r 0), ⟨#[]⟩), 0)
  | 2, r => coaP r
  | 3, r => conP r
  | 4, r => ((2, florP (kAt r 0) (nAt r 0), ⟨#[]⟩), 0)
  | 5, r => farP 1 r
  | 6, r => farP (-1) r
  | 7, r => ((2, Lib.runeCount (tAt r 0), ⟨#[]⟩), 0)
  | 8, r => ((4, 0, bsA (trnL 65 97 (tAt r 0).data.toList)), 0)
  | 9, r => nuiP (kAt r 0, nAt r 0, tAt r 0) (kAt r 1, nAt r 1, tAt r 1)
  | 10, r => ((2, rndP (kAt r 0) (nAt r 0), ⟨#[]⟩), 0)
  | 11, r => ((2, Lib.compareInt (nAt r 0) 0, ⟨#[]⟩), 0)
  | 12, r => ((4, 0, bsA (subL (nAt r 1) (nAt r 2) (tAt r 0).data.toList)), 0)
  | 13, r => (((Ar.decS (kAt r 0) (nAt r 0)).1, (Ar.decS (kAt r 0) (nAt r 0)).2.1, ⟨#[]⟩), (Ar.decS (kAt r 0) (nAt r 0)).2.2)
  | 14, r => (((Ar.intS (kAt r 0) (nAt r 0)).1, (Ar.intS (kAt r 0) (nAt r 0)).2.1, ⟨#[]⟩), (Ar.intS (kAt r 0) (nAt r 0)).2.2)
  | 15, r => ((4, (totP (kAt r 0) (nAt r 0) (tAt r 0)).1, (totP (kAt r 0) (nAt r 0) (tAt r 0)).2), 0)
  | 16, r => ((4, 0, bsA (Lib.trimB (tAt r 0).data.toList 32)), 0)
  | _, r => ((4, 0, bsA (trnL 97 65 (tAt r 0).data.toList)), 0)
structure OkD (k : Nat) (r : List Val) : Prop where
  tak : tkP k (ksL r) = true
  may : mayR r = true
/-- Arguments that came in. -/
structure Arg (w : World) (a : Option Addr) (cap : Nat) (r : List Val) : Prop where
  rdy : Ready w
  len : r.length * 32 ≤ 140737488355328
  cap : r.length ≤ cap
  int : IntR r
  row : RowAt w a r
theorem Arg.below {w w' : World} {a : Option Addr} {cap : Nat} {r : List Val} (h : Arg w a cap r) (hb : Below w.heap.size w w') : Arg w' a cap r := ⟨h.rdy.below hb, h.len, h.cap, h.int, h.row.below hb⟩
theorem len_of {r : List Val} {n : Nat} (h : lenB (ksL r) n = true) : r.length = n := by
  have := of_decide_eq_true h
  rwa [ksL_len] at this
theorem and_l {a b : Bool} (h : (a && b) = true) : a = true := by cases a <;> simp_all
theorem len_ge {r : List Val} {b : Bool} (h : (!lenB (ksL r) 0 && b) = true) : 1 ≤ r.length := by
  have h1 := and_l h
  unfold lenB at h1
  rw [ksL_len] at h1
  simp at h1
  cases r with
  | nil => exact absurd rfl h1
  | cons x y => simp
theorem may_size' {k n : Int} {t : ByteArray} (h : mayS k n t = true) : t.size ≤ 1024 := by
  have he : t.toList.isEmpty = true → t.size ≤ 1024 := fun e => by
    have h1 : t.toList = [] := by simpa using e
    rw [ByteArray.toList_eq] at h1
    have h2 : t.data.toList.length = 0 := by rw [h1]; rfl
    have h3 : t.size = t.data.toList.length := by rw [Array.length_toList]; rfl
    omega
  unfold mayS at h
  split at h
  · exact he (by simp at h; simpa using h.2)
  · split at h
    · exact he (by simp at h; simpa using h.2)
    · split at h
      · exact he h
      · split at h
        · exact he h
        · split at h
          · simp at h; omega
          · cases h
theorem mayR_at {r : List Val} (h : mayR r = true) (i : Nat) (hi : i < r.length) : mayS (kAt r i) (nAt r i) (tAt r i) = true := by
  unfold mayR at h
  rw [List.all_eq_true] at h
  have := h r[i] (List.getElem_mem hi)
  unfold kAt nAt tAt
  rw [List.getD_eq_getElem?_getD, List.getElem?_eq_getElem hi]
  exact this
theorem mayR_size {r : List Val} (h : mayR r = true) : ∀ v ∈ r, v.2.2.size ≤ 1024 := by
  intro v hv
  unfold mayR at h
  rw [List.all_eq_true] at h
  exact may_size' (h v hv)
theorem row_cells {w : World} {a : Option Addr} {r : List Val} (h : RowAt w a r) (h1 : 1 ≤ r.length) : ∃ b off, a = some ⟨b, off, none⟩ ∧ ∀ i, i < r.length → w.cell? ⟨b, off + i * 3, none⟩ = some (.int .i64 (kAt r i)) ∧ w.cell? ⟨b, off + i * 3 + 1, none⟩ = some (.int .i64 (nAt r i)) ∧ w.cell? ⟨b, off + i * 3 + 2, none⟩ = some (.string (tAt r i)) := by
  rcases h with h | h
  · omega
  · exact h
theorem does_0 (a : Option Addr) (cap : Nat) (r : List Val) (w : World) (H : Arg w a cap r) (hok : OkD 0 r) : Calls Tryz.prog 42 #[.slice a r.length cap] w fun e w' => e = .returned (.tuple #[.agg #[.int .i64 (dsP 0 r).1.1, .int .i64 (dsP 0 r).1.2.1, .string (dsP 0 r).1.2.2], .int .i64 (dsP 0 r).2]) ∧ Below w.heap.size w w' := by
  obtain ⟨hR, hlen, hcap, hI, hr⟩ := H
  have hl : r.length = 1 := len_of (and_l hok.tak)
  have hm := hok.may
  clear hok hlen hcap
  obtain ⟨b, off, rfl, hc⟩ := row_cells hr (by omega)
  replace hc := hc 0 (by omega)
  rw [Nat.zero_mul, Nat.add_zero] at hc
  rw [hl]
  exact abs_any b off cap _ _ _ w (hI.at 0) hc
theorem does_1 (a : Option Addr) (cap : Nat) (r : List Val) (w : World) (H : Arg w a cap r) (hok : OkD 1 r) : Calls Tryz.prog 43 #[.slice a r.length cap] w fun e w' => e = .returned (.tuple #[.agg #[.int .i64 (dsP 1 r).1.1, .int .i64 (dsP 1 r).1.2.1, .string (dsP 1 r).1.2.2], .int .i64 (dsP 1 r).2]) ∧ Below w.heap.size w w' := by
  obtain ⟨hR, hlen, hcap, hI, hr⟩ := H
  have hl : r.length = 1 := len_of (and_l hok.tak)
  have hm := hok.may
  clear hok hlen hcap
  obtain ⟨b, off, rfl, hc⟩ := row_cells hr (by omega)
  replace hc := hc 0 (by omega)
  rw [Nat.zero_mul, Nat.add_zero] at hc
  rw [hl]
  exact ceil_any b off cap _ _ _ w (hI.at 0) hc
theorem does_2 (a : Option Addr) (cap : Nat) (r : List Val) (w : World) (H : Arg w a cap r) (hok : OkD 2 r) : Calls Tryz.prog 45 #[.slice a r.length cap] w fun e w' => e = .returned (.tuple #[.agg #[.int .i64 (dsP 2 r).1.1, .int .i64 (dsP 2 r).1.2.1, .string (dsP 2 r).1.2.2], .int .i64 (dsP 2 r).2]) ∧ Below w.heap.size w w' := by
  obtain ⟨hR, hlen, hcap, hI, hr⟩ := H
  exact coalesce_any a cap r w (len_ge hok.tak) hlen hcap hI hr
theorem does_3 (a : Option Addr) (cap : Nat) (r : List Val) (w : World) (H : Arg w a cap r) (hok : OkD 3 r) : Calls Tryz.prog 47 #[.slice a r.length cap] w fun e w' => e = .returned (.tuple #[.agg #[.int .i64 (dsP 3 r).1.1, .int .i64 (dsP 3 r).1.2.1, .string (dsP 3 r).1.2.2], .int .i64 (dsP 3 r).2]) ∧ Below w.heap.size w w' := by
  obtain ⟨hR, hlen, hcap, hI, hr⟩ := H
  obtain ⟨b, off, rfl, hc⟩ := row_cells hr (len_ge hok.tak)
  exact concat_any b off cap r w hlen (mayR_size hok.may) hc
theorem does_4 (a : Option Addr) (cap : Nat) (r : List Val) (w : World) (H : Arg w a cap r) (hok : OkD 4 r) : Calls Tryz.prog 48 #[.slice a r.length cap] w fun e w' => e = .returned (.tuple #[.agg #[.int .i64 (dsP 4 r).1.1, .int .i64 (dsP 4 r).1.2.1, .string (dsP 4 r).1.2.2], .int .i64 (dsP 4 r).2]) ∧ Below w.heap.size w w' := by
  obtain ⟨hR, hlen, hcap, hI, hr⟩ := H
  have hl : r.length = 1 := len_of (and_l hok.tak)
  have hm := hok.may
  clear hok hlen hcap
  obtain ⟨b, off, rfl, hc⟩ := row_cells hr (by omega)
  replace hc := hc 0 (by omega)
  rw [Nat.zero_mul, Nat.add_zero] at hc
  rw [hl]
  exact floor_any b off cap _ _ _ w (hI.at 0) hc
theorem does_5 (a : Option Addr) (cap : Nat) (r : List Val) (w : World) (H : Arg w a cap r) (hok : OkD 5 r) : Calls Tryz.prog 49 #[.slice a r.length cap] w fun e w' => e = .returned (.tuple #[.agg #[.int .i64 (dsP 5 r).1.1, .int .i64 (dsP 5 r).1.2.1, .string (dsP 5 r).1.2.2], .int .i64 (dsP 5 r).2]) ∧ Below w.heap.size w w' := by
  obtain ⟨hR, hlen, hcap, hI, hr⟩ := H
  exact greatest_any a cap r w (len_ge hok.tak) hlen hcap hI hr
theorem does_6 (a : Option Addr) (cap : Nat) (r : List Val) (w : World) (H : Arg w a cap r) (hok : OkD 6 r) : Calls Tryz.prog 50 #[.slice a r.length cap] w fun e w' => e = .returned (.tuple #[.agg #[.int .i64 (dsP 6 r).1.1, .int .i64 (dsP 6 r).1.2.1, .string (dsP 6 r).1.2.2], .int .i64 (dsP 6 r).2]) ∧ Below w.heap.size w w' := by
  obtain ⟨hR, hlen, hcap, hI, hr⟩ := H
  exact least_any a cap r w (len_ge hok.tak) hlen hcap hI hr
theorem does_7 (a : Option Addr) (cap : Nat) (r : List Val) (w : World) (H : Arg w a cap r) (hok : OkD 7 r) : Calls Tryz.prog 52 #[.slice a r.length cap] w fun e w' => e = .returned (.tuple #[.agg #[.int .i64 (dsP 7 r).1.1, .int .i64 (dsP 7 r).1.2.1, .string (dsP 7 r).1.2.2], .int .i64 (dsP 7 r).2]) ∧ Below w.heap.size w w' := by
  obtain ⟨hR, hlen, hcap, hI, hr⟩ := H
  have hl : r.length = 1 := len_of (and_l hok.tak)
  have hm := hok.may
  clear hok hlen hcap
  obtain ⟨b, off, rfl, hc⟩ := row_cells hr (by omega)
  replace hc := hc 0 (by omega)
  rw [Nat.zero_mul, Nat.add_zero] at hc
  rw [hl]
  have hs : (tAt r 0).data.toList.length ≤ 140737488355328 := by
    have := may_size' (mayR_at hm 0 (by omega))
    rw [Array.length_toList]
    show (tAt r 0).size ≤ _
    omega
  rw [← bsA_of (tAt r 0)] at hc
  have h := length_any b off cap _ _ _ w hs hc
  rw [bsA_of] at h
  exact h
theorem does_8 (a : Option Addr) (cap : Nat) (r : List Val) (w : World) (H : Arg w a cap r) (hok : OkD 8 r) : Calls Tryz.prog 53 #[.slice a r.length cap] w fun e w' => e = .returned (.tuple #[.agg #[.int .i64 (dsP 8 r).1.1, .int .i64 (dsP 8 r).1.2.1, .string (dsP 8 r).1.2.2], .int .i64 (dsP 8 r).2]) ∧ Below w.heap.size w w' := by
  obtain ⟨hR, hlen, hcap, hI, hr⟩ := H
  have hl : r.length = 1 := len_of (and_l hok.tak)
  have hm := hok.may
  clear hok hlen hcap
  obtain ⟨b, off, rfl, hc⟩ := row_cells hr (by omega)
  replace hc := hc 0 (by omega)
  rw [Nat.zero_mul, Nat.add_zero] at hc
  rw [hl]
  have hs : (tAt r 0).data.toList.length ≤ 140737488355328 := by
    have := may_size' (mayR_at hm 0 (by omega))
    rw [Array.length_toList]
    show (tAt r 0).size ≤ _
    omega
  rw [← bsA_of (tAt r 0)] at hc
  have h := lower_any b off cap _ _ _ w hs hc
  skip
  exact h
theorem does_9 (a : Option Addr) (cap : Nat) (r : List Val) (w : World) (H : Arg w a cap r) (hok : OkD 9 r) : Calls Tryz.prog 55 #[.slice a r.length cap] w fun e w' => e = .returned (.tuple #[.agg #[.int .i64 (dsP 9 r).1.1, .int .i64 (dsP 9 r).1.2.1, .string (dsP 9 r).1.2.2], .int .i64 (dsP 9 r).2]) ∧ Below w.heap.size w w' := by
  obtain ⟨hR, hlen, hcap, hI, hr⟩ := H
  have hl : r.length = 2 := len_of (and_l hok.tak)
  obtain ⟨b, off, rfl, hc⟩ := row_cells hr (by omega)
  have hc0 := hc 0 (by omega)
  have hc1 := hc 1 (by omega)
  rw [Nat.zero_mul, Nat.add_zero] at hc0
  rw [hl]
  exact nullif_any b off cap _ _ _ _ _ _ w (hI.at 0) (hI.at 1) hc0 hc1
theorem does_10 (a : Option Addr) (cap : Nat) (r : List Val) (w : World) (H : Arg w a cap r) (hok : OkD 10 r) : Calls Tryz.prog 56 #[.slice a r.length cap] w fun e w' => e = .returned (.tuple #[.agg #[.int .i64 (dsP 10 r).1.1, .int .i64 (dsP 10 r).1.2.1, .string (dsP 10 r).1.2.2], .int .i64 (dsP 10 r).2]) ∧ Below w.heap.size w w' := by
  obtain ⟨hR, hlen, hcap, hI, hr⟩ := H
  have hl : r.length = 1 := len_of (and_l hok.tak)
  have hm := hok.may
  clear hok hlen hcap
  obtain ⟨b, off, rfl, hc⟩ := row_cells hr (by omega)
  replace hc := hc 0 (by omega)
  rw [Nat.zero_mul, Nat.add_zero] at hc
  rw [hl]
  exact round_any b off cap _ _ _ w (hI.at 0) hc
theorem does_11 (a : Option Addr) (cap : Nat) (r : List Val) (w : World) (H : Arg w a cap r) (hok : OkD 11 r) : Calls Tryz.prog 57 #[.slice a r.length cap] w fun e w' => e = .returned (.tuple #[.agg #[.int .i64 (dsP 11 r).1.1, .int .i64 (dsP 11 r).1.2.1, .string (dsP 11 r).1.2.2], .int .i64 (dsP 11 r).2]) ∧ Below w.heap.size w w' := by
  obtain ⟨hR, hlen, hcap, hI, hr⟩ := H
  have hl : r.length = 1 := len_of (and_l hok.tak)
  have hm := hok.may
  clear hok hlen hcap
  obtain ⟨b, off, rfl, hc⟩ := row_cells hr (by omega)
  replace hc := hc 0 (by omega)
  rw [Nat.zero_mul, Nat.add_zero] at hc
  rw [hl]
  exact sign_any b off cap _ _ _ w hc
theorem does_12 (a : Option Addr) (cap : Nat) (r : List Val) (w : World) (H : Arg w a cap r) (hok : OkD 12 r) : Calls Tryz.prog 59 #[.slice a r.length cap] w fun e w' => e = .returned (.tuple #[.agg #[.int .i64 (dsP 12 r).1.1, .int .i64 (dsP 12 r).1.2.1, .string (dsP 12 r).1.2.2], .int .i64 (dsP 12 r).2]) ∧ Below w.heap.size w w' := by
  obtain ⟨hR, hlen, hcap, hI, hr⟩ := H
  have hl : r.length = 3 := len_of (and_l hok.tak)
  obtain ⟨b, off, rfl, hc⟩ := row_cells hr (by omega)
  have hc0 := (hc 0 (by omega)).2.2
  have hc1 := (hc 1 (by omega)).2.1
  have hc2 := (hc 2 (by omega)).2.1
  rw [Nat.zero_mul, Nat.add_zero, ← bsA_of (tAt r 0)] at hc0
  rw [hl]
  exact substr_any b off cap _ _ _ w (hI.at 1) (hI.at 2) hc0 hc1 hc2
theorem does_13 (a : Option Addr) (cap : Nat) (r : List Val) (w : World) (H : Arg w a cap r) (hok : OkD 13 r) : Calls Tryz.prog 60 #[.slice a r.length cap] w fun e w' => e = .returned (.tuple #[.agg #[.int .i64 (dsP 13 r).1.1, .int .i64 (dsP 13 r).1.2.1, .string (dsP 13 r).1.2.2], .int .i64 (dsP 13 r).2]) ∧ Below w.heap.size w w' := by
  obtain ⟨hR, hlen, hcap, hI, hr⟩ := H
  have hl : r.length = 1 := len_of (and_l hok.tak)
  have hm := hok.may
  clear hok hlen hcap
  obtain ⟨b, off, rfl, hc⟩ := row_cells hr (by omega)
  replace hc := hc 0 (by omega)
  rw [Nat.zero_mul, Nat.add_zero] at hc
  rw [hl]
  exact toDec_any b off cap _ _ _ w (hI.at 0) hc
theorem does_14 (a : Option Addr) (cap : Nat) (r : List Val) (w : World) (H : Arg w a cap r) (hok : OkD 14 r) : Calls Tryz.prog 61 #[.slice a r.length cap] w fun e w' => e = .returned (.tuple #[.agg #[.int .i64 (dsP 14 r).1.1, .int .i64 (dsP 14 r).1.2.1, .string (dsP 14 r).1.2.2], .int .i64 (dsP 14 r).2]) ∧ Below w.heap.size w w' := by
  obtain ⟨hR, hlen, hcap, hI, hr⟩ := H
  have hl : r.length = 1 := len_of (and_l hok.tak)
  have hm := hok.may
  clear hok hlen hcap
  obtain ⟨b, off, rfl, hc⟩ := row_cells hr (by omega)
  replace hc := hc 0 (by omega)
  rw [Nat.zero_mul, Nat.add_zero] at hc
  rw [hl]
  exact toInt_any b off cap _ _ _ w (hI.at 0) hc
theorem does_15 (a : Option Addr) (cap : Nat) (r : List Val) (w : World) (H : Arg w a cap r) (hok : OkD 15 r) : Calls Tryz.prog 63 #[.slice a r.length cap] w fun e w' => e = .returned (.tuple #[.agg #[.int .i64 (dsP 15 r).1.1, .int .i64 (dsP 15 r).1.2.1, .string (dsP 15 r).1.2.2], .int .i64 (dsP 15 r).2]) ∧ Below w.heap.size w w' := by
  obtain ⟨hR, hlen, hcap, hI, hr⟩ := H
  have hl : r.length = 1 := len_of (hok.tak)
  have hm := hok.may
  clear hok hlen hcap
  obtain ⟨b, off, rfl, hc⟩ := row_cells hr (by omega)
  replace hc := hc 0 (by omega)
  rw [Nat.zero_mul, Nat.add_zero] at hc
  rw [hl]
  exact toText_any b off cap _ _ _ w hR (hI.at 0) hc
theorem does_16 (a : Option Addr) (cap : Nat) (r : List Val) (w : World) (H : Arg w a cap r) (hok : OkD 16 r) : Calls Tryz.prog 64 #[.slice a r.length cap] w fun e w' => e = .returned (.tuple #[.agg #[.int .i64 (dsP 16 r).1.1, .int .i64 (dsP 16 r).1.2.1, .string (dsP 16 r).1.2.2], .int .i64 (dsP 16 r).2]) ∧ Below w.heap.size w w' := by
  obtain ⟨hR, hlen, hcap, hI, hr⟩ := H
  have hl : r.length = 1 := len_of (and_l hok.tak)
  have hm := hok.may
  clear hok hlen hcap
  obtain ⟨b, off, rfl, hc⟩ := row_cells hr (by omega)
  replace hc := hc 0 (by omega)
  rw [Nat.zero_mul, Nat.add_zero] at hc
  rw [hl]
  have hs : (tAt r 0).data.toList.length ≤ 140737488355328 := by
    have := may_size' (mayR_at hm 0 (by omega))
    rw [Array.length_toList]
    show (tAt r 0).size ≤ _
    omega
  rw [← bsA_of (tAt r 0)] at hc
  have h := trim_any b off cap _ _ _ w hs hc
  skip
  exact h
theorem does_17 (a : Option Addr) (cap : Nat) (r : List Val) (w : World) (H : Arg w a cap r) (hok : OkD 17 r) : Calls Tryz.prog 65 #[.slice a r.length cap] w fun e w' => e = .returned (.tuple #[.agg #[.int .i64 (dsP 17 r).1.1, .int .i64 (dsP 17 r).1.2.1, .string (dsP 17 r).1.2.2], .int .i64 (dsP 17 r).2]) ∧ Below w.heap.size w w' := by
  obtain ⟨hR, hlen, hcap, hI, hr⟩ := H
  have hl : r.length = 1 := len_of (and_l hok.tak)
  have hm := hok.may
  clear hok hlen hcap
  obtain ⟨b, off, rfl, hc⟩ := row_cells hr (by omega)
  replace hc := hc 0 (by omega)
  rw [Nat.zero_mul, Nat.add_zero] at hc
  rw [hl]
  have hs : (tAt r 0).data.toList.length ≤ 140737488355328 := by
    have := may_size' (mayR_at hm 0 (by omega))
    rw [Array.length_toList]
    show (tAt r 0).size ≤ _
    omega
  rw [← bsA_of (tAt r 0)] at hc
  have h := upper_any b off cap _ _ _ w hs hc
  skip
  exact h
theorem does_all (k : Nat) (hk : k < 18) (a : Option Addr) (cap : Nat) (r : List Val) (w : World) (H : Arg w a cap r) (hok : OkD k r) : Calls Tryz.prog (dsF k) #[.slice a r.length cap] w fun e w' => e = .returned (.tuple #[.agg #[.int .i64 (dsP k r).1.1, .int .i64 (dsP k r).1.2.1, .string (dsP k r).1.2.2], .int .i64 (dsP k r).2]) ∧ Below w.heap.size w w' := by
  rcases (show k = 0 ∨ k = 1 ∨ k = 2 ∨ k = 3 ∨ k = 4 ∨ k = 5 ∨ k = 6 ∨ k = 7 ∨ k = 8 ∨ k = 9 ∨ k = 10 ∨ k = 11 ∨ k = 12 ∨ k = 13 ∨ k = 14 ∨ k = 15 ∨ k = 16 ∨ k = 17 by omega) with rfl | rfl | rfl | rfl | rfl | rfl | rfl | rfl | rfl | rfl | rfl | rfl | rfl | rfl | rfl | rfl | rfl | rfl
  · exact does_0 a cap r w H hok
  · exact does_1 a cap r w H hok
  · exact does_2 a cap r w H hok
  · exact does_3 a cap r w H hok
  · exact does_4 a cap r w H hok
  · exact does_5 a cap r w H hok
  · exact does_6 a cap r w H hok
  · exact does_7 a cap r w H hok
  · exact does_8 a cap r w H hok
  · exact does_9 a cap r w H hok
  · exact does_10 a cap r w H hok
  · exact does_11 a cap r w H hok
  · exact does_12 a cap r w H hok
  · exact does_13 a cap r w H hok
  · exact does_14 a cap r w H hok
  · exact does_15 a cap r w H hok
  · exact does_16 a cap r w H hok
  · exact does_17 a cap r w H hok
theorem ent_all (k : Nat) (hk : k < 18) : Ent (dsF k) := by
  rcases (show k = 0 ∨ k = 1 ∨ k = 2 ∨ k = 3 ∨ k = 4 ∨ k = 5 ∨ k = 6 ∨ k = 7 ∨ k = 8 ∨ k = 9 ∨ k = 10 ∨ k = 11 ∨ k = 12 ∨ k = 13 ∨ k = 14 ∨ k = 15 ∨ k = 16 ∨ k = 17 by omega) with rfl | rfl | rfl | rfl | rfl | rfl | rfl | rfl | rfl | rfl | rfl | rfl | rfl | rfl | rfl | rfl | rfl | rfl
  · exact ent_of Tryz.func42 (by kernel_rfl) rfl
  · exact ent_of Tryz.func43 (by kernel_rfl) rfl
  · exact ent_of Tryz.func45 (by kernel_rfl) rfl
  · exact ent_of Tryz.func47 (by kernel_rfl) rfl
  · exact ent_of Tryz.func48 (by kernel_rfl) rfl
  · exact ent_of Tryz.func49 (by kernel_rfl) rfl
  · exact ent_of Tryz.func50 (by kernel_rfl) rfl
  · exact ent_of Tryz.func52 (by kernel_rfl) rfl
  · exact ent_of Tryz.func53 (by kernel_rfl) rfl
  · exact ent_of Tryz.func55 (by kernel_rfl) rfl
  · exact ent_of Tryz.func56 (by kernel_rfl) rfl
  · exact ent_of Tryz.func57 (by kernel_rfl) rfl
  · exact ent_of Tryz.func59 (by kernel_rfl) rfl
  · exact ent_of Tryz.func60 (by kernel_rfl) rfl
  · exact ent_of Tryz.func61 (by kernel_rfl) rfl
  · exact ent_of Tryz.func63 (by kernel_rfl) rfl
  · exact ent_of Tryz.func64 (by kernel_rfl) rfl
  · exact ent_of Tryz.func65 (by kernel_rfl) rfl
end Go.Proofs.YtjphmbgennadcaaGreatDoor
