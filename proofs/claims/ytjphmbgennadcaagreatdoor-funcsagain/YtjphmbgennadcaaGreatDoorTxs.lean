/- The functions of texts. -/
import Derived.Test.YtjphmbgennadcaaGreatDoorUtf
import Derived.Test.YtjphmbgennadcaaGreatDoorShelfT
import Derived.Laws.IdiomStrings
import Derived.Deep.WholeRow
namespace Go.Proofs.YtjphmbgennadcaaGreatDoor
set_option maxHeartbeats 4000000
set_option linter.unusedSimpArgs false
open Go.ChangeShapes Go.WideShapes Go.ChangeAt Go.RowKit


theorem ret_t {a b : List UInt8} (h : a = b) : Ending.returned (.tuple #[.agg #[.int .i64 4, .int .i64 0, .string (bsA a)], .int .i64 0]) = .returned (.tuple #[.agg #[.int .i64 4, .int .i64 0, .string (bsA b)], .int .i64 0]) := by rw [h]
theorem ret_s {a b : List UInt8} (h : a = b) : Ending.returned (.string (bsA a)) = .returned (.string (bsA b)) := by rw [h]
theorem trimA (l : List UInt8) (hl : l.length ≤ 140737488355328) (w : World) : Calls Tryz.prog 102 #[.string (bsA l), .string ⟨#[32]⟩] w fun e w' => e = .returned (.string (bsA (Lib.trimB l 32))) ∧ Below w.heap.size w w' := by
  have h := Any.strings_Trim_one Tryz.lays160 (bsA l) 32 (by decide) w (by rw [bsA_size]; omega)
  rw [bsA_list] at h
  refine h.mono ?_
  rintro e w' ⟨rfl, h1 | h1⟩
  · subst h1; exact ⟨rfl, Below.refl _ _⟩
  · subst h1; exact ⟨rfl, (Below.refl _ _).drew⟩
theorem countA (l : List UInt8) (hl : l.length ≤ 140737488355328) (w : World) : Calls Tryz.prog 92 #[.string (bsA l)] w fun e w' => e = .returned (.int .i64 (Lib.runeCount (bsA l))) ∧ Below w.heap.size w w' := by
  have h := Any.utf8_RuneCountInString Tryz.lays195 (bsA l) w (by rw [bsA_size]; omega)
  refine h.mono ?_
  rintro e w' ⟨rfl, pos, rfl⟩
  exact ⟨rfl, iter_below _ _ _⟩
theorem length_any (b off cap : Nat) (k n : Int) (l : List UInt8) (w : World) (hl : l.length ≤ 140737488355328) (hc : w.cell? ⟨b, off, none⟩ = some (.int .i64 k) ∧ w.cell? ⟨b, off + 1, none⟩ = some (.int .i64 n) ∧ w.cell? ⟨b, off + 2, none⟩ = some (.string (bsA l))) :
    Calls Tryz.prog 52 #[.slice (some ⟨b, off, none⟩) 1 cap] w fun e w' => e = .returned (.tuple #[.agg #[.int .i64 2, .int .i64 (Lib.runeCount (bsA l)), .string ⟨#[]⟩], .int .i64 0]) ∧ Below w.heap.size w w' := by
  have hbl := cell_lt hc.1
  obtain ⟨c0, c1, c2⟩ := hc
  have h1 := fun w => countA l hl w
  go_enter Tryz.func52, Tryz.ntmps52
  go_wp2_with fail
  refine (h1 _).mono ?_
  rintro e w1 ⟨rfl, hb1⟩
  have hz1 : w.heap.size < w1.heap.size := by have := hb1.size; simp at this; omega
  obtain ⟨hc1, hf1⟩ := bcell hb1
  go_wp2_with fail
  refine (whole_any _ _).mono ?_
  rintro e w2 ⟨rfl, hb2⟩
  have hb3 := hb1.trans (hb2.mono hb1.size)
  obtain ⟨hc2, hf2⟩ := bcell hb3
  clear hc1 hf1
  go_wp2
  exact bodyPost_ret (v := .tuple #[.agg #[.int .i64 2, .int .i64 (Lib.runeCount (bsA l)), .string ⟨#[]⟩], .int .i64 0]) (by simp [results, Tryz.results52, go_sem, hc2]) rfl ⟨rfl, (Bel.out (by repeat (first | exact Bel.refl _ | assumption | refine Bel.drew ?_ | refine Bel.drewN ?_ _ | refine Bel.alloc ?_ _ | refine Bel.setCell ?_ (by simp <;> omega) _ | refine Bel.step ?_ (by assumption))))⟩
theorem trim_any (b off cap : Nat) (k n : Int) (l : List UInt8) (w : World) (hl : l.length ≤ 140737488355328) (hc : w.cell? ⟨b, off, none⟩ = some (.int .i64 k) ∧ w.cell? ⟨b, off + 1, none⟩ = some (.int .i64 n) ∧ w.cell? ⟨b, off + 2, none⟩ = some (.string (bsA l))) :
    Calls Tryz.prog 64 #[.slice (some ⟨b, off, none⟩) 1 cap] w fun e w' => e = .returned (.tuple #[.agg #[.int .i64 4, .int .i64 0, .string (bsA (Lib.trimB l 32))], .int .i64 0]) ∧ Below w.heap.size w w' := by
  have hbl := cell_lt hc.1
  obtain ⟨c0, c1, c2⟩ := hc
  have h1 := fun w => trimA l hl w
  go_enter Tryz.func64, Tryz.ntmps64
  go_wp2_with fail
  refine (h1 _).mono ?_
  rintro e w1 ⟨rfl, hb1⟩
  have hz1 : w.heap.size < w1.heap.size := by have := hb1.size; simp at this; omega
  obtain ⟨hc1, hf1⟩ := bcell hb1
  go_wp2_with fail
  refine (text10_any _ _).mono ?_
  rintro e w2 ⟨rfl, hb2⟩
  have hb3 := hb1.trans (hb2.mono hb1.size)
  obtain ⟨hc2, hf2⟩ := bcell hb3
  clear hc1 hf1
  go_wp2
  exact bodyPost_ret (v := .tuple #[.agg #[.int .i64 4, .int .i64 0, .string (bsA (Lib.trimB l 32))], .int .i64 0]) (by simp [results, Tryz.results64, go_sem, hc2]) rfl ⟨rfl, (Bel.out (by repeat (first | exact Bel.refl _ | assumption | refine Bel.drew ?_ | refine Bel.drewN ?_ _ | refine Bel.alloc ?_ _ | refine Bel.setCell ?_ (by simp <;> omega) _ | refine Bel.step ?_ (by assumption))))⟩

/-- Letters as others, byte by byte. -/
def trnP (f t : UInt8) (c : UInt8) : UInt8 := if f.toNat ≤ c.toNat ∧ c.toNat < f.toNat + 26 then UInt8.ofNat (c.toNat - f.toNat + t.toNat) else c
def trnL (f t : UInt8) (l : List UInt8) : List UInt8 := l.map (trnP f t)
/-- Bytes that lie in a row of the call's own. -/
structure Bmk (w : World) (g : Nat) (l : List UInt8) (wr : World) : Prop where
  bel : Bel w.heap.size w wr
  ge : w.heap.size ≤ g
  lt : g < wr.heap.size
  cs : ∀ i, i < l.length → wr.cell? ⟨g, i, none⟩ = some (.int .u8 ((l.getD i 0).toNat : Int))
  fr : ∀ i, i < l.length → wr.frozen? ⟨g, i, none⟩ = false
theorem Bmk.set {w wr : World} {g i : Nat} {l : List UInt8} {c : UInt8} (h : Bmk w g l wr) (hi : i < l.length) : Bmk w g (l.set i c) (wr.setCell ⟨g, i, none⟩ (.int .u8 (c.toNat : Int))) where
  bel := h.bel.setCell h.ge _
  ge := h.ge
  lt := by simpa [World.setCell] using h.lt
  cs := fun j hj => by
    rw [List.length_set] at hj
    by_cases e : j = i
    · subst e
      rw [World.cell?_setCell_same _ _ _ (h.cs j hi)]
      simp [List.getD_eq_getElem?_getD, hi]
    · rw [set_off e, h.cs j hj]
      simp [List.getD_eq_getElem?_getD, List.getElem?_set_ne (Ne.symm e)]
  fr := fun j hj => by rw [List.length_set] at hj; rw [World.frozen?_setCell]; exact h.fr j hj
theorem bytesA (l : List UInt8) (w : World) : ∃ (cap : Nat) (W : World), (convert 9 76 (.string (bsA l))).run Tryz.prog w = .ok (.slice (some ⟨w.heap.size, 0, none⟩) l.length cap) W ∧ Bmk w w.heap.size l W := by
  have h := run_bytes_of_string (P := Tryz.prog) w 9 76 5 (bsA l) Tryz.underlying9 Tryz.underlying76 Tryz.underlying5
  rw [bsA_size] at h
  refine ⟨_, _, h, ?_⟩
  have hlast := heap_alloc_last w.drew (.cells (bytesRow (bsA l) (grownCap w l.length 0 5)) 5 ((bytesRow (bsA l) (grownCap w l.length 0 5)).size, (bytesRow (bsA l) (grownCap w l.length 0 5)).size + 1))
  have hsz : l.length ≤ (bytesRow (bsA l) (grownCap w l.length 0 5)).size := by
    unfold bytesRow
    rw [Array.size_append, Array.size_map]
    have : (bsA l).data.size = l.length := bsA_size l
    omega
  refine { bel := (Bel.refl _).drew.alloc _, ge := Nat.le_refl _, lt := by simp, cs := fun i hi => ?_, fr := fun i hi => ?_ }
  · unfold World.cell?
    dsimp only
    rw [show w.heap.size = w.drew.heap.size from rfl, hlast]
    simp only
    rw [bytesRow_at _ _ _ (by show i < (bsA l).size; rw [bsA_size]; exact hi)]
    simp [bsA, List.getD_eq_getElem?_getD, hi]
  · unfold World.frozen?
    dsimp only
    rw [show w.heap.size = w.drew.heap.size from rfl, hlast]
    simp
    omega
theorem turned_lo (l : List UInt8) (hl : l.length ≤ 140737488355328) (w : World) : Calls Tryz.prog 93 #[.string (bsA l), .int .u8 65, .int .u8 97] w fun e w' => e = .returned (.string (bsA (trnL 65 97 l))) ∧ Below w.heap.size w w' := by
  obtain ⟨cap, W0, hcv, hB0⟩ := bytesA l w
  have HB0 : Hid (Bmk w w.heap.size l W0) := hB0
  obtain ⟨g, hg⟩ : ∃ g, g = w.heap.size := ⟨_, rfl⟩
  rw [← hg] at HB0 hcv
  clear hg hB0
  go_enter Tryz.func93, Tryz.ntmps93
  go_wp2
  clear hcv
  go_loopw [14] (fun i wr => ∃ (m : Nat) (R : List UInt8), m ≤ l.length ∧ i = .int .i64 m ∧ R = trnL 65 97 (l.take m) ++ l.drop m ∧ Bmk w g R wr) (fun i _ => l.length - (intOf i).toNat)
  case atStart => exact ⟨0, l, Nat.zero_le _, rfl, rfl, HB0.out⟩
  case round =>
    obtain ⟨m, R, hm, rfl, hR, hV⟩ := hrel
    have HV : Hid (Bmk w g R wr) := hV
    have HR : Hid _ := hR
    have HRl : Hid (R.length = l.length) := by show _ = _; rw [hR]; simp [trnL]; omega
    have hgl := hV.lt
    clear hV hR HB0
    rcases Nat.lt_or_ge m l.length with hlt | hge
    · have hRm : R.getD m 0 = l.getD m 0 := by
        rw [HR.out, List.getD_eq_getElem?_getD, List.getElem?_append_right (by simp [trnL]; omega)]
        simp [trnL, List.getD_eq_getElem?_getD, Nat.min_eq_left hm]
      have c0 := HV.out.cs m (by rw [HRl.out]; exact hlt)
      have hf := HV.out.fr m (by rw [HRl.out]; exact hlt)
      rw [hRm] at c0
      have HT : Hid (l.take (m + 1) = l.take m ++ [l.getD m 0]) := by
        show _ = _
        rw [List.take_succ_eq_append_getElem hlt, List.getD_eq_getElem?_getD, List.getElem?_eq_getElem hlt]; rfl
      have HD : Hid (l.drop m = l.getD m 0 :: l.drop (m + 1)) := by
        show _ = _
        rw [List.drop_eq_getElem_cons hlt, List.getD_eq_getElem?_getD, List.getElem?_eq_getElem hlt]; rfl
      generalize l.getD m 0 = c at *
      have hc255 := c.toNat_lt
      obtain ⟨x, hx⟩ : ∃ x : Int, (c.toNat : Int) = x := ⟨_, rfl⟩
      rw [hx] at c0
      have HX : Hid ((c.toNat : Int) = x) := hx
      have x0 : 0 ≤ x := by omega
      have x1 : x < 256 := by omega
      clear hx hRm
      have HKeep : Hid (trnP 65 97 c = c → R = trnL 65 97 (l.take (m + 1)) ++ l.drop (m + 1)) := by
        intro e
        rw [HR.out, HT.out, HD.out, trnL, trnL, List.map_append, List.map_cons, List.map_nil, e, List.append_assoc]; rfl
      rcases Int.lt_or_le x 65 with h1 | h1
      · have HN := HKeep.out (by unfold trnP; rw [if_neg (by have := HX.out; simp; omega)])
        have HN2 : Hid _ := HN
        clear HN HKeep
        go_wp2
        go_roundw
        case rel => exact ⟨m + 1, R, by omega, by go_num, HN2.out, HV.out⟩
        case measure => simp [intOf]; omega
      · rcases Int.lt_or_le x 91 with h2 | h2
        · have hc' : trnP 65 97 c = UInt8.ofNat (c.toNat - 65 + 97) := by unfold trnP; rw [if_pos (by have := HX.out; simp; omega)]; rfl
          have hcn : ((UInt8.ofNat (c.toNat - 65 + 97)).toNat : Int) = x - 65 + 97 := by
            have hx1 := HX.out
            have e : (UInt8.ofNat (c.toNat - 65 + 97)).toNat = (c.toNat - 65 + 97) % 256 := by simp only [UInt8.toNat_ofNat', Nat.reducePow]
            rw [e]
            omega
          have HN : Hid (R.set m (UInt8.ofNat (c.toNat - 65 + 97)) = trnL 65 97 (l.take (m + 1)) ++ l.drop (m + 1)) := by
            show _ = _
            rw [HR.out, HT.out, HD.out, trnL, trnL, List.map_append, List.map_cons, List.map_nil, hc', List.set_append_right _ _ (by simp; omega)]
            simp [Nat.min_eq_left hm]
          have HS : Hid _ := HV.out.set (c := UInt8.ofNat (c.toNat - 65 + 97)) (i := m) (by rw [HRl.out]; exact hlt)
          rw [hcn] at HS
          clear hc' hcn HKeep
          go_wp2
          go_roundw
          case rel => exact ⟨m + 1, _, by omega, by go_num, HN.out, HS.out⟩
          case measure => simp [intOf]; omega
        · have HN := HKeep.out (by unfold trnP; rw [if_neg (by have := HX.out; simp; omega)])
          have HN2 : Hid _ := HN
          clear HN HKeep
          go_wp2
          go_roundw
          case rel => exact ⟨m + 1, R, by omega, by go_num, HN2.out, HV.out⟩
          case measure => simp [intOf]; omega
    · obtain rfl : m = l.length := by omega
      have hRe : R = trnL 65 97 l := by rw [HR.out, List.take_length, List.drop_length, List.append_nil]
      have hcv2 : ∀ c, (convert 76 9 (.slice (some ⟨g, 0, none⟩) l.length c)).run Tryz.prog wr = .ok (.string (bsA R)) wr := fun c => by
        have h := run_convert_bytes_back (P := Tryz.prog) wr 76 9 5 ⟨g, 0, none⟩ c R Tryz.underlying76 Tryz.underlying5 Tryz.underlying9 (fun j hj => by
          rw [show (⟨g, 0, none⟩ : Addr).add j = ⟨g, j, none⟩ by unfold Addr.add; split <;> simp_all]
          rw [HV.out.cs j hj, List.getD_eq_getElem?_getD, List.getElem?_eq_getElem hj]; rfl)
        rw [HRl.out] at h
        exact h
      have hW := HV.out.bel.out
      have HRe : Hid (R = trnL 65 97 l) := hRe
      clear hRe
      go_wp2
      go_ret
      exact ⟨ret_s HRe.out, hW⟩
theorem turned_up (l : List UInt8) (hl : l.length ≤ 140737488355328) (w : World) : Calls Tryz.prog 93 #[.string (bsA l), .int .u8 97, .int .u8 65] w fun e w' => e = .returned (.string (bsA (trnL 97 65 l))) ∧ Below w.heap.size w w' := by
  obtain ⟨cap, W0, hcv, hB0⟩ := bytesA l w
  have HB0 : Hid (Bmk w w.heap.size l W0) := hB0
  obtain ⟨g, hg⟩ : ∃ g, g = w.heap.size := ⟨_, rfl⟩
  rw [← hg] at HB0 hcv
  clear hg hB0
  go_enter Tryz.func93, Tryz.ntmps93
  go_wp2
  clear hcv
  go_loopw [14] (fun i wr => ∃ (m : Nat) (R : List UInt8), m ≤ l.length ∧ i = .int .i64 m ∧ R = trnL 97 65 (l.take m) ++ l.drop m ∧ Bmk w g R wr) (fun i _ => l.length - (intOf i).toNat)
  case atStart => exact ⟨0, l, Nat.zero_le _, rfl, rfl, HB0.out⟩
  case round =>
    obtain ⟨m, R, hm, rfl, hR, hV⟩ := hrel
    have HV : Hid (Bmk w g R wr) := hV
    have HR : Hid _ := hR
    have HRl : Hid (R.length = l.length) := by show _ = _; rw [hR]; simp [trnL]; omega
    have hgl := hV.lt
    clear hV hR HB0
    rcases Nat.lt_or_ge m l.length with hlt | hge
    · have hRm : R.getD m 0 = l.getD m 0 := by
        rw [HR.out, List.getD_eq_getElem?_getD, List.getElem?_append_right (by simp [trnL]; omega)]
        simp [trnL, List.getD_eq_getElem?_getD, Nat.min_eq_left hm]
      have c0 := HV.out.cs m (by rw [HRl.out]; exact hlt)
      have hf := HV.out.fr m (by rw [HRl.out]; exact hlt)
      rw [hRm] at c0
      have HT : Hid (l.take (m + 1) = l.take m ++ [l.getD m 0]) := by
        show _ = _
        rw [List.take_succ_eq_append_getElem hlt, List.getD_eq_getElem?_getD, List.getElem?_eq_getElem hlt]; rfl
      have HD : Hid (l.drop m = l.getD m 0 :: l.drop (m + 1)) := by
        show _ = _
        rw [List.drop_eq_getElem_cons hlt, List.getD_eq_getElem?_getD, List.getElem?_eq_getElem hlt]; rfl
      generalize l.getD m 0 = c at *
      have hc255 := c.toNat_lt
      obtain ⟨x, hx⟩ : ∃ x : Int, (c.toNat : Int) = x := ⟨_, rfl⟩
      rw [hx] at c0
      have HX : Hid ((c.toNat : Int) = x) := hx
      have x0 : 0 ≤ x := by omega
      have x1 : x < 256 := by omega
      clear hx hRm
      have HKeep : Hid (trnP 97 65 c = c → R = trnL 97 65 (l.take (m + 1)) ++ l.drop (m + 1)) := by
        intro e
        rw [HR.out, HT.out, HD.out, trnL, trnL, List.map_append, List.map_cons, List.map_nil, e, List.append_assoc]; rfl
      rcases Int.lt_or_le x 97 with h1 | h1
      · have HN := HKeep.out (by unfold trnP; rw [if_neg (by have := HX.out; simp; omega)])
        have HN2 : Hid _ := HN
        clear HN HKeep
        go_wp2
        go_roundw
        case rel => exact ⟨m + 1, R, by omega, by go_num, HN2.out, HV.out⟩
        case measure => simp [intOf]; omega
      · rcases Int.lt_or_le x 123 with h2 | h2
        · have hc' : trnP 97 65 c = UInt8.ofNat (c.toNat - 97 + 65) := by unfold trnP; rw [if_pos (by have := HX.out; simp; omega)]; rfl
          have hcn : ((UInt8.ofNat (c.toNat - 97 + 65)).toNat : Int) = x - 97 + 65 := by
            have hx1 := HX.out
            have e : (UInt8.ofNat (c.toNat - 97 + 65)).toNat = (c.toNat - 97 + 65) % 256 := by simp only [UInt8.toNat_ofNat', Nat.reducePow]
            rw [e]
            omega
          have HN : Hid (R.set m (UInt8.ofNat (c.toNat - 97 + 65)) = trnL 97 65 (l.take (m + 1)) ++ l.drop (m + 1)) := by
            show _ = _
            rw [HR.out, HT.out, HD.out, trnL, trnL, List.map_append, List.map_cons, List.map_nil, hc', List.set_append_right _ _ (by simp; omega)]
            simp [Nat.min_eq_left hm]
          have HS : Hid _ := HV.out.set (c := UInt8.ofNat (c.toNat - 97 + 65)) (i := m) (by rw [HRl.out]; exact hlt)
          rw [hcn] at HS
          clear hc' hcn HKeep
          go_wp2
          go_roundw
          case rel => exact ⟨m + 1, _, by omega, by go_num, HN.out, HS.out⟩
          case measure => simp [intOf]; omega
        · have HN := HKeep.out (by unfold trnP; rw [if_neg (by have := HX.out; simp; omega)])
          have HN2 : Hid _ := HN
          clear HN HKeep
          go_wp2
          go_roundw
          case rel => exact ⟨m + 1, R, by omega, by go_num, HN2.out, HV.out⟩
          case measure => simp [intOf]; omega
    · obtain rfl : m = l.length := by omega
      have hRe : R = trnL 97 65 l := by rw [HR.out, List.take_length, List.drop_length, List.append_nil]
      have hcv2 : ∀ c, (convert 76 9 (.slice (some ⟨g, 0, none⟩) l.length c)).run Tryz.prog wr = .ok (.string (bsA R)) wr := fun c => by
        have h := run_convert_bytes_back (P := Tryz.prog) wr 76 9 5 ⟨g, 0, none⟩ c R Tryz.underlying76 Tryz.underlying5 Tryz.underlying9 (fun j hj => by
          rw [show (⟨g, 0, none⟩ : Addr).add j = ⟨g, j, none⟩ by unfold Addr.add; split <;> simp_all]
          rw [HV.out.cs j hj, List.getD_eq_getElem?_getD, List.getElem?_eq_getElem hj]; rfl)
        rw [HRl.out] at h
        exact h
      have hW := HV.out.bel.out
      have HRe : Hid (R = trnL 97 65 l) := hRe
      clear hRe
      go_wp2
      go_ret
      exact ⟨ret_s HRe.out, hW⟩
theorem lower_any (b off cap : Nat) (k n : Int) (l : List UInt8) (w : World) (hl : l.length ≤ 140737488355328) (hc : w.cell? ⟨b, off, none⟩ = some (.int .i64 k) ∧ w.cell? ⟨b, off + 1, none⟩ = some (.int .i64 n) ∧ w.cell? ⟨b, off + 2, none⟩ = some (.string (bsA l))) :
    Calls Tryz.prog 53 #[.slice (some ⟨b, off, none⟩) 1 cap] w fun e w' => e = .returned (.tuple #[.agg #[.int .i64 4, .int .i64 0, .string (bsA (trnL 65 97 l))], .int .i64 0]) ∧ Below w.heap.size w w' := by
  have hbl := cell_lt hc.1
  obtain ⟨c0, c1, c2⟩ := hc
  have h1 := fun w => turned_lo l hl w
  go_enter Tryz.func53, Tryz.ntmps53
  go_wp2_with fail
  refine (h1 _).mono ?_
  rintro e w1 ⟨rfl, hb1⟩
  have hz1 : w.heap.size < w1.heap.size := by have := hb1.size; simp at this; omega
  obtain ⟨hc1, hf1⟩ := bcell hb1
  go_wp2_with fail
  refine (text10_any _ _).mono ?_
  rintro e w2 ⟨rfl, hb2⟩
  have hb3 := hb1.trans (hb2.mono hb1.size)
  obtain ⟨hc2, hf2⟩ := bcell hb3
  clear hc1 hf1
  go_wp2
  exact bodyPost_ret (v := .tuple #[.agg #[.int .i64 4, .int .i64 0, .string (bsA (trnL 65 97 l))], .int .i64 0]) (by simp [results, Tryz.results53, go_sem, hc2]) rfl ⟨rfl, (Bel.out (by repeat (first | exact Bel.refl _ | assumption | refine Bel.drew ?_ | refine Bel.drewN ?_ _ | refine Bel.alloc ?_ _ | refine Bel.setCell ?_ (by simp <;> omega) _ | refine Bel.step ?_ (by assumption))))⟩
theorem upper_any (b off cap : Nat) (k n : Int) (l : List UInt8) (w : World) (hl : l.length ≤ 140737488355328) (hc : w.cell? ⟨b, off, none⟩ = some (.int .i64 k) ∧ w.cell? ⟨b, off + 1, none⟩ = some (.int .i64 n) ∧ w.cell? ⟨b, off + 2, none⟩ = some (.string (bsA l))) :
    Calls Tryz.prog 65 #[.slice (some ⟨b, off, none⟩) 1 cap] w fun e w' => e = .returned (.tuple #[.agg #[.int .i64 4, .int .i64 0, .string (bsA (trnL 97 65 l))], .int .i64 0]) ∧ Below w.heap.size w w' := by
  have hbl := cell_lt hc.1
  obtain ⟨c0, c1, c2⟩ := hc
  have h1 := fun w => turned_up l hl w
  go_enter Tryz.func65, Tryz.ntmps65
  go_wp2_with fail
  refine (h1 _).mono ?_
  rintro e w1 ⟨rfl, hb1⟩
  have hz1 : w.heap.size < w1.heap.size := by have := hb1.size; simp at this; omega
  obtain ⟨hc1, hf1⟩ := bcell hb1
  go_wp2_with fail
  refine (text10_any _ _).mono ?_
  rintro e w2 ⟨rfl, hb2⟩
  have hb3 := hb1.trans (hb2.mono hb1.size)
  obtain ⟨hc2, hf2⟩ := bcell hb3
  clear hc1 hf1
  go_wp2
  exact bodyPost_ret (v := .tuple #[.agg #[.int .i64 4, .int .i64 0, .string (bsA (trnL 97 65 l))], .int .i64 0]) (by simp [results, Tryz.results65, go_sem, hc2]) rfl ⟨rfl, (Bel.out (by repeat (first | exact Bel.refl _ | assumption | refine Bel.drew ?_ | refine Bel.drewN ?_ _ | refine Bel.alloc ?_ _ | refine Bel.setCell ?_ (by simp <;> omega) _ | refine Bel.step ?_ (by assumption))))⟩
end Go.Proofs.YtjphmbgennadcaaGreatDoor
