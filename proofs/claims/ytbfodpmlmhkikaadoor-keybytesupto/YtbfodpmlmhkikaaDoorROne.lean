/- The value with which bytes begin: the document's answer. -/
import Derived.Test.YtbfodpmlmhkikaaDoorDcd
namespace Go.Proofs.YtbfodpmlmhkikaaDoor
open Go.ChangeShapes Go.WideShapes Go.ChangeAt Go.RowKit

theorem new33 (w : World) (x y z x' y' z' : Value) : ((w.alloc (.cells #[x, y, z] 53)).alloc (.cells #[x', y', z'] 53)).cell? ⟨w.heap.size, 0, none⟩ = some x ∧ ((w.alloc (.cells #[x, y, z] 53)).alloc (.cells #[x', y', z'] 53)).cell? ⟨w.heap.size, 1, none⟩ = some y ∧ ((w.alloc (.cells #[x, y, z] 53)).alloc (.cells #[x', y', z'] 53)).cell? ⟨w.heap.size, 2, none⟩ = some z := by
  have hb : Below (w.alloc (.cells #[x, y, z] 53)).heap.size (w.alloc (.cells #[x, y, z] 53)) ((w.alloc (.cells #[x, y, z] 53)).alloc (.cells #[x', y', z'] 53)) := (Below.refl _ _).alloc (Nat.le_refl _) _
  exact ⟨cell_below hb (new3_0 _ _ _ _ _), cell_below hb (new3_1 _ _ _ _ _), cell_below hb (new3_2 _ _ _ _ _)⟩
theorem at_s {s : ByteArray} {b : UInt8} {l : List UInt8} (hs : s.data.toList = b :: l) (i : Nat) (h : i + 1 < s.size) (hl : i < l.length) : (s[i + 1]'h) = l[i]'hl := by
  obtain ⟨⟨d⟩⟩ := s
  simp at hs; subst hs; rfl
theorem leN_one {l : List UInt8} (h : 0 < l.length) : leN (l.take 1) = (l[0]'h).toNat := by
  cases l with
  | nil => simp at h
  | cons b l => simp [leN]
theorem leN_two {l : List UInt8} (h : 1 < l.length) : leN (l.take 2) = (l[0]'(by omega)).toNat + 256 * (l[1]'h).toNat := by
  match l, h with
  | b :: c :: l, _ => simp [leN]
theorem leN_drop {l : List UInt8} {m : Nat} (h : m < l.length) : leN (l.drop m) = (l.getD m 0).toNat + 256 * leN (l.drop (m + 1)) := by
  rw [List.drop_eq_getElem_cons h, leN, List.getD_eq_getElem?_getD, List.getElem?_eq_getElem h]; rfl
theorem wrap_eq (x : Nat) : i64 x = wrap64 (x : Int) := by
  unfold i64 wrap64; simp [IntKind.wrap, IntKind.bits, IntKind.signed]; omega
theorem shl_or {A b : Nat} (hA : A < 72057594037927936) (hb : b < 256) : bits .or .u64 ((A : Int) * 256) (b : Int) = ((b + 256 * A : Nat) : Int) := by
  rw [bits_join .u64 64 (by decide) wraps_u64 8 ((A : Int) * 256) (b : Int) (by omega) (by omega) (by omega) (by omega) (by omega) (by omega)]
  omega
set_option maxRecDepth 20000 in
set_option maxHeartbeats 4000000 in
theorem one_0 (s : ByteArray) (l : List UInt8) (w : World) (hs : s.data.toList = 0 :: l) (hmx : s.size ≤ 9223372036854775800) :
    Calls Tryd.prog 30 #[.string s] w fun e w' => e = .returned (.tuple #[.agg #[.int .i64 0, .int .i64 0, .string ⟨#[]⟩], .int .i64 1]) ∧ Below w.heap.size w w' := by
  have HSZ : Hid (s.size = l.length + 1) := by show _ = _; have := congrArg List.length hs; simpa using this
  have hpos : 1 ≤ s.size := by have := HSZ.out; omega
  have h0 : (s[0]'(by omega)) = 0 := first_at hs (by omega)
  clear hs
  go_enter Tryd.func30, Tryd.ntmps30
  go_wp2
  obtain ⟨y0, y1, y2⟩ := new33 w (.int .i64 0) (.int .i64 0) (.string ⟨#[]⟩) (.int .i64 0) (.int .i64 0) (.string ⟨#[]⟩)
  refine bodyPost_ret (v := .tuple #[.agg #[.int .i64 0, .int .i64 0, .string ⟨#[]⟩], .int .i64 1]) (by simp [results, Tryd.results30, go_sem, y0, y1, y2]) rfl ⟨rfl, (Bel.out (by repeat (first | exact Bel.refl _ | assumption | refine Bel.drew ?_ | refine Bel.drewN ?_ _ | refine Bel.alloc ?_ _ | refine Bel.setCell ?_ (by simp <;> omega) _ | refine Bel.step ?_ (by assumption))))⟩
set_option maxRecDepth 20000 in
set_option maxHeartbeats 4000000 in
theorem one_1n (s : ByteArray) (l : List UInt8) (w : World) (hs : s.data.toList = 1 :: l) (hmx : s.size ≤ 9223372036854775800) (hl : l.length < 1) :
    Calls Tryd.prog 30 #[.string s] w fun e w' => e = .returned (.tuple #[.agg #[.int .i64 1, .int .i64 0, .string ⟨#[]⟩], .int .i64 0]) ∧ Below w.heap.size w w' := by
  have HSZ : Hid (s.size = l.length + 1) := by show _ = _; have := congrArg List.length hs; simpa using this
  have hpos : 1 ≤ s.size := by have := HSZ.out; omega
  have h0 : (s[0]'(by omega)) = 1 := first_at hs (by omega)
  have e2 : (2 ≤ (s.size : Int)) = False := eq_false (by have := HSZ.out; omega)
  clear hs
  go_enter Tryd.func30, Tryd.ntmps30
  go_wp2
  obtain ⟨y0, y1, y2⟩ := new33 w (.int .i64 1) (.int .i64 0) (.string ⟨#[]⟩) (.int .i64 1) (.int .i64 0) (.string ⟨#[]⟩)
  refine bodyPost_ret (v := .tuple #[.agg #[.int .i64 1, .int .i64 0, .string ⟨#[]⟩], .int .i64 0]) (by simp [results, Tryd.results30, go_sem, y0, y1, y2]) rfl ⟨rfl, (Bel.out (by repeat (first | exact Bel.refl _ | assumption | refine Bel.drew ?_ | refine Bel.drewN ?_ _ | refine Bel.alloc ?_ _ | refine Bel.setCell ?_ (by simp <;> omega) _ | refine Bel.step ?_ (by assumption))))⟩
set_option maxRecDepth 20000 in
set_option maxHeartbeats 4000000 in
theorem one_1y (s : ByteArray) (l : List UInt8) (w : World) (hs : s.data.toList = 1 :: l) (hmx : s.size ≤ 9223372036854775800) (hl : 1 ≤ l.length) :
    Calls Tryd.prog 30 #[.string s] w fun e w' => e = .returned (.tuple #[.agg #[.int .i64 1, .int .i64 (i64 (leN (l.take 1))), .string ⟨#[]⟩], .int .i64 2]) ∧ Below w.heap.size w w' := by
  have HSZ : Hid (s.size = l.length + 1) := by show _ = _; have := congrArg List.length hs; simpa using this
  have hpos : 1 ≤ s.size := by have := HSZ.out; omega
  have h0 : (s[0]'(by omega)) = 1 := first_at hs (by omega)
  have e1 : 2 ≤ s.size := by have := HSZ.out; omega
  have e2 : (2 ≤ (s.size : Int)) = True := eq_true (by omega)
  have h1 : (s[1]'(by omega)) = l[0]'(by omega) := at_s hs 0 (by omega) (by omega)
  have h2 := leN_one (l := l) (by omega)
  have hb : (l[0]'(by omega)).toNat < 256 := UInt8.toNat_lt _
  rw [h2, i64_small (by omega)]
  have hw : wrap64 ((l[0]'(by omega)).toNat : Int) = (l[0]'(by omega)).toNat := by unfold wrap64; omega
  generalize l[0]'(by omega) = c at h1 hb hw ⊢
  clear hs h2 hb
  go_enter Tryd.func30, Tryd.ntmps30
  go_wp2
  obtain ⟨y0, y1, y2⟩ := new33 w (.int .i64 1) (.int .i64 (c.toNat : Int)) (.string ⟨#[]⟩) (.int .i64 1) (.int .i64 (c.toNat : Int)) (.string ⟨#[]⟩)
  refine bodyPost_ret (v := .tuple #[.agg #[.int .i64 1, .int .i64 (c.toNat : Int), .string ⟨#[]⟩], .int .i64 2]) (by simp [results, Tryd.results30, go_sem, y0, y1, y2]) rfl ⟨rfl, (Bel.out (by repeat (first | exact Bel.refl _ | assumption | refine Bel.drew ?_ | refine Bel.drewN ?_ _ | refine Bel.alloc ?_ _ | refine Bel.setCell ?_ (by simp <;> omega) _ | refine Bel.step ?_ (by assumption))))⟩
set_option maxRecDepth 20000 in
set_option maxHeartbeats 4000000 in
theorem one_2n (s : ByteArray) (l : List UInt8) (w : World) (hs : s.data.toList = 2 :: l) (hmx : s.size ≤ 9223372036854775800) (hl : l.length < 8) :
    Calls Tryd.prog 30 #[.string s] w fun e w' => e = .returned (.tuple #[.agg #[.int .i64 2, .int .i64 0, .string ⟨#[]⟩], .int .i64 0]) ∧ Below w.heap.size w w' := by
  have HSZ : Hid (s.size = l.length + 1) := by show _ = _; have := congrArg List.length hs; simpa using this
  have hpos : 1 ≤ s.size := by have := HSZ.out; omega
  have h0 : (s[0]'(by omega)) = 2 := first_at hs (by omega)
  have e2 : (9 ≤ (s.size : Int)) = False := eq_false (by have := HSZ.out; omega)
  clear hs
  go_enter Tryd.func30, Tryd.ntmps30
  go_wp2
  obtain ⟨y0, y1, y2⟩ := new33 w (.int .i64 2) (.int .i64 0) (.string ⟨#[]⟩) (.int .i64 2) (.int .i64 0) (.string ⟨#[]⟩)
  refine bodyPost_ret (v := .tuple #[.agg #[.int .i64 2, .int .i64 0, .string ⟨#[]⟩], .int .i64 0]) (by simp [results, Tryd.results30, go_sem, y0, y1, y2]) rfl ⟨rfl, (Bel.out (by repeat (first | exact Bel.refl _ | assumption | refine Bel.drew ?_ | refine Bel.drewN ?_ _ | refine Bel.alloc ?_ _ | refine Bel.setCell ?_ (by simp <;> omega) _ | refine Bel.step ?_ (by assumption))))⟩
set_option maxRecDepth 20000 in
set_option maxHeartbeats 4000000 in
theorem one_2y (s : ByteArray) (l : List UInt8) (w : World) (hs : s.data.toList = 2 :: l) (hmx : s.size ≤ 9223372036854775800) (hl : 8 ≤ l.length) :
    Calls Tryd.prog 30 #[.string s] w fun e w' => e = .returned (.tuple #[.agg #[.int .i64 2, .int .i64 (i64 (leN (l.take 8))), .string ⟨#[]⟩], .int .i64 9]) ∧ Below w.heap.size w w' := by
  have HSZ : Hid (s.size = l.length + 1) := by show _ = _; have := congrArg List.length hs; simpa using this
  have hpos : 1 ≤ s.size := by have := HSZ.out; omega
  have h0 : (s[0]'(by omega)) = 2 := first_at hs (by omega)
  have e1 : 9 ≤ s.size := by have := HSZ.out; omega
  have e2 : (9 ≤ (s.size : Int)) = True := eq_true (by omega)
  have h8 : (l.take 8).length = 8 := by rw [List.length_take]; omega
  have HA : Hid (∀ (m : Nat) (hm : m < 8), (s[m + 1]'(by omega)) = (l.take 8).getD m 0) := fun m hm => by rw [at_s hs m (by omega) (by omega), List.getD_eq_getElem?_getD, List.getElem?_eq_getElem (by rw [h8]; exact hm)]; simp
  generalize l.take 8 = q at h8 HA ⊢
  have H8 : Hid _ := h8
  clear hs h8
  go_enter Tryd.func30, Tryd.ntmps30
  go_wp2
  go_loopw [5, 6] (fun x i wr => ∃ m : Nat, m ≤ 8 ∧ i = .int .i64 m ∧ x = .int .u64 (leN (q.drop m)) ∧ wr = (w.alloc (.cells #[.int .i64 0, .int .i64 0, .string ⟨#[]⟩] 53)).alloc (.cells #[.int .i64 2, .int .i64 0, .string ⟨#[]⟩] 53)) (fun _ i _ => (intOf i).toNat)
  case atStart => exact ⟨8, Nat.le_refl _, rfl, by rw [List.drop_of_length_le (by rw [H8.out]; omega)]; rfl, rfl⟩
  case round =>
    obtain ⟨m, hm, rfl, rfl, rfl⟩ := hrel
    rcases Nat.eq_zero_or_pos m with h0' | h0'
    · subst h0'
      simp only [List.drop_zero]
      generalize hx : leN q = X
      have HX : Hid (leN q = X) := hx
      clear hx
      go_wp2
      have HP : Hid (i64 (leN q) = wrap64 (X : Int)) := by show _ = _; rw [HX.out, wrap_eq]
      obtain ⟨y0, y1, y2⟩ := new33 w (.int .i64 2) (.int .i64 (wrap64 (X : Int))) (.string ⟨#[]⟩) (.int .i64 2) (.int .i64 (wrap64 (X : Int))) (.string ⟨#[]⟩)
      refine bodyPost_ret (v := .tuple #[.agg #[.int .i64 2, .int .i64 (wrap64 (X : Int)), .string ⟨#[]⟩], .int .i64 9]) (by simp [results, Tryd.results30, go_sem, y0, y1, y2]) rfl ⟨by rw [HP.out], (Bel.out (by repeat (first | exact Bel.refl _ | assumption | refine Bel.drew ?_ | refine Bel.drewN ?_ _ | refine Bel.alloc ?_ _ | refine Bel.setCell ?_ (by simp <;> omega) _ | refine Bel.step ?_ (by assumption))))⟩
    · obtain ⟨j, rfl⟩ : ∃ j, m = j + 1 := ⟨m - 1, by omega⟩
      have hj : j < 8 := by omega
      have hsj := HA.out j hj
      have hbj : (q.getD j 0).toNat < 256 := UInt8.toNat_lt _
      have hA : leN (q.drop (j + 1)) < 72057594037927936 := by
        have h := leN_lt (q.drop (j + 1))
        have hl' : (q.drop (j + 1)).length ≤ 7 := by rw [List.length_drop, H8.out]; omega
        exact Nat.lt_of_lt_of_le h (Nat.le_trans (Nat.pow_le_pow_right (by omega) hl') (by decide))
      have HN : Hid _ := leN_drop (l := q) (m := j) (by have := H8.out; omega)
      generalize q.getD j 0 = c at hsj hbj HN
      have hor := shl_or hA hbj
      generalize leN (q.drop (j + 1)) = A at hA HN hor ⊢
      have hjs : j + 1 < s.size := by omega
      have HOR : Hid _ := hor
      clear hor
      go_wp2
      go_roundw
      case rel => exact ⟨j, by omega, rfl, by rw [HN.out, HOR.out], trivial⟩
      case measure => simp [intOf]
set_option maxRecDepth 20000 in
set_option maxHeartbeats 4000000 in
theorem one_3n (s : ByteArray) (l : List UInt8) (w : World) (hs : s.data.toList = 3 :: l) (hmx : s.size ≤ 9223372036854775800) (hl : l.length < 8) :
    Calls Tryd.prog 30 #[.string s] w fun e w' => e = .returned (.tuple #[.agg #[.int .i64 3, .int .i64 0, .string ⟨#[]⟩], .int .i64 0]) ∧ Below w.heap.size w w' := by
  have HSZ : Hid (s.size = l.length + 1) := by show _ = _; have := congrArg List.length hs; simpa using this
  have hpos : 1 ≤ s.size := by have := HSZ.out; omega
  have h0 : (s[0]'(by omega)) = 3 := first_at hs (by omega)
  have e2 : (9 ≤ (s.size : Int)) = False := eq_false (by have := HSZ.out; omega)
  clear hs
  go_enter Tryd.func30, Tryd.ntmps30
  go_wp2
  obtain ⟨y0, y1, y2⟩ := new33 w (.int .i64 3) (.int .i64 0) (.string ⟨#[]⟩) (.int .i64 3) (.int .i64 0) (.string ⟨#[]⟩)
  refine bodyPost_ret (v := .tuple #[.agg #[.int .i64 3, .int .i64 0, .string ⟨#[]⟩], .int .i64 0]) (by simp [results, Tryd.results30, go_sem, y0, y1, y2]) rfl ⟨rfl, (Bel.out (by repeat (first | exact Bel.refl _ | assumption | refine Bel.drew ?_ | refine Bel.drewN ?_ _ | refine Bel.alloc ?_ _ | refine Bel.setCell ?_ (by simp <;> omega) _ | refine Bel.step ?_ (by assumption))))⟩
set_option maxRecDepth 20000 in
set_option maxHeartbeats 4000000 in
theorem one_3y (s : ByteArray) (l : List UInt8) (w : World) (hs : s.data.toList = 3 :: l) (hmx : s.size ≤ 9223372036854775800) (hl : 8 ≤ l.length) :
    Calls Tryd.prog 30 #[.string s] w fun e w' => e = .returned (.tuple #[.agg #[.int .i64 3, .int .i64 (i64 (leN (l.take 8))), .string ⟨#[]⟩], .int .i64 9]) ∧ Below w.heap.size w w' := by
  have HSZ : Hid (s.size = l.length + 1) := by show _ = _; have := congrArg List.length hs; simpa using this
  have hpos : 1 ≤ s.size := by have := HSZ.out; omega
  have h0 : (s[0]'(by omega)) = 3 := first_at hs (by omega)
  have e1 : 9 ≤ s.size := by have := HSZ.out; omega
  have e2 : (9 ≤ (s.size : Int)) = True := eq_true (by omega)
  have h8 : (l.take 8).length = 8 := by rw [List.length_take]; omega
  have HA : Hid (∀ (m : Nat) (hm : m < 8), (s[m + 1]'(by omega)) = (l.take 8).getD m 0) := fun m hm => by rw [at_s hs m (by omega) (by omega), List.getD_eq_getElem?_getD, List.getElem?_eq_getElem (by rw [h8]; exact hm)]; simp
  generalize l.take 8 = q at h8 HA ⊢
  have H8 : Hid _ := h8
  clear hs h8
  go_enter Tryd.func30, Tryd.ntmps30
  go_wp2
  go_loopw [5, 6] (fun x i wr => ∃ m : Nat, m ≤ 8 ∧ i = .int .i64 m ∧ x = .int .u64 (leN (q.drop m)) ∧ wr = (w.alloc (.cells #[.int .i64 0, .int .i64 0, .string ⟨#[]⟩] 53)).alloc (.cells #[.int .i64 3, .int .i64 0, .string ⟨#[]⟩] 53)) (fun _ i _ => (intOf i).toNat)
  case atStart => exact ⟨8, Nat.le_refl _, rfl, by rw [List.drop_of_length_le (by rw [H8.out]; omega)]; rfl, rfl⟩
  case round =>
    obtain ⟨m, hm, rfl, rfl, rfl⟩ := hrel
    rcases Nat.eq_zero_or_pos m with h0' | h0'
    · subst h0'
      simp only [List.drop_zero]
      generalize hx : leN q = X
      have HX : Hid (leN q = X) := hx
      clear hx
      go_wp2
      have HP : Hid (i64 (leN q) = wrap64 (X : Int)) := by show _ = _; rw [HX.out, wrap_eq]
      obtain ⟨y0, y1, y2⟩ := new33 w (.int .i64 3) (.int .i64 (wrap64 (X : Int))) (.string ⟨#[]⟩) (.int .i64 3) (.int .i64 (wrap64 (X : Int))) (.string ⟨#[]⟩)
      refine bodyPost_ret (v := .tuple #[.agg #[.int .i64 3, .int .i64 (wrap64 (X : Int)), .string ⟨#[]⟩], .int .i64 9]) (by simp [results, Tryd.results30, go_sem, y0, y1, y2]) rfl ⟨by rw [HP.out], (Bel.out (by repeat (first | exact Bel.refl _ | assumption | refine Bel.drew ?_ | refine Bel.drewN ?_ _ | refine Bel.alloc ?_ _ | refine Bel.setCell ?_ (by simp <;> omega) _ | refine Bel.step ?_ (by assumption))))⟩
    · obtain ⟨j, rfl⟩ : ∃ j, m = j + 1 := ⟨m - 1, by omega⟩
      have hj : j < 8 := by omega
      have hsj := HA.out j hj
      have hbj : (q.getD j 0).toNat < 256 := UInt8.toNat_lt _
      have hA : leN (q.drop (j + 1)) < 72057594037927936 := by
        have h := leN_lt (q.drop (j + 1))
        have hl' : (q.drop (j + 1)).length ≤ 7 := by rw [List.length_drop, H8.out]; omega
        exact Nat.lt_of_lt_of_le h (Nat.le_trans (Nat.pow_le_pow_right (by omega) hl') (by decide))
      have HN : Hid _ := leN_drop (l := q) (m := j) (by have := H8.out; omega)
      generalize q.getD j 0 = c at hsj hbj HN
      have hor := shl_or hA hbj
      generalize leN (q.drop (j + 1)) = A at hA HN hor ⊢
      have hjs : j + 1 < s.size := by omega
      have HOR : Hid _ := hor
      clear hor
      go_wp2
      go_roundw
      case rel => exact ⟨j, by omega, rfl, by rw [HN.out, HOR.out], trivial⟩
      case measure => simp [intOf]
set_option maxRecDepth 20000 in
set_option maxHeartbeats 4000000 in
theorem one_4n1 (s : ByteArray) (l : List UInt8) (w : World) (hs : s.data.toList = 4 :: l) (hmx : s.size ≤ 9223372036854775800) (hl : l.length < 2) :
    Calls Tryd.prog 30 #[.string s] w fun e w' => e = .returned (.tuple #[.agg #[.int .i64 4, .int .i64 0, .string ⟨#[]⟩], .int .i64 0]) ∧ Below w.heap.size w w' := by
  have HSZ : Hid (s.size = l.length + 1) := by show _ = _; have := congrArg List.length hs; simpa using this
  have hpos : 1 ≤ s.size := by have := HSZ.out; omega
  have h0 : (s[0]'(by omega)) = 4 := first_at hs (by omega)
  have e2 : (3 ≤ (s.size : Int)) = False := eq_false (by have := HSZ.out; omega)
  clear hs
  go_enter Tryd.func30, Tryd.ntmps30
  go_wp2
  obtain ⟨y0, y1, y2⟩ := new33 w (.int .i64 4) (.int .i64 0) (.string ⟨#[]⟩) (.int .i64 4) (.int .i64 0) (.string ⟨#[]⟩)
  refine bodyPost_ret (v := .tuple #[.agg #[.int .i64 4, .int .i64 0, .string ⟨#[]⟩], .int .i64 0]) (by simp [results, Tryd.results30, go_sem, y0, y1, y2]) rfl ⟨rfl, (Bel.out (by repeat (first | exact Bel.refl _ | assumption | refine Bel.drew ?_ | refine Bel.drewN ?_ _ | refine Bel.alloc ?_ _ | refine Bel.setCell ?_ (by simp <;> omega) _ | refine Bel.step ?_ (by assumption))))⟩
set_option maxRecDepth 20000 in
set_option maxHeartbeats 4000000 in
theorem one_4n2 (s : ByteArray) (l : List UInt8) (w : World) (hs : s.data.toList = 4 :: l) (hmx : s.size ≤ 9223372036854775800) (hl : 2 ≤ l.length) (hn : (l.drop 2).length < leN (l.take 2)) :
    Calls Tryd.prog 30 #[.string s] w fun e w' => e = .returned (.tuple #[.agg #[.int .i64 4, .int .i64 0, .string ⟨#[]⟩], .int .i64 0]) ∧ Below w.heap.size w w' := by
  have HSZ : Hid (s.size = l.length + 1) := by show _ = _; have := congrArg List.length hs; simpa using this
  have hpos : 1 ≤ s.size := by have := HSZ.out; omega
  have h0 : (s[0]'(by omega)) = 4 := first_at hs (by omega)
  have e1 : 3 ≤ s.size := by have := HSZ.out; omega
  have e2 : (3 ≤ (s.size : Int)) = True := eq_true (by omega)
  have e5 : (1 < (s.size : Int)) = True := eq_true (by omega)
  have e6 : (2 < (s.size : Int)) = True := eq_true (by omega)
  have h1 : (s[1]'(by omega)) = l[0]'(by omega) := at_s hs 0 (by omega) (by omega)
  have h2 : (s[2]'(by omega)) = l[1]'(by omega) := at_s hs 1 (by omega) (by omega)
  have hx := leN_two (l := l) (by omega)
  have hb0 : (l[0]'(by omega)).toNat < 256 := UInt8.toNat_lt _
  have hb1 : (l[1]'(by omega)).toNat < 256 := UInt8.toNat_lt _
  rw [hx, List.length_drop] at hn
  generalize l[0]'(by omega) = c at h1 hb0 hn
  generalize l[1]'(by omega) = d at h2 hb1 hn
  have e3 : (3 + ((c.toNat : Int) + 256 * d.toNat) ≤ (s.size : Int)) = False := eq_false (by have := HSZ.out; omega)
  clear hs hx hn
  go_enter Tryd.func30, Tryd.ntmps30
  go_wp2
  refine wp_region_held_drew (S := (fun wS => Bel ((w.alloc (.cells #[.int .i64 0, .int .i64 0, .string ⟨#[]⟩] 53)).alloc (.cells #[.int .i64 4, .int .i64 0, .string ⟨#[]⟩] 53)).heap.size ((w.alloc (.cells #[.int .i64 0, .int .i64 0, .string ⟨#[]⟩] 53)).alloc (.cells #[.int .i64 4, .int .i64 0, .string ⟨#[]⟩] 53)) wS)) (by kernel_rfl) ?_ (fun hHeld => ?_)
  · (try dsimp only); exact (Bel.refl _).drew
  refine wpAnyH_take (i := 0) (oi := { dst := some 53, op := Op.move (Operand.tmp 0), type := 9, pos := "ref.go:64", after := #[], guard := none }) (v := ?_) rfl (by kernel_rfl) (by kernel_rfl) (by kernel_rfl) (fun _ _ _ h => h) (Or.inl ⟨by kernel_rfl, ?_⟩) (by assumption) ?_
  rotate_left
  · intro wS hSw; (try dsimp only at hSw); go_simp; (try with_reducible rfl)
  try simp only [Act.put, List.setIfInBounds_toArray, List.set_cons_zero, List.set_cons_succ]
  refine wpAnyH_take (i := 1) (oi := { dst := some 54, op := Op.index 9 (Operand.tmp 53) (Operand.const (Value.int IntKind.i64 1)), type := 5, pos := "ref.go:64", after := #[{ on := 0, ground := Ground.data }], guard := none }) (v := ?_) rfl (by kernel_rfl) (by kernel_rfl) (by kernel_rfl) (fun _ _ _ h => h) (Or.inl ⟨by kernel_rfl, ?_⟩) (by assumption) ?_
  rotate_left
  · intro wS hSw; (try dsimp only at hSw); go_simp; (try with_reducible rfl)
  try simp only [Act.put, List.setIfInBounds_toArray, List.set_cons_zero, List.set_cons_succ]
  refine wpAnyH_take (i := 2) (oi := { dst := some 55, op := Op.convert 5 3 (Operand.tmp 54), type := 3, pos := "ref.go:64", after := #[{ on := 1, ground := Ground.data }], guard := none }) (v := ?_) rfl (by kernel_rfl) (by kernel_rfl) (by kernel_rfl) (fun _ _ _ h => h) (Or.inl ⟨by kernel_rfl, ?_⟩) (by assumption) ?_
  rotate_left
  · intro wS hSw; (try dsimp only at hSw); go_simp; (try with_reducible rfl)
  try simp only [Act.put, List.setIfInBounds_toArray, List.set_cons_zero, List.set_cons_succ]
  refine wpAnyH_take (i := 3) (oi := { dst := some 56, op := Op.move (Operand.tmp 0), type := 9, pos := "ref.go:64", after := #[], guard := none }) (v := ?_) rfl (by kernel_rfl) (by kernel_rfl) (by kernel_rfl) (fun _ _ _ h => h) (Or.inl ⟨by kernel_rfl, ?_⟩) (by assumption) ?_
  rotate_left
  · intro wS hSw; (try dsimp only at hSw); go_simp; (try with_reducible rfl)
  try simp only [Act.put, List.setIfInBounds_toArray, List.set_cons_zero, List.set_cons_succ]
  refine wpAnyH_take (i := 4) (oi := { dst := some 57, op := Op.index 9 (Operand.tmp 56) (Operand.const (Value.int IntKind.i64 2)), type := 5, pos := "ref.go:64", after := #[{ on := 3, ground := Ground.data }], guard := none }) (v := ?_) rfl (by kernel_rfl) (by kernel_rfl) (by kernel_rfl) (fun _ _ _ h => h) (Or.inl ⟨by kernel_rfl, ?_⟩) (by assumption) ?_
  rotate_left
  · intro wS hSw; (try dsimp only at hSw); go_simp; (try with_reducible rfl)
  try simp only [Act.put, List.setIfInBounds_toArray, List.set_cons_zero, List.set_cons_succ]
  refine wpAnyH_take (i := 5) (oi := { dst := some 58, op := Op.convert 5 3 (Operand.tmp 57), type := 3, pos := "ref.go:64", after := #[{ on := 4, ground := Ground.data }], guard := none }) (v := ?_) rfl (by kernel_rfl) (by kernel_rfl) (by kernel_rfl) (fun _ _ _ h => h) (Or.inl ⟨by kernel_rfl, ?_⟩) (by assumption) ?_
  rotate_left
  · intro wS hSw; (try dsimp only at hSw); go_simp; (try with_reducible rfl)
  try simp only [Act.put, List.setIfInBounds_toArray, List.set_cons_zero, List.set_cons_succ]
  refine wpAnyH_take (i := 6) (oi := { dst := some 59, op := Op.binOp BinOp.mul 3 (Operand.const (Value.int IntKind.i64 256)) (Operand.tmp 58) 3, type := 3, pos := "ref.go:64", after := #[{ on := 5, ground := Ground.data }], guard := none }) (v := ?_) rfl (by kernel_rfl) (by kernel_rfl) (by kernel_rfl) (fun _ _ _ h => h) (Or.inl ⟨by kernel_rfl, ?_⟩) (by assumption) ?_
  rotate_left
  · intro wS hSw; (try dsimp only at hSw); go_simp; (try with_reducible rfl)
  try simp only [Act.put, List.setIfInBounds_toArray, List.set_cons_zero, List.set_cons_succ]
  refine wpAnyH_take (i := 7) (oi := { dst := some 60, op := Op.binOp BinOp.add 3 (Operand.tmp 55) (Operand.tmp 59) 3, type := 3, pos := "ref.go:64", after := #[{ on := 2, ground := Ground.data }, { on := 6, ground := Ground.data }], guard := none }) (v := ?_) rfl (by kernel_rfl) (by kernel_rfl) (by kernel_rfl) (fun _ _ _ h => h) (Or.inl ⟨by kernel_rfl, ?_⟩) (by assumption) ?_
  rotate_left
  · intro wS hSw; (try dsimp only at hSw); go_simp; (try with_reducible rfl)
  try simp only [Act.put, List.setIfInBounds_toArray, List.set_cons_zero, List.set_cons_succ]
  refine wpAnyH_take (i := 8) (oi := { dst := some 7, op := Op.assign (Operand.tmp 60), type := 3, pos := "ref.go:64", after := #[{ on := 7, ground := Ground.data }, { on := 0, ground := Ground.phase }, { on := 1, ground := Ground.phase }, { on := 2, ground := Ground.phase }, { on := 3, ground := Ground.phase }, { on := 4, ground := Ground.phase }, { on := 5, ground := Ground.phase }, { on := 6, ground := Ground.phase }, { on := 7, ground := Ground.phase }], guard := none }) (v := ?_) rfl (by kernel_rfl) (by kernel_rfl) (by kernel_rfl) (fun _ _ _ h => h) (Or.inl ⟨by kernel_rfl, ?_⟩) (by assumption) ?_
  rotate_left
  · intro wS hSw; (try dsimp only at hSw); go_simp; (try with_reducible rfl)
  try simp only [Act.put, List.setIfInBounds_toArray, List.set_cons_zero, List.set_cons_succ]
  refine wpAnyH_done (by kernel_rfl) ?_ _
  go_wp2
  obtain ⟨y0, y1, y2⟩ := new33 w (.int .i64 4) (.int .i64 0) (.string ⟨#[]⟩) (.int .i64 4) (.int .i64 0) (.string ⟨#[]⟩)
  have z0 : (((w.alloc (.cells #[.int .i64 4, .int .i64 0, .string ⟨#[]⟩] 53)).alloc (.cells #[.int .i64 4, .int .i64 0, .string ⟨#[]⟩] 53)).drew).cell? ⟨w.heap.size, 0, none⟩ = some (.int .i64 4) := y0
  have z1 : (((w.alloc (.cells #[.int .i64 4, .int .i64 0, .string ⟨#[]⟩] 53)).alloc (.cells #[.int .i64 4, .int .i64 0, .string ⟨#[]⟩] 53)).drew).cell? ⟨w.heap.size, 1, none⟩ = some (.int .i64 0) := y1
  have z2 : (((w.alloc (.cells #[.int .i64 4, .int .i64 0, .string ⟨#[]⟩] 53)).alloc (.cells #[.int .i64 4, .int .i64 0, .string ⟨#[]⟩] 53)).drew).cell? ⟨w.heap.size, 2, none⟩ = some (.string ⟨#[]⟩) := y2
  refine bodyPost_ret (v := .tuple #[.agg #[.int .i64 4, .int .i64 0, .string ⟨#[]⟩], .int .i64 0]) (by simp [results, Tryd.results30, go_sem, z0, z1, z2]) rfl ⟨rfl, (Bel.out (by repeat (first | exact Bel.refl _ | assumption | refine Bel.drew ?_ | refine Bel.drewN ?_ _ | refine Bel.alloc ?_ _ | refine Bel.setCell ?_ (by simp <;> omega) _ | refine Bel.step ?_ (by assumption))))⟩
set_option maxRecDepth 20000 in
set_option maxHeartbeats 4000000 in
theorem one_4y (s : ByteArray) (l : List UInt8) (w : World) (hs : s.data.toList = 4 :: l) (hmx : s.size ≤ 9223372036854775800) (hl : 2 ≤ l.length) (hn : leN (l.take 2) ≤ (l.drop 2).length) :
    Calls Tryd.prog 30 #[.string s] w fun e w' => e = .returned (.tuple #[.agg #[.int .i64 4, .int .i64 0, .string (bsA ((l.drop 2).take (leN (l.take 2))))], .int .i64 ((3 + leN (l.take 2) : Nat) : Int)]) ∧ Below w.heap.size w w' := by
  have HSZ : Hid (s.size = l.length + 1) := by show _ = _; have := congrArg List.length hs; simpa using this
  have hpos : 1 ≤ s.size := by have := HSZ.out; omega
  have h0 : (s[0]'(by omega)) = 4 := first_at hs (by omega)
  have e1 : 3 ≤ s.size := by have := HSZ.out; omega
  have e2 : (3 ≤ (s.size : Int)) = True := eq_true (by omega)
  have e5 : (1 < (s.size : Int)) = True := eq_true (by omega)
  have e6 : (2 < (s.size : Int)) = True := eq_true (by omega)
  have h1 : (s[1]'(by omega)) = l[0]'(by omega) := at_s hs 0 (by omega) (by omega)
  have h2 : (s[2]'(by omega)) = l[1]'(by omega) := at_s hs 1 (by omega) (by omega)
  have hx := leN_two (l := l) (by omega)
  have hb0 : (l[0]'(by omega)).toNat < 256 := UInt8.toNat_lt _
  have hb1 : (l[1]'(by omega)).toNat < 256 := UInt8.toNat_lt _
  have HX : Hid (s.extract 3 (3 + leN (l.take 2)) = bsA ((l.drop 2).take (leN (l.take 2)))) := by
    show _ = _
    apply ba_ext
    simp only [bsA, ByteArray.data_extract, Array.toList_extract, hs, List.extract_eq_take_drop]
    rw [Nat.add_sub_cancel_left]; rfl
  rw [hx] at hn HX ⊢
  rw [List.length_drop] at hn
  generalize l[0]'(by omega) = c at h1 hb0 hn HX ⊢
  generalize l[1]'(by omega) = d at h2 hb1 hn HX ⊢
  generalize bsA ((l.drop 2).take (c.toNat + 256 * d.toNat)) = Y at HX ⊢
  have e3 : (3 + ((c.toNat : Int) + 256 * d.toNat) ≤ (s.size : Int)) = True := eq_true (by have := HSZ.out; omega)
  have e4 : 3 + (c.toNat + 256 * d.toNat) ≤ s.size := by have := HSZ.out; omega
  clear hs hx hn
  go_enter Tryd.func30, Tryd.ntmps30
  go_wp2
  refine wp_region_held_drew (S := (fun wS => Bel ((w.alloc (.cells #[.int .i64 0, .int .i64 0, .string ⟨#[]⟩] 53)).alloc (.cells #[.int .i64 4, .int .i64 0, .string ⟨#[]⟩] 53)).heap.size ((w.alloc (.cells #[.int .i64 0, .int .i64 0, .string ⟨#[]⟩] 53)).alloc (.cells #[.int .i64 4, .int .i64 0, .string ⟨#[]⟩] 53)) wS)) (by kernel_rfl) ?_ (fun hHeld => ?_)
  · (try dsimp only); exact (Bel.refl _).drew
  refine wpAnyH_take (i := 0) (oi := { dst := some 53, op := Op.move (Operand.tmp 0), type := 9, pos := "ref.go:64", after := #[], guard := none }) (v := ?_) rfl (by kernel_rfl) (by kernel_rfl) (by kernel_rfl) (fun _ _ _ h => h) (Or.inl ⟨by kernel_rfl, ?_⟩) (by assumption) ?_
  rotate_left
  · intro wS hSw; (try dsimp only at hSw); go_simp; (try with_reducible rfl)
  try simp only [Act.put, List.setIfInBounds_toArray, List.set_cons_zero, List.set_cons_succ]
  refine wpAnyH_take (i := 1) (oi := { dst := some 54, op := Op.index 9 (Operand.tmp 53) (Operand.const (Value.int IntKind.i64 1)), type := 5, pos := "ref.go:64", after := #[{ on := 0, ground := Ground.data }], guard := none }) (v := ?_) rfl (by kernel_rfl) (by kernel_rfl) (by kernel_rfl) (fun _ _ _ h => h) (Or.inl ⟨by kernel_rfl, ?_⟩) (by assumption) ?_
  rotate_left
  · intro wS hSw; (try dsimp only at hSw); go_simp; (try with_reducible rfl)
  try simp only [Act.put, List.setIfInBounds_toArray, List.set_cons_zero, List.set_cons_succ]
  refine wpAnyH_take (i := 2) (oi := { dst := some 55, op := Op.convert 5 3 (Operand.tmp 54), type := 3, pos := "ref.go:64", after := #[{ on := 1, ground := Ground.data }], guard := none }) (v := ?_) rfl (by kernel_rfl) (by kernel_rfl) (by kernel_rfl) (fun _ _ _ h => h) (Or.inl ⟨by kernel_rfl, ?_⟩) (by assumption) ?_
  rotate_left
  · intro wS hSw; (try dsimp only at hSw); go_simp; (try with_reducible rfl)
  try simp only [Act.put, List.setIfInBounds_toArray, List.set_cons_zero, List.set_cons_succ]
  refine wpAnyH_take (i := 3) (oi := { dst := some 56, op := Op.move (Operand.tmp 0), type := 9, pos := "ref.go:64", after := #[], guard := none }) (v := ?_) rfl (by kernel_rfl) (by kernel_rfl) (by kernel_rfl) (fun _ _ _ h => h) (Or.inl ⟨by kernel_rfl, ?_⟩) (by assumption) ?_
  rotate_left
  · intro wS hSw; (try dsimp only at hSw); go_simp; (try with_reducible rfl)
  try simp only [Act.put, List.setIfInBounds_toArray, List.set_cons_zero, List.set_cons_succ]
  refine wpAnyH_take (i := 4) (oi := { dst := some 57, op := Op.index 9 (Operand.tmp 56) (Operand.const (Value.int IntKind.i64 2)), type := 5, pos := "ref.go:64", after := #[{ on := 3, ground := Ground.data }], guard := none }) (v := ?_) rfl (by kernel_rfl) (by kernel_rfl) (by kernel_rfl) (fun _ _ _ h => h) (Or.inl ⟨by kernel_rfl, ?_⟩) (by assumption) ?_
  rotate_left
  · intro wS hSw; (try dsimp only at hSw); go_simp; (try with_reducible rfl)
  try simp only [Act.put, List.setIfInBounds_toArray, List.set_cons_zero, List.set_cons_succ]
  refine wpAnyH_take (i := 5) (oi := { dst := some 58, op := Op.convert 5 3 (Operand.tmp 57), type := 3, pos := "ref.go:64", after := #[{ on := 4, ground := Ground.data }], guard := none }) (v := ?_) rfl (by kernel_rfl) (by kernel_rfl) (by kernel_rfl) (fun _ _ _ h => h) (Or.inl ⟨by kernel_rfl, ?_⟩) (by assumption) ?_
  rotate_left
  · intro wS hSw; (try dsimp only at hSw); go_simp; (try with_reducible rfl)
  try simp only [Act.put, List.setIfInBounds_toArray, List.set_cons_zero, List.set_cons_succ]
  refine wpAnyH_take (i := 6) (oi := { dst := some 59, op := Op.binOp BinOp.mul 3 (Operand.const (Value.int IntKind.i64 256)) (Operand.tmp 58) 3, type := 3, pos := "ref.go:64", after := #[{ on := 5, ground := Ground.data }], guard := none }) (v := ?_) rfl (by kernel_rfl) (by kernel_rfl) (by kernel_rfl) (fun _ _ _ h => h) (Or.inl ⟨by kernel_rfl, ?_⟩) (by assumption) ?_
  rotate_left
  · intro wS hSw; (try dsimp only at hSw); go_simp; (try with_reducible rfl)
  try simp only [Act.put, List.setIfInBounds_toArray, List.set_cons_zero, List.set_cons_succ]
  refine wpAnyH_take (i := 7) (oi := { dst := some 60, op := Op.binOp BinOp.add 3 (Operand.tmp 55) (Operand.tmp 59) 3, type := 3, pos := "ref.go:64", after := #[{ on := 2, ground := Ground.data }, { on := 6, ground := Ground.data }], guard := none }) (v := ?_) rfl (by kernel_rfl) (by kernel_rfl) (by kernel_rfl) (fun _ _ _ h => h) (Or.inl ⟨by kernel_rfl, ?_⟩) (by assumption) ?_
  rotate_left
  · intro wS hSw; (try dsimp only at hSw); go_simp; (try with_reducible rfl)
  try simp only [Act.put, List.setIfInBounds_toArray, List.set_cons_zero, List.set_cons_succ]
  refine wpAnyH_take (i := 8) (oi := { dst := some 7, op := Op.assign (Operand.tmp 60), type := 3, pos := "ref.go:64", after := #[{ on := 7, ground := Ground.data }, { on := 0, ground := Ground.phase }, { on := 1, ground := Ground.phase }, { on := 2, ground := Ground.phase }, { on := 3, ground := Ground.phase }, { on := 4, ground := Ground.phase }, { on := 5, ground := Ground.phase }, { on := 6, ground := Ground.phase }, { on := 7, ground := Ground.phase }], guard := none }) (v := ?_) rfl (by kernel_rfl) (by kernel_rfl) (by kernel_rfl) (fun _ _ _ h => h) (Or.inl ⟨by kernel_rfl, ?_⟩) (by assumption) ?_
  rotate_left
  · intro wS hSw; (try dsimp only at hSw); go_simp; (try with_reducible rfl)
  try simp only [Act.put, List.setIfInBounds_toArray, List.set_cons_zero, List.set_cons_succ]
  refine wpAnyH_done (by kernel_rfl) ?_ _
  go_wp2
  rw [HX.out]
  obtain ⟨y0, y1, y2⟩ := new33 w (.int .i64 4) (.int .i64 0) (.string Y) (.int .i64 4) (.int .i64 0) (.string Y)
  have z0 : (((w.alloc (.cells #[.int .i64 4, .int .i64 0, .string Y] 53)).alloc (.cells #[.int .i64 4, .int .i64 0, .string Y] 53)).drew).cell? ⟨w.heap.size, 0, none⟩ = some (.int .i64 4) := y0
  have z1 : (((w.alloc (.cells #[.int .i64 4, .int .i64 0, .string Y] 53)).alloc (.cells #[.int .i64 4, .int .i64 0, .string Y] 53)).drew).cell? ⟨w.heap.size, 1, none⟩ = some (.int .i64 0) := y1
  have z2 : (((w.alloc (.cells #[.int .i64 4, .int .i64 0, .string Y] 53)).alloc (.cells #[.int .i64 4, .int .i64 0, .string Y] 53)).drew).cell? ⟨w.heap.size, 2, none⟩ = some (.string Y) := y2
  refine bodyPost_ret (v := .tuple #[.agg #[.int .i64 4, .int .i64 0, .string Y], .int .i64 (3 + ((c.toNat : Int) + 256 * d.toNat))]) (by simp [results, Tryd.results30, go_sem, z0, z1, z2]) rfl ⟨by rw [show ((3 + (c.toNat + 256 * d.toNat) : Nat) : Int) = 3 + ((c.toNat : Int) + 256 * d.toNat) by omega], (Bel.out (by repeat (first | exact Bel.refl _ | assumption | refine Bel.drew ?_ | refine Bel.drewN ?_ _ | refine Bel.alloc ?_ _ | refine Bel.setCell ?_ (by simp <;> omega) _ | refine Bel.step ?_ (by assumption))))⟩
set_option maxRecDepth 20000 in
set_option maxHeartbeats 4000000 in
theorem one_x (b : UInt8) (s : ByteArray) (l : List UInt8) (w : World) (hs : s.data.toList = b :: l) (hmx : s.size ≤ 9223372036854775800) (b0 : b ≠ 0) (b1 : b ≠ 1) (b2 : b ≠ 2) (b3 : b ≠ 3) (b4 : b ≠ 4) :
    Calls Tryd.prog 30 #[.string s] w fun e w' => e = .returned (.tuple #[.agg #[.int .i64 (b.toNat : Int), .int .i64 0, .string ⟨#[]⟩], .int .i64 0]) ∧ Below w.heap.size w w' := by
  have HSZ : Hid (s.size = l.length + 1) := by show _ = _; have := congrArg List.length hs; simpa using this
  have hpos : 1 ≤ s.size := by have := HSZ.out; omega
  have h0 : (s[0]'(by omega)) = b := first_at hs (by omega)
  have hbt := b.toNat_lt
  have u : ∀ c : UInt8, b ≠ c → b.toNat ≠ c.toNat := fun c h e => h (UInt8.toNat_inj.1 e)
  have e0 : ((b.toNat : Int) == 0) = false := by have := u 0 b0; simp at this ⊢; omega
  have e1 : ((b.toNat : Int) == 1) = false := by have := u 1 b1; simp at this ⊢; omega
  have e2 : ((b.toNat : Int) == 2) = false := by have := u 2 b2; simp at this ⊢; omega
  have e3 : ((b.toNat : Int) == 3) = false := by have := u 3 b3; simp at this ⊢; omega
  have e4 : ((b.toNat : Int) == 4) = false := by have := u 4 b4; simp at this ⊢; omega
  clear hs u b0 b1 b2 b3 b4
  generalize hbn : b.toNat = bn at *
  go_enter Tryd.func30, Tryd.ntmps30
  go_wp2
  obtain ⟨y0, y1, y2⟩ := new33 w (.int .i64 (bn : Int)) (.int .i64 0) (.string ⟨#[]⟩) (.int .i64 (bn : Int)) (.int .i64 0) (.string ⟨#[]⟩)
  refine bodyPost_ret (v := .tuple #[.agg #[.int .i64 (bn : Int), .int .i64 0, .string ⟨#[]⟩], .int .i64 0]) (by simp [results, Tryd.results30, go_sem, y0, y1, y2]) rfl ⟨rfl, (Bel.out (by repeat (first | exact Bel.refl _ | assumption | refine Bel.drew ?_ | refine Bel.drewN ?_ _ | refine Bel.alloc ?_ _ | refine Bel.setCell ?_ (by simp <;> omega) _ | refine Bel.step ?_ (by assumption))))⟩
theorem one_cut (b : UInt8) (s : ByteArray) (l : List UInt8) (hs : s.data.toList = b :: l) (n : Nat) : s.extract (n + 1) s.size = bsA (l.drop n) := by
  rw [ext_drop, hs]; rfl
/-- What `one` tells. -/
def OneP (s : ByteArray) (v : Val) (n : Nat) : Option (Val × List UInt8) → Prop
  | none => n = 0
  | some (v', l') => (n = 0 ∧ mayV v' = false) ∨ (v = v' ∧ 1 ≤ n ∧ n ≤ s.size ∧ s.extract n s.size = bsA l')
theorem one_any (b : UInt8) (s : ByteArray) (l : List UInt8) (w : World) (hs : s.data.toList = b :: l) (hmx : s.size ≤ 9223372036854775800) :
    Calls Tryd.prog 30 #[.string s] w fun e w' => (∃ (v : Val) (n : Nat), e = .returned (.tuple #[.agg #[.int .i64 v.1, .int .i64 v.2.1, .string v.2.2], .int .i64 (n : Int)]) ∧ OneP s v n (cutV b l)) ∧ Below w.heap.size w w' := by
  have hsz : s.size = l.length + 1 := by have := congrArg List.length hs; simpa using this
  unfold cutV
  split
  · subst b; split
    · exact (one_1n s l w hs hmx (by omega)).mono fun e w' h => ⟨⟨(1, 0, ⟨#[]⟩), 0, h.1, rfl⟩, h.2⟩
    · exact (one_1y s l w hs hmx (by omega)).mono fun e w' h => ⟨⟨(1, i64 (leN (l.take 1)), ⟨#[]⟩), 2, h.1, Or.inr ⟨rfl, by omega, by omega, one_cut 1 s l hs 1⟩⟩, h.2⟩
  · split
    · subst b; split
      · exact (one_2n s l w hs hmx (by omega)).mono fun e w' h => ⟨⟨(2, 0, ⟨#[]⟩), 0, h.1, rfl⟩, h.2⟩
      · exact (one_2y s l w hs hmx (by omega)).mono fun e w' h => ⟨⟨(2, i64 (leN (l.take 8)), ⟨#[]⟩), 9, h.1, Or.inr ⟨rfl, by omega, by omega, one_cut 2 s l hs 8⟩⟩, h.2⟩
    · split
      · subst b; split
        · exact (one_3n s l w hs hmx (by omega)).mono fun e w' h => ⟨⟨(3, 0, ⟨#[]⟩), 0, h.1, rfl⟩, h.2⟩
        · exact (one_3y s l w hs hmx (by omega)).mono fun e w' h => ⟨⟨(3, i64 (leN (l.take 8)), ⟨#[]⟩), 9, h.1, Or.inr ⟨rfl, by omega, by omega, one_cut 3 s l hs 8⟩⟩, h.2⟩
      · split
        · subst b; split
          · exact (one_4n1 s l w hs hmx (by omega)).mono fun e w' h => ⟨⟨(4, 0, ⟨#[]⟩), 0, h.1, rfl⟩, h.2⟩
          · split
            · exact (one_4n2 s l w hs hmx (by omega) (by assumption)).mono fun e w' h => ⟨⟨(4, 0, ⟨#[]⟩), 0, h.1, rfl⟩, h.2⟩
            · have hd : (l.drop 2).length = l.length - 2 := List.length_drop
              exact (one_4y s l w hs hmx (by omega) (by omega)).mono fun e w' h => ⟨⟨(4, 0, bsA ((l.drop 2).take (leN (l.take 2)))), 3 + leN (l.take 2), h.1, Or.inr ⟨rfl, by omega, by omega, by
                have := one_cut 4 s l hs (2 + leN (l.take 2))
                rw [show 3 + leN (l.take 2) = 2 + leN (l.take 2) + 1 by omega, this, List.drop_drop]⟩⟩, h.2⟩
        · by_cases b0 : b = 0
          · subst b0
            exact (one_0 s l w hs hmx).mono fun e w' h => ⟨⟨(0, 0, ⟨#[]⟩), 1, h.1, Or.inr ⟨rfl, by omega, by omega, one_cut 0 s l hs 0⟩⟩, h.2⟩
          · refine (one_x b s l w hs hmx b0 (by assumption) (by assumption) (by assumption) (by assumption)).mono fun e w' h => ⟨⟨((b.toNat : Int), 0, ⟨#[]⟩), 0, h.1, Or.inl ⟨rfl, ?_⟩⟩, h.2⟩
            have u : ∀ c : UInt8, b ≠ c → b.toNat ≠ c.toNat := fun c h e => h (UInt8.toNat_inj.1 e)
            have u0 := u 0 b0
            have u1 := u 1 (by assumption)
            have u2 := u 2 (by assumption)
            have u3 := u 3 (by assumption)
            have u4 := u 4 (by assumption)
            simp at u0 u1 u2 u3 u4
            have g0 : ((b.toNat : Int) == 0) = false := by simp; omega
            have g1 : ((b.toNat : Int) == 1) = false := by simp; omega
            have g2 : ((b.toNat : Int) == 2) = false := by simp; omega
            have g3 : ((b.toNat : Int) == 3) = false := by simp; omega
            have g4 : ((b.toNat : Int) == 4) = false := by simp; omega
            show mayS _ _ _ = false
            simp only [mayS, g0, g1, g2, g3, g4]; rfl
end Go.Proofs.YtbfodpmlmhkikaaDoor
