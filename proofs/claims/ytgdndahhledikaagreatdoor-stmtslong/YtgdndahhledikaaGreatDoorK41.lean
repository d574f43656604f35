/- ZRNp. -/
import Derived.Test.YtgdndahhledikaaGreatDoorK32
namespace Go.Proofs.YtgdndahhledikaaGreatDoor
section
open Go.ChangeShapes Go.WideShapes Go.ChangeAt Go.RowKit
set_option linter.unusedSimpArgs false
set_option maxRecDepth 20000
set_option maxHeartbeats 4000000
def stC (r : List (List UInt8)) : List Value := r.map fun x => .string (bsA x)
def StsAt (w : World) (a : Option Addr) (r : List (List UInt8)) : Prop :=
 r = [] ∨ ∃ b off, a = some ⟨b, off, none⟩ ∧ ∀ i x, r[i]? = some x → w.cell? ⟨b, off + i, none⟩ = some (.string (bsA x))
theorem StsAt.below {w w' : World} {a : Option Addr} {r : List (List UInt8)} (h : StsAt w a r) (hb : Below w.heap.size w w') : StsAt w' a r := by
 rcases h with h | ⟨b, off, ha, hc⟩
 · exact Or.inl h
 · exact Or.inr ⟨b, off, ha, fun i x hi => cell_below hb (hc i x hi)⟩
theorem cell_new (w : World) (vs : List Value) (T : TypeId) (i : Nat) (v : Value) (h : vs[i]? = some v) : (w.alloc (.cells vs.toArray T)).cell? ⟨w.heap.size, 0 + i, none⟩ = some v := by
 have he : (w.alloc (.cells vs.toArray T)).heap[w.heap.size]? = some (.cells vs.toArray T) := by show (w.heap.push _)[w.heap.size]? = _; simp
 unfold World.cell?
 simp only [he, Nat.zero_add]
 simpa using h
set_option maxRecDepth 20000 in
set_option maxHeartbeats 4000000 in
theorem RWords_any (w : World) : Calls Tryz.prog 53 #[] w fun e w' => (∃ a cap, e = .returned (.slice a 58 cap) ∧ StsAt w' a wdL) ∧ Below w.heap.size w w' := by
 go_enter Tryz.func53, Tryz.ntmps53
 go_wp2
 go_ret
 refine ⟨⟨_, _, rfl, Or.inr ⟨_, _, rfl, fun i x hi => ?_⟩⟩, (Below.refl _ _).alloc (Nat.le_refl _) _⟩
 exact cell_new w (stC wdL) 9 i _ (by unfold stC; rw [List.getElem?_map, hi]; rfl)
end
section
open Go.ChangeShapes Go.WideShapes Go.ChangeAt Go.RowKit
set_option linter.unusedSimpArgs false
set_option maxRecDepth 20000
set_option maxHeartbeats 4000000
set_option maxHeartbeats 4000000 in
theorem rdigit_any (c : Nat) (w : World) : Calls Tryz.prog 34 #[.int .u8 c] w fun e w' => e = .returned (.bool (dgB c)) ∧ w' = w := by
 have hc : c < 48 ∨ (48 ≤ c ∧ c ≤ 57) ∨ 57 < c := by omega
 rcases hc with h | h | h
 ·
  have e : dgB c = false := by simp [dgB]; omega
  rw [e]
  have e0 : ((48 : Int) ≤ (c : Int)) = False := eq_false (by omega)
  go_enter Tryz.func34, Tryz.ntmps34
  go_wp2
  go_ret
  exact ⟨rfl, rfl⟩
 ·
  have e : dgB c = true := by simp [dgB]; omega
  rw [e]
  have e0 : ((48 : Int) ≤ (c : Int)) = True := eq_true (by omega)
  have e1 : ((c : Int) ≤ (57 : Int)) = True := eq_true (by omega)
  go_enter Tryz.func34, Tryz.ntmps34
  go_wp2
  go_ret
  exact ⟨rfl, rfl⟩
 ·
  have e : dgB c = false := by simp [dgB]; omega
  rw [e]
  have e0 : ((48 : Int) ≤ (c : Int)) = True := eq_true (by omega)
  have e1 : ((c : Int) ≤ (57 : Int)) = False := eq_false (by omega)
  go_enter Tryz.func34, Tryz.ntmps34
  go_wp2
  go_ret
  exact ⟨rfl, rfl⟩
set_option maxHeartbeats 4000000 in
theorem rletter_any (c : Nat) (w : World) : Calls Tryz.prog 33 #[.int .u8 c] w fun e w' => e = .returned (.bool (ltB c)) ∧ w' = w := by
 have hc : c < 65 ∨ (65 ≤ c ∧ c ≤ 90) ∨ (90 < c ∧ c < 97 ∧ c ≠ 95) ∨ c = 95 ∨ (97 ≤ c ∧ c ≤ 122) ∨ 122 < c := by omega
 rcases hc with h | h | h | h | h | h
 ·
  have e : ltB c = false := by simp [ltB]; omega
  rw [e]
  have e0 : ((97 : Int) ≤ (c : Int)) = False := eq_false (by omega)
  have e1 : ((65 : Int) ≤ (c : Int)) = False := eq_false (by omega)
  have e2 : ((c : Int) == 95) = false := by rw [beq_eq_false_iff_ne]; omega
  clear h
  go_enter Tryz.func33, Tryz.ntmps33
  go_wp2
  go_ret
  exact ⟨rfl, rfl⟩
 ·
  have e : ltB c = true := by simp [ltB]; omega
  rw [e]
  have e0 : ((97 : Int) ≤ (c : Int)) = False := eq_false (by omega)
  have e1 : ((65 : Int) ≤ (c : Int)) = True := eq_true (by omega)
  have e2 : ((c : Int) ≤ (90 : Int)) = True := eq_true (by omega)
  clear h
  go_enter Tryz.func33, Tryz.ntmps33
  go_wp2
  go_ret
  exact ⟨rfl, rfl⟩
 ·
  have e : ltB c = false := by simp [ltB]; omega
  rw [e]
  have e0 : ((97 : Int) ≤ (c : Int)) = False := eq_false (by omega)
  have e1 : ((65 : Int) ≤ (c : Int)) = True := eq_true (by omega)
  have e2 : ((c : Int) ≤ (90 : Int)) = False := eq_false (by omega)
  have e3 : ((c : Int) == 95) = false := by rw [beq_eq_false_iff_ne]; omega
  clear h
  go_enter Tryz.func33, Tryz.ntmps33
  go_wp2
  go_ret
  exact ⟨rfl, rfl⟩
 ·
  subst h
  rw [show ltB 95 = true from rfl]
  go_enter Tryz.func33, Tryz.ntmps33
  go_wp2
  go_ret
  exact ⟨rfl, rfl⟩
 ·
  have e : ltB c = true := by simp [ltB]; omega
  rw [e]
  have e0 : ((97 : Int) ≤ (c : Int)) = True := eq_true (by omega)
  have e1 : ((c : Int) ≤ (122 : Int)) = True := eq_true (by omega)
  clear h
  go_enter Tryz.func33, Tryz.ntmps33
  go_wp2
  go_ret
  exact ⟨rfl, rfl⟩
 ·
  have e : ltB c = false := by simp [ltB]; omega
  rw [e]
  have e0 : ((97 : Int) ≤ (c : Int)) = True := eq_true (by omega)
  have e1 : ((c : Int) ≤ (122 : Int)) = False := eq_false (by omega)
  have e2 : ((65 : Int) ≤ (c : Int)) = True := eq_true (by omega)
  have e3 : ((c : Int) ≤ (90 : Int)) = False := eq_false (by omega)
  have e4 : ((c : Int) == 95) = false := by rw [beq_eq_false_iff_ne]; omega
  clear h
  go_enter Tryz.func33, Tryz.ntmps33
  go_wp2
  go_ret
  exact ⟨rfl, rfl⟩
theorem pre_take {s t : List UInt8} (h : t.length ≤ s.length) : Lib.hasPrefix s t = (s.take t.length == t) := by
 have := Lib.hasPrefix_of_take s t
 rw [decide_eq_true h, Bool.true_and] at this
 exact this.symm
theorem pre_short {s t : List UInt8} (h : ¬ t.length ≤ s.length) : Lib.hasPrefix s t = false := by
 have := Lib.hasPrefix_of_take s t
 rw [decide_eq_false h, Bool.false_and] at this
 exact this.symm
set_option maxRecDepth 20000 in
set_option maxHeartbeats 4000000 in
theorem begins_any (s t : List UInt8) (w : World) : Calls Tryz.prog 31 #[.string (bsA s), .string (bsA t)] w fun e w' => e = .returned (.bool (Lib.hasPrefix s t)) ∧ w' = w := by
 have hzs := bsA_size s
 have hzt := bsA_size t
 by_cases h : t.length ≤ s.length
 ·
  rw [pre_take h]
  have hx := ext_take s t.length
  have h1 := bsA_tl (s.take t.length)
  have h2 := bsA_tl t
  go_enter Tryz.func31, Tryz.ntmps31
  go_wp2
  go_ret
  exact ⟨rfl, rfl⟩
 ·
  rw [pre_short h]
  go_enter Tryz.func31, Tryz.ntmps31
  go_wp2
  go_ret
  exact ⟨rfl, rfl⟩
set_option maxRecDepth 20000 in
set_option maxHeartbeats 4000000 in
theorem find_any (s t : List UInt8) (w : World) (hs : s.length ≤ 104857600) (ht : t.length ≤ 104857600) (h1 : 1 ≤ t.length) : Calls Tryz.prog 32 #[.string (bsA s), .string (bsA t)] w fun e w' => e = .returned (.int .i64 (Lib.index s t)) ∧ w' = w := by
 have hzs := bsA_size s
 have hzt := bsA_size t
 have htl := bsA_tl t
 go_enter Tryz.func32, Tryz.ntmps32
 go_wp2
 go_loopw [5] (fun y wr => ∃ m : Nat, m ≤ s.length + 1 ∧ y = .int .i64 m ∧ (∀ j, j < m → Lib.occAt s t j = false) ∧ wr = w) (fun y _ => s.length + 1 - (intOf y).toNat)
 case atStart => exact ⟨0, Nat.zero_le _, rfl, fun j hj => absurd hj (Nat.not_lt_zero _), rfl⟩
 case round =>
  obtain ⟨m, hm, rfl, hH, rfl⟩ := hrel
  have HH : Hid (∀ j, j < m → Lib.occAt s t j = false) := hH
  clear hH
  rcases Nat.lt_or_ge s.length (m + t.length) with hgt | hle
  ·
   have HN : Hid (Lib.index s t = -1) := Lib.index_none fun j hj => by
    by_cases hjm : j < m
    · exact HH.out j hjm
    ·
     cases ho : Lib.occAt s t j with
     | false => rfl
     | true =>
      rcases Lib.occAt_room ho with h | h
      · omega
      · rw [h] at h1; simp at h1
   go_wp2
   go_ret
   exact ⟨ret_int HN.out.symm, rfl⟩
  ·
   have hx : (bsA s).extract m (m + t.length) = bsA ((s.drop m).take t.length) := by rw [ext_mid]; congr 2; omega
   have ho := Lib.occAt_iff_take s t m hle
   have htl2 := bsA_tl ((s.drop m).take t.length)
   generalize (s.drop m).take t.length = p at hx ho htl2
   cases hp : (p == t) with
   | true =>
    rw [hp] at ho
    have HN : Hid (Lib.index s t = m) := Lib.index_first (by omega) ho HH.out
    go_wp2
    go_ret
    exact ⟨ret_int HN.out.symm, rfl⟩
   | false =>
    rw [hp] at ho
    have HN : Hid (∀ j, j < m + 1 → Lib.occAt s t j = false) := fun j hj => by
     by_cases hjm : j < m
     · exact HH.out j hjm
     ·
      have : j = m := by omega
      subst this; exact ho
    clear ho
    go_wp2
    go_roundw
    case rel => exact ⟨m + 1, by omega, by go_num, HN.out, trivial⟩
    case measure => simp [intOf]; omega
set_option maxRecDepth 20000 in
set_option maxHeartbeats 4000000 in
theorem word_any (l : List UInt8) (w : World) : Calls Tryz.prog 36 #[.string (bsA l)] w fun e w' => e = .returned (.bool (wdL.contains l)) ∧ Below w.heap.size w w' := by
 go_enter Tryz.func36, Tryz.ntmps36
 go_wp2_with fail
 refine (RWords_any w).mono ?_
 rintro e w1 ⟨⟨a1, cap1, rfl, hs1⟩, hb1⟩
 rcases hs1 with h0 | ⟨b, off, rfl, hc⟩
 · cases h0
 have HC : Hid _ := hc
 clear hc
 go_wp2
 go_loopw [4] (fun i wr => ∃ m : Nat, m ≤ 58 ∧ i = .int .i64 m ∧ (wdL.drop m).contains l = wdL.contains l ∧ wr = w1) (fun i _ => 58 - (intOf i).toNat)
 case atStart => exact ⟨0, Nat.zero_le _, rfl, rfl, rfl⟩
 case round =>
  obtain ⟨m, hm, rfl, hH, rfl⟩ := hrel
  have HH : Hid _ := hH
  clear hH
  rcases Nat.lt_or_ge m 58 with hlt | hge
  ·
   have hwi : wdL[m]? = some (wd m) := by
    unfold wd
    rw [List.getD_eq_getElem?_getD, List.getElem?_eq_getElem (by show m < 58; exact hlt)]
    rfl
   have hx := HC.out m _ hwi
   have HD : Hid ((wdL.drop m).contains l = ((wd m == l) || (wdL.drop (m + 1)).contains l)) := by
    show _ = _
    rw [wd_drop hlt, List.contains_cons, BEq.comm (a := l)]
   have ht := bsA_tl (wd m)
   have ht2 := bsA_tl l
   clear hwi
   cases hq : (wd m == l) with
   | true =>
    have HE : Hid (true = wdL.contains l) := by have h1 := HD.out; rw [hq, HH.out] at h1; show true = _; rw [h1]; rfl
    generalize wd m = x at hx ht hq
    go_wp2
    go_ret
    exact ⟨ret_bool HE.out, hb1⟩
   | false =>
    have HE : Hid ((wdL.drop (m + 1)).contains l = wdL.contains l) := by have h1 := HD.out; rw [hq, HH.out] at h1; show _ = _; rw [h1]; simp
    generalize wd m = x at hx ht hq
    go_wp2
    go_roundw
    case rel => exact ⟨m + 1, by omega, by go_num, HE.out, trivial⟩
    case measure => simp [intOf]; omega
  ·
   obtain rfl : m = 58 := by omega
   have HE : Hid (false = wdL.contains l) := by show false = _; rw [← HH.out]; rfl
   go_wp2
   go_ret
   exact ⟨ret_bool HE.out, hb1⟩
end
section
open Go.ChangeShapes Go.WideShapes Go.ChangeAt Go.RowKit
set_option linter.unusedSimpArgs false
set_option maxRecDepth 20000
set_option maxHeartbeats 4000000
def uL : List (List UInt8 × Int) := [([109, 115], 1), ([115], 1000), ([109], 60000), ([104], 3600000), ([100], 86400000)]
def uAt (m : Nat) : List UInt8 × Int := uL.getD m ([], 0)
def unP (s : List UInt8) : Int × Int := if 0 < msN (s.take (ldN ptB s)) then (((s.take (ldN ptB s)).length : Int), msN (s.take (ldN ptB s))) else (0, 0)
theorem un_in : ∀ m, m < 5 → msN (uAt m).1 = (uAt m).2 ∧ 0 < (uAt m).2 ∧ (∀ c ∈ (uAt m).1, ptB c.toNat = true) ∧ (uAt m).1.length ≤ 2 := by decide
theorem un_out {u : List UInt8} (h : ∀ j, j < 5 → (uAt j).1 ≠ u) : msN u = 0 := by
 have h0 : ([109, 115] : List UInt8) ≠ u := h 0 (by omega)
 have h1 : ([115] : List UInt8) ≠ u := h 1 (by omega)
 have h2 : ([109] : List UInt8) ≠ u := h 2 (by omega)
 have h3 : ([104] : List UInt8) ≠ u := h 3 (by omega)
 have h4 : ([100] : List UInt8) ≠ u := h 4 (by omega)
 unfold msN
 rw [if_neg (Ne.symm h0), if_neg (Ne.symm h1), if_neg (Ne.symm h2), if_neg (Ne.symm h3), if_neg (Ne.symm h4)]
theorem ldN_two {p : Nat → Bool} {l : List UInt8} (h : ∀ c ∈ l, p c.toNat = true) (x : List UInt8) : ldN p (l ++ x) = l.length + ldN p x := by
 unfold ldN
 rw [List.takeWhile_append_of_pos (by simpa using h), List.length_append]
theorem pt_lt {c : Nat} (h : ltB c = true) : ptB c = true := by unfold ptB; rw [h]; rfl
theorem pt_dg {c : Nat} (h : dgB c = true) : ptB c = true := by unfold ptB; rw [h]; simp
theorem pt_no {c : Nat} (h : ltB c = false) (h2 : dgB c = false) : ptB c = false := by unfold ptB; rw [h, h2]; rfl
theorem pre_le {s t : List UInt8} (h : Lib.hasPrefix s t = true) : t.length ≤ s.length := by
 by_cases hl : t.length ≤ s.length
 · exact hl
 · rw [pre_short hl] at h; cases h
theorem pre_split {s t : List UInt8} (h : Lib.hasPrefix s t = true) : ∃ r, s = t ++ r := by
 have hl := pre_le h
 rw [pre_take hl] at h
 refine ⟨s.drop t.length, ?_⟩
 have h := eq_of_beq h
 calc s = s.take t.length ++ s.drop t.length := (List.take_append_drop _ _).symm
  _ = _ := by rw [h]
theorem un_no {s t : List UInt8} (h : Lib.hasPrefix s t = false) : t ≠ s.take (ldN ptB s) := fun e => by
 have hl : t.length ≤ s.length := by rw [e, List.length_take]; omega
 rw [pre_take hl] at h
 have : s.take t.length = t := by
  rw [e, List.length_take, Nat.min_eq_left (ldN_le _ _)]
 rw [this] at h
 simp at h
theorem un_more {s t : List UInt8} (h : Lib.hasPrefix s t = true) (ht : ∀ c ∈ t, ptB c.toNat = true) (hi : t.length < s.length) (hp : ptB (s[t.length]).toNat = true) : t ≠ s.take (ldN ptB s) := fun e => by
 obtain ⟨r, rfl⟩ := pre_split h
 rw [ldN_two ht] at e
 have el := congrArg List.length e
 cases r with
 | nil => simp at hi
 | cons c r =>
  have hc : ptB c.toNat = true := by
   rw [List.getElem_append_right (Nat.le_refl _)] at hp
   simpa using hp
  have h1 := ldN_pos (p := ptB) (l := c :: r) (by simp) hc
  have h2 := ldN_le ptB (c :: r)
  rw [List.length_take, List.length_append] at el
  omega
theorem un_yes {s t : List UInt8} (h : Lib.hasPrefix s t = true) (ht : ∀ c ∈ t, ptB c.toNat = true) (hs : ∀ hi : t.length < s.length, ptB (s[t.length]).toNat = false) : s.take (ldN ptB s) = t := by
 obtain ⟨r, rfl⟩ := pre_split h
 rw [ldN_two ht]
 have : ldN ptB r = 0 := by
  cases r with
  | nil => rfl
  | cons c r =>
   have hc := hs (by simp)
   rw [List.getElem_append_right (Nat.le_refl _)] at hc
   have hc : ptB c.toNat = false := by simpa using hc
   unfold ldN
   rw [List.takeWhile_cons, if_neg (by simp [hc])]
   rfl
 rw [this, Nat.add_zero, List.take_left]
theorem un_ret {s t : List UInt8} {z : Int} (h : s.take (ldN ptB s) = t) (hz : msN t = z) (h0 : 0 < z) : unP s = ((t.length : Int), z) := by
 unfold unP; rw [h, hz, if_pos h0]
theorem un_none {s : List UInt8} (h : ∀ j, j < 5 → (uAt j).1 ≠ s.take (ldN ptB s)) : unP s = (0, 0) := by
 unfold unP; rw [un_out h]; rfl
theorem uO1 (w : World) : ∀ m, m < 5 → ((w.alloc (.cells #[.string ⟨#[109, 115]⟩, .string ⟨#[115]⟩, .string ⟨#[109]⟩, .string ⟨#[104]⟩, .string ⟨#[100]⟩] 9)).alloc (.cells #[.int .i64 1, .int .i64 1000, .int .i64 60000, .int .i64 3600000, .int .i64 86400000] 3)).cell? ⟨w.heap.size, m, none⟩ = some (.string (bsA (uAt m).1)) := by
 intro m hm
 match m, hm with
 | 0, _ => simp [go_sem]; rfl
 | 1, _ => simp [go_sem]; rfl
 | 2, _ => simp [go_sem]; rfl
 | 3, _ => simp [go_sem]; rfl
 | 4, _ => simp [go_sem]; rfl
theorem uO2 (w : World) : ∀ m, m < 5 → ((w.alloc (.cells #[.string ⟨#[109, 115]⟩, .string ⟨#[115]⟩, .string ⟨#[109]⟩, .string ⟨#[104]⟩, .string ⟨#[100]⟩] 9)).alloc (.cells #[.int .i64 1, .int .i64 1000, .int .i64 60000, .int .i64 3600000, .int .i64 86400000] 3)).cell? ⟨w.heap.size + 1, m, none⟩ = some (.int .i64 (uAt m).2) := by
 intro m hm
 match m, hm with
 | 0, _ => simp [go_sem]; rfl
 | 1, _ => simp [go_sem]; rfl
 | 2, _ => simp [go_sem]; rfl
 | 3, _ => simp [go_sem]; rfl
 | 4, _ => simp [go_sem]; rfl
set_option maxRecDepth 20000 in
set_option maxHeartbeats 4000000 in
theorem unit_r (s : List UInt8) (w : World) : Calls Tryz.prog 54 #[.string (bsA s)] w fun e w' => e = .returned (.tuple #[.int .i64 (unP s).1, .int .i64 (unP s).2]) ∧ Below w.heap.size w w' := by
 have hz := bsA_size s
 have HU : Hid _ := @un_none s
 have C1 : Hid _ := uO1 w
 have C2 : Hid _ := uO2 w
 have Hb : Hid (Below w.heap.size w ((w.alloc (.cells #[.string ⟨#[109, 115]⟩, .string ⟨#[115]⟩, .string ⟨#[109]⟩, .string ⟨#[104]⟩, .string ⟨#[100]⟩] 9)).alloc (.cells #[.int .i64 1, .int .i64 1000, .int .i64 60000, .int .i64 3600000, .int .i64 86400000] 3))) := ((Below.refl _ _).alloc (Nat.le_refl _) _).alloc (by simp) _
 go_enter Tryz.func54, Tryz.ntmps54
 go_wp2
 generalize ((w.alloc (.cells #[.string ⟨#[109, 115]⟩, .string ⟨#[115]⟩, .string ⟨#[109]⟩, .string ⟨#[104]⟩, .string ⟨#[100]⟩] 9)).alloc (.cells #[.int .i64 1, .int .i64 1000, .int .i64 60000, .int .i64 3600000, .int .i64 86400000] 3)) = W at C1 C2 Hb ⊢
 go_loopw [6] (fun y wr => ∃ m : Nat, m ≤ 5 ∧ y = .int .i64 m ∧ (∀ j, j < m → (uAt j).1 ≠ s.take (ldN ptB s)) ∧ wr = W) (fun y _ => 5 - (intOf y).toNat)
 case atStart => exact ⟨0, Nat.zero_le _, rfl, fun j hj => absurd hj (Nat.not_lt_zero _), rfl⟩
 case round =>
  obtain ⟨m, hm, rfl, hH, rfl⟩ := hrel
  have HH : Hid _ := hH
  clear hH
  rcases Nat.lt_or_ge m 5 with hlt | hge
  ·
   obtain ⟨i1, i2, i3, i4⟩ := un_in m hlt
   have c1 := C1.out m hlt
   have c2 := C2.out m hlt
   clear C1 C2
   have HS : Hid ((uAt m).1 ≠ s.take (ldN ptB s) → ∀ j, j < m + 1 → (uAt j).1 ≠ s.take (ldN ptB s)) := fun h j hj => by
    by_cases hjm : j < m
    · exact HH.out j hjm
    ·
     obtain rfl : j = m := by omega
     exact h
   clear HH HU
   obtain ⟨t, ht⟩ : ∃ t, (uAt m).1 = t := ⟨_, rfl⟩
   obtain ⟨z, hz2⟩ : ∃ z, (uAt m).2 = z := ⟨_, rfl⟩
   rw [ht] at c1 i1 i3 i4 HS
   rw [hz2] at c2 i1 i2
   clear ht hz2
   have hzt := bsA_size t
   have hp := begins_any s t wr
   have I1 : Hid _ := i1
   have I3 : Hid _ := i3
   clear i1 i3
   cases hq : Lib.hasPrefix s t with
   | false =>
    rw [hq] at hp
    have HX : Hid _ := HS.out (un_no hq)
    clear HS hq I1 I3
    go_wp2_with fail
    refine hp.mono ?_
    rintro e w' ⟨rfl, rfl⟩
    go_wp2
    go_roundw
    case rel => exact ⟨m + 1, hlt, by go_num, HX.out, trivial⟩
    case measure => simp [intOf]; omega
   | true =>
    rw [hq] at hp
    have hle := pre_le hq
    rcases Nat.lt_or_ge t.length s.length with hi | hi
    ·
     have hne : ((s.length : Int) == (t.length : Int)) = false := by rw [beq_eq_false_iff_ne]; omega
     have hii : t.length < (bsA s).size := by rw [hz]; exact hi
     have e0 : ((bsA s)[t.length]'hii) = s[t.length] := rfl
     have h3 := rletter_any (s[t.length]).toNat wr
     have h4 := rdigit_any (s[t.length]).toNat wr
     cases hlt2 : ltB (s[t.length]).toNat with
     | true =>
      rw [hlt2] at h3
      have HX : Hid _ := HS.out (un_more hq I3.out hi (pt_lt hlt2))
      clear HS hq I1 I3 h4
      generalize s[t.length] = c at e0 h3
      clear hlt2
      go_wp2_with fail
      refine hp.mono ?_
      rintro e w' ⟨rfl, rfl⟩
      go_wp2_with fail
      refine h3.mono ?_
      rintro e w' ⟨rfl, rfl⟩
      go_wp2
      go_roundw
      case rel => exact ⟨m + 1, hlt, by go_num, HX.out, trivial⟩
      case measure => simp [intOf]; omega
     | false =>
      rw [hlt2] at h3
      cases hdg : dgB (s[t.length]).toNat with
      | true =>
       rw [hdg] at h4
       have HX : Hid _ := HS.out (un_more hq I3.out hi (pt_dg hdg))
       clear HS hq I1 I3
       generalize s[t.length] = c at e0 h3 h4
       clear hlt2 hdg
       go_wp2_with fail
       refine hp.mono ?_
       rintro e w' ⟨rfl, rfl⟩
       go_wp2_with fail
       refine h3.mono ?_
       rintro e w' ⟨rfl, rfl⟩
       go_wp2_with fail
       refine h4.mono ?_
       rintro e w' ⟨rfl, rfl⟩
       go_wp2
       go_roundw
       case rel => exact ⟨m + 1, hlt, by go_num, HX.out, trivial⟩
       case measure => simp [intOf]; omega
      | false =>
       rw [hdg] at h4
       have HX : Hid _ := un_ret (un_yes hq I3.out (fun _ => pt_no hlt2 hdg)) I1.out i2
       clear HS hq I1 I3
       generalize s[t.length] = c at e0 h3 h4
       clear hlt2 hdg
       go_wp2_with fail
       refine hp.mono ?_
       rintro e w' ⟨rfl, rfl⟩
       go_wp2_with fail
       refine h3.mono ?_
       rintro e w' ⟨rfl, rfl⟩
       go_wp2_with fail
       refine h4.mono ?_
       rintro e w' ⟨rfl, rfl⟩
       go_wp2
       go_quiet (fail)
       go_wp2
       go_ret2
       exact ⟨by rw [HX.out]; rfl, Bel.out (by repeat (first | exact Bel.of Hb.out | refine Bel.drew ?_ | refine Bel.drewN ?_ _))⟩
    ·
     have hne : ((s.length : Int) == (t.length : Int)) = true := by rw [beq_iff_eq]; omega
     have HX : Hid _ := un_ret (un_yes hq I3.out (fun hi => absurd hi (by omega))) I1.out i2
     clear HS hq I1 I3 hi
     go_wp2_with fail
     refine hp.mono ?_
     rintro e w' ⟨rfl, rfl⟩
     go_wp2
     go_quiet (fail)
     go_wp2
     go_ret2
     exact ⟨by rw [HX.out]; rfl, Bel.out (by repeat (first | exact Bel.of Hb.out | refine Bel.drew ?_ | refine Bel.drewN ?_ _))⟩
  ·
   obtain rfl : m = 5 := by omega
   have HX : Hid _ := HU.out HH.out
   clear HH HU
   go_wp2
   go_ret2
   exact ⟨by rw [HX.out]; rfl, Hb.out⟩
end
section
open Go.ChangeShapes Go.WideShapes Go.ChangeAt Go.RowKit
set_option linter.unusedSimpArgs false
set_option maxRecDepth 20000
set_option maxHeartbeats 4000000
theorem val_take {d : List UInt8} {m : Nat} (h : m < d.length) : val (d.take (m + 1)) = 10 * val (d.take m) + (d[m].toNat - 48) := by
 rw [List.take_add_one, List.getElem?_eq_getElem h]
 exact val_snoc _ _
theorem val_mono (d : List UInt8) (m : Nat) : val (d.take m) ≤ val d := by
 have := valA_app (d.take m) (d.drop m)
 rw [List.take_append_drop] at this
 rw [this]
 exact valA_ge _ _
def whR (d : List UInt8) : Int × Bool := if val d ≤ 9223372036854775807 then ((val d : Int), true) else (0, false)
set_option maxRecDepth 20000 in
set_option maxHeartbeats 4000000 in
theorem whole_r (d : List UInt8) (w : World) (hd : Dgs d) (hl : d.length ≤ 1048576000) : Calls Tryz.prog 55 #[.string (bsA d)] w fun e w' => e = .returned (.tuple #[.int .i64 (whR d).1, .bool (whR d).2]) ∧ w' = w := by
 have hz := bsA_size d
 go_enter Tryz.func55, Tryz.ntmps55
 go_wp2
 go_loopw [4, 5] (fun x y wr => ∃ m : Nat, m ≤ d.length ∧ x = .int .i64 (val (d.take m) : Int) ∧ y = .int .i64 m ∧ val (d.take m) ≤ 9223372036854775807 ∧ wr = w) (fun _ y _ => d.length - (intOf y).toNat)
 case atStart => exact ⟨0, Nat.zero_le _, rfl, rfl, by show (0 : Nat) ≤ _; omega, rfl⟩
 case round =>
  obtain ⟨m, hm, rfl, rfl, hv, rfl⟩ := hrel
  rcases Nat.lt_or_ge m d.length with hlt | hge
  ·
   have hi : m < (bsA d).size := by rw [hz]; exact hlt
   have hc := hd d[m] (List.getElem_mem _)
   have hvt := val_take hlt
   have hvm := val_mono d (m + 1)
   have e0 : ((bsA d)[m]'hi) = d[m] := rfl
   generalize val (d.take m) = v at hv hvt ⊢
   generalize d[m] = c at hc hvt e0
   obtain ⟨q, hq⟩ : ∃ q : Nat, c.toNat = q + 48 := ⟨c.toNat - 48, by omega⟩
   have hq9 : q ≤ 9 := by omega
   have hw1 : IntKind.u8.wrap ((c.toNat : Int) - 48) = (q : Int) := by rw [IntKind.wrap_u8]; omega
   have hw2 : Int.tdiv (9223372036854775807 - (q : Int)) 10 = (9223372036854775807 - (q : Int)) / 10 := Int.tdiv_eq_ediv_of_nonneg (by omega)
   by_cases hbig : 10 * v + q ≤ 9223372036854775807
   ·
    have hf : ¬ ((9223372036854775807 - (q : Int)) / 10 < (v : Int)) := by omega
    have HN : Hid (val (d.take (m + 1)) = v * 10 + q) := by show _ = _; rw [hvt]; omega
    clear hvt hvm
    go_wp2
    refine ⟨⟨m + 1, hlt, congrArg (Value.int .i64) (by rw [HN.out]; simp), by go_num, by rw [HN.out]; omega, trivial⟩, ?_⟩
    simp [intOf]; omega
   ·
    have hf : (9223372036854775807 - (q : Int)) / 10 < (v : Int) := by omega
    have HN : Hid (whR d = (0, false)) := by show _ = _; unfold whR; rw [if_neg (by omega)]
    clear hvt hvm
    go_wp2
    go_ret2
    exact ⟨by rw [HN.out]; rfl, rfl⟩
  ·
   have hmn : d.take m = d := List.take_of_length_le hge
   rw [hmn] at hv ⊢
   have HN : Hid (whR d = ((val d : Int), true)) := by show _ = _; unfold whR; rw [if_pos hv]
   go_wp2
   go_ret2
   exact ⟨by rw [HN.out]; rfl, rfl⟩
end
section
open Go.ChangeShapes Go.WideShapes Go.ChangeAt Go.RowKit Go.Lib
set_option linter.unusedSimpArgs false
set_option maxRecDepth 20000
set_option maxHeartbeats 4000000
theorem parse_val : ∀ (l : List UInt8) (a n : Nat), Dgs l → Lib.parseUint10 a l = .ok n → n = valA a l
 | [], a, n, _, h => by rw [Lib.parseUint10] at h; injection h with h; exact h.symm
 | c :: r, a, n, hd, h => by
  have hc := hd c (by simp)
  rw [Lib.parseUint10, if_pos hc] at h
  split at h
  · cases h
  ·
   split at h
   · cases h
   ·
    have := parse_val r _ n (fun x hx => hd x (by simp [hx])) h
    rw [this]
    show _ = valA (10 * a + (c.toNat - 48)) r
    rw [Nat.mul_comm a 10]
theorem whl_whR {k : Int} {d : List UInt8} (hl : d ≠ []) (hd : Dgs d) : whlP k d = if (whR d).2 = false then (tk0, 51) else ((k, [], (whR d).1), 0) := by
 unfold whR
 by_cases hv : val d ≤ 9223372036854775807
 ·
  rw [if_pos hv]
  unfold whlP
  rw [atoi_digits hl hd hv]
  rfl
 ·
  rw [if_neg hv]
  unfold whlP
  cases ha : Lib.atoiAll d with
  | «syntax» => rfl
  | range => rfl
  | ok v =>
   exfalso
   cases d with
   | nil => exact absurd rfl hl
   | cons c r =>
    have hc := hd c (by simp)
    rw [Lib.atoiAll_plain c r (by omega) (by omega)] at ha
    cases hp : Lib.parseMag (c :: r) with
    | «syntax» => rw [hp] at ha; cases ha
    | range => rw [hp] at ha; cases ha
    | ok u =>
     rw [hp] at ha
     unfold Lib.parseMag at hp
     rw [if_neg hl] at hp
     have hu := parse_val _ _ _ hd hp
     have hu : u = val (c :: r) := hu
     simp only [Lib.signless] at ha
     rw [if_pos (by omega)] at ha
     cases ha
theorem ldN_pos_cons {p : Nat → Bool} {c : UInt8} (h : p c.toNat = true) (r : List UInt8) : ldN p (c :: r) = ldN p r + 1 := by
 unfold ldN; rw [List.takeWhile_cons, if_pos h]; rfl
theorem ldN_neg_cons {p : Nat → Bool} {c : UInt8} (h : p c.toNat = false) (r : List UInt8) : ldN p (c :: r) = 0 := by
 unfold ldN; rw [List.takeWhile_cons, if_neg (by simp [h])]; rfl
theorem ldN_after (p : Nat → Bool) : ∀ l : List UInt8, ldN p (l.drop (ldN p l)) = 0
 | [] => rfl
 | c :: r => by
  cases hc : p c.toNat with
  | true => rw [ldN_pos_cons hc, List.drop_succ_cons]; exact ldN_after p r
  | false => rw [ldN_neg_cons hc, List.drop_zero, ldN_neg_cons hc]
theorem ldN_all_take (p : Nat → Bool) : ∀ l : List UInt8, ∀ c ∈ l.take (ldN p l), p c.toNat = true
 | [] => by simp
 | c :: r => by
  cases hc : p c.toNat with
  | true =>
   rw [ldN_pos_cons hc, List.take_succ_cons]
   intro x hx
   rcases List.mem_cons.1 hx with rfl | hx
   · exact hc
   · exact ldN_all_take p r x hx
  | false => rw [ldN_neg_cons hc]; simp
theorem dgs_of {d : List UInt8} (h : ∀ c ∈ d, dgB c.toNat = true) : Dgs d := fun c hc => by
 have := h c hc
 unfold dgB at this
 simpa using this
theorem dgs_Dgs (l : List UInt8) : Dgs (dgs l) := dgs_of (ldN_all_take dgB l)
theorem dgs_ne {l : List UInt8} (hne : l ≠ []) (hd0 : dgB (l.headD 0).toNat = true) : dgs l ≠ [] := fun h => by
 have h1 := ldN_pos (p := dgB) hne hd0
 have h2 := congrArg List.length h
 unfold dgs at h2
 have h3 := ldN_le dgB l
 rw [List.length_take, Nat.min_eq_left h3] at h2
 have h2 : ldN dgB l = 0 := h2
 omega
theorem dgs_len (l : List UInt8) : (dgs l).length = ldN dgB l := by
 unfold dgs; rw [List.length_take, Nat.min_eq_left (ldN_le _ _)]
def badN (l : List UInt8) : Bool := decide (1 < ldN dgB l) && (((l.headD 0).toNat : Int) == 48)
theorem ngh_bad {l : List UInt8} (hne : l ≠ []) (hd0 : dgB (l.headD 0).toNat = true) : nghB l = badN l := by
 unfold badN
 match l, hne, hd0 with
 | [c], _, hd0 =>
  have : ldN dgB [c] ≤ 1 := ldN_le _ _
  rw [decide_eq_false (by omega)]; rfl
 | c :: d :: r, _, hd0 =>
  have hc : dgB c.toNat = true := hd0
  rw [ldN_pos_cons hc]
  have h48 : (((c :: d :: r).headD 0).toNat : Int) = c.toNat := rfl
  rw [h48]
  have hb : (c == 48) = ((c.toNat : Int) == 48) := by
   rw [Bool.eq_iff_iff, beq_iff_eq, beq_iff_eq]; exact b48.symm
  show (c == 48 && dgB d.toNat) = _
  rw [hb]
  cases hd : dgB d.toNat with
  | true => rw [decide_eq_true (by rw [ldN_pos_cons hd]; omega), Bool.and_true, Bool.true_and]
  | false => rw [decide_eq_false (by rw [ldN_neg_cons hd]; omega), Bool.and_false, Bool.false_and]
theorem num_per {l : List UInt8} (hne : l ≠ []) (hd0 : dgB (l.headD 0).toNat = true) (h : 0 < msN (unt l)) :
  numP l = if badN l = true then (tk0, 0, 50) else if (whR (dgs l)).2 = false ∨ (whR (dgs l)).1 > 1099511627776 / msN (unt l) then (tk0, 0, 51) else ((7, [], (whR (dgs l)).1 * msN (unt l)), ((ldN dgB l : Int) + (unt l).length), 0) := by
 have hw := whl_whR (k := 7) (dgs_ne hne hd0) (dgs_Dgs l)
 have ha : (amtP l).2.1 = (dgs l).length + (unt l).length := by unfold amtP; rw [if_pos h]
 have hz : ldN ptB (l.drop (amtP l).2.1) = 0 := by
  rw [ha, dgs_len, ← List.drop_drop]
  have hu : (unt l).length = ldN ptB (rst l) := by unfold unt; rw [List.length_take, Nat.min_eq_left (ldN_le _ _)]
  rw [hu]
  exact ldN_after ptB (rst l)
 have he : amtP l = ((perP (dgs l) (msN (unt l))).1, (dgs l).length + (unt l).length, (perP (dgs l) (msN (unt l))).2) := by unfold amtP; rw [if_pos h]
 unfold numP numE
 rw [hz, ngh_bad hne hd0, he, dgs_len]
 clear he hz ha
 unfold perP
 rw [hw]
 generalize msN (unt l) = z
 generalize whR (dgs l) = W
 obtain ⟨W1, W2⟩ := W
 cases badN l <;> cases W2 <;> by_cases hx : W1 > 1099511627776 / z <;> simp [hx]
theorem frc_dgs {l : List UInt8} : Dgs (frcL (rst l)) := by
 unfold frcL
 split
 · exact dgs_of (ldN_all_take dgB _)
 · intro c hc; simp at hc
theorem rep_dgs : ∀ k, Dgs (Lib.repeatL [48] k)
 | 0 => by intro c hc; simp [Lib.repeatL] at hc
 | k + 1 => by
  intro c hc
  simp only [Lib.repeatL, List.singleton_append, List.mem_cons] at hc
  rcases hc with rfl | hc
  · decide
  · exact rep_dgs k c hc
theorem dgs_two {a b : List UInt8} (ha : Dgs a) (hb : Dgs b) : Dgs (a ++ b) := fun c hc => by
 rcases List.mem_append.1 hc with h | h
 · exact ha c h
 · exact hb c h
theorem num_dec {l : List UInt8} (hne : l ≠ []) (hd0 : dgB (l.headD 0).toNat = true) (h : ¬ 0 < msN (unt l)) (hf : frcL (rst l) ≠ []) :
  numP l = if (badN l || decide (4 < (frcL (rst l)).length) || decide (0 < ldN ptB (l.drop (ldN dgB l + 1 + (frcL (rst l)).length)))) = true then (tk0, 0, 50) else if (whR (dgs l ++ (frcL (rst l) ++ Lib.repeatL [48] (4 - (frcL (rst l)).length)))).2 = false then (tk0, 0, 51) else ((4, [], (whR (dgs l ++ (frcL (rst l) ++ Lib.repeatL [48] (4 - (frcL (rst l)).length)))).1), ((ldN dgB l : Int) + 1 + (frcL (rst l)).length), 0) := by
 have hw := whl_whR (k := 4) (d := dgs l ++ (frcL (rst l) ++ Lib.repeatL [48] (4 - (frcL (rst l)).length))) (by simp [dgs_ne hne hd0]) (dgs_two (dgs_Dgs l) (dgs_two frc_dgs (rep_dgs _)))
 have ha : (amtP l).2.1 = ldN dgB l + 1 + (frcL (rst l)).length := by unfold amtP; rw [if_neg h, if_pos hf, dgs_len]
 have he : amtP l = ((decP (dgs l) (frcL (rst l))).1, (dgs l).length + 1 + (frcL (rst l)).length, (decP (dgs l) (frcL (rst l))).2) := by unfold amtP; rw [if_neg h, if_pos hf]
 unfold numP numE
 rw [ha, ngh_bad hne hd0]
 have he1 : (amtP l).1 = (decP (dgs l) (frcL (rst l))).1 := by rw [he]
 have he2 : (amtP l).2.2 = (decP (dgs l) (frcL (rst l))).2 := by rw [he]
 rw [he1, he2]
 clear he he1 he2
 generalize ldN ptB (l.drop (ldN dgB l + 1 + (frcL (rst l)).length)) = z
 unfold decP
 rw [List.append_assoc, hw]
 generalize whR (dgs l ++ (frcL (rst l) ++ Lib.repeatL [48] (4 - (frcL (rst l)).length))) = W
 obtain ⟨W1, W2⟩ := W
 cases badN l <;> by_cases h4 : 4 < (frcL (rst l)).length <;> by_cases hz : 0 < z <;> cases W2 <;> simp [h4, hz]
theorem num_int {l : List UInt8} (hne : l ≠ []) (hd0 : dgB (l.headD 0).toNat = true) (h : ¬ 0 < msN (unt l)) (hf : frcL (rst l) = []) :
  numP l = if (badN l || decide (0 < ldN ptB (rst l))) = true then (tk0, 0, 50) else if (whR (dgs l)).2 = false then (tk0, 0, 51) else ((3, [], (whR (dgs l)).1), (ldN dgB l : Int), 0) := by
 have hw := whl_whR (k := 3) (dgs_ne hne hd0) (dgs_Dgs l)
 have he : amtP l = ((whlP 3 (dgs l)).1, ldN dgB l, (whlP 3 (dgs l)).2) := by unfold amtP; rw [if_neg h, if_neg (by simp [hf]), dgs_len]
 have ha : (amtP l).2.1 = ldN dgB l := by rw [he]
 have he1 : (amtP l).1 = (whlP 3 (dgs l)).1 := by rw [he]
 have he2 : (amtP l).2.2 = (whlP 3 (dgs l)).2 := by rw [he]
 have hr : l.drop (ldN dgB l) = rst l := rfl
 unfold numP numE
 rw [ha, he1, he2, ngh_bad hne hd0, hw, hr]
 clear ha he he1 he2 hr
 generalize ldN ptB (rst l) = z
 generalize whR (dgs l) = W
 obtain ⟨W1, W2⟩ := W
 cases badN l <;> by_cases hz : 0 < z <;> cases W2 <;> simp [hz]
theorem lt_at {l : List UInt8} {m : Nat} (h : m < l.length) (hd : dgB (l[m]).toNat = false) : decide (0 < ldN ptB (l.drop m)) = ltB (l[m]).toNat := by
 rw [List.drop_eq_getElem_cons h]
 cases hl : ltB (l[m]).toNat with
 | true => rw [decide_eq_true]; rw [ldN_pos_cons (pt_lt hl)]; omega
 | false => rw [decide_eq_false]; rw [ldN_neg_cons (pt_no hl hd)]; omega
theorem lt_end {l : List UInt8} {m : Nat} (h : l.length ≤ m) : decide (0 < ldN ptB (l.drop m)) = false := by
 rw [List.drop_eq_nil_of_le h]; rfl
theorem ld_not {p : Nat → Bool} {l : List UInt8} {a : Nat} (h : a + ldN p (l.drop a) < l.length) : p (l[a + ldN p (l.drop a)]).toNat = false := by
 have h1 := ldN_after p (l.drop a)
 rw [List.drop_drop, List.drop_eq_getElem_cons h] at h1
 cases hc : p (l[a + ldN p (l.drop a)]).toNat with
 | false => rfl
 | true => rw [ldN_pos_cons hc] at h1; omega
theorem frc_yes {l : List UInt8} (h : ldN dgB l + 1 < l.length) (hp : (l[ldN dgB l]) = 46) (hd : dgB (l[ldN dgB l + 1]).toNat = true) : frcL (rst l) = (l.drop (ldN dgB l + 1)).take (ldN dgB (l.drop (ldN dgB l + 1))) ∧ frcL (rst l) ≠ [] := by
 have e : rst l = 46 :: l.drop (ldN dgB l + 1) := by unfold rst; rw [List.drop_eq_getElem_cons (by omega), hp]
 have e2 : frcL (rst l) = (l.drop (ldN dgB l + 1)).take (ldN dgB (l.drop (ldN dgB l + 1))) := by
  unfold frcL
  rw [e]
  have : Lib.hasPrefix (46 :: l.drop (ldN dgB l + 1)) [46] = true := by rw [pre_take (by simp)]; simp
  rw [if_pos this]; rfl
 refine ⟨e2, ?_⟩
 rw [e2, List.drop_eq_getElem_cons h, ldN_pos_cons hd]
 simpa using h
theorem frc_no1 {l : List UInt8} (h : l.length ≤ ldN dgB l + 1) : frcL (rst l) = [] := by
 unfold frcL
 split
 ·
  next hp =>
  have : (rst l).tail = [] := by unfold rst; rw [List.tail_drop, List.drop_eq_nil_of_le h]
  rw [this]; simp
 · rfl
theorem frc_no2 {l : List UInt8} (h : ldN dgB l < l.length) (hp : (l[ldN dgB l]) ≠ 46) : frcL (rst l) = [] := by
 unfold frcL
 split
 ·
  next hq =>
  exfalso
  obtain ⟨r, hr⟩ := pre_split hq
  unfold rst at hr
  rw [List.drop_eq_getElem_cons h] at hr
  injection hr with h1 _
  exact hp h1
 · rfl
theorem frc_no3 {l : List UInt8} (h : ldN dgB l + 1 < l.length) (hd : dgB (l[ldN dgB l + 1]).toNat = false) : frcL (rst l) = [] := by
 unfold frcL
 split
 ·
  have : (rst l).tail = l.drop (ldN dgB l + 1) := by unfold rst; rw [List.tail_drop]
  rw [this, List.drop_eq_getElem_cons h, ldN_neg_cons hd]; rfl
 · rfl
end
end Go.Proofs.YtgdndahhledikaaGreatDoor
