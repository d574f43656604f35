/- The place of a column: package schema and the document's answer. -/
import Derived.Test.YtjncoihppmbijaaDoorMem
namespace Go.Proofs.YtjncoihppmbijaaDoor
open Go.ChangeShapes Go.WideShapes Go.ChangeAt Go.RowKit

/-- The first column of a name. -/
def plP (nm : Nat → ByteArray) (s : ByteArray) : Nat → Bool := fun j => (nm j).toList == s.toList
def plF (nm : Nat → ByteArray) (s : ByteArray) (len : Nat) : Option Nat := fnd (plP nm s) len 0
def plI : Option Nat → Int
  | none => 0
  | some j => j
theorem ret_pl {o : Option Nat} {j : Nat} (h : some j = o) : Ending.returned (.tuple #[.int .i64 (j : Int), .bool true]) = .returned (.tuple #[.int .i64 (plI o), .bool o.isSome]) := by subst h; rfl
theorem ret_pn {o : Option Nat} (h : none = o) : Ending.returned (.tuple #[.int .i64 0, .bool false]) = .returned (.tuple #[.int .i64 (plI o), .bool o.isSome]) := by subst h; rfl

set_option maxHeartbeats 4000000 in
theorem Place_go (sn s : ByteArray) (b off len cap : Nat) (nm : Nat → ByteArray) (kd : Nat → Int) (w : World) (hlen : len ≤ 9223372036854775807)
    (hc : ∀ i, i < len → w.cell? ⟨b, off + i * 2, none⟩ = some (.string (nm i)) ∧ w.cell? ⟨b, off + i * 2 + 1, none⟩ = some (.int .i64 (kd i))) :
    Calls Tryd.prog 8 #[.agg #[.string sn, .slice (some ⟨b, off, none⟩) len cap], .string s] w fun e w' => e = .returned (.tuple #[.int .i64 (plI (plF nm s len)), .bool (plF nm s len).isSome]) ∧ Below w.heap.size w w' := by
  go_enter Tryd.func8, Tryd.ntmps8
  go_wp2
  go_loopw [11] (fun i wr => ∃ m : Nat, m ≤ len ∧ i = .int .i64 m ∧ fnd (plP nm s) len m = plF nm s len ∧ Bel w.heap.size w wr) (fun i _ => len - (intOf i).toNat)
  case atStart => exact ⟨0, Nat.zero_le _, rfl, rfl, (Bel.refl _).alloc _⟩
  case round =>
    obtain ⟨m, hm, rfl, hV, HB⟩ := hrel
    have HV : Hid (fnd (plP nm s) len m = plF nm s len) := hV
    clear hV
    rcases Nat.lt_or_ge m len with hlt | hge
    · have c0 : wr.cell? ⟨b, off + m * 2, none⟩ = some (.string (nm m)) := (HB.out.cell (p := ⟨b, off + m * 2, none⟩) (cell_lt (hc m hlt).1)).trans (hc m hlt).1
      have c1 : wr.cell? ⟨b, off + m * 2 + 1, none⟩ = some (.int .i64 (kd m)) := (HB.out.cell (p := ⟨b, off + m * 2 + 1, none⟩) (cell_lt (hc m hlt).2)).trans (hc m hlt).2
      clear hc
      generalize hp : ((nm m).toList == s.toList) = t
      cases t
      · have HN : Hid (fnd (plP nm s) len (m + 1) = plF nm s len) := by show _ = _; rw [← HV.out]; exact (fnd_miss hlt hp).symm
        go_wp2
        go_roundw
        case rel => exact ⟨m + 1, by omega, by go_num, HN.out, (by repeat (first | exact Bel.refl _ | assumption | refine Bel.drew ?_ | refine Bel.drewN ?_ _ | refine Bel.alloc ?_ _ | refine Bel.setCell ?_ (by simp <;> omega) _ | refine Bel.step ?_ (by assumption)))⟩
        case measure => simp [intOf]; omega
      · have HN : Hid (some m = plF nm s len) := by show _ = _; rw [← HV.out]; exact (fnd_hit hlt hp).symm
        go_wp2
        go_ret2
        exact ⟨ret_pl HN.out, (Bel.out (by repeat (first | exact Bel.refl _ | assumption | refine Bel.drew ?_ | refine Bel.drewN ?_ _ | refine Bel.alloc ?_ _ | refine Bel.setCell ?_ (by simp <;> omega) _ | refine Bel.step ?_ (by assumption))))⟩
    · have HN : Hid (none = plF nm s len) := by show _ = _; rw [← HV.out]; exact (fnd_end hge).symm
      clear hc
      go_wp2
      go_ret2
      exact ⟨ret_pn HN.out, (Bel.out (by repeat (first | exact Bel.refl _ | assumption | refine Bel.drew ?_ | refine Bel.drewN ?_ _ | refine Bel.alloc ?_ _ | refine Bel.setCell ?_ (by simp <;> omega) _ | refine Bel.step ?_ (by assumption))))⟩
set_option maxHeartbeats 4000000 in
theorem Place_no (sn s : ByteArray) (a : Option Addr) (cap : Nat) (nm : Nat → ByteArray) (w : World) :
    Calls Tryd.prog 8 #[.agg #[.string sn, .slice a 0 cap], .string s] w fun e w' => e = .returned (.tuple #[.int .i64 (plI (plF nm s 0)), .bool (plF nm s 0).isSome]) ∧ Below w.heap.size w w' := by
  go_enter Tryd.func8, Tryd.ntmps8
  go_wp2
  refine wp_loop_rounds 1 ?_
  rw [rounds_succ]
  go_wp2
  go_ret2
  exact ⟨ret_pn rfl, (Bel.out (by repeat (first | exact Bel.refl _ | assumption | refine Bel.drew ?_ | refine Bel.drewN ?_ _ | refine Bel.alloc ?_ _ | refine Bel.setCell ?_ (by simp <;> omega) _ | refine Bel.step ?_ (by assumption))))⟩
theorem Place_any (sn s : ByteArray) (a : Option Addr) (len cap : Nat) (nm : Nat → ByteArray) (kd : Nat → Int) (w : World) (hlen : len ≤ 9223372036854775807) (hc : ColsAt w a len nm kd) :
    Calls Tryd.prog 8 #[.agg #[.string sn, .slice a len cap], .string s] w fun e w' => e = .returned (.tuple #[.int .i64 (plI (plF nm s len)), .bool (plF nm s len).isSome]) ∧ Below w.heap.size w w' := by
  rcases hc with rfl | ⟨b, off, rfl, hc⟩
  · exact Place_no sn s a cap nm w
  · exact Place_go sn s b off len cap nm kd w hlen hc

set_option maxHeartbeats 4000000 in
theorem rPlace_go (sn s : ByteArray) (b off len cap : Nat) (nm : Nat → ByteArray) (kd : Nat → Int) (w : World) (hlen : len ≤ 9223372036854775807)
    (hc : ∀ i, i < len → w.cell? ⟨b, off + i * 2, none⟩ = some (.string (nm i)) ∧ w.cell? ⟨b, off + i * 2 + 1, none⟩ = some (.int .i64 (kd i))) :
    Calls Tryd.prog 9 #[.agg #[.string sn, .slice (some ⟨b, off, none⟩) len cap], .string s] w fun e w' => e = .returned (.tuple #[.int .i64 (plI (plF nm s len)), .bool (plF nm s len).isSome]) ∧ Below w.heap.size w w' := by
  go_enter Tryd.func9, Tryd.ntmps9
  go_wp2
  go_loop [6] (fun i => ∃ m : Nat, m ≤ len ∧ i = .int .i64 m ∧ fnd (plP nm s) len m = plF nm s len) (fun i => len - (intOf i).toNat)
  case atStart => exact ⟨0, Nat.zero_le _, rfl, rfl⟩
  case round =>
    obtain ⟨m, hm, rfl, hV⟩ := hrel
    have HB : Bel w.heap.size w (w.alloc (.cells #[.string sn, .slice (some ⟨b, off, none⟩) len cap] 24)) := (Bel.refl _).alloc _
    have HV : Hid (fnd (plP nm s) len m = plF nm s len) := hV
    clear hV
    rcases Nat.lt_or_ge m len with hlt | hge
    · have c0 : (w.alloc (.cells #[.string sn, .slice (some ⟨b, off, none⟩) len cap] 24)).cell? ⟨b, off + m * 2, none⟩ = some (.string (nm m)) := (HB.out.cell (p := ⟨b, off + m * 2, none⟩) (cell_lt (hc m hlt).1)).trans (hc m hlt).1
      have c1 : (w.alloc (.cells #[.string sn, .slice (some ⟨b, off, none⟩) len cap] 24)).cell? ⟨b, off + m * 2 + 1, none⟩ = some (.int .i64 (kd m)) := (HB.out.cell (p := ⟨b, off + m * 2 + 1, none⟩) (cell_lt (hc m hlt).2)).trans (hc m hlt).2
      clear hc
      generalize hp : ((nm m).toList == s.toList) = t
      cases t
      · have HN : Hid (fnd (plP nm s) len (m + 1) = plF nm s len) := by show _ = _; rw [← HV.out]; exact (fnd_miss hlt hp).symm
        go_wp2
        go_round
        case rel => exact ⟨m + 1, by omega, by go_num, HN.out⟩
        case measure => simp [intOf]; omega
      · have HN : Hid (some m = plF nm s len) := by show _ = _; rw [← HV.out]; exact (fnd_hit hlt hp).symm
        go_wp2
        go_ret2
        exact ⟨ret_pl HN.out, (Bel.out (by repeat (first | exact Bel.refl _ | assumption | refine Bel.drew ?_ | refine Bel.drewN ?_ _ | refine Bel.alloc ?_ _ | refine Bel.setCell ?_ (by simp <;> omega) _ | refine Bel.step ?_ (by assumption))))⟩
    · have HN : Hid (none = plF nm s len) := by show _ = _; rw [← HV.out]; exact (fnd_end hge).symm
      clear hc
      go_wp2
      go_ret2
      exact ⟨ret_pn HN.out, (Bel.out (by repeat (first | exact Bel.refl _ | assumption | refine Bel.drew ?_ | refine Bel.drewN ?_ _ | refine Bel.alloc ?_ _ | refine Bel.setCell ?_ (by simp <;> omega) _ | refine Bel.step ?_ (by assumption))))⟩
set_option maxHeartbeats 4000000 in
theorem rPlace_no (sn s : ByteArray) (a : Option Addr) (cap : Nat) (nm : Nat → ByteArray) (w : World) :
    Calls Tryd.prog 9 #[.agg #[.string sn, .slice a 0 cap], .string s] w fun e w' => e = .returned (.tuple #[.int .i64 (plI (plF nm s 0)), .bool (plF nm s 0).isSome]) ∧ Below w.heap.size w w' := by
  go_enter Tryd.func9, Tryd.ntmps9
  go_wp2
  refine wp_loop_rounds 1 ?_
  rw [rounds_succ]
  go_wp2
  go_ret2
  exact ⟨ret_pn rfl, (Bel.out (by repeat (first | exact Bel.refl _ | assumption | refine Bel.drew ?_ | refine Bel.drewN ?_ _ | refine Bel.alloc ?_ _ | refine Bel.setCell ?_ (by simp <;> omega) _ | refine Bel.step ?_ (by assumption))))⟩
theorem rPlace_any (sn s : ByteArray) (a : Option Addr) (len cap : Nat) (nm : Nat → ByteArray) (kd : Nat → Int) (w : World) (hlen : len ≤ 9223372036854775807) (hc : ColsAt w a len nm kd) :
    Calls Tryd.prog 9 #[.agg #[.string sn, .slice a len cap], .string s] w fun e w' => e = .returned (.tuple #[.int .i64 (plI (plF nm s len)), .bool (plF nm s len).isSome]) ∧ Below w.heap.size w w' := by
  rcases hc with rfl | ⟨b, off, rfl, hc⟩
  · exact rPlace_no sn s a cap nm w
  · exact rPlace_go sn s b off len cap nm kd w hlen hc

end Go.Proofs.YtjncoihppmbijaaDoor
