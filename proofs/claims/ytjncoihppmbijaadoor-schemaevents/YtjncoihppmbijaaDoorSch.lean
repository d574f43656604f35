/- Schemas in a slice: the first one of a name. -/
import Derived.Test.YtjncoihppmbijaaDoorPlace
namespace Go.Proofs.YtjncoihppmbijaaDoor
open Go.ChangeShapes Go.WideShapes Go.ChangeAt Go.RowKit

structure Sch where
  sn : ByteArray
  a : Option Addr
  len : Nat
  cap : Nat
  nm : Nat → ByteArray
  kd : Nat → Int
def schZ : Sch := ⟨ByteArray.empty, none, 0, 0, fun _ => ByteArray.empty, fun _ => 0⟩
def SchsAt (w : World) (a : Option Addr) (n : Nat) (S : Nat → Sch) : Prop :=
  n = 0 ∨ ∃ b off, a = some ⟨b, off, none⟩ ∧ ∀ i, i < n → w.cell? ⟨b, off + i * 2, none⟩ = some (.string (S i).sn) ∧ w.cell? ⟨b, off + i * 2 + 1, none⟩ = some (.slice (S i).a (S i).len (S i).cap) ∧ (S i).len * 24 ≤ 140737488355328 ∧ ColsAt w (S i).a (S i).len (S i).nm (S i).kd
theorem SchsAt.below {w w' : World} {a : Option Addr} {n : Nat} {S : Nat → Sch} (h : SchsAt w a n S) (hb : Below w.heap.size w w') : SchsAt w' a n S := by
  rcases h with h | ⟨b, off, ha, hc⟩
  · exact Or.inl h
  · exact Or.inr ⟨b, off, ha, fun i hi => ⟨cell_below hb (hc i hi).1, cell_below hb (hc i hi).2.1, (hc i hi).2.2.1, (hc i hi).2.2.2.below hb⟩⟩
theorem SchsAt.alloc {w : World} {a : Option Addr} {n : Nat} {S : Nat → Sch} (h : SchsAt w a n S) (o : Obj) : SchsAt (w.alloc o) a n S := h.below ((Below.refl _ _).alloc (Nat.le_refl _) o)
theorem two_cells {w : World} {p : Nat} {x y u : Value} (h : w.cell? ⟨p, 1, none⟩ = some u) : ((w.setCell ⟨p, 0, none⟩ x).setCell ⟨p, 1, none⟩ y).cell? ⟨p, 1, none⟩ = some y :=
  World.cell?_setCell_same _ _ _ ((World.cell?_setCell_other _ _ _ _ (by intro e; injection e with _ e2 _; cases e2)).trans h)
def nmS (S : Nat → Sch) : Nat → ByteArray := fun i => (S i).sn
set_option maxHeartbeats 8000000 in
theorem placeOf_go (s : ByteArray) (b off n cap : Nat) (S : Nat → Sch) (w : World) (hlen : n ≤ 9223372036854775807)
    (hc : ∀ i, i < n → w.cell? ⟨b, off + i * 2, none⟩ = some (.string (S i).sn) ∧ w.cell? ⟨b, off + i * 2 + 1, none⟩ = some (.slice (S i).a (S i).len (S i).cap)) :
    Calls Tryd.prog 31 #[.slice (some ⟨b, off, none⟩) n cap, .string s] w fun e w' => e = .returned (.tuple #[.int .i64 (plI (plF (nmS S) s n)), .bool (plF (nmS S) s n).isSome]) ∧ Below w.heap.size w w' := by
  go_enter Tryd.func31, Tryd.ntmps31
  go_wp2
  go_loopw [10] (fun i wr => ∃ m : Nat, m ≤ n ∧ i = .int .i64 m ∧ fnd (plP (nmS S) s) n m = plF (nmS S) s n ∧ Bel w.heap.size w wr) (fun i _ => n - (intOf i).toNat)
  case atStart => exact ⟨0, Nat.zero_le _, rfl, rfl, Bel.refl _⟩
  case round =>
    obtain ⟨m, hm, rfl, hV, HB⟩ := hrel
    have HV : Hid (fnd (plP (nmS S) s) n m = plF (nmS S) s n) := hV
    clear hV
    have hW := HB.out
    rcases Nat.lt_or_ge m n with hlt | hge
    · have c0 := cell_below hW (hc m hlt).1
      have c1 := cell_below hW (hc m hlt).2
      clear hc
      generalize hp : ((S m).sn.toList == s.toList) = t
      cases t
      · have HN : Hid (fnd (plP (nmS S) s) n (m + 1) = plF (nmS S) s n) := by show _ = _; rw [← HV.out]; exact (fnd_miss hlt hp).symm
        go_wp2
        go_roundw
        case rel => exact ⟨m + 1, by omega, by go_num, HN.out, (by repeat (first | exact Bel.refl _ | assumption | refine Bel.drew ?_ | refine Bel.drewN ?_ _ | refine Bel.alloc ?_ _ | refine Bel.setCell ?_ (by simp <;> omega) _ | refine Bel.step ?_ (by assumption)))⟩
        case measure => simp [intOf]; omega
      · have HN : Hid (some m = plF (nmS S) s n) := by show _ = _; rw [← HV.out]; exact (fnd_hit hlt hp).symm
        go_wp2
        go_ret2
        exact ⟨ret_pl HN.out, (Bel.out (by repeat (first | exact Bel.refl _ | assumption | refine Bel.drew ?_ | refine Bel.drewN ?_ _ | refine Bel.alloc ?_ _ | refine Bel.setCell ?_ (by simp <;> omega) _ | refine Bel.step ?_ (by assumption))))⟩
    · have HN : Hid (none = plF (nmS S) s n) := by show _ = _; rw [← HV.out]; exact (fnd_end hge).symm
      clear hc
      go_wp2
      go_ret2
      exact ⟨ret_pn HN.out, (Bel.out (by repeat (first | exact Bel.refl _ | assumption | refine Bel.drew ?_ | refine Bel.drewN ?_ _ | refine Bel.alloc ?_ _ | refine Bel.setCell ?_ (by simp <;> omega) _ | refine Bel.step ?_ (by assumption))))⟩
set_option maxHeartbeats 4000000 in
theorem placeOf_no (s : ByteArray) (a : Option Addr) (cap : Nat) (S : Nat → Sch) (w : World) :
    Calls Tryd.prog 31 #[.slice a 0 cap, .string s] w fun e w' => e = .returned (.tuple #[.int .i64 (plI (plF (nmS S) s 0)), .bool (plF (nmS S) s 0).isSome]) ∧ Below w.heap.size w w' := by
  go_enter Tryd.func31, Tryd.ntmps31
  go_wp2
  refine wp_loop_rounds 1 ?_
  rw [rounds_succ]
  go_wp2
  go_ret2
  exact ⟨ret_pn rfl, (Bel.out (by repeat (first | exact Bel.refl _ | assumption | refine Bel.drew ?_ | refine Bel.drewN ?_ _ | refine Bel.alloc ?_ _ | refine Bel.setCell ?_ (by simp <;> omega) _ | refine Bel.step ?_ (by assumption))))⟩
theorem placeOf_any (s : ByteArray) (a : Option Addr) (n cap : Nat) (S : Nat → Sch) (w : World) (hlen : n ≤ 9223372036854775807) (hc : SchsAt w a n S) :
    Calls Tryd.prog 31 #[.slice a n cap, .string s] w fun e w' => e = .returned (.tuple #[.int .i64 (plI (plF (nmS S) s n)), .bool (plF (nmS S) s n).isSome]) ∧ Below w.heap.size w w' := by
  rcases hc with rfl | ⟨b, off, rfl, hc⟩
  · exact placeOf_no s a cap S w
  · exact placeOf_go s b off n cap S w hlen fun i hi => ⟨(hc i hi).1, (hc i hi).2.1⟩
/-- What a search gives: the schema, or nothing. -/
def fdV (S : Nat → Sch) : Option Nat → Value
  | none => .tuple #[.agg #[.string ⟨#[]⟩, .slice none 0 0], .bool false]
  | some j => .tuple #[.agg #[.string (S j).sn, .slice (S j).a (S j).len (S j).cap], .bool true]
set_option maxHeartbeats 8000000 in
theorem rFind_go (s : ByteArray) (b off n cap : Nat) (S : Nat → Sch) (w : World) (hlen : n ≤ 9223372036854775807)
    (hc : ∀ i, i < n → w.cell? ⟨b, off + i * 2, none⟩ = some (.string (S i).sn) ∧ w.cell? ⟨b, off + i * 2 + 1, none⟩ = some (.slice (S i).a (S i).len (S i).cap)) :
    Calls Tryd.prog 18 #[.slice (some ⟨b, off, none⟩) n cap, .string s] w fun e w' => e = .returned (fdV S (plF (nmS S) s n)) ∧ Below w.heap.size w w' := by
  go_enter Tryd.func18, Tryd.ntmps18
  go_wp2
  go_loopw [6] (fun i wr => ∃ m : Nat, m ≤ n ∧ i = .int .i64 m ∧ fnd (plP (nmS S) s) n m = plF (nmS S) s n ∧ Bel (w.alloc (.cells #[.string ⟨#[]⟩, .slice none 0 0] 24)).heap.size (w.alloc (.cells #[.string ⟨#[]⟩, .slice none 0 0] 24)) wr) (fun i _ => n - (intOf i).toNat)
  case atStart => exact ⟨0, Nat.zero_le _, rfl, rfl, Bel.refl _⟩
  case round =>
    obtain ⟨m, hm, rfl, hV, HB⟩ := hrel
    have HV : Hid (fnd (plP (nmS S) s) n m = plF (nmS S) s n) := hV
    clear hV
    have hB2 := HB.out
    have hB1 : Below w.heap.size w (w.alloc (.cells #[.string ⟨#[]⟩, .slice none 0 0] 24)) := (Below.refl _ _).alloc (Nat.le_refl _) _
    have hW : Below w.heap.size w wr := (Bel.out (by repeat (first | exact Bel.refl _ | assumption | refine Bel.drew ?_ | refine Bel.drewN ?_ _ | refine Bel.alloc ?_ _ | refine Bel.setCell ?_ (by simp <;> omega) _ | refine Bel.step ?_ (by assumption))))
    have q0 : wr.cell? ⟨w.heap.size, 0, none⟩ = some (.string ⟨#[]⟩) := cell_below hB2 (by go_simp)
    have q1 : wr.cell? ⟨w.heap.size, 1, none⟩ = some (.slice none 0 0) := cell_below hB2 (by go_simp)
    have q2 : wr.frozen? ⟨w.heap.size, 0, none⟩ = false := (hB2.frozen (p := ⟨w.heap.size, 0, none⟩) (by simp)).trans (by go_simp)
    have q3 : wr.frozen? ⟨w.heap.size, 1, none⟩ = false := (hB2.frozen (p := ⟨w.heap.size, 1, none⟩) (by simp)).trans (by go_simp)
    rcases Nat.lt_or_ge m n with hlt | hge
    · have c0 := cell_below hW (hc m hlt).1
      have c1 := cell_below hW (hc m hlt).2
      clear hc
      generalize hp : ((S m).sn.toList == s.toList) = t
      cases t
      · have HN : Hid (fnd (plP (nmS S) s) n (m + 1) = plF (nmS S) s n) := by show _ = _; rw [← HV.out]; exact (fnd_miss hlt hp).symm
        go_wp2
        go_roundw
        case rel => exact ⟨m + 1, by omega, by go_num, HN.out, (by repeat (first | exact Bel.refl _ | assumption | refine Bel.drew ?_ | refine Bel.drewN ?_ _ | refine Bel.alloc ?_ _ | refine Bel.setCell ?_ (by simp <;> omega) _ | refine Bel.step ?_ (by assumption)))⟩
        case measure => simp [intOf]; omega
      · have HN : Hid (some m = plF (nmS S) s n) := by show _ = _; rw [← HV.out]; exact (fnd_hit hlt hp).symm
        go_wp2
        have z0 : (wr.setCell ⟨w.heap.size, 0, none⟩ (.string (S m).sn)).cell? ⟨w.heap.size, 0, none⟩ = some (.string (S m).sn) := World.cell?_setCell_same _ _ _ q0
        have z1 : ((wr.setCell ⟨w.heap.size, 0, none⟩ (.string (S m).sn)).setCell ⟨w.heap.size, 1, none⟩ (.slice (S m).a (S m).len (S m).cap)).cell? ⟨w.heap.size, 1, none⟩ = some (.slice (S m).a (S m).len (S m).cap) := two_cells q1
        refine bodyPost_ret (v := fdV S (some m)) (by simp [results, Tryd.results18, go_sem, fdV, z0, z1]) rfl ⟨by rw [HN.out], (Bel.out (by repeat (first | exact Bel.refl _ | assumption | refine Bel.drew ?_ | refine Bel.drewN ?_ _ | refine Bel.alloc ?_ _ | refine Bel.setCell ?_ (by simp <;> omega) _ | refine Bel.step ?_ (by assumption))))⟩
    · have HN : Hid (none = plF (nmS S) s n) := by show _ = _; rw [← HV.out]; exact (fnd_end hge).symm
      clear hc
      go_wp2
      have z0 : (wr.setCell ⟨w.heap.size, 0, none⟩ (.string ⟨#[]⟩)).cell? ⟨w.heap.size, 0, none⟩ = some (.string ⟨#[]⟩) := World.cell?_setCell_same _ _ _ q0
      have z1 : ((wr.setCell ⟨w.heap.size, 0, none⟩ (.string ⟨#[]⟩)).setCell ⟨w.heap.size, 1, none⟩ (.slice none 0 0)).cell? ⟨w.heap.size, 1, none⟩ = some (.slice none 0 0) := two_cells q1
      refine bodyPost_ret (v := fdV S none) (by simp [results, Tryd.results18, go_sem, fdV, z0, z1]) rfl ⟨by rw [HN.out], (Bel.out (by repeat (first | exact Bel.refl _ | assumption | refine Bel.drew ?_ | refine Bel.drewN ?_ _ | refine Bel.alloc ?_ _ | refine Bel.setCell ?_ (by simp <;> omega) _ | refine Bel.step ?_ (by assumption))))⟩
set_option maxHeartbeats 4000000 in
theorem rFind_no (s : ByteArray) (a : Option Addr) (cap : Nat) (S : Nat → Sch) (w : World) :
    Calls Tryd.prog 18 #[.slice a 0 cap, .string s] w fun e w' => e = .returned (fdV S (plF (nmS S) s 0)) ∧ Below w.heap.size w w' := by
  go_enter Tryd.func18, Tryd.ntmps18
  go_wp2
  refine wp_loop_rounds 1 ?_
  rw [rounds_succ]
  go_wp2
  refine bodyPost_ret (v := fdV S none) (by simp [results, Tryd.results18, go_sem, fdV]) rfl ⟨rfl, (Bel.out (by repeat (first | exact Bel.refl _ | assumption | refine Bel.drew ?_ | refine Bel.drewN ?_ _ | refine Bel.alloc ?_ _ | refine Bel.setCell ?_ (by simp <;> omega) _ | refine Bel.step ?_ (by assumption))))⟩
theorem rFind_any (s : ByteArray) (a : Option Addr) (n cap : Nat) (S : Nat → Sch) (w : World) (hlen : n ≤ 9223372036854775807) (hc : SchsAt w a n S) :
    Calls Tryd.prog 18 #[.slice a n cap, .string s] w fun e w' => e = .returned (fdV S (plF (nmS S) s n)) ∧ Below w.heap.size w w' := by
  rcases hc with rfl | ⟨b, off, rfl, hc⟩
  · exact rFind_no s a cap S w
  · exact rFind_go s b off n cap S w hlen fun i hi => ⟨(hc i hi).1, (hc i hi).2.1⟩
end Go.Proofs.YtjncoihppmbijaaDoor
