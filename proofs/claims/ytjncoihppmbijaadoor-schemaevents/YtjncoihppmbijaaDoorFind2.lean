/- The first schema of a name (Find): what is handed out holds what it holds. -/
import Derived.Test.YtjncoihppmbijaaDoorFind
import Derived.Test.YtjncoihppmbijaaDoorFits
namespace Go.Proofs.YtjncoihppmbijaaDoor
open Go.ChangeShapes Go.WideShapes Go.ChangeAt Go.RowKit
attribute [local go_sem ↓] Go.wp_at_zero Go.wp_at_succ

set_option maxHeartbeats 8000000 in
theorem Find_none (s : ByteArray) (a : Option Addr) (n cap : Nat) (S : Nat → Sch) (w : World) (hlen : n ≤ 9223372036854775807) (hs : SchsAt w a n S) (ho : (plF (nmS S) s n) = none) :
    Calls Tryd.prog 17 #[.slice a n cap, .string s] w fun e w' => e = .returned (fdV S none) ∧ Below w.heap.size w w' := by
  go_enter Tryd.func17, Tryd.ntmps17
  go_wp2_with fail
  refine (placeOf_any s a n cap S _ hlen (hs.alloc _)).mono ?_
  rintro e w1 ⟨rfl, hb1⟩
  rw [ho]
  have q0 : w1.cell? ⟨w.heap.size, 0, none⟩ = some (.string ⟨#[]⟩) := cell_below hb1 (by go_simp)
  have q1 : w1.cell? ⟨w.heap.size, 1, none⟩ = some (.slice none 0 0) := cell_below hb1 (by go_simp)
  have q2 : w1.frozen? ⟨w.heap.size, 0, none⟩ = false := (hb1.frozen (p := ⟨w.heap.size, 0, none⟩) (by simp)).trans (by go_simp)
  have q3 : w1.frozen? ⟨w.heap.size, 1, none⟩ = false := (hb1.frozen (p := ⟨w.heap.size, 1, none⟩) (by simp)).trans (by go_simp)
  have e0 : plI none = 0 := rfl
  have e1 : (none : Option Nat).isSome = false := rfl
  rw [e0, e1]
  go_wp2
  have z0 : (w1.setCell ⟨w.heap.size, 0, none⟩ (.string ⟨#[]⟩)).cell? ⟨w.heap.size, 0, none⟩ = some (.string ⟨#[]⟩) := World.cell?_setCell_same _ _ _ q0
  have z1 : ((w1.setCell ⟨w.heap.size, 0, none⟩ (.string ⟨#[]⟩)).setCell ⟨w.heap.size, 1, none⟩ (.slice none 0 0)).cell? ⟨w.heap.size, 1, none⟩ = some (.slice none 0 0) := two_cells q1
  refine bodyPost_ret (v := fdV S none) (by simp [results, Tryd.results17, go_sem, fdV, z0, z1]) rfl ⟨rfl, (Bel.out (by repeat (first | exact Bel.refl _ | assumption | refine Bel.drew ?_ | refine Bel.drewN ?_ _ | refine Bel.alloc ?_ _ | refine Bel.setCell ?_ (by simp <;> omega) _ | refine Bel.step ?_ (by assumption))))⟩
set_option maxHeartbeats 8000000 in
theorem Find_some (s : ByteArray) (b off n cap : Nat) (S : Nat → Sch) (w : World) (hlen : n ≤ 9223372036854775807) (j : Nat) (hj : j < n)
    (hs : SchsAt w (some ⟨b, off, none⟩) n S) (hcell : w.cell? ⟨b, off + j * 2, none⟩ = some (.string (S j).sn) ∧ w.cell? ⟨b, off + j * 2 + 1, none⟩ = some (.slice (S j).a (S j).len (S j).cap)) (hby : (S j).len * 24 ≤ 140737488355328) (hcj : ColsAt w (S j).a (S j).len (S j).nm (S j).kd) (ho : (plF (nmS S) s n) = some j) :
    Calls Tryd.prog 17 #[.slice (some ⟨b, off, none⟩) n cap, .string s] w fun e w' => ∃ a' cap', e = .returned (.tuple #[.agg #[.string (S j).sn, .slice a' (S j).len cap'], .bool true]) ∧ ColsAt w' a' (S j).len (S j).nm (S j).kd ∧ Below w.heap.size w w' := by
  have hbw := cell_lt hcell.1
  go_enter Tryd.func17, Tryd.ntmps17
  go_wp2_with fail
  refine (placeOf_any s (some ⟨b, off, none⟩) n cap S _ hlen (hs.alloc _)).mono ?_
  rintro e w1 ⟨rfl, hb1⟩
  rw [ho]
  have q0 : w1.cell? ⟨w.heap.size, 0, none⟩ = some (.string ⟨#[]⟩) := cell_below hb1 (by go_simp)
  have q1 : w1.cell? ⟨w.heap.size, 1, none⟩ = some (.slice none 0 0) := cell_below hb1 (by go_simp)
  have q2 : w1.frozen? ⟨w.heap.size, 0, none⟩ = false := (hb1.frozen (p := ⟨w.heap.size, 0, none⟩) (by simp)).trans (by go_simp)
  have q3 : w1.frozen? ⟨w.heap.size, 1, none⟩ = false := (hb1.frozen (p := ⟨w.heap.size, 1, none⟩) (by simp)).trans (by go_simp)
  have e0 : plI (some j) = (j : Int) := rfl
  have e1 : (some j : Option Nat).isSome = true := rfl
  rw [e0, e1]
  have hW1 : Below w.heap.size w w1 := (Bel.out (by repeat (first | exact Bel.refl _ | assumption | refine Bel.drew ?_ | refine Bel.drewN ?_ _ | refine Bel.alloc ?_ _ | refine Bel.setCell ?_ (by simp <;> omega) _ | refine Bel.step ?_ (by assumption))))
  have S0 : w1.cell? ⟨b, off + j * 2, none⟩ = some (.string (S j).sn) ∧ w1.cell? ⟨b, off + j * 2 + 1, none⟩ = some (.slice (S j).a (S j).len (S j).cap) ∧ Below w.heap.size w w1 := ⟨cell_below hW1 hcell.1, cell_below hW1 hcell.2, hW1⟩
  clear hs hcell ho
  go_wp2
  refine wp_region_held_drew (S := (fun wS => wS.cell? ⟨b, off + j * 2, none⟩ = some (.string (S j).sn) ∧ wS.cell? ⟨b, off + j * 2 + 1, none⟩ = some (.slice (S j).a (S j).len (S j).cap) ∧ Below w.heap.size w wS)) (by kernel_rfl) ?_ (fun hHeld => ?_)
  · (try dsimp only); exact kp2d S0
  refine wpAnyH_take (i := 0) (oi := { dst := some 17, op := Op.move (Operand.tmp 0), type := 37, pos := "schema.go:92", after := #[], guard := none }) (v := ?_) rfl (by kernel_rfl) (by kernel_rfl) (by kernel_rfl) (fun _ _ _ h => h) (Or.inl ⟨by kernel_rfl, ?_⟩) (by assumption) ?_
  rotate_left
  · intro wS hSw; (try dsimp only at hSw); go_simp; (try with_reducible rfl)
  try simp only [Act.put, List.setIfInBounds_toArray, List.set_cons_zero, List.set_cons_succ]
  refine wpAnyH_take (i := 1) (oi := { dst := some 18, op := Op.move (Operand.tmp 6), type := 3, pos := "schema.go:92", after := #[], guard := none }) (v := ?_) rfl (by kernel_rfl) (by kernel_rfl) (by kernel_rfl) (fun _ _ _ h => h) (Or.inl ⟨by kernel_rfl, ?_⟩) (by assumption) ?_
  rotate_left
  · intro wS hSw; (try dsimp only at hSw); go_simp; (try with_reducible rfl)
  try simp only [Act.put, List.setIfInBounds_toArray, List.set_cons_zero, List.set_cons_succ]
  refine wpAnyH_take (i := 2) (oi := { dst := some 19, op := Op.indexAddr 37 (Operand.tmp 17) (Operand.tmp 18), type := 0, pos := "schema.go:92", after := #[{ on := 0, ground := Ground.data }, { on := 1, ground := Ground.data }], guard := none }) (v := ?_) rfl (by kernel_rfl) (by kernel_rfl) (by kernel_rfl) (fun _ _ _ h => h) (Or.inl ⟨by kernel_rfl, ?_⟩) (by assumption) ?_
  rotate_left
  · intro wS hSw; (try dsimp only at hSw); go_simp; (try with_reducible rfl)
  try simp only [Act.put, List.setIfInBounds_toArray, List.set_cons_zero, List.set_cons_succ]
  refine wpAnyH_take (i := 3) (oi := { dst := some 20, op := Op.fieldAddr 24 (Operand.tmp 19) 0, type := 0, pos := "schema.go:92", after := #[{ on := 2, ground := Ground.data }], guard := none }) (v := ?_) rfl (by kernel_rfl) (by kernel_rfl) (by kernel_rfl) (fun _ _ _ h => h) (Or.inl ⟨by kernel_rfl, ?_⟩) (by assumption) ?_
  rotate_left
  · intro wS hSw; (try dsimp only at hSw); go_simp; (try with_reducible rfl)
  try simp only [Act.put, List.setIfInBounds_toArray, List.set_cons_zero, List.set_cons_succ]
  refine wpAnyH_take (i := 4) (oi := { dst := some 21, op := Op.load 9 (Operand.tmp 20), type := 9, pos := "schema.go:92", after := #[{ on := 3, ground := Ground.data }], guard := none }) (v := ?_) rfl (by kernel_rfl) (by kernel_rfl) (by kernel_rfl) (fun _ _ _ h => h) (Or.inl ⟨by kernel_rfl, ?_⟩) (by assumption) ?_
  rotate_left
  · intro wS hSw; (try dsimp only at hSw); go_simp; (try with_reducible rfl)
  try simp only [Act.put, List.setIfInBounds_toArray, List.set_cons_zero, List.set_cons_succ]
  refine wpAnyH_take (i := 5) (oi := { dst := some 22, op := Op.move (Operand.tmp 0), type := 37, pos := "schema.go:92", after := #[], guard := none }) (v := ?_) rfl (by kernel_rfl) (by kernel_rfl) (by kernel_rfl) (fun _ _ _ h => h) (Or.inl ⟨by kernel_rfl, ?_⟩) (by assumption) ?_
  rotate_left
  · intro wS hSw; (try dsimp only at hSw); go_simp; (try with_reducible rfl)
  try simp only [Act.put, List.setIfInBounds_toArray, List.set_cons_zero, List.set_cons_succ]
  refine wpAnyH_take (i := 6) (oi := { dst := some 23, op := Op.move (Operand.tmp 6), type := 3, pos := "schema.go:92", after := #[], guard := none }) (v := ?_) rfl (by kernel_rfl) (by kernel_rfl) (by kernel_rfl) (fun _ _ _ h => h) (Or.inl ⟨by kernel_rfl, ?_⟩) (by assumption) ?_
  rotate_left
  · intro wS hSw; (try dsimp only at hSw); go_simp; (try with_reducible rfl)
  try simp only [Act.put, List.setIfInBounds_toArray, List.set_cons_zero, List.set_cons_succ]
  refine wpAnyH_take (i := 7) (oi := { dst := some 24, op := Op.indexAddr 37 (Operand.tmp 22) (Operand.tmp 23), type := 0, pos := "schema.go:92", after := #[{ on := 5, ground := Ground.data }, { on := 6, ground := Ground.data }], guard := none }) (v := ?_) rfl (by kernel_rfl) (by kernel_rfl) (by kernel_rfl) (fun _ _ _ h => h) (Or.inl ⟨by kernel_rfl, ?_⟩) (by assumption) ?_
  rotate_left
  · intro wS hSw; (try dsimp only at hSw); go_simp; (try with_reducible rfl)
  try simp only [Act.put, List.setIfInBounds_toArray, List.set_cons_zero, List.set_cons_succ]
  refine wpAnyH_take (i := 8) (oi := { dst := some 25, op := Op.fieldAddr 24 (Operand.tmp 24) 1, type := 0, pos := "schema.go:92", after := #[{ on := 7, ground := Ground.data }], guard := none }) (v := ?_) rfl (by kernel_rfl) (by kernel_rfl) (by kernel_rfl) (fun _ _ _ h => h) (Or.inl ⟨by kernel_rfl, ?_⟩) (by assumption) ?_
  rotate_left
  · intro wS hSw; (try dsimp only at hSw); go_simp; (try with_reducible rfl)
  try simp only [Act.put, List.setIfInBounds_toArray, List.set_cons_zero, List.set_cons_succ]
  refine wpAnyH_take (i := 9) (oi := { dst := some 26, op := Op.load 22 (Operand.tmp 25), type := 22, pos := "schema.go:92", after := #[{ on := 8, ground := Ground.data }], guard := none }) (v := ?_) rfl (by kernel_rfl) (by kernel_rfl) (by kernel_rfl) (fun _ _ _ h => h) (Or.inl ⟨by kernel_rfl, ?_⟩) (by assumption) ?_
  rotate_left
  · intro wS hSw; (try dsimp only at hSw); go_simp; (try with_reducible rfl)
  try simp only [Act.put, List.setIfInBounds_toArray, List.set_cons_zero, List.set_cons_succ]
  refine wpAnyH_ready (rs := [10]) (by kernel_rfl) (by simp) ?_
  refine AllReadyH.cons (o := { dst := some 27, op := Op.call { callee := Callee.value (Operand.func 32), args := #[Operand.tmp 26], argTypes := #[22] }, type := 22, pos := "schema.go:92", after := #[{ on := 9, ground := Ground.data }], guard := none }) rfl (fun K hK => ?_) AllReadyH.nil
  go_simp
  go_at_call 32
  refine (Clone_any (S j).a (S j).len (S j).cap (S j).nm (S j).kd _ (by omega) hby (hcj.below (kp2l (by assumption)))).mono ?_
  rintro e w2 ⟨a', cap', rfl, hca, hgg, hb⟩
  have hsz2 : w.heap.size < w1.heap.size := cell_lt q0
  have r0 : w2.cell? ⟨w.heap.size, 0, none⟩ = some (.string ⟨#[]⟩) := cell_below hb q0
  have r1 : w2.cell? ⟨w.heap.size, 1, none⟩ = some (.slice none 0 0) := cell_below hb q1
  have r2 : w2.frozen? ⟨w.heap.size, 0, none⟩ = false := (hb.frozen (p := ⟨w.heap.size, 0, none⟩) (cell_lt q0)).trans q2
  have r3 : w2.frozen? ⟨w.heap.size, 1, none⟩ = false := (hb.frozen (p := ⟨w.heap.size, 1, none⟩) (cell_lt q1)).trans q3
  refine hK.out _ _ ?_ (fun hH10 => ?_)
  · (try dsimp only); exact kp2 (by assumption) hb
  clear hK K
  try simp only [Act.put, List.setIfInBounds_toArray, List.set_cons_zero, List.set_cons_succ]
  refine wpAnyH_take (i := 11) (oi := { dst := some 28, op := Op.build 24 #[(0, Operand.tmp 21), (1, Operand.tmp 27)], type := 24, pos := "schema.go:92", after := #[{ on := 4, ground := Ground.data }, { on := 10, ground := Ground.data }], guard := none }) (v := ?_) rfl (by kernel_rfl) (by kernel_rfl) (by kernel_rfl) (fun _ _ _ h => h) (Or.inl ⟨by kernel_rfl, ?_⟩) (by assumption) ?_
  rotate_left
  · intro wS hSw; (try dsimp only at hSw); go_simp; (try with_reducible rfl)
  try simp only [Act.put, List.setIfInBounds_toArray, List.set_cons_zero, List.set_cons_succ]
  refine wpAnyH_ready (rs := [12]) (by kernel_rfl) (by simp) ?_
  refine AllReadyH.cons (o := { dst := none, op := Op.store 24 (Operand.tmp 4) (Operand.tmp 28), type := 0, pos := "schema.go:92", after := #[{ on := 11, ground := Ground.data }, { on := 10, ground := Ground.chain }, { on := 0, ground := Ground.phase }, { on := 1, ground := Ground.phase }, { on := 2, ground := Ground.phase }, { on := 3, ground := Ground.phase }, { on := 4, ground := Ground.phase }, { on := 5, ground := Ground.phase }, { on := 6, ground := Ground.phase }, { on := 7, ground := Ground.phase }, { on := 8, ground := Ground.phase }, { on := 9, ground := Ground.phase }, { on := 10, ground := Ground.phase }, { on := 11, ground := Ground.phase }], guard := none }) rfl (fun K hK => ?_) AllReadyH.nil
  go_simp
  refine hK.out _ _ ?_ (fun hH12 => ?_)
  · (try dsimp only); exact keepS (by assumption) hbw hbw (Nat.le_refl _)
  clear hK K
  try simp only [Act.put, List.setIfInBounds_toArray, List.set_cons_zero, List.set_cons_succ]
  refine wpAnyH_take (i := 13) (oi := { dst := some 5, op := Op.assign (Operand.const (Value.bool true)), type := 4, pos := "schema.go:92", after := #[{ on := 12, ground := Ground.chain }, { on := 0, ground := Ground.phase }, { on := 1, ground := Ground.phase }, { on := 2, ground := Ground.phase }, { on := 3, ground := Ground.phase }, { on := 4, ground := Ground.phase }, { on := 5, ground := Ground.phase }, { on := 6, ground := Ground.phase }, { on := 7, ground := Ground.phase }, { on := 8, ground := Ground.phase }, { on := 9, ground := Ground.phase }, { on := 10, ground := Ground.phase }, { on := 11, ground := Ground.phase }, { on := 12, ground := Ground.phase }], guard := none }) (v := ?_) rfl (by kernel_rfl) (by kernel_rfl) (by kernel_rfl) (fun _ _ _ h => h) (Or.inl ⟨by kernel_rfl, ?_⟩) (by assumption) ?_
  rotate_left
  · intro wS hSw; (try dsimp only at hSw); go_simp; (try with_reducible rfl)
  try simp only [Act.put, List.setIfInBounds_toArray, List.set_cons_zero, List.set_cons_succ]
  refine wpAnyH_done (by kernel_rfl) ?_ _
  have z0 : (w2.setCell ⟨w.heap.size, 0, none⟩ (.string (S j).sn)).cell? ⟨w.heap.size, 0, none⟩ = some (.string (S j).sn) := World.cell?_setCell_same _ _ _ r0
  have z1 : ((w2.setCell ⟨w.heap.size, 0, none⟩ (.string (S j).sn)).setCell ⟨w.heap.size, 1, none⟩ (.slice a' (S j).len cap')).cell? ⟨w.heap.size, 1, none⟩ = some (.slice a' (S j).len cap') := two_cells r1
  have hcz := hca.set2 (R := w.heap.size) (x := .string (S j).sn) (y := .slice a' (S j).len cap') (fun g o e => by have := hgg g o e; have h2 : w1.heap.size ≤ g := this; omega)
  go_wp2
  refine bodyPost_ret (v := .tuple #[.agg #[.string (S j).sn, .slice a' (S j).len cap'], .bool true]) (by simp [results, Tryd.results17, go_sem, z0, z1]) rfl ⟨_, _, rfl, hcz, hH12.2.2⟩
/-- What an event's schema says of it. -/
def evI (S : Nat → Sch) (m : Nat) (k v : Nat → Int) (t : Nat → ByteArray) : Option Nat → Int
  | none => 110
  | some j => erI 31 (fitsS (S j).len (S j).kd m k v t)
set_option maxHeartbeats 8000000 in
theorem Event_none (a : Option Addr) (n cap : Nat) (S : Nat → Sch) (en : ByteArray) (a2 : Option Addr) (m cap2 : Nat) (k v : Nat → Int) (t : Nat → ByteArray) (w : World) (hlen : n ≤ 9223372036854775807) (hs : SchsAt w a n S) (ho : (plF (nmS S) en n) = none) :
    Calls Tryd.prog 19 #[.slice a n cap, .agg #[.string en, .slice a2 m cap2]] w fun e w' => e = .returned (.int .i64 (evI S m k v t none)) ∧ Below w.heap.size w w' := by
  go_enter Tryd.func19, Tryd.ntmps19
  go_wp2_with fail
  refine (placeOf_any en a n cap S _ hlen (hs.alloc _)).mono ?_
  rintro e w1 ⟨rfl, hb1⟩
  rw [ho]
  have e0 : plI none = 0 := rfl
  have e1 : (none : Option Nat).isSome = false := rfl
  rw [e0, e1]
  go_wp2
  go_ret
  exact ⟨rfl, (Bel.out (by repeat (first | exact Bel.refl _ | assumption | refine Bel.drew ?_ | refine Bel.drewN ?_ _ | refine Bel.alloc ?_ _ | refine Bel.setCell ?_ (by simp <;> omega) _ | refine Bel.step ?_ (by assumption))))⟩
set_option maxHeartbeats 8000000 in
theorem Event_some (b off n cap : Nat) (S : Nat → Sch) (en : ByteArray) (a2 : Option Addr) (m cap2 : Nat) (k v : Nat → Int) (t : Nat → ByteArray) (w : World) (hR : Ready w) (hlen : n ≤ 9223372036854775807) (hm : m ≤ 9223372036854775807) (hs : SchsAt w (some ⟨b, off, none⟩) n S) (j : Nat) (hj : j < n)
    (hcell : w.cell? ⟨b, off + j * 2, none⟩ = some (.string (S j).sn) ∧ w.cell? ⟨b, off + j * 2 + 1, none⟩ = some (.slice (S j).a (S j).len (S j).cap)) (hc : ColsAt w (S j).a (S j).len (S j).nm (S j).kd) (hv : ValsAt w a2 m k v t) (ho : (plF (nmS S) en n) = some j) :
    Calls Tryd.prog 19 #[.slice (some ⟨b, off, none⟩) n cap, .agg #[.string en, .slice a2 m cap2]] w fun e w' => e = .returned (.int .i64 (evI S m k v t (some j))) ∧ Below w.heap.size w w' := by
  have hR1 : Ready (w.alloc (.cells #[.string en, .slice a2 m cap2] 39)) := hR.alloc _
  have hcj : ColsAt (w.alloc (.cells #[.string en, .slice a2 m cap2] 39)) (S j).a (S j).len (S j).nm (S j).kd := hc.alloc _
  have hv1 : ValsAt (w.alloc (.cells #[.string en, .slice a2 m cap2] 39)) a2 m k v t := hv.alloc _
  have hB1 : Below w.heap.size w (w.alloc (.cells #[.string en, .slice a2 m cap2] 39)) := (Below.refl _ _).alloc (Nat.le_refl _) _
  go_enter Tryd.func19, Tryd.ntmps19
  go_wp2_with fail
  refine (placeOf_any en (some ⟨b, off, none⟩) n cap S _ hlen (hs.alloc _)).mono ?_
  rintro e w1 ⟨rfl, hb1⟩
  rw [ho]
  have e0 : plI (some j) = (j : Int) := rfl
  have e1 : (some j : Option Nat).isSome = true := rfl
  rw [e0, e1]
  have hW1 : Below w.heap.size w w1 := (Bel.out (by repeat (first | exact Bel.refl _ | assumption | refine Bel.drew ?_ | refine Bel.drewN ?_ _ | refine Bel.alloc ?_ _ | refine Bel.setCell ?_ (by simp <;> omega) _ | refine Bel.step ?_ (by assumption))))
  have S0 : w1.cell? ⟨b, off + j * 2, none⟩ = some (.string (S j).sn) ∧ w1.cell? ⟨b, off + j * 2 + 1, none⟩ = some (.slice (S j).a (S j).len (S j).cap) ∧ w1.cell? ⟨w.heap.size, 1, none⟩ = some (.slice a2 m cap2) ∧ Below (w.alloc (.cells #[.string en, .slice a2 m cap2] 39)).heap.size (w.alloc (.cells #[.string en, .slice a2 m cap2] 39)) w1 := ⟨cell_below hW1 hcell.1, cell_below hW1 hcell.2, cell_below hb1 (by go_simp), hb1⟩
  clear hs hcell ho hc hv
  go_wp2
  refine wp_region_held_drew (S := (fun wS => wS.cell? ⟨b, off + j * 2, none⟩ = some (.string (S j).sn) ∧ wS.cell? ⟨b, off + j * 2 + 1, none⟩ = some (.slice (S j).a (S j).len (S j).cap) ∧ wS.cell? ⟨w.heap.size, 1, none⟩ = some (.slice a2 m cap2) ∧ Below (w.alloc (.cells #[.string en, .slice a2 m cap2] 39)).heap.size (w.alloc (.cells #[.string en, .slice a2 m cap2] 39)) wS)) (by kernel_rfl) ?_ (fun hHeld => ?_)
  · (try dsimp only); exact kp3d S0
  refine wpAnyH_take (i := 0) (oi := { dst := some 16, op := Op.move (Operand.tmp 0), type := 37, pos := "schema.go:110", after := #[], guard := none }) (v := ?_) rfl (by kernel_rfl) (by kernel_rfl) (by kernel_rfl) (fun _ _ _ h => h) (Or.inl ⟨by kernel_rfl, ?_⟩) (by assumption) ?_
  rotate_left
  · intro wS hSw; (try dsimp only at hSw); go_simp; (try with_reducible rfl)
  try simp only [Act.put, List.setIfInBounds_toArray, List.set_cons_zero, List.set_cons_succ]
  refine wpAnyH_take (i := 1) (oi := { dst := some 17, op := Op.move (Operand.tmp 5), type := 3, pos := "schema.go:110", after := #[], guard := none }) (v := ?_) rfl (by kernel_rfl) (by kernel_rfl) (by kernel_rfl) (fun _ _ _ h => h) (Or.inl ⟨by kernel_rfl, ?_⟩) (by assumption) ?_
  rotate_left
  · intro wS hSw; (try dsimp only at hSw); go_simp; (try with_reducible rfl)
  try simp only [Act.put, List.setIfInBounds_toArray, List.set_cons_zero, List.set_cons_succ]
  refine wpAnyH_take (i := 2) (oi := { dst := some 18, op := Op.indexAddr 37 (Operand.tmp 16) (Operand.tmp 17), type := 0, pos := "schema.go:110", after := #[{ on := 0, ground := Ground.data }, { on := 1, ground := Ground.data }], guard := none }) (v := ?_) rfl (by kernel_rfl) (by kernel_rfl) (by kernel_rfl) (fun _ _ _ h => h) (Or.inl ⟨by kernel_rfl, ?_⟩) (by assumption) ?_
  rotate_left
  · intro wS hSw; (try dsimp only at hSw); go_simp; (try with_reducible rfl)
  try simp only [Act.put, List.setIfInBounds_toArray, List.set_cons_zero, List.set_cons_succ]
  refine wpAnyH_take (i := 3) (oi := { dst := some 19, op := Op.load 24 (Operand.tmp 18), type := 24, pos := "schema.go:110", after := #[{ on := 2, ground := Ground.data }], guard := none }) (v := ?_) rfl (by kernel_rfl) (by kernel_rfl) (by kernel_rfl) (fun _ _ _ h => h) (Or.inl ⟨by kernel_rfl, ?_⟩) (by assumption) ?_
  rotate_left
  · intro wS hSw; (try dsimp only at hSw); go_simp; (try with_reducible rfl)
  try simp only [Act.put, List.setIfInBounds_toArray, List.set_cons_zero, List.set_cons_succ]
  refine wpAnyH_take (i := 4) (oi := { dst := some 20, op := Op.fieldAddr 39 (Operand.tmp 3) 1, type := 0, pos := "schema.go:110", after := #[], guard := none }) (v := ?_) rfl (by kernel_rfl) (by kernel_rfl) (by kernel_rfl) (fun _ _ _ h => h) (Or.inl ⟨by kernel_rfl, ?_⟩) (by assumption) ?_
  rotate_left
  · intro wS hSw; (try dsimp only at hSw); go_simp; (try with_reducible rfl)
  try simp only [Act.put, List.setIfInBounds_toArray, List.set_cons_zero, List.set_cons_succ]
  refine wpAnyH_take (i := 5) (oi := { dst := some 21, op := Op.load 33 (Operand.tmp 20), type := 33, pos := "schema.go:110", after := #[{ on := 4, ground := Ground.data }], guard := none }) (v := ?_) rfl (by kernel_rfl) (by kernel_rfl) (by kernel_rfl) (fun _ _ _ h => h) (Or.inl ⟨by kernel_rfl, ?_⟩) (by assumption) ?_
  rotate_left
  · intro wS hSw; (try dsimp only at hSw); go_simp; (try with_reducible rfl)
  try simp only [Act.put, List.setIfInBounds_toArray, List.set_cons_zero, List.set_cons_succ]
  refine wpAnyH_ready (rs := [6]) (by kernel_rfl) (by simp) ?_
  refine AllReadyH.cons (o := { dst := some 22, op := Op.call { callee := Callee.value (Operand.func 15), args := #[Operand.tmp 19, Operand.tmp 21], argTypes := #[24, 33] }, type := 27, pos := "schema.go:110", after := #[{ on := 3, ground := Ground.data }, { on := 5, ground := Ground.data }], guard := none }) rfl (fun K hK => ?_) AllReadyH.nil
  go_simp
  go_at_call 15
  refine (Fits_any (S j).sn (S j).a (S j).len (S j).cap a2 m cap2 (S j).nm (S j).kd k v t _ (kp3r hR1 (by assumption)) hm (hcj.below (kp3l (by assumption))) (hv1.below (kp3l (by assumption)))).mono ?_
  rintro e w2 ⟨rfl, hb⟩
  refine hK.out _ _ ?_ (fun hH6 => ?_)
  · (try dsimp only); exact kp3 (by assumption) hb
  clear hK K
  try simp only [Act.put, List.setIfInBounds_toArray, List.set_cons_zero, List.set_cons_succ]
  refine wpAnyH_take (i := 7) (oi := { dst := some 4, op := Op.assign (Operand.tmp 22), type := 27, pos := "schema.go:110", after := #[{ on := 6, ground := Ground.data }, { on := 6, ground := Ground.chain }, { on := 0, ground := Ground.phase }, { on := 1, ground := Ground.phase }, { on := 2, ground := Ground.phase }, { on := 3, ground := Ground.phase }, { on := 4, ground := Ground.phase }, { on := 5, ground := Ground.phase }, { on := 6, ground := Ground.phase }], guard := none }) (v := ?_) rfl (by kernel_rfl) (by kernel_rfl) (by kernel_rfl) (fun _ _ _ h => h) (Or.inl ⟨by kernel_rfl, ?_⟩) (by assumption) ?_
  rotate_left
  · intro wS hSw; (try dsimp only at hSw); go_simp; (try with_reducible rfl)
  try simp only [Act.put, List.setIfInBounds_toArray, List.set_cons_zero, List.set_cons_succ]
  refine wpAnyH_done (by kernel_rfl) ?_ _
  have hBS := kp3l hH6
  go_wp2
  go_ret
  exact ⟨rfl, (Bel.out (by repeat (first | exact Bel.refl _ | assumption | refine Bel.drew ?_ | refine Bel.drewN ?_ _ | refine Bel.alloc ?_ _ | refine Bel.setCell ?_ (by simp <;> omega) _ | refine Bel.step ?_ (by assumption))))⟩
end Go.Proofs.YtjncoihppmbijaaDoor
