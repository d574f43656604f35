/- A value cut off bytes (cutValue). -/
import Derived.Test.YtbfodpmlmhkikaaDoorCut
namespace Go.Proofs.YtbfodpmlmhkikaaDoor
open Go.ChangeShapes Go.WideShapes Go.ChangeAt Go.RowKit

theorem first_at {s : ByteArray} {b : UInt8} {l : List UInt8} (hs : s.data.toList = b :: l) (h : 0 < s.size) : s[0]'h = b := by
  obtain ⟨⟨d⟩⟩ := s
  simp at hs; subst hs; rfl
theorem set3_cells {w : World} {b : Nat} {x y z : Value} (h0 : w.cell? ⟨b, 0, none⟩ = some x) (h1 : w.cell? ⟨b, 1, none⟩ = some y) (h2 : w.cell? ⟨b, 2, none⟩ = some z) (x' y' z' : Value) :
    (((w.setCell ⟨b, 0, none⟩ x').setCell ⟨b, 1, none⟩ y').setCell ⟨b, 2, none⟩ z').cell? ⟨b, 0, none⟩ = some x' ∧ (((w.setCell ⟨b, 0, none⟩ x').setCell ⟨b, 1, none⟩ y').setCell ⟨b, 2, none⟩ z').cell? ⟨b, 1, none⟩ = some y' ∧ (((w.setCell ⟨b, 0, none⟩ x').setCell ⟨b, 1, none⟩ y').setCell ⟨b, 2, none⟩ z').cell? ⟨b, 2, none⟩ = some z' := by
  have k0 : (w.setCell ⟨b, 0, none⟩ x').cell? ⟨b, 0, none⟩ = some x' := World.cell?_setCell_same _ _ _ h0
  have k1 : (w.setCell ⟨b, 0, none⟩ x').cell? ⟨b, 1, none⟩ = some y := by rw [set_off (by decide)]; exact h1
  have k2 : ((w.setCell ⟨b, 0, none⟩ x').setCell ⟨b, 1, none⟩ y').cell? ⟨b, 2, none⟩ = some z := by rw [set_off (by decide), set_off (by decide)]; exact h2
  refine ⟨?_, ?_, World.cell?_setCell_same _ _ _ k2⟩
  · rw [set_off (by decide), set_off (by decide)]; exact k0
  · rw [set_off (by decide)]; exact World.cell?_setCell_same _ _ _ k1
set_option maxRecDepth 20000 in
set_option maxHeartbeats 4000000 in
theorem cutV_1n (s : ByteArray) (l : List UInt8) (w : World) (hs : s.data.toList = 1 :: l) (hmx : s.size ≤ 9223372036854775807) (hl : l.length < 1) :
    Calls Tryd.prog 28 #[.string s] w fun e w' => e = .returned (.tuple #[.agg #[.int .i64 1, .int .i64 0, .string ⟨#[]⟩], .string ⟨#[]⟩, .bool false]) ∧ Below w.heap.size w w' := by
  have HSZ : Hid (s.size = l.length + 1) := by show _ = _; have := congrArg List.length hs; simpa using this
  have hpos : 1 ≤ s.size := by have := HSZ.out; omega
  have h0 : (s[0]'(by omega)) = 1 := first_at hs (by omega)
  have hx : s.extract 1 s.size = bsA l := by rw [ext_drop, hs]; rfl
  have hbl : (bsA l).size = l.length := bsA_size l
  have hbd : (bsA l).data.toList = l := bsA_list l
  have hbm : (bsA l).size ≤ 9223372036854775807 := by have := HSZ.out; omega
  have hc := fun wx => cutNumber_no (bsA l) 1 wx (by omega) (by rw [hbl]; exact hl)
  clear hbl hbd hs hbm
  generalize bsA l = r at hc hx
  go_enter Tryd.func28, Tryd.ntmps28
  go_wp2_with fail
  refine (hc _).mono ?_
  rintro e w1 ⟨rfl, hb⟩
  have q0 : w1.cell? ⟨w.heap.size, 0, none⟩ = some (.int .i64 1) := cell_below hb (new3_0 _ _ _ _ _)
  have q1 : w1.cell? ⟨w.heap.size, 1, none⟩ = some (.int .i64 0) := cell_below hb (new3_1 _ _ _ _ _)
  have q2 : w1.cell? ⟨w.heap.size, 2, none⟩ = some (.string ⟨#[]⟩) := cell_below hb (new3_2 _ _ _ _ _)
  have g0 : w1.frozen? ⟨w.heap.size, 0, none⟩ = false := (hb.frozen (p := ⟨w.heap.size, 0, none⟩) (by simp)).trans (by go_simp)
  have g1 : w1.frozen? ⟨w.heap.size, 1, none⟩ = false := (hb.frozen (p := ⟨w.heap.size, 1, none⟩) (by simp)).trans (by go_simp)
  have g2 : w1.frozen? ⟨w.heap.size, 2, none⟩ = false := (hb.frozen (p := ⟨w.heap.size, 2, none⟩) (by simp)).trans (by go_simp)
  go_wp2
  obtain ⟨w2, hw2⟩ : ∃ w2 : World, w1.setCell ⟨w.heap.size, 1, none⟩ (.int .i64 0) = w2 := ⟨_, rfl⟩
  have z0 : w2.cell? ⟨w.heap.size, 0, none⟩ = some (.int .i64 1) := by rw [← hw2]; rw [set_off (by decide)]; exact q0
  have z1 : w2.cell? ⟨w.heap.size, 1, none⟩ = some (.int .i64 0) := by rw [← hw2]; exact World.cell?_setCell_same _ _ _ q1
  have z2 : w2.cell? ⟨w.heap.size, 2, none⟩ = some (.string ⟨#[]⟩) := by rw [← hw2]; rw [set_off (by decide)]; exact q2
  have hbb : Below w.heap.size w w2 := by rw [← hw2]; exact (((Below.refl _ _).alloc (Nat.le_refl _) _).trans (hb.mono (by simp))).setCell (p := ⟨w.heap.size, 1, none⟩) (Nat.le_refl _) _
  rw [hw2]
  obtain ⟨y0, y1, y2⟩ := set3_cells z0 z1 z2 (.int .i64 1) (.int .i64 0) (.string ⟨#[]⟩)
  refine bodyPost_ret (v := .tuple #[.agg #[.int .i64 1, .int .i64 0, .string ⟨#[]⟩], .string ⟨#[]⟩, .bool false]) (by simp [results, Tryd.results28, go_sem, y0, y1, y2]) rfl ⟨rfl, ((hbb.setCell (p := ⟨w.heap.size, 0, none⟩) (Nat.le_refl _) _).setCell (p := ⟨w.heap.size, 1, none⟩) (Nat.le_refl _) _).setCell (p := ⟨w.heap.size, 2, none⟩) (Nat.le_refl _) _⟩
set_option maxRecDepth 20000 in
set_option maxHeartbeats 4000000 in
theorem cutV_1y (s : ByteArray) (l : List UInt8) (w : World) (hs : s.data.toList = 1 :: l) (hmx : s.size ≤ 9223372036854775807) (hl : 1 ≤ l.length) :
    Calls Tryd.prog 28 #[.string s] w fun e w' => e = .returned (.tuple #[.agg #[.int .i64 1, .int .i64 (i64 (leN (l.take 1))), .string ⟨#[]⟩], .string (bsA (l.drop 1)), .bool true]) ∧ Below w.heap.size w w' := by
  have HSZ : Hid (s.size = l.length + 1) := by show _ = _; have := congrArg List.length hs; simpa using this
  have hpos : 1 ≤ s.size := by have := HSZ.out; omega
  have h0 : (s[0]'(by omega)) = 1 := first_at hs (by omega)
  have hx : s.extract 1 s.size = bsA l := by rw [ext_drop, hs]; rfl
  have hbl : (bsA l).size = l.length := bsA_size l
  have hbd : (bsA l).data.toList = l := bsA_list l
  have hbm : (bsA l).size ≤ 9223372036854775807 := by have := HSZ.out; omega
  have hc := fun wx => cutNumber_yes (bsA l) 1 wx (by omega) (by rw [hbl]; exact hl) hbm
  rw [hbd] at hc
  generalize i64 (leN (l.take 1)) = X at hc ⊢
  generalize bsA (l.drop 1) = Y at hc ⊢
  clear hbl hbd hs hbm
  generalize bsA l = r at hc hx
  go_enter Tryd.func28, Tryd.ntmps28
  go_wp2_with fail
  refine (hc _).mono ?_
  rintro e w1 ⟨rfl, hb⟩
  have q0 : w1.cell? ⟨w.heap.size, 0, none⟩ = some (.int .i64 1) := cell_below hb (new3_0 _ _ _ _ _)
  have q1 : w1.cell? ⟨w.heap.size, 1, none⟩ = some (.int .i64 0) := cell_below hb (new3_1 _ _ _ _ _)
  have q2 : w1.cell? ⟨w.heap.size, 2, none⟩ = some (.string ⟨#[]⟩) := cell_below hb (new3_2 _ _ _ _ _)
  have g0 : w1.frozen? ⟨w.heap.size, 0, none⟩ = false := (hb.frozen (p := ⟨w.heap.size, 0, none⟩) (by simp)).trans (by go_simp)
  have g1 : w1.frozen? ⟨w.heap.size, 1, none⟩ = false := (hb.frozen (p := ⟨w.heap.size, 1, none⟩) (by simp)).trans (by go_simp)
  have g2 : w1.frozen? ⟨w.heap.size, 2, none⟩ = false := (hb.frozen (p := ⟨w.heap.size, 2, none⟩) (by simp)).trans (by go_simp)
  go_wp2
  obtain ⟨w2, hw2⟩ : ∃ w2 : World, w1.setCell ⟨w.heap.size, 1, none⟩ (.int .i64 X) = w2 := ⟨_, rfl⟩
  have z0 : w2.cell? ⟨w.heap.size, 0, none⟩ = some (.int .i64 1) := by rw [← hw2]; rw [set_off (by decide)]; exact q0
  have z1 : w2.cell? ⟨w.heap.size, 1, none⟩ = some (.int .i64 X) := by rw [← hw2]; exact World.cell?_setCell_same _ _ _ q1
  have z2 : w2.cell? ⟨w.heap.size, 2, none⟩ = some (.string ⟨#[]⟩) := by rw [← hw2]; rw [set_off (by decide)]; exact q2
  have hbb : Below w.heap.size w w2 := by rw [← hw2]; exact (((Below.refl _ _).alloc (Nat.le_refl _) _).trans (hb.mono (by simp))).setCell (p := ⟨w.heap.size, 1, none⟩) (Nat.le_refl _) _
  rw [hw2]
  obtain ⟨y0, y1, y2⟩ := set3_cells z0 z1 z2 (.int .i64 1) (.int .i64 X) (.string ⟨#[]⟩)
  refine bodyPost_ret (v := .tuple #[.agg #[.int .i64 1, .int .i64 X, .string ⟨#[]⟩], .string Y, .bool true]) (by simp [results, Tryd.results28, go_sem, y0, y1, y2]) rfl ⟨rfl, ((hbb.setCell (p := ⟨w.heap.size, 0, none⟩) (Nat.le_refl _) _).setCell (p := ⟨w.heap.size, 1, none⟩) (Nat.le_refl _) _).setCell (p := ⟨w.heap.size, 2, none⟩) (Nat.le_refl _) _⟩
set_option maxRecDepth 20000 in
set_option maxHeartbeats 4000000 in
theorem cutV_2n (s : ByteArray) (l : List UInt8) (w : World) (hs : s.data.toList = 2 :: l) (hmx : s.size ≤ 9223372036854775807) (hl : l.length < 8) :
    Calls Tryd.prog 28 #[.string s] w fun e w' => e = .returned (.tuple #[.agg #[.int .i64 2, .int .i64 0, .string ⟨#[]⟩], .string ⟨#[]⟩, .bool false]) ∧ Below w.heap.size w w' := by
  have HSZ : Hid (s.size = l.length + 1) := by show _ = _; have := congrArg List.length hs; simpa using this
  have hpos : 1 ≤ s.size := by have := HSZ.out; omega
  have h0 : (s[0]'(by omega)) = 2 := first_at hs (by omega)
  have hx : s.extract 1 s.size = bsA l := by rw [ext_drop, hs]; rfl
  have hbl : (bsA l).size = l.length := bsA_size l
  have hbd : (bsA l).data.toList = l := bsA_list l
  have hbm : (bsA l).size ≤ 9223372036854775807 := by have := HSZ.out; omega
  have hc := fun wx => cutNumber_no (bsA l) 8 wx (by omega) (by rw [hbl]; exact hl)
  clear hbl hbd hs hbm
  generalize bsA l = r at hc hx
  go_enter Tryd.func28, Tryd.ntmps28
  go_wp2_with fail
  refine (hc _).mono ?_
  rintro e w1 ⟨rfl, hb⟩
  have q0 : w1.cell? ⟨w.heap.size, 0, none⟩ = some (.int .i64 2) := cell_below hb (new3_0 _ _ _ _ _)
  have q1 : w1.cell? ⟨w.heap.size, 1, none⟩ = some (.int .i64 0) := cell_below hb (new3_1 _ _ _ _ _)
  have q2 : w1.cell? ⟨w.heap.size, 2, none⟩ = some (.string ⟨#[]⟩) := cell_below hb (new3_2 _ _ _ _ _)
  have g0 : w1.frozen? ⟨w.heap.size, 0, none⟩ = false := (hb.frozen (p := ⟨w.heap.size, 0, none⟩) (by simp)).trans (by go_simp)
  have g1 : w1.frozen? ⟨w.heap.size, 1, none⟩ = false := (hb.frozen (p := ⟨w.heap.size, 1, none⟩) (by simp)).trans (by go_simp)
  have g2 : w1.frozen? ⟨w.heap.size, 2, none⟩ = false := (hb.frozen (p := ⟨w.heap.size, 2, none⟩) (by simp)).trans (by go_simp)
  go_wp2
  obtain ⟨w2, hw2⟩ : ∃ w2 : World, w1.setCell ⟨w.heap.size, 1, none⟩ (.int .i64 0) = w2 := ⟨_, rfl⟩
  have z0 : w2.cell? ⟨w.heap.size, 0, none⟩ = some (.int .i64 2) := by rw [← hw2]; rw [set_off (by decide)]; exact q0
  have z1 : w2.cell? ⟨w.heap.size, 1, none⟩ = some (.int .i64 0) := by rw [← hw2]; exact World.cell?_setCell_same _ _ _ q1
  have z2 : w2.cell? ⟨w.heap.size, 2, none⟩ = some (.string ⟨#[]⟩) := by rw [← hw2]; rw [set_off (by decide)]; exact q2
  have hbb : Below w.heap.size w w2 := by rw [← hw2]; exact (((Below.refl _ _).alloc (Nat.le_refl _) _).trans (hb.mono (by simp))).setCell (p := ⟨w.heap.size, 1, none⟩) (Nat.le_refl _) _
  rw [hw2]
  obtain ⟨y0, y1, y2⟩ := set3_cells z0 z1 z2 (.int .i64 2) (.int .i64 0) (.string ⟨#[]⟩)
  refine bodyPost_ret (v := .tuple #[.agg #[.int .i64 2, .int .i64 0, .string ⟨#[]⟩], .string ⟨#[]⟩, .bool false]) (by simp [results, Tryd.results28, go_sem, y0, y1, y2]) rfl ⟨rfl, ((hbb.setCell (p := ⟨w.heap.size, 0, none⟩) (Nat.le_refl _) _).setCell (p := ⟨w.heap.size, 1, none⟩) (Nat.le_refl _) _).setCell (p := ⟨w.heap.size, 2, none⟩) (Nat.le_refl _) _⟩
set_option maxRecDepth 20000 in
set_option maxHeartbeats 4000000 in
theorem cutV_2y (s : ByteArray) (l : List UInt8) (w : World) (hs : s.data.toList = 2 :: l) (hmx : s.size ≤ 9223372036854775807) (hl : 8 ≤ l.length) :
    Calls Tryd.prog 28 #[.string s] w fun e w' => e = .returned (.tuple #[.agg #[.int .i64 2, .int .i64 (i64 (leN (l.take 8))), .string ⟨#[]⟩], .string (bsA (l.drop 8)), .bool true]) ∧ Below w.heap.size w w' := by
  have HSZ : Hid (s.size = l.length + 1) := by show _ = _; have := congrArg List.length hs; simpa using this
  have hpos : 1 ≤ s.size := by have := HSZ.out; omega
  have h0 : (s[0]'(by omega)) = 2 := first_at hs (by omega)
  have hx : s.extract 1 s.size = bsA l := by rw [ext_drop, hs]; rfl
  have hbl : (bsA l).size = l.length := bsA_size l
  have hbd : (bsA l).data.toList = l := bsA_list l
  have hbm : (bsA l).size ≤ 9223372036854775807 := by have := HSZ.out; omega
  have hc := fun wx => cutNumber_yes (bsA l) 8 wx (by omega) (by rw [hbl]; exact hl) hbm
  rw [hbd] at hc
  generalize i64 (leN (l.take 8)) = X at hc ⊢
  generalize bsA (l.drop 8) = Y at hc ⊢
  clear hbl hbd hs hbm
  generalize bsA l = r at hc hx
  go_enter Tryd.func28, Tryd.ntmps28
  go_wp2_with fail
  refine (hc _).mono ?_
  rintro e w1 ⟨rfl, hb⟩
  have q0 : w1.cell? ⟨w.heap.size, 0, none⟩ = some (.int .i64 2) := cell_below hb (new3_0 _ _ _ _ _)
  have q1 : w1.cell? ⟨w.heap.size, 1, none⟩ = some (.int .i64 0) := cell_below hb (new3_1 _ _ _ _ _)
  have q2 : w1.cell? ⟨w.heap.size, 2, none⟩ = some (.string ⟨#[]⟩) := cell_below hb (new3_2 _ _ _ _ _)
  have g0 : w1.frozen? ⟨w.heap.size, 0, none⟩ = false := (hb.frozen (p := ⟨w.heap.size, 0, none⟩) (by simp)).trans (by go_simp)
  have g1 : w1.frozen? ⟨w.heap.size, 1, none⟩ = false := (hb.frozen (p := ⟨w.heap.size, 1, none⟩) (by simp)).trans (by go_simp)
  have g2 : w1.frozen? ⟨w.heap.size, 2, none⟩ = false := (hb.frozen (p := ⟨w.heap.size, 2, none⟩) (by simp)).trans (by go_simp)
  go_wp2
  obtain ⟨w2, hw2⟩ : ∃ w2 : World, w1.setCell ⟨w.heap.size, 1, none⟩ (.int .i64 X) = w2 := ⟨_, rfl⟩
  have z0 : w2.cell? ⟨w.heap.size, 0, none⟩ = some (.int .i64 2) := by rw [← hw2]; rw [set_off (by decide)]; exact q0
  have z1 : w2.cell? ⟨w.heap.size, 1, none⟩ = some (.int .i64 X) := by rw [← hw2]; exact World.cell?_setCell_same _ _ _ q1
  have z2 : w2.cell? ⟨w.heap.size, 2, none⟩ = some (.string ⟨#[]⟩) := by rw [← hw2]; rw [set_off (by decide)]; exact q2
  have hbb : Below w.heap.size w w2 := by rw [← hw2]; exact (((Below.refl _ _).alloc (Nat.le_refl _) _).trans (hb.mono (by simp))).setCell (p := ⟨w.heap.size, 1, none⟩) (Nat.le_refl _) _
  rw [hw2]
  obtain ⟨y0, y1, y2⟩ := set3_cells z0 z1 z2 (.int .i64 2) (.int .i64 X) (.string ⟨#[]⟩)
  refine bodyPost_ret (v := .tuple #[.agg #[.int .i64 2, .int .i64 X, .string ⟨#[]⟩], .string Y, .bool true]) (by simp [results, Tryd.results28, go_sem, y0, y1, y2]) rfl ⟨rfl, ((hbb.setCell (p := ⟨w.heap.size, 0, none⟩) (Nat.le_refl _) _).setCell (p := ⟨w.heap.size, 1, none⟩) (Nat.le_refl _) _).setCell (p := ⟨w.heap.size, 2, none⟩) (Nat.le_refl _) _⟩
set_option maxRecDepth 20000 in
set_option maxHeartbeats 4000000 in
theorem cutV_3n (s : ByteArray) (l : List UInt8) (w : World) (hs : s.data.toList = 3 :: l) (hmx : s.size ≤ 9223372036854775807) (hl : l.length < 8) :
    Calls Tryd.prog 28 #[.string s] w fun e w' => e = .returned (.tuple #[.agg #[.int .i64 3, .int .i64 0, .string ⟨#[]⟩], .string ⟨#[]⟩, .bool false]) ∧ Below w.heap.size w w' := by
  have HSZ : Hid (s.size = l.length + 1) := by show _ = _; have := congrArg List.length hs; simpa using this
  have hpos : 1 ≤ s.size := by have := HSZ.out; omega
  have h0 : (s[0]'(by omega)) = 3 := first_at hs (by omega)
  have hx : s.extract 1 s.size = bsA l := by rw [ext_drop, hs]; rfl
  have hbl : (bsA l).size = l.length := bsA_size l
  have hbd : (bsA l).data.toList = l := bsA_list l
  have hbm : (bsA l).size ≤ 9223372036854775807 := by have := HSZ.out; omega
  have hc := fun wx => cutNumber_no (bsA l) 8 wx (by omega) (by rw [hbl]; exact hl)
  clear hbl hbd hs hbm
  generalize bsA l = r at hc hx
  go_enter Tryd.func28, Tryd.ntmps28
  go_wp2_with fail
  refine (hc _).mono ?_
  rintro e w1 ⟨rfl, hb⟩
  have q0 : w1.cell? ⟨w.heap.size, 0, none⟩ = some (.int .i64 3) := cell_below hb (new3_0 _ _ _ _ _)
  have q1 : w1.cell? ⟨w.heap.size, 1, none⟩ = some (.int .i64 0) := cell_below hb (new3_1 _ _ _ _ _)
  have q2 : w1.cell? ⟨w.heap.size, 2, none⟩ = some (.string ⟨#[]⟩) := cell_below hb (new3_2 _ _ _ _ _)
  have g0 : w1.frozen? ⟨w.heap.size, 0, none⟩ = false := (hb.frozen (p := ⟨w.heap.size, 0, none⟩) (by simp)).trans (by go_simp)
  have g1 : w1.frozen? ⟨w.heap.size, 1, none⟩ = false := (hb.frozen (p := ⟨w.heap.size, 1, none⟩) (by simp)).trans (by go_simp)
  have g2 : w1.frozen? ⟨w.heap.size, 2, none⟩ = false := (hb.frozen (p := ⟨w.heap.size, 2, none⟩) (by simp)).trans (by go_simp)
  go_wp2
  obtain ⟨w2, hw2⟩ : ∃ w2 : World, w1.setCell ⟨w.heap.size, 1, none⟩ (.int .i64 0) = w2 := ⟨_, rfl⟩
  have z0 : w2.cell? ⟨w.heap.size, 0, none⟩ = some (.int .i64 3) := by rw [← hw2]; rw [set_off (by decide)]; exact q0
  have z1 : w2.cell? ⟨w.heap.size, 1, none⟩ = some (.int .i64 0) := by rw [← hw2]; exact World.cell?_setCell_same _ _ _ q1
  have z2 : w2.cell? ⟨w.heap.size, 2, none⟩ = some (.string ⟨#[]⟩) := by rw [← hw2]; rw [set_off (by decide)]; exact q2
  have hbb : Below w.heap.size w w2 := by rw [← hw2]; exact (((Below.refl _ _).alloc (Nat.le_refl _) _).trans (hb.mono (by simp))).setCell (p := ⟨w.heap.size, 1, none⟩) (Nat.le_refl _) _
  rw [hw2]
  obtain ⟨y0, y1, y2⟩ := set3_cells z0 z1 z2 (.int .i64 3) (.int .i64 0) (.string ⟨#[]⟩)
  refine bodyPost_ret (v := .tuple #[.agg #[.int .i64 3, .int .i64 0, .string ⟨#[]⟩], .string ⟨#[]⟩, .bool false]) (by simp [results, Tryd.results28, go_sem, y0, y1, y2]) rfl ⟨rfl, ((hbb.setCell (p := ⟨w.heap.size, 0, none⟩) (Nat.le_refl _) _).setCell (p := ⟨w.heap.size, 1, none⟩) (Nat.le_refl _) _).setCell (p := ⟨w.heap.size, 2, none⟩) (Nat.le_refl _) _⟩
set_option maxRecDepth 20000 in
set_option maxHeartbeats 4000000 in
theorem cutV_3y (s : ByteArray) (l : List UInt8) (w : World) (hs : s.data.toList = 3 :: l) (hmx : s.size ≤ 9223372036854775807) (hl : 8 ≤ l.length) :
    Calls Tryd.prog 28 #[.string s] w fun e w' => e = .returned (.tuple #[.agg #[.int .i64 3, .int .i64 (i64 (leN (l.take 8))), .string ⟨#[]⟩], .string (bsA (l.drop 8)), .bool true]) ∧ Below w.heap.size w w' := by
  have HSZ : Hid (s.size = l.length + 1) := by show _ = _; have := congrArg List.length hs; simpa using this
  have hpos : 1 ≤ s.size := by have := HSZ.out; omega
  have h0 : (s[0]'(by omega)) = 3 := first_at hs (by omega)
  have hx : s.extract 1 s.size = bsA l := by rw [ext_drop, hs]; rfl
  have hbl : (bsA l).size = l.length := bsA_size l
  have hbd : (bsA l).data.toList = l := bsA_list l
  have hbm : (bsA l).size ≤ 9223372036854775807 := by have := HSZ.out; omega
  have hc := fun wx => cutNumber_yes (bsA l) 8 wx (by omega) (by rw [hbl]; exact hl) hbm
  rw [hbd] at hc
  generalize i64 (leN (l.take 8)) = X at hc ⊢
  generalize bsA (l.drop 8) = Y at hc ⊢
  clear hbl hbd hs hbm
  generalize bsA l = r at hc hx
  go_enter Tryd.func28, Tryd.ntmps28
  go_wp2_with fail
  refine (hc _).mono ?_
  rintro e w1 ⟨rfl, hb⟩
  have q0 : w1.cell? ⟨w.heap.size, 0, none⟩ = some (.int .i64 3) := cell_below hb (new3_0 _ _ _ _ _)
  have q1 : w1.cell? ⟨w.heap.size, 1, none⟩ = some (.int .i64 0) := cell_below hb (new3_1 _ _ _ _ _)
  have q2 : w1.cell? ⟨w.heap.size, 2, none⟩ = some (.string ⟨#[]⟩) := cell_below hb (new3_2 _ _ _ _ _)
  have g0 : w1.frozen? ⟨w.heap.size, 0, none⟩ = false := (hb.frozen (p := ⟨w.heap.size, 0, none⟩) (by simp)).trans (by go_simp)
  have g1 : w1.frozen? ⟨w.heap.size, 1, none⟩ = false := (hb.frozen (p := ⟨w.heap.size, 1, none⟩) (by simp)).trans (by go_simp)
  have g2 : w1.frozen? ⟨w.heap.size, 2, none⟩ = false := (hb.frozen (p := ⟨w.heap.size, 2, none⟩) (by simp)).trans (by go_simp)
  go_wp2
  obtain ⟨w2, hw2⟩ : ∃ w2 : World, w1.setCell ⟨w.heap.size, 1, none⟩ (.int .i64 X) = w2 := ⟨_, rfl⟩
  have z0 : w2.cell? ⟨w.heap.size, 0, none⟩ = some (.int .i64 3) := by rw [← hw2]; rw [set_off (by decide)]; exact q0
  have z1 : w2.cell? ⟨w.heap.size, 1, none⟩ = some (.int .i64 X) := by rw [← hw2]; exact World.cell?_setCell_same _ _ _ q1
  have z2 : w2.cell? ⟨w.heap.size, 2, none⟩ = some (.string ⟨#[]⟩) := by rw [← hw2]; rw [set_off (by decide)]; exact q2
  have hbb : Below w.heap.size w w2 := by rw [← hw2]; exact (((Below.refl _ _).alloc (Nat.le_refl _) _).trans (hb.mono (by simp))).setCell (p := ⟨w.heap.size, 1, none⟩) (Nat.le_refl _) _
  rw [hw2]
  obtain ⟨y0, y1, y2⟩ := set3_cells z0 z1 z2 (.int .i64 3) (.int .i64 X) (.string ⟨#[]⟩)
  refine bodyPost_ret (v := .tuple #[.agg #[.int .i64 3, .int .i64 X, .string ⟨#[]⟩], .string Y, .bool true]) (by simp [results, Tryd.results28, go_sem, y0, y1, y2]) rfl ⟨rfl, ((hbb.setCell (p := ⟨w.heap.size, 0, none⟩) (Nat.le_refl _) _).setCell (p := ⟨w.heap.size, 1, none⟩) (Nat.le_refl _) _).setCell (p := ⟨w.heap.size, 2, none⟩) (Nat.le_refl _) _⟩
set_option maxRecDepth 20000 in
set_option maxHeartbeats 4000000 in
theorem cutV_4n1 (s : ByteArray) (l : List UInt8) (w : World) (hs : s.data.toList = 4 :: l) (hmx : s.size ≤ 9223372036854775807) (hl : l.length < 2) :
    Calls Tryd.prog 28 #[.string s] w fun e w' => e = .returned (.tuple #[.agg #[.int .i64 4, .int .i64 0, .string ⟨#[]⟩], .string ⟨#[]⟩, .bool false]) ∧ Below w.heap.size w w' := by
  have HSZ : Hid (s.size = l.length + 1) := by show _ = _; have := congrArg List.length hs; simpa using this
  have hpos : 1 ≤ s.size := by have := HSZ.out; omega
  have h0 : (s[0]'(by omega)) = 4 := first_at hs (by omega)
  have hx : s.extract 1 s.size = bsA l := by rw [ext_drop, hs]; rfl
  have hbl : (bsA l).size = l.length := bsA_size l
  have hbd : (bsA l).data.toList = l := bsA_list l
  have hbm : (bsA l).size ≤ 9223372036854775807 := by have := HSZ.out; omega
  have hc := fun wx => cutText_no1 (bsA l) wx (by rw [hbl]; exact hl)
  clear hbl hbd hs hbm
  generalize bsA l = r at hc hx
  go_enter Tryd.func28, Tryd.ntmps28
  go_wp2_with fail
  refine (hc _).mono ?_
  rintro e w1 ⟨rfl, hb⟩
  have q0 : w1.cell? ⟨w.heap.size, 0, none⟩ = some (.int .i64 4) := cell_below hb (new3_0 _ _ _ _ _)
  have q1 : w1.cell? ⟨w.heap.size, 1, none⟩ = some (.int .i64 0) := cell_below hb (new3_1 _ _ _ _ _)
  have q2 : w1.cell? ⟨w.heap.size, 2, none⟩ = some (.string ⟨#[]⟩) := cell_below hb (new3_2 _ _ _ _ _)
  have g0 : w1.frozen? ⟨w.heap.size, 0, none⟩ = false := (hb.frozen (p := ⟨w.heap.size, 0, none⟩) (by simp)).trans (by go_simp)
  have g1 : w1.frozen? ⟨w.heap.size, 1, none⟩ = false := (hb.frozen (p := ⟨w.heap.size, 1, none⟩) (by simp)).trans (by go_simp)
  have g2 : w1.frozen? ⟨w.heap.size, 2, none⟩ = false := (hb.frozen (p := ⟨w.heap.size, 2, none⟩) (by simp)).trans (by go_simp)
  go_wp2
  obtain ⟨w2, hw2⟩ : ∃ w2 : World, w1.setCell ⟨w.heap.size, 2, none⟩ (.string ⟨#[]⟩) = w2 := ⟨_, rfl⟩
  have z0 : w2.cell? ⟨w.heap.size, 0, none⟩ = some (.int .i64 4) := by rw [← hw2]; rw [set_off (by decide)]; exact q0
  have z1 : w2.cell? ⟨w.heap.size, 1, none⟩ = some (.int .i64 0) := by rw [← hw2]; rw [set_off (by decide)]; exact q1
  have z2 : w2.cell? ⟨w.heap.size, 2, none⟩ = some (.string ⟨#[]⟩) := by rw [← hw2]; exact World.cell?_setCell_same _ _ _ q2
  have hbb : Below w.heap.size w w2 := by rw [← hw2]; exact (((Below.refl _ _).alloc (Nat.le_refl _) _).trans (hb.mono (by simp))).setCell (p := ⟨w.heap.size, 2, none⟩) (Nat.le_refl _) _
  rw [hw2]
  obtain ⟨y0, y1, y2⟩ := set3_cells z0 z1 z2 (.int .i64 4) (.int .i64 0) (.string ⟨#[]⟩)
  refine bodyPost_ret (v := .tuple #[.agg #[.int .i64 4, .int .i64 0, .string ⟨#[]⟩], .string ⟨#[]⟩, .bool false]) (by simp [results, Tryd.results28, go_sem, y0, y1, y2]) rfl ⟨rfl, ((hbb.setCell (p := ⟨w.heap.size, 0, none⟩) (Nat.le_refl _) _).setCell (p := ⟨w.heap.size, 1, none⟩) (Nat.le_refl _) _).setCell (p := ⟨w.heap.size, 2, none⟩) (Nat.le_refl _) _⟩
set_option maxRecDepth 20000 in
set_option maxHeartbeats 4000000 in
theorem cutV_4n2 (s : ByteArray) (l : List UInt8) (w : World) (hs : s.data.toList = 4 :: l) (hmx : s.size ≤ 9223372036854775807) (hl : 2 ≤ l.length) (hn : (l.drop 2).length < leN (l.take 2)) :
    Calls Tryd.prog 28 #[.string s] w fun e w' => e = .returned (.tuple #[.agg #[.int .i64 4, .int .i64 0, .string ⟨#[]⟩], .string ⟨#[]⟩, .bool false]) ∧ Below w.heap.size w w' := by
  have HSZ : Hid (s.size = l.length + 1) := by show _ = _; have := congrArg List.length hs; simpa using this
  have hpos : 1 ≤ s.size := by have := HSZ.out; omega
  have h0 : (s[0]'(by omega)) = 4 := first_at hs (by omega)
  have hx : s.extract 1 s.size = bsA l := by rw [ext_drop, hs]; rfl
  have hbl : (bsA l).size = l.length := bsA_size l
  have hbd : (bsA l).data.toList = l := bsA_list l
  have hbm : (bsA l).size ≤ 9223372036854775807 := by have := HSZ.out; omega
  have hc := fun wx => cutText_no2 (bsA l) wx (by rw [hbl]; exact hl) hbm (by rw [hbd]; exact hn)
  clear hn
  clear hbl hbd hs hbm
  generalize bsA l = r at hc hx
  go_enter Tryd.func28, Tryd.ntmps28
  go_wp2_with fail
  refine (hc _).mono ?_
  rintro e w1 ⟨rfl, hb⟩
  have q0 : w1.cell? ⟨w.heap.size, 0, none⟩ = some (.int .i64 4) := cell_below hb (new3_0 _ _ _ _ _)
  have q1 : w1.cell? ⟨w.heap.size, 1, none⟩ = some (.int .i64 0) := cell_below hb (new3_1 _ _ _ _ _)
  have q2 : w1.cell? ⟨w.heap.size, 2, none⟩ = some (.string ⟨#[]⟩) := cell_below hb (new3_2 _ _ _ _ _)
  have g0 : w1.frozen? ⟨w.heap.size, 0, none⟩ = false := (hb.frozen (p := ⟨w.heap.size, 0, none⟩) (by simp)).trans (by go_simp)
  have g1 : w1.frozen? ⟨w.heap.size, 1, none⟩ = false := (hb.frozen (p := ⟨w.heap.size, 1, none⟩) (by simp)).trans (by go_simp)
  have g2 : w1.frozen? ⟨w.heap.size, 2, none⟩ = false := (hb.frozen (p := ⟨w.heap.size, 2, none⟩) (by simp)).trans (by go_simp)
  go_wp2
  obtain ⟨w2, hw2⟩ : ∃ w2 : World, w1.setCell ⟨w.heap.size, 2, none⟩ (.string ⟨#[]⟩) = w2 := ⟨_, rfl⟩
  have z0 : w2.cell? ⟨w.heap.size, 0, none⟩ = some (.int .i64 4) := by rw [← hw2]; rw [set_off (by decide)]; exact q0
  have z1 : w2.cell? ⟨w.heap.size, 1, none⟩ = some (.int .i64 0) := by rw [← hw2]; rw [set_off (by decide)]; exact q1
  have z2 : w2.cell? ⟨w.heap.size, 2, none⟩ = some (.string ⟨#[]⟩) := by rw [← hw2]; exact World.cell?_setCell_same _ _ _ q2
  have hbb : Below w.heap.size w w2 := by rw [← hw2]; exact (((Below.refl _ _).alloc (Nat.le_refl _) _).trans (hb.mono (by simp))).setCell (p := ⟨w.heap.size, 2, none⟩) (Nat.le_refl _) _
  rw [hw2]
  obtain ⟨y0, y1, y2⟩ := set3_cells z0 z1 z2 (.int .i64 4) (.int .i64 0) (.string ⟨#[]⟩)
  refine bodyPost_ret (v := .tuple #[.agg #[.int .i64 4, .int .i64 0, .string ⟨#[]⟩], .string ⟨#[]⟩, .bool false]) (by simp [results, Tryd.results28, go_sem, y0, y1, y2]) rfl ⟨rfl, ((hbb.setCell (p := ⟨w.heap.size, 0, none⟩) (Nat.le_refl _) _).setCell (p := ⟨w.heap.size, 1, none⟩) (Nat.le_refl _) _).setCell (p := ⟨w.heap.size, 2, none⟩) (Nat.le_refl _) _⟩
set_option maxRecDepth 20000 in
set_option maxHeartbeats 4000000 in
theorem cutV_4y (s : ByteArray) (l : List UInt8) (w : World) (hs : s.data.toList = 4 :: l) (hmx : s.size ≤ 9223372036854775807) (hl : 2 ≤ l.length) (hn : leN (l.take 2) ≤ (l.drop 2).length) :
    Calls Tryd.prog 28 #[.string s] w fun e w' => e = .returned (.tuple #[.agg #[.int .i64 4, .int .i64 0, .string (bsA ((l.drop 2).take (leN (l.take 2))))], .string (bsA ((l.drop 2).drop (leN (l.take 2)))), .bool true]) ∧ Below w.heap.size w w' := by
  have HSZ : Hid (s.size = l.length + 1) := by show _ = _; have := congrArg List.length hs; simpa using this
  have hpos : 1 ≤ s.size := by have := HSZ.out; omega
  have h0 : (s[0]'(by omega)) = 4 := first_at hs (by omega)
  have hx : s.extract 1 s.size = bsA l := by rw [ext_drop, hs]; rfl
  have hbl : (bsA l).size = l.length := bsA_size l
  have hbd : (bsA l).data.toList = l := bsA_list l
  have hbm : (bsA l).size ≤ 9223372036854775807 := by have := HSZ.out; omega
  have hc := fun wx => cutText_yes (bsA l) wx (by rw [hbl]; exact hl) hbm (by rw [hbd]; exact hn)
  rw [hbd] at hc
  clear hn
  generalize bsA ((l.drop 2).take (leN (l.take 2))) = X at hc ⊢
  generalize bsA ((l.drop 2).drop (leN (l.take 2))) = Y at hc ⊢
  clear hbl hbd hs hbm
  generalize bsA l = r at hc hx
  go_enter Tryd.func28, Tryd.ntmps28
  go_wp2_with fail
  refine (hc _).mono ?_
  rintro e w1 ⟨rfl, hb⟩
  have q0 : w1.cell? ⟨w.heap.size, 0, none⟩ = some (.int .i64 4) := cell_below hb (new3_0 _ _ _ _ _)
  have q1 : w1.cell? ⟨w.heap.size, 1, none⟩ = some (.int .i64 0) := cell_below hb (new3_1 _ _ _ _ _)
  have q2 : w1.cell? ⟨w.heap.size, 2, none⟩ = some (.string ⟨#[]⟩) := cell_below hb (new3_2 _ _ _ _ _)
  have g0 : w1.frozen? ⟨w.heap.size, 0, none⟩ = false := (hb.frozen (p := ⟨w.heap.size, 0, none⟩) (by simp)).trans (by go_simp)
  have g1 : w1.frozen? ⟨w.heap.size, 1, none⟩ = false := (hb.frozen (p := ⟨w.heap.size, 1, none⟩) (by simp)).trans (by go_simp)
  have g2 : w1.frozen? ⟨w.heap.size, 2, none⟩ = false := (hb.frozen (p := ⟨w.heap.size, 2, none⟩) (by simp)).trans (by go_simp)
  go_wp2
  obtain ⟨w2, hw2⟩ : ∃ w2 : World, w1.setCell ⟨w.heap.size, 2, none⟩ (.string X) = w2 := ⟨_, rfl⟩
  have z0 : w2.cell? ⟨w.heap.size, 0, none⟩ = some (.int .i64 4) := by rw [← hw2]; rw [set_off (by decide)]; exact q0
  have z1 : w2.cell? ⟨w.heap.size, 1, none⟩ = some (.int .i64 0) := by rw [← hw2]; rw [set_off (by decide)]; exact q1
  have z2 : w2.cell? ⟨w.heap.size, 2, none⟩ = some (.string X) := by rw [← hw2]; exact World.cell?_setCell_same _ _ _ q2
  have hbb : Below w.heap.size w w2 := by rw [← hw2]; exact (((Below.refl _ _).alloc (Nat.le_refl _) _).trans (hb.mono (by simp))).setCell (p := ⟨w.heap.size, 2, none⟩) (Nat.le_refl _) _
  rw [hw2]
  obtain ⟨y0, y1, y2⟩ := set3_cells z0 z1 z2 (.int .i64 4) (.int .i64 0) (.string X)
  refine bodyPost_ret (v := .tuple #[.agg #[.int .i64 4, .int .i64 0, .string X], .string Y, .bool true]) (by simp [results, Tryd.results28, go_sem, y0, y1, y2]) rfl ⟨rfl, ((hbb.setCell (p := ⟨w.heap.size, 0, none⟩) (Nat.le_refl _) _).setCell (p := ⟨w.heap.size, 1, none⟩) (Nat.le_refl _) _).setCell (p := ⟨w.heap.size, 2, none⟩) (Nat.le_refl _) _⟩
set_option maxRecDepth 20000 in
set_option maxHeartbeats 4000000 in
theorem cutV_x (b : UInt8) (s : ByteArray) (l : List UInt8) (w : World) (hs : s.data.toList = b :: l) (hmx : s.size ≤ 9223372036854775807) (b1 : b ≠ 1) (b2 : b ≠ 2) (b3 : b ≠ 3) (b4 : b ≠ 4) :
    Calls Tryd.prog 28 #[.string s] w fun e w' => e = .returned (.tuple #[.agg #[.int .i64 (b.toNat : Int), .int .i64 0, .string ⟨#[]⟩], .string (bsA l), .bool true]) ∧ Below w.heap.size w w' := by
  have HSZ : Hid (s.size = l.length + 1) := by show _ = _; have := congrArg List.length hs; simpa using this
  have hpos : 1 ≤ s.size := by have := HSZ.out; omega
  have h0 : (s[0]'(by omega)) = b := first_at hs (by omega)
  have hx : s.extract 1 s.size = bsA l := by rw [ext_drop, hs]; rfl
  have hbl : (bsA l).size = l.length := bsA_size l
  have hbd : (bsA l).data.toList = l := bsA_list l
  have hbm : (bsA l).size ≤ 9223372036854775807 := by have := HSZ.out; omega
  have hbt := b.toNat_lt
  have u : ∀ c : UInt8, b ≠ c → b.toNat ≠ c.toNat := fun c h e => h (UInt8.toNat_inj.1 e)
  have e1 : ((b.toNat : Int) == 1) = false := by have := u 1 b1; simp at this ⊢; omega
  have e2 : ((b.toNat : Int) == 2) = false := by have := u 2 b2; simp at this ⊢; omega
  have e3 : ((b.toNat : Int) == 3) = false := by have := u 3 b3; simp at this ⊢; omega
  have e4 : ((b.toNat : Int) == 4) = false := by have := u 4 b4; simp at this ⊢; omega
  clear hbl hbd hs hbm u b1 b2 b3 b4
  generalize bsA l = r at hx ⊢
  generalize hbn : b.toNat = bn at *
  go_enter Tryd.func28, Tryd.ntmps28
  go_wp2
  have y0 := new3_0 w (.int .i64 (bn : Int)) (.int .i64 0) (.string ⟨#[]⟩) 53
  have y1 := new3_1 w (.int .i64 (bn : Int)) (.int .i64 0) (.string ⟨#[]⟩) 53
  have y2 := new3_2 w (.int .i64 (bn : Int)) (.int .i64 0) (.string ⟨#[]⟩) 53
  refine bodyPost_ret (v := .tuple #[.agg #[.int .i64 (bn : Int), .int .i64 0, .string ⟨#[]⟩], .string r, .bool true]) (by simp [results, Tryd.results28, go_sem, y0, y1, y2]) rfl ⟨rfl, (Below.refl _ _).alloc (Nat.le_refl _) _⟩
/-- The value with which bytes begin, and what is behind it; none, if they end ahead of its end. -/
def cutV (b : UInt8) (l : List UInt8) : Option (Val × List UInt8) :=
  if b = 1 then (if l.length < 1 then none else some ((1, i64 (leN (l.take 1)), ⟨#[]⟩), l.drop 1))
  else if b = 2 then (if l.length < 8 then none else some ((2, i64 (leN (l.take 8)), ⟨#[]⟩), l.drop 8))
  else if b = 3 then (if l.length < 8 then none else some ((3, i64 (leN (l.take 8)), ⟨#[]⟩), l.drop 8))
  else if b = 4 then (if l.length < 2 then none else if (l.drop 2).length < leN (l.take 2) then none else some ((4, 0, bsA ((l.drop 2).take (leN (l.take 2)))), (l.drop 2).drop (leN (l.take 2))))
  else some (((b.toNat : Int), 0, ⟨#[]⟩), l)
theorem cutValue_none (b : UInt8) (s : ByteArray) (l : List UInt8) (w : World) (hs : s.data.toList = b :: l) (hmx : s.size ≤ 9223372036854775807) (hc : cutV b l = none) :
    Calls Tryd.prog 28 #[.string s] w fun e w' => ∃ k : Int, e = .returned (.tuple #[.agg #[.int .i64 k, .int .i64 0, .string ⟨#[]⟩], .string ⟨#[]⟩, .bool false]) ∧ Below w.heap.size w w' := by
  unfold cutV at hc
  split at hc
  · subst b; split at hc
    · exact (cutV_1n s l w hs hmx (by assumption)).mono fun e w' h => ⟨1, h⟩
    · cases hc
  · split at hc
    · subst b; split at hc
      · exact (cutV_2n s l w hs hmx (by assumption)).mono fun e w' h => ⟨2, h⟩
      · cases hc
    · split at hc
      · subst b; split at hc
        · exact (cutV_3n s l w hs hmx (by assumption)).mono fun e w' h => ⟨3, h⟩
        · cases hc
      · split at hc
        · subst b; split at hc
          · exact (cutV_4n1 s l w hs hmx (by assumption)).mono fun e w' h => ⟨4, h⟩
          · split at hc
            · exact (cutV_4n2 s l w hs hmx (by omega) (by assumption)).mono fun e w' h => ⟨4, h⟩
            · cases hc
        · cases hc
theorem cutValue_some (b : UInt8) (s : ByteArray) (l : List UInt8) (w : World) (hs : s.data.toList = b :: l) (hmx : s.size ≤ 9223372036854775807) (v : Val) (l' : List UInt8) (hc : cutV b l = some (v, l')) :
    Calls Tryd.prog 28 #[.string s] w fun e w' => e = .returned (.tuple #[.agg #[.int .i64 v.1, .int .i64 v.2.1, .string v.2.2], .string (bsA l'), .bool true]) ∧ Below w.heap.size w w' := by
  unfold cutV at hc
  split at hc
  · subst b; split at hc
    · cases hc
    · injection hc with hc; injection hc with h1 h2; subst h1 h2
      exact cutV_1y s l w hs hmx (by omega)
  · split at hc
    · subst b; split at hc
      · cases hc
      · injection hc with hc; injection hc with h1 h2; subst h1 h2
        exact cutV_2y s l w hs hmx (by omega)
    · split at hc
      · subst b; split at hc
        · cases hc
        · injection hc with hc; injection hc with h1 h2; subst h1 h2
          exact cutV_3y s l w hs hmx (by omega)
      · split at hc
        · subst b; split at hc
          · cases hc
          · split at hc
            · cases hc
            · injection hc with hc; injection hc with h1 h2; subst h1 h2
              exact cutV_4y s l w hs hmx (by omega) (by omega)
        · injection hc with hc; injection hc with h1 h2; subst h1 h2
          exact cutV_x b s l w hs hmx (by assumption) (by assumption) (by assumption) (by assumption)
theorem cutV_len {b : UInt8} {l : List UInt8} {v : Val} {l' : List UInt8} (hc : cutV b l = some (v, l')) : l'.length ≤ l.length := by
  unfold cutV at hc
  split at hc
  · split at hc
    · cases hc
    · injection hc with hc; injection hc with h1 h2; subst h2; simp
  · split at hc
    · split at hc
      · cases hc
      · injection hc with hc; injection hc with h1 h2; subst h2; simp
    · split at hc
      · split at hc
        · cases hc
        · injection hc with hc; injection hc with h1 h2; subst h2; simp
      · split at hc
        · split at hc
          · cases hc
          · split at hc
            · cases hc
            · injection hc with hc; injection hc with h1 h2; subst h2; simp
        · injection hc with hc; injection hc with h1 h2; subst h2; exact Nat.le_refl _
end Go.Proofs.YtbfodpmlmhkikaaDoor
