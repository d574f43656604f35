/- YNmb, YTl, YShelfV, YShelfI. -/
import Derived.Test.YtgdndahhledikaaGreatDoorK36
import Derived.Test.YtgdndahhledikaaGreatDoorK33
import Derived.Test.YtgdndahhledikaaGreatDoorK34
import Derived.Deep.DeepCutAuto
import Derived.Shelf.Unicode.ValidAny
import Derived.Test.YtgdndahhledikaaGreatDoorProg
import Derived.Shelf.Strings.Trim
import Derived.Shelf.Small.Strs
import Derived.Shelf.Small.Wraps
import Derived.Shelf.LaysM
import Derived.Shelf.Strconv.Itoa1
import Derived.Shelf.Strconv.Itoa2
import Derived.Shelf.Strconv.Itoa3
import Derived.Shelf.Strings.Replace
import Derived.Shelf.Strings.Builder1
import Derived.Shelf.Strings.Builder2
namespace Go.Proofs.YtgdndahhledikaaGreatDoor
open Go.ChangeShapes Go.WideShapes Go.ChangeAt Go.RowKit
set_option maxRecDepth 20000 in
set_option maxHeartbeats 4000000 in
theorem number_any (l : List UInt8) (w : World) (hR : Rdv w) (hne : l ≠ []) (hd0 : dgB (l.headD 0).toNat = true) (hl : l.length ≤ 104857600) : Calls Tryz.prog 63 #[.string (bsA l)] w fun e w' => e = .returned (.tuple #[tkV (numP l).1 0, .int .i64 (numP l).2.1, .int .i64 (numP l).2.2]) ∧ Below w.heap.size w w' := by
 have hz := bsA_size l
 have h1 := amount_any l (w.alloc tokO) (hR.alloc _) hne hd0 hl
 have h2 := fun w => noughtAhead_any l hne w (by omega)
 have hal := (amt_len l).2
 have hdl : (l.drop (amtP l).2.1).length ≤ l.length := by rw [List.length_drop]; omega
 have h3 := fun w => leading_isPart (l.drop (amtP l).2.1) w (by omega)
 have hx : (bsA l).extract (amtP l).2.1 l.length = bsA (l.drop (amtP l).2.1) := ext_drop' _ _
 have hP1 : nghB l = true → numP l = (tk0, 0, 50) := fun h => by unfold numP numE; rw [h]; rfl
 have hP2 : 0 < ldN ptB (l.drop (amtP l).2.1) → numP l = (tk0, 0, 50) := fun h => by
  have e : numE l = 50 := by unfold numE; rw [if_pos (by simp [h])]
  unfold numP; rw [e]; rfl
 have hP3 : nghB l = false → ldN ptB (l.drop (amtP l).2.1) = 0 → numP l = if (amtP l).2.2 ≠ 0 then (tk0, (0 : Int), (amtP l).2.2) else ((amtP l).1, ((amtP l).2.1 : Int), 0) := fun h h' => by
  have e : numE l = (amtP l).2.2 := by unfold numE; rw [if_neg (by simp [h, h'])]
  unfold numP; rw [e]
 have hpt : ((l.drop (amtP l).2.1).take (ldN ptB (l.drop (amtP l).2.1)) == []) = decide (ldN ptB (l.drop (amtP l).2.1) = 0) := by
  have hle := ldN_le ptB (l.drop (amtP l).2.1)
  generalize ldN ptB (l.drop (amtP l).2.1) = k at hle ⊢
  generalize l.drop (amtP l).2.1 = x at hle ⊢
  cases k with
  | zero => simp
  | succ k =>
   cases x with
   | nil => simp at hle
   | cons c r => simp
 generalize amtP l = q at h1 h3 hx hP2 hP3 hal hpt
 obtain ⟨⟨q1, q2, q3⟩, n, q4⟩ := q
 unfold tkV at h1
 dsimp only at h1 h3 hx hP2 hP3 hal hpt
 have htl := bsA_tl ((l.drop n).take (ldN ptB (l.drop n)))
 generalize hPT : (l.drop n).take (ldN ptB (l.drop n)) = PT at h3 hpt htl
 generalize l.drop n = X at hx h3 hP2 hP3 hpt
 generalize numP l = NP at hP1 hP2 hP3 ⊢
 have hzX := bsA_size X
 clear hR hPT
 cases hN : nghB l with
 | true =>
  have HE : Hid _ := hP1 hN
  simp only [hN] at h2
  clear hP1 hP2 hP3 h3 hpt htl
  go_enter Tryz.func63, Tryz.ntmps63
  go_wp2_with fail
  refine h1.mono ?_
  rintro e w2 ⟨rfl, hb⟩
  have bo := (Box.new w (.int .i64 0) (.string ⟨#[]⟩) (.int .i64 0) (.int .i64 0)).below hb
  have hB : Below w.heap.size w w2 := ((Below.refl _ _).alloc (Nat.le_refl _) _).trans (hb.mono (by simp))
  have hsz : w.heap.size < w2.heap.size := cell_lt bo.c0
  go_wp2_with fail
  refine (h2 _).mono ?_
  rintro e w' ⟨rfl, rfl⟩
  clear h1 h2 hb
  have hB3 : Below w.heap.size w (((((w2.setCell ⟨w.heap.size, 0, none⟩ (.int .i64 0)).setCell ⟨w.heap.size, 1, none⟩ (.string ⟨#[]⟩)).setCell ⟨w.heap.size, 2, none⟩ (.int .i64 0)).setCell ⟨w.heap.size, 3, none⟩ (.int .i64 0)).alloc (Obj.cells #[Value.int IntKind.i64 q1, Value.string (bsA q2), Value.int IntKind.i64 q3, Value.int IntKind.i64 0] 26)) := Below.alloc ((((hB.setCell (p := ⟨w.heap.size, 0, none⟩) (Nat.le_refl _) _).setCell (p := ⟨w.heap.size, 1, none⟩) (Nat.le_refl _) _).setCell (p := ⟨w.heap.size, 2, none⟩) (Nat.le_refl _) _).setCell (p := ⟨w.heap.size, 3, none⟩) (Nat.le_refl _) _) (by have := hB.size; simpa [World.setCell] using this) _
  obtain ⟨z0, z1, z2, z3, m0, m1, m2, m3⟩ := (bo.set (.int .i64 0) (.string ⟨#[]⟩) (.int .i64 0) (.int .i64 0)).below ((Below.refl _ _).alloc (Nat.le_refl _) (Obj.cells #[Value.int IntKind.i64 q1, Value.string (bsA q2), Value.int IntKind.i64 q3, Value.int IntKind.i64 0] 26))
  obtain ⟨y0, y1, y2, y3, f0, f1, f2, f3⟩ := bo
  clear m0 m1 m2 m3 hB
  go_wp2
  generalize ((((w2.setCell ⟨w.heap.size, 0, none⟩ (.int .i64 0)).setCell ⟨w.heap.size, 1, none⟩ (.string ⟨#[]⟩)).setCell ⟨w.heap.size, 2, none⟩ (.int .i64 0)).setCell ⟨w.heap.size, 3, none⟩ (.int .i64 0)).alloc (Obj.cells #[Value.int IntKind.i64 q1, Value.string (bsA q2), Value.int IntKind.i64 q3, Value.int IntKind.i64 0] 26) = W3 at hB3 z0 z1 z2 z3 ⊢
  refine bodyPost_ret (v := .tuple #[.agg #[.int .i64 0, .string ⟨#[]⟩, .int .i64 0, .int .i64 0], .int .i64 0, .int .i64 50]) (by simp [results, Tryz.results63, go_sem, z0, z1, z2, z3]) rfl ⟨by rw [HE.out]; rfl, hB3⟩
 | false =>
  simp only [hN] at h2
  by_cases hk : ldN ptB X = 0
  ·
   have hE := hP3 hN hk
   have hpe : (PT == []) = true := by rw [hpt]; simpa using hk
   clear hP1 hP2 hP3 hpt hk
   by_cases h4 : q4 = 0
   ·
    subst h4
    rw [if_neg (by simp)] at hE
    have HE : Hid _ := hE
    clear hE
    go_enter Tryz.func63, Tryz.ntmps63
    go_wp2_with fail
    refine h1.mono ?_
    rintro e w2 ⟨rfl, hb⟩
    have bo := (Box.new w (.int .i64 0) (.string ⟨#[]⟩) (.int .i64 0) (.int .i64 0)).below hb
    have hB : Below w.heap.size w w2 := ((Below.refl _ _).alloc (Nat.le_refl _) _).trans (hb.mono (by simp))
    have hsz : w.heap.size < w2.heap.size := cell_lt bo.c0
    go_wp2_with fail
    refine (h2 _).mono ?_
    rintro e w' ⟨rfl, rfl⟩
    go_wp2_with fail
    refine (h3 _).mono ?_
    rintro e w' ⟨rfl, rfl⟩
    clear h1 h2 h3 hb
    have hB3 : Below w.heap.size w (((((w2.setCell ⟨w.heap.size, 0, none⟩ (.int .i64 q1)).setCell ⟨w.heap.size, 1, none⟩ (.string (bsA q2))).setCell ⟨w.heap.size, 2, none⟩ (.int .i64 q3)).setCell ⟨w.heap.size, 3, none⟩ (.int .i64 0)).alloc (Obj.cells #[Value.int IntKind.i64 q1, Value.string (bsA q2), Value.int IntKind.i64 q3, Value.int IntKind.i64 0] 26)) := Below.alloc ((((hB.setCell (p := ⟨w.heap.size, 0, none⟩) (Nat.le_refl _) _).setCell (p := ⟨w.heap.size, 1, none⟩) (Nat.le_refl _) _).setCell (p := ⟨w.heap.size, 2, none⟩) (Nat.le_refl _) _).setCell (p := ⟨w.heap.size, 3, none⟩) (Nat.le_refl _) _) (by have := hB.size; simpa [World.setCell] using this) _
    obtain ⟨z0, z1, z2, z3, m0, m1, m2, m3⟩ := (bo.set (.int .i64 q1) (.string (bsA q2)) (.int .i64 q3) (.int .i64 0)).below ((Below.refl _ _).alloc (Nat.le_refl _) (Obj.cells #[Value.int IntKind.i64 q1, Value.string (bsA q2), Value.int IntKind.i64 q3, Value.int IntKind.i64 0] 26))
    obtain ⟨y0, y1, y2, y3, f0, f1, f2, f3⟩ := bo
    clear m0 m1 m2 m3 hB
    go_wp2
    generalize ((((w2.setCell ⟨w.heap.size, 0, none⟩ (.int .i64 q1)).setCell ⟨w.heap.size, 1, none⟩ (.string (bsA q2))).setCell ⟨w.heap.size, 2, none⟩ (.int .i64 q3)).setCell ⟨w.heap.size, 3, none⟩ (.int .i64 0)).alloc (Obj.cells #[Value.int IntKind.i64 q1, Value.string (bsA q2), Value.int IntKind.i64 q3, Value.int IntKind.i64 0] 26) = W3 at hB3 z0 z1 z2 z3 ⊢
    refine bodyPost_ret (v := .tuple #[.agg #[.int .i64 q1, .string (bsA q2), .int .i64 q3, .int .i64 0], .int .i64 n, .int .i64 0]) (by simp [results, Tryz.results63, go_sem, z0, z1, z2, z3]) rfl ⟨by rw [HE.out]; rfl, hB3⟩
   ·
    rw [if_pos h4] at hE
    have HE : Hid _ := hE
    have h4' : (q4 != 0) = true := by simpa using h4
    clear hE
    go_enter Tryz.func63, Tryz.ntmps63
    go_wp2_with fail
    refine h1.mono ?_
    rintro e w2 ⟨rfl, hb⟩
    have bo := (Box.new w (.int .i64 0) (.string ⟨#[]⟩) (.int .i64 0) (.int .i64 0)).below hb
    have hB : Below w.heap.size w w2 := ((Below.refl _ _).alloc (Nat.le_refl _) _).trans (hb.mono (by simp))
    have hsz : w.heap.size < w2.heap.size := cell_lt bo.c0
    go_wp2_with fail
    refine (h2 _).mono ?_
    rintro e w' ⟨rfl, rfl⟩
    go_wp2_with fail
    refine (h3 _).mono ?_
    rintro e w' ⟨rfl, rfl⟩
    clear h1 h2 h3 hb
    have hB3 : Below w.heap.size w (((((w2.setCell ⟨w.heap.size, 0, none⟩ (.int .i64 0)).setCell ⟨w.heap.size, 1, none⟩ (.string ⟨#[]⟩)).setCell ⟨w.heap.size, 2, none⟩ (.int .i64 0)).setCell ⟨w.heap.size, 3, none⟩ (.int .i64 0)).alloc (Obj.cells #[Value.int IntKind.i64 q1, Value.string (bsA q2), Value.int IntKind.i64 q3, Value.int IntKind.i64 0] 26)) := Below.alloc ((((hB.setCell (p := ⟨w.heap.size, 0, none⟩) (Nat.le_refl _) _).setCell (p := ⟨w.heap.size, 1, none⟩) (Nat.le_refl _) _).setCell (p := ⟨w.heap.size, 2, none⟩) (Nat.le_refl _) _).setCell (p := ⟨w.heap.size, 3, none⟩) (Nat.le_refl _) _) (by have := hB.size; simpa [World.setCell] using this) _
    obtain ⟨z0, z1, z2, z3, m0, m1, m2, m3⟩ := (bo.set (.int .i64 0) (.string ⟨#[]⟩) (.int .i64 0) (.int .i64 0)).below ((Below.refl _ _).alloc (Nat.le_refl _) (Obj.cells #[Value.int IntKind.i64 q1, Value.string (bsA q2), Value.int IntKind.i64 q3, Value.int IntKind.i64 0] 26))
    obtain ⟨y0, y1, y2, y3, f0, f1, f2, f3⟩ := bo
    clear m0 m1 m2 m3 hB
    go_wp2
    generalize ((((w2.setCell ⟨w.heap.size, 0, none⟩ (.int .i64 0)).setCell ⟨w.heap.size, 1, none⟩ (.string ⟨#[]⟩)).setCell ⟨w.heap.size, 2, none⟩ (.int .i64 0)).setCell ⟨w.heap.size, 3, none⟩ (.int .i64 0)).alloc (Obj.cells #[Value.int IntKind.i64 q1, Value.string (bsA q2), Value.int IntKind.i64 q3, Value.int IntKind.i64 0] 26) = W3 at hB3 z0 z1 z2 z3 ⊢
    refine bodyPost_ret (v := .tuple #[.agg #[.int .i64 0, .string ⟨#[]⟩, .int .i64 0, .int .i64 0], .int .i64 0, .int .i64 q4]) (by simp [results, Tryz.results63, go_sem, z0, z1, z2, z3]) rfl ⟨by rw [HE.out]; rfl, hB3⟩
  ·
   have hE := hP2 (by omega)
   have hpe : (PT == []) = false := by rw [hpt]; simpa using hk
   have HE : Hid _ := hE
   clear hP1 hP2 hP3 hpt hk hE
   go_enter Tryz.func63, Tryz.ntmps63
   go_wp2_with fail
   refine h1.mono ?_
   rintro e w2 ⟨rfl, hb⟩
   have bo := (Box.new w (.int .i64 0) (.string ⟨#[]⟩) (.int .i64 0) (.int .i64 0)).below hb
   have hB : Below w.heap.size w w2 := ((Below.refl _ _).alloc (Nat.le_refl _) _).trans (hb.mono (by simp))
   have hsz : w.heap.size < w2.heap.size := cell_lt bo.c0
   go_wp2_with fail
   refine (h2 _).mono ?_
   rintro e w' ⟨rfl, rfl⟩
   go_wp2_with fail
   refine (h3 _).mono ?_
   rintro e w' ⟨rfl, rfl⟩
   clear h1 h2 h3 hb
   have hB3 : Below w.heap.size w (((((w2.setCell ⟨w.heap.size, 0, none⟩ (.int .i64 0)).setCell ⟨w.heap.size, 1, none⟩ (.string ⟨#[]⟩)).setCell ⟨w.heap.size, 2, none⟩ (.int .i64 0)).setCell ⟨w.heap.size, 3, none⟩ (.int .i64 0)).alloc (Obj.cells #[Value.int IntKind.i64 q1, Value.string (bsA q2), Value.int IntKind.i64 q3, Value.int IntKind.i64 0] 26)) := Below.alloc ((((hB.setCell (p := ⟨w.heap.size, 0, none⟩) (Nat.le_refl _) _).setCell (p := ⟨w.heap.size, 1, none⟩) (Nat.le_refl _) _).setCell (p := ⟨w.heap.size, 2, none⟩) (Nat.le_refl _) _).setCell (p := ⟨w.heap.size, 3, none⟩) (Nat.le_refl _) _) (by have := hB.size; simpa [World.setCell] using this) _
   obtain ⟨z0, z1, z2, z3, m0, m1, m2, m3⟩ := (bo.set (.int .i64 0) (.string ⟨#[]⟩) (.int .i64 0) (.int .i64 0)).below ((Below.refl _ _).alloc (Nat.le_refl _) (Obj.cells #[Value.int IntKind.i64 q1, Value.string (bsA q2), Value.int IntKind.i64 q3, Value.int IntKind.i64 0] 26))
   obtain ⟨y0, y1, y2, y3, f0, f1, f2, f3⟩ := bo
   clear m0 m1 m2 m3 hB
   go_wp2
   generalize ((((w2.setCell ⟨w.heap.size, 0, none⟩ (.int .i64 0)).setCell ⟨w.heap.size, 1, none⟩ (.string ⟨#[]⟩)).setCell ⟨w.heap.size, 2, none⟩ (.int .i64 0)).setCell ⟨w.heap.size, 3, none⟩ (.int .i64 0)).alloc (Obj.cells #[Value.int IntKind.i64 q1, Value.string (bsA q2), Value.int IntKind.i64 q3, Value.int IntKind.i64 0] 26) = W3 at hB3 z0 z1 z2 z3 ⊢
   refine bodyPost_ret (v := .tuple #[.agg #[.int .i64 0, .string ⟨#[]⟩, .int .i64 0, .int .i64 0], .int .i64 0, .int .i64 50]) (by simp [results, Tryz.results63, go_sem, z0, z1, z2, z3]) rfl ⟨by rw [HE.out]; rfl, hB3⟩
end Go.Proofs.YtgdndahhledikaaGreatDoor
namespace Go.Proofs.YtgdndahhledikaaGreatDoor
open Go.ChangeShapes Go.WideShapes Go.ChangeAt Go.RowKit
def txN (l : List UInt8) (i : Nat) : Nat := match quF (l.drop i) with
 | none => 0
 | some p => i + p.2
theorem txN_end {l : List UInt8} {i : Nat} (h : l.length ≤ i) : txN l i = 0 := by
 unfold txN; rw [List.drop_eq_nil_of_le h]; rfl
theorem txN_other {l : List UInt8} {i : Nat} (h : i < l.length) (hc : l[i] ≠ 39) : txN l i = txN l (i + 1) := by
 unfold txN
 rw [List.drop_eq_getElem_cons h]
 cases hd : l.drop (i + 1) with
 | nil =>
  have e : quF [l[i]] = none := by rw [quF, if_neg hc]
  rw [e]; rfl
 | cons d r =>
  rw [quF, if_neg hc]
  cases quF (d :: r) with
  | none => rfl
  | some p => simp only [Option.map_some]; omega
theorem txN_last {l : List UInt8} {i : Nat} (h : i < l.length) (hc : l[i] = 39) (he : i + 1 = l.length) : txN l i = i + 1 := by
 unfold txN
 rw [List.drop_eq_getElem_cons h, List.drop_eq_nil_of_le (by omega), quF, if_pos hc]
theorem txN_quote {l : List UInt8} {i : Nat} (h : i < l.length) (hc : l[i] = 39) (h1 : i + 1 < l.length) (hd : l[i + 1] ≠ 39) : txN l i = i + 1 := by
 unfold txN
 rw [List.drop_eq_getElem_cons h, List.drop_eq_getElem_cons h1, quF, if_pos hc, if_neg hd]
theorem txN_two {l : List UInt8} {i : Nat} (h : i < l.length) (hc : l[i] = 39) (h1 : i + 1 < l.length) (hd : l[i + 1] = 39) : txN l i = txN l (i + 2) := by
 unfold txN
 rw [List.drop_eq_getElem_cons h, List.drop_eq_getElem_cons h1, quF, if_pos hc, if_pos hd]
 cases quF (l.drop (i + 1 + 1)) with
 | none => rfl
 | some p => simp only [Option.map_some]; omega
theorem b39 {x : UInt8} : ((x.toNat : Int) = 39) ↔ x = 39 := by
 constructor
 ·
  intro h; exact UInt8.toNat_inj.1 (by have : (39 : UInt8).toNat = 39 := rfl; omega)
 · rintro rfl; rfl
set_option maxRecDepth 20000 in
set_option maxHeartbeats 4000000 in
theorem textLength_any (l : List UInt8) (w : World) (hl : l.length ≤ 1048576000) : Calls Tryz.prog 100 #[.string (bsA l)] w fun e w' => e = .returned (.int .i64 (txN l 1)) ∧ w' = w := by
 have hz := bsA_size l
 go_enter Tryz.func100, Tryz.ntmps100
 go_wp2
 go_loopw [3] (fun i wr => ∃ m : Nat, 1 ≤ m ∧ m ≤ l.length + 1 ∧ i = .int .i64 m ∧ txN l m = txN l 1 ∧ wr = w) (fun i _ => l.length + 2 - (intOf i).toNat)
 case atStart => exact ⟨1, Nat.le_refl _, by omega, rfl, rfl, rfl⟩
 case round =>
  obtain ⟨m, hm1, hm, rfl, hH, rfl⟩ := hrel
  have HH : Hid _ := hH
  clear hH
  rcases Nat.lt_or_ge m l.length with hlt | hge
  ·
   have hi : m < (bsA l).size := by rw [hz]; exact hlt
   by_cases hc : l[m] = 39
   ·
    have f1 : (((bsA l)[m]'hi).toNat : Int) = 39 := b39.2 hc
    rcases Nat.lt_or_ge (m + 1) l.length with hlt1 | hge1
    ·
     have hi1 : m + 1 < (bsA l).size := by rw [hz]; exact hlt1
     by_cases hd : l[m + 1] = 39
     ·
      have f2 : (((bsA l)[m + 1]'hi1).toNat : Int) = 39 := b39.2 hd
      have HP : Hid _ := (txN_two hlt hc hlt1 hd).symm.trans HH.out
      go_wp2
      refine ⟨⟨m + 2, by omega, by omega, by go_num, HP.out, trivial⟩, ?_⟩
      simp [intOf]; omega
     ·
      have f2 : ¬ (((bsA l)[m + 1]'hi1).toNat : Int) = 39 := fun e => hd (b39.1 e)
      have HP : Hid _ := (txN_quote hlt hc hlt1 hd).symm.trans HH.out
      go_wp2
      ·
       go_ret
       exact ⟨ret_int (by rw [← HP.out]; omega), rfl⟩
      ·
       rename_i hx
       exact absurd (by simpa using hx.2) f2
    ·
     have he : m + 1 = l.length := by omega
     have HP : Hid _ := (txN_last hlt hc he).symm.trans HH.out
     go_wp2
     go_ret
     exact ⟨ret_int (by rw [← HP.out]; omega), rfl⟩
   ·
    have f1 : ¬ (((bsA l)[m]'hi).toNat : Int) = 39 := fun e => hc (b39.1 e)
    have HP : Hid _ := (txN_other hlt hc).symm.trans HH.out
    go_wp2
    refine ⟨⟨m + 1, by omega, by omega, by go_num, HP.out, trivial⟩, ?_⟩
    simp [intOf]; omega
  ·
   go_wp2
   go_ret
   exact ⟨by rw [← HH.out, txN_end hge]; rfl, rfl⟩
end Go.Proofs.YtgdndahhledikaaGreatDoor
namespace Go.Proofs
open Go.Shelf
def Tryz.lays196_ren : Go.Shelf.Ren := ⟨fun | 196 => 102 | 259 => 145 | n => n, fun | 9 => 9 | 4 => 4 | 3 => 3 | 5 => 5 | 12 => 12 | 119 => 117 | 0 => 0 | 46 => 98 | 139 => 120 | 138 => 119 | 53 => 139 | n => n, fun | 3 => 2 | 4 => 3 | n => n⟩
theorem Tryz.lays196 : Go.Proofs.Lays.n196 Tryz.prog Tryz.lays196_ren := {
 mixed := by kernel_rfl
 f196 := Tryz.func102.trans (congrArg some (by kernel_rfl))
 f259 := Tryz.func145.trans (congrArg some (by kernel_rfl))
 t0 := Tryz.underlying0
 a0 := Tryz.isAgg0
 z0 := Tryz.sizeOf0
 v0 := Tryz.zeroValue0
 t3 := Tryz.underlying3
 a3 := Tryz.isAgg3
 z3 := Tryz.sizeOf3
 v3 := Tryz.zeroValue3
 t4 := Tryz.underlying4
 a4 := Tryz.isAgg4
 z4 := Tryz.sizeOf4
 v4 := Tryz.zeroValue4
 t5 := Tryz.underlying5
 a5 := Tryz.isAgg5
 z5 := Tryz.sizeOf5
 v5 := Tryz.zeroValue5
 t9 := Tryz.underlying9
 a9 := Tryz.isAgg9
 z9 := Tryz.sizeOf9
 v9 := Tryz.zeroValue9
 t12 := Tryz.underlying12
 a12 := Tryz.isAgg12
 z12 := Tryz.sizeOf12
 v12 := Tryz.zeroValue12
 t46 := Tryz.underlying98
 a46 := Tryz.isAgg98
 z46 := Tryz.sizeOf98
 v46 := Tryz.zeroValue98
 t53 := Tryz.underlying139
 a53 := Tryz.isAgg139
 z53 := Tryz.sizeOf139
 v53 := Tryz.zeroValue139
 t119 := Tryz.underlying117
 a119 := Tryz.isAgg117
 z119 := Tryz.sizeOf117
 t138 := Tryz.underlying119
 a138 := Tryz.isAgg119
 z138 := Tryz.sizeOf119
 v138 := Tryz.zeroValue119
 t139 := Tryz.underlying120
 a139 := Tryz.isAgg120
 z139 := Tryz.sizeOf120
 v139 := Tryz.zeroValue120
 g3 := by kernel_rfl
 g4 := by kernel_rfl }
open Go.RowKit Go.Lib in
theorem Tryz.utf8_ValidString (s : ByteArray) (w : World) (hs : s.size ≤ 9223372036854775807) (hT : Lib.Utf8Tabs 2 3 w) :
  Calls Tryz.prog 102 #[.string s] w fun e w' => e = .returned (.bool (Lib.validD s.data.toList)) ∧ Below w.heap.size w w' := Any.utf8_ValidString Tryz.lays196 s w hs hT
end Go.Proofs
namespace Go.Proofs
open Go.Shelf
def Tryz.lays155_ren : Go.Shelf.Ren := ⟨fun | 155 => 101 | 154 => 144 | 138 => 173 | 165 => 133 | 143 => 59 | 166 => 134 | 197 => 166 | 169 => 136 | 195 => 192 | 218 => 193 | 240 => 164 | 241 => 165 | 219 => 93 | 260 => 185 | 276 => 183 | 277 => 184 | 217 => 92 | 225 => 130 | 224 => 131 | 267 => 132 | 266 => 129 | 314 => 163 | n => n, fun | 9 => 9 | 3 => 3 | 4 => 4 | 72 => 101 | 0 => 0 | 76 => 105 | 105 => 133 | 21 => 21 | 5 => 5 | 70 => 99 | 20 => 20 | 37 => 38 | 75 => 104 | 127 => 132 | 164 => 140 | 46 => 98 | 119 => 117 | 139 => 120 | 138 => 119 | 146 => 130 | 51 => 129 | 80 => 93 | n => n, fun | 1 => 0 | 3 => 2 | 4 => 3 | n => n⟩
theorem Tryz.lays155 : Go.Proofs.Lays.n155 Tryz.prog Tryz.lays155_ren := {
 mixed := by kernel_rfl
 f138 := Tryz.func173.trans (congrArg some (by kernel_rfl))
 f143 := Tryz.func59.trans (congrArg some (by kernel_rfl))
 f154 := Tryz.func144.trans (congrArg some (by kernel_rfl))
 f155 := Tryz.func101.trans (congrArg some (by kernel_rfl))
 f165 := Tryz.func133.trans (congrArg some (by kernel_rfl))
 f166 := Tryz.func134.trans (congrArg some (by kernel_rfl))
 f169 := Tryz.func136.trans (congrArg some (by kernel_rfl))
 f195 := Tryz.func192.trans (congrArg some (by kernel_rfl))
 f197 := Tryz.func166.trans (congrArg some (by kernel_rfl))
 f217 := Tryz.func92.trans (congrArg some (by kernel_rfl))
 f218 := Tryz.func193.trans (congrArg some (by kernel_rfl))
 f219 := Tryz.func93.trans (congrArg some (by kernel_rfl))
 f224 := Tryz.func131.trans (congrArg some (by kernel_rfl))
 f225 := Tryz.func130.trans (congrArg some (by kernel_rfl))
 f240 := Tryz.func164.trans (congrArg some (by kernel_rfl))
 f241 := Tryz.func165.trans (congrArg some (by kernel_rfl))
 f260 := Tryz.func185.trans (congrArg some (by kernel_rfl))
 f266 := Tryz.func129.trans (congrArg some (by kernel_rfl))
 f267 := Tryz.func132.trans (congrArg some (by kernel_rfl))
 f276 := Tryz.func183.trans (congrArg some (by kernel_rfl))
 f277 := Tryz.func184.trans (congrArg some (by kernel_rfl))
 f314 := Tryz.func163.trans (congrArg some (by kernel_rfl))
 t0 := Tryz.underlying0
 a0 := Tryz.isAgg0
 z0 := Tryz.sizeOf0
 v0 := Tryz.zeroValue0
 t3 := Tryz.underlying3
 a3 := Tryz.isAgg3
 z3 := Tryz.sizeOf3
 v3 := Tryz.zeroValue3
 t4 := Tryz.underlying4
 a4 := Tryz.isAgg4
 z4 := Tryz.sizeOf4
 v4 := Tryz.zeroValue4
 t5 := Tryz.underlying5
 a5 := Tryz.isAgg5
 z5 := Tryz.sizeOf5
 v5 := Tryz.zeroValue5
 t9 := Tryz.underlying9
 a9 := Tryz.isAgg9
 z9 := Tryz.sizeOf9
 v9 := Tryz.zeroValue9
 t20 := Tryz.underlying20
 a20 := Tryz.isAgg20
 z20 := Tryz.sizeOf20
 v20 := Tryz.zeroValue20
 t21 := Tryz.underlying21
 a21 := Tryz.isAgg21
 z21 := Tryz.sizeOf21
 v21 := Tryz.zeroValue21
 t37 := Tryz.underlying38
 a37 := Tryz.isAgg38
 z37 := Tryz.sizeOf38
 v37 := Tryz.zeroValue38
 t46 := Tryz.underlying98
 a46 := Tryz.isAgg98
 z46 := Tryz.sizeOf98
 v46 := Tryz.zeroValue98
 t51 := Tryz.underlying129
 a51 := Tryz.isAgg129
 z51 := Tryz.sizeOf129
 v51 := Tryz.zeroValue129
 t70 := Tryz.underlying99
 a70 := Tryz.isAgg99
 z70 := Tryz.sizeOf99
 v70 := Tryz.zeroValue99
 t72 := Tryz.underlying101
 a72 := Tryz.isAgg101
 z72 := Tryz.sizeOf101
 v72 := Tryz.zeroValue101
 t75 := Tryz.underlying104
 a75 := Tryz.isAgg104
 z75 := Tryz.sizeOf104
 v75 := Tryz.zeroValue104
 t76 := Tryz.underlying105
 a76 := Tryz.isAgg105
 z76 := Tryz.sizeOf105
 v76 := Tryz.zeroValue105
 t105 := Tryz.underlying133
 a105 := Tryz.isAgg133
 z105 := Tryz.sizeOf133
 v105 := Tryz.zeroValue133
 t119 := Tryz.underlying117
 a119 := Tryz.isAgg117
 z119 := Tryz.sizeOf117
 t127 := Tryz.underlying132
 a127 := Tryz.isAgg132
 z127 := Tryz.sizeOf132
 v127 := Tryz.zeroValue132
 t138 := Tryz.underlying119
 a138 := Tryz.isAgg119
 z138 := Tryz.sizeOf119
 v138 := Tryz.zeroValue119
 t139 := Tryz.underlying120
 a139 := Tryz.isAgg120
 z139 := Tryz.sizeOf120
 v139 := Tryz.zeroValue120
 t146 := Tryz.underlying130
 a146 := Tryz.isAgg130
 z146 := Tryz.sizeOf130
 v146 := Tryz.zeroValue130
 t164 := Tryz.underlying140
 a164 := Tryz.isAgg140
 z164 := Tryz.sizeOf140
 v164 := Tryz.zeroValue140
 g1 := by kernel_rfl
 g3 := by kernel_rfl
 g4 := by kernel_rfl }
theorem Tryz.Builder_Extra_155 : Builder.Extra Tryz.prog Tryz.lays155_ren := {
 sizeBuilder := by kernel_rfl
 liesBuilder := by kernel_rfl
 t5 := Tryz.underlying5
 a5 := Tryz.isAgg5
 z5 := Tryz.sizeOf5
 v5 := Tryz.zeroValue5
 infoByte := by kernel_rfl
 cellsByte := by kernel_rfl
 sizeByte := by kernel_rfl
 neB5 := by decide }
open Go.RowKit Go.Lib in
theorem Tryz.strings_ReplaceAll (s old new : ByteArray) (m : Int) (w : World) (hs : s.size < 4294967281) (hm : w.cell? ⟨0, 0, none⟩ = some (.int .i64 m)) (h1 : 1 ≤ old.size) (hlen : s.size + Lib.countB s old * new.size ≤ 140737488355328) :
  Calls Tryz.prog 101 #[.string s, .string old, .string new] w fun e w' =>
   e = .returned (.string ⟨(Lib.replaceAll s.data.toList old.data.toList new.data.toList).toArray⟩) ∧ Below w.heap.size w w' := Any.strings_ReplaceAll Tryz.lays155 Tryz.Builder_Extra_155 s old new m w hs hm h1 hlen
end Go.Proofs
