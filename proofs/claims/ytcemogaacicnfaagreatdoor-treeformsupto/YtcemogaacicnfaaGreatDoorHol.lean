/- Whether trees hold a tree (holds, by slices.ContainsFunc). -/
import Derived.Test.YtcemogaacicnfaaGreatDoorRSa
import Derived.Test.YtcemogaacicnfaaGreatDoorGov
namespace Go.Proofs.YtcemogaacicnfaaGreatDoor
set_option maxRecDepth 20000
set_option maxHeartbeats 4000000
open Go.ChangeShapes Go.WideShapes Go.ChangeAt Go.RowKit

theorem any_snoc {α : Type} (f : α → Bool) {l : List α} {i : Nat} {a : α} (ha : l[i]? = some a) : (l.take (i + 1)).any f = ((l.take i).any f || f a) := by
  rw [List.take_add_one, ha, List.any_append]
  simp
theorem any_yes {α : Type} (f : α → Bool) {l : List α} {i : Nat} {a : α} (ha : l[i]? = some a) (h : f a = true) : l.any f = true := by
  rw [List.any_eq_true]
  exact ⟨a, List.mem_of_getElem? ha, h⟩
theorem holds1_any (n : Nat) (x y : Tr n) (s sx : Option Addr) (c cx B : Nat) (w : World) (hy : NdAt w n y s) (x0 : w.cell? ⟨B, 0, none⟩ = some (.int .i64 (kd n x))) (x1 : w.cell? ⟨B, 1, none⟩ = some (.string (bsA (tx n x)))) (x2 : w.cell? ⟨B, 2, none⟩ = some (.int .i64 (nu n x))) (x3 : w.cell? ⟨B, 3, none⟩ = some (.int .i64 (pl n x))) (x4 : w.cell? ⟨B, 4, none⟩ = some (.slice sx (ks n x).length cx)) (hx : NdAt w n x sx) :
    Calls Tryz.prog 84 #[ndV n y s c, .pointer (some ⟨B, 0, none⟩)] w fun e w' => e = .returned (.bool (samP n y x)) ∧ Below w.heap.size w w' := by
  have hA : Below w.heap.size w (w.alloc (Obj.cells #[Value.int IntKind.i64 (kd n y), Value.string (bsA (tx n y)), Value.int IntKind.i64 (nu n y), Value.int IntKind.i64 (pl n y), Value.slice s (ks n y).length c] 24)) := (Below.refl _ _).alloc (Nat.le_refl _) _
  have x0 := cell_below hA x0
  have x1 := cell_below hA x1
  have x2 := cell_below hA x2
  have x3 := cell_below hA x3
  have x4 := cell_below hA x4
  have h1 := Same_any n y x s sx c cx (w.alloc (Obj.cells #[Value.int IntKind.i64 (kd n y), Value.string (bsA (tx n y)), Value.int IntKind.i64 (nu n y), Value.int IntKind.i64 (pl n y), Value.slice s (ks n y).length c] 24)) (NdAt.below hA hy) (NdAt.below hA hx)
  unfold ndV at h1 ⊢
  clear hy hx
  go_enter Tryz.func84, Tryz.ntmps84
  go_wp2_with fail
  refine h1.mono ?_
  rintro e w1 ⟨rfl, hb1⟩
  have hB1 := hA.trans (hb1.mono hA.size)
  clear h1
  go_wp2
  go_ret
  exact ⟨rfl, hB1⟩
theorem IndexFunc_go (n : Nat) (l : List (Tr n)) (x : Tr n) (sx : Option Addr) (b off c cx B : Nat) (w : World) (hlen : l.length ≤ 9223372036854775807)
    (hc : ∀ i y, l[i]? = some y → ∃ s c, (w.cell? ⟨b, off + i * 5, none⟩ = some (.int .i64 (kd n y)) ∧ w.cell? ⟨b, off + i * 5 + 1, none⟩ = some (.string (bsA (tx n y))) ∧ w.cell? ⟨b, off + i * 5 + 2, none⟩ = some (.int .i64 (nu n y)) ∧ w.cell? ⟨b, off + i * 5 + 3, none⟩ = some (.int .i64 (pl n y)) ∧ w.cell? ⟨b, off + i * 5 + 4, none⟩ = some (.slice s (ks n y).length c)) ∧ NdAt w n y s) (x0 : w.cell? ⟨B, 0, none⟩ = some (.int .i64 (kd n x))) (x1 : w.cell? ⟨B, 1, none⟩ = some (.string (bsA (tx n x)))) (x2 : w.cell? ⟨B, 2, none⟩ = some (.int .i64 (nu n x))) (x3 : w.cell? ⟨B, 3, none⟩ = some (.int .i64 (pl n x))) (x4 : w.cell? ⟨B, 4, none⟩ = some (.slice sx (ks n x).length cx)) (hx : NdAt w n x sx) :
    Calls Tryz.prog 118 #[.slice (some ⟨b, off, none⟩) l.length c, (.func (.func 84) #[] #[.pointer (some ⟨B, 0, none⟩)])] w fun e w' => (∃ r : Int, e = .returned (.int .i64 r) ∧ decide (0 ≤ r) = l.any fun y => samP n y x) ∧ Below w.heap.size w w' := by
  have HC : Hid _ := hc
  have HXX : Hid _ := hx
  have HX0 : Hid _ := x0
  have HX1 : Hid _ := x1
  have HX2 : Hid _ := x2
  have HX3 : Hid _ := x3
  have HX4 : Hid _ := x4
  clear hc hx x0 x1 x2 x3 x4
  go_enter Tryz.func118, Tryz.ntmps118
  go_wp2
  go_loopw [8] (fun i wr => ∃ k : Nat, k ≤ l.length ∧ i = .int .i64 k ∧ ((l.take k).any fun y => samP n y x) = false ∧ Bel w.heap.size w wr) (fun i _ => l.length - (intOf i).toNat)
  case atStart => exact ⟨0, Nat.zero_le _, rfl, rfl, Bel.refl _⟩
  case round =>
    obtain ⟨k, hk, rfl, hV, HB⟩ := hrel
    have HV : Hid (((l.take k).any fun y => samP n y x) = false) := hV
    clear hV
    have hW := HB.out
    rcases Nat.lt_or_ge k l.length with hlt | hge
    · have gc : l[k]? = some l[k] := List.getElem?_eq_getElem hlt
      obtain ⟨s, cs, ⟨c0, c1, c2, c3, c4⟩, hp⟩ := HC.out k _ gc
      have c0 := cell_below hW c0
      have c1 := cell_below hW c1
      have c2 := cell_below hW c2
      have c3 := cell_below hW c3
      have c4 := cell_below hW c4
      have h1 := holds1_any n x l[k] s sx cs cx B wr (NdAt.below hW hp) (cell_below hW HX0.out) (cell_below hW HX1.out) (cell_below hW HX2.out) (cell_below hW HX3.out) (cell_below hW HX4.out) (NdAt.below hW HXX.out)
      have HZ : Hid _ := any_snoc (fun y => samP n y x) gc
      have HY : Hid _ := any_yes (fun y => samP n y x) gc
      clear hp gc
      generalize l[k] = y at *
      unfold ndV at h1
      cases hxy : samP n y x with
      | true =>
        rw [hxy] at h1
        have HN : Hid ((l.any fun y => samP n y x) = true) := HY.out hxy
        clear HZ HY hxy
        go_wp2_with fail
        refine h1.mono ?_
        rintro e w1 ⟨rfl, hb1⟩
        have hB1 := hW.trans (hb1.mono hW.size)
        clear h1
        go_wp2
        go_ret
        exact ⟨⟨_, rfl, by rw [HN.out]; simp⟩, hB1⟩
      | false =>
        rw [hxy] at h1
        have HN : Hid (((l.take (k + 1)).any fun y => samP n y x) = false) := by show _ = _; rw [HZ.out, HV.out, hxy]; rfl
        clear HZ HY hxy
        go_wp2_with fail
        refine h1.mono ?_
        rintro e w1 ⟨rfl, hb1⟩
        have hB1 := hW.trans (hb1.mono hW.size)
        clear h1
        go_wp2
        go_roundw
        case rel => exact ⟨k + 1, by omega, by go_num, HN.out, ⟨hB1, hB1.size⟩⟩
        case measure => simp [intOf]; omega
    · have HN : Hid ((l.any fun y => samP n y x) = false) := by
        show _ = _
        rw [← HV.out, List.take_of_length_le hge]
      go_wp2
      go_ret
      exact ⟨⟨_, rfl, by rw [HN.out]; rfl⟩, hW⟩
theorem IndexFunc_0 (a : Option Addr) (c : Nat) (F : Value) (w : World) :
    Calls Tryz.prog 118 #[.slice a 0 c, F] w fun e w' => e = .returned (.int .i64 (-1)) ∧ Below w.heap.size w w' := by
  go_enter Tryz.func118, Tryz.ntmps118
  go_wp2
  refine wp_loop_rounds 1 ?_
  rw [rounds_succ]
  go_wp2
  go_ret
  exact ⟨rfl, Below.refl _ _⟩
theorem IndexFunc_any (n : Nat) (l : List (Tr n)) (x : Tr n) (a sx : Option Addr) (c cx B : Nat) (w : World) (hl : KsAt w n a l) (x0 : w.cell? ⟨B, 0, none⟩ = some (.int .i64 (kd n x))) (x1 : w.cell? ⟨B, 1, none⟩ = some (.string (bsA (tx n x)))) (x2 : w.cell? ⟨B, 2, none⟩ = some (.int .i64 (nu n x))) (x3 : w.cell? ⟨B, 3, none⟩ = some (.int .i64 (pl n x))) (x4 : w.cell? ⟨B, 4, none⟩ = some (.slice sx (ks n x).length cx)) (hx : NdAt w n x sx) :
    Calls Tryz.prog 118 #[.slice a l.length c, (.func (.func 84) #[] #[.pointer (some ⟨B, 0, none⟩)])] w fun e w' => (∃ r : Int, e = .returned (.int .i64 r) ∧ decide (0 ≤ r) = l.any fun y => samP n y x) ∧ Below w.heap.size w w' := by
  obtain ⟨hlen, hl⟩ := hl
  rcases hl with rfl | ⟨b, off, rfl, hc⟩
  · exact (IndexFunc_0 a c _ w).mono fun e w' h => ⟨⟨-1, h.1, rfl⟩, h.2⟩
  · exact IndexFunc_go n l x sx b off c cx B w hlen hc x0 x1 x2 x3 x4 hx
theorem ContainsFunc_any (n : Nat) (l : List (Tr n)) (x : Tr n) (a sx : Option Addr) (c cx B : Nat) (w : World) (hl : KsAt w n a l) (x0 : w.cell? ⟨B, 0, none⟩ = some (.int .i64 (kd n x))) (x1 : w.cell? ⟨B, 1, none⟩ = some (.string (bsA (tx n x)))) (x2 : w.cell? ⟨B, 2, none⟩ = some (.int .i64 (nu n x))) (x3 : w.cell? ⟨B, 3, none⟩ = some (.int .i64 (pl n x))) (x4 : w.cell? ⟨B, 4, none⟩ = some (.slice sx (ks n x).length cx)) (hx : NdAt w n x sx) :
    Calls Tryz.prog 83 #[.slice a l.length c, (.func (.func 84) #[] #[.pointer (some ⟨B, 0, none⟩)])] w fun e w' => e = .returned (.bool (l.any fun y => samP n y x)) ∧ Below w.heap.size w w' := by
  have h1 := IndexFunc_any n l x a sx c cx B w hl x0 x1 x2 x3 x4 hx
  generalize (l.any fun y => samP n y x) = q at h1 ⊢
  clear hl x0 x1 x2 x3 x4 hx
  go_enter Tryz.func83, Tryz.ntmps83
  go_wp2_with fail
  refine h1.mono ?_
  rintro e w1 ⟨⟨r, rfl, hr⟩, hb1⟩
  have HR : Hid _ := hr
  clear h1 hr
  go_wp2
  go_ret
  refine ⟨?_, hb1⟩
  rw [← HR.out]
  rfl
theorem holds_any (n : Nat) (l : List (Tr n)) (x : Tr n) (a s : Option Addr) (c cx : Nat) (w : World) (hl : KsAt w n a l) (hx : NdAt w n x s) :
    Calls Tryz.prog 37 #[.slice a l.length c, ndV n x s cx] w fun e w' => e = .returned (.bool (l.any fun y => samP n y x)) ∧ Below w.heap.size w w' := by
  have hA : Below w.heap.size w (w.alloc (Obj.cells #[Value.int IntKind.i64 (kd n x), Value.string (bsA (tx n x)), Value.int IntKind.i64 (nu n x), Value.int IntKind.i64 (pl n x), Value.slice s (ks n x).length cx] 24)) := (Below.refl _ _).alloc (Nat.le_refl _) _
  have h1 := ContainsFunc_any n l x a s c cx w.heap.size (w.alloc (Obj.cells #[Value.int IntKind.i64 (kd n x), Value.string (bsA (tx n x)), Value.int IntKind.i64 (nu n x), Value.int IntKind.i64 (pl n x), Value.slice s (ks n x).length cx] 24)) (hl.below hA) (by go_simp) (by go_simp) (by go_simp) (by go_simp) (by go_simp) (NdAt.below hA hx)
  unfold ndV
  clear hl hx
  go_enter Tryz.func37, Tryz.ntmps37
  go_wp2_with fail
  refine h1.mono ?_
  rintro e w1 ⟨rfl, hb1⟩
  have hB1 := hA.trans (hb1.mono hA.size)
  clear h1
  go_wp2
  go_ret
  exact ⟨rfl, hB1⟩
end Go.Proofs.YtcemogaacicnfaaGreatDoor
