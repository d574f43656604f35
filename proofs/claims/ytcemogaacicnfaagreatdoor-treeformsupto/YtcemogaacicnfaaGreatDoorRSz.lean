/- The document's own sizes and depths. -/
import Derived.Test.YtcemogaacicnfaaGreatDoorSiz
import Derived.Test.YtcemogaacicnfaaGreatDoorRSa
namespace Go.Proofs.YtcemogaacicnfaaGreatDoor
set_option maxRecDepth 20000
set_option maxHeartbeats 4000000
open Go.ChangeShapes Go.WideShapes Go.ChangeAt Go.RowKit

/-- How many trees a tree is; how deep it is. -/
def szP : (n : Nat) → Tr n → Nat
  | 0, _ => 0
  | n + 1, x => 1 + ((ks (n + 1) x).map (szP n)).sum
def dpP : (n : Nat) → Tr n → Nat
  | 0, _ => 0
  | n + 1, x => ((ks (n + 1) x).map (dpP n)).foldl max 0 + 1
theorem sum_snoc {α : Type} (f : α → Nat) {l : List α} {i : Nat} {y : α} (h : l[i]? = some y) : ((l.take (i + 1)).map f).sum = ((l.take i).map f).sum + f y := by
  rw [List.take_add_one, h, List.map_append, List.sum_append]
  simp
theorem sum_take {α : Type} (f : α → Nat) (l : List α) (i : Nat) : ((l.take i).map f).sum ≤ (l.map f).sum := by
  have : (l.map f).sum = ((l.take i).map f).sum + ((l.drop i).map f).sum := by rw [← List.sum_append, ← List.map_append, List.take_append_drop]
  omega
theorem mem_sum {α : Type} (f : α → Nat) {l : List α} {y : α} (h : y ∈ l) : f y ≤ (l.map f).sum := by
  induction l with
  | nil => cases h
  | cons x l ih =>
    rw [List.map_cons, List.sum_cons]
    rcases List.mem_cons.1 h with rfl | h
    · omega
    · have := ih h; omega
theorem max_snoc {α : Type} (f : α → Nat) {l : List α} {i : Nat} {y : α} (h : l[i]? = some y) : ((l.take (i + 1)).map f).foldl max 0 = max (((l.take i).map f).foldl max 0) (f y) := by
  rw [List.take_add_one, h, List.map_append, List.foldl_append]
  simp
theorem flat_sz : ∀ (n : Nat) (x : Tr n) (d : Int), (flat (fun _ => true) n x d).length = szP n x
  | 0, _, _ => rfl
  | n + 1, x, d => by
    rw [flat_len (fun _ => true) n x d rfl, szP, List.length_flatMap]
    congr 2
    exact List.map_congr_left fun y _ => flat_sz n y (d + 1)
theorem dpP_le : ∀ (n : Nat) (x : Tr n), dpP n x ≤ n
  | 0, _ => Nat.le_refl _
  | n + 1, x => by
    have key : ∀ (l : List (Tr n)) (c : Nat), c ≤ n → (l.map (dpP n)).foldl max c ≤ n := by
      intro l
      induction l with
      | nil => intro c hc; exact hc
      | cons y l ih => intro c hc; exact ih _ (Nat.max_le.2 ⟨hc, dpP_le n y⟩)
    have := key (ks (n + 1) x) 0 (Nat.zero_le _)
    rw [dpP]
    exact Nat.succ_le_succ this
theorem RSize_go (n : Nat) (k : Int) (t : List UInt8) (m a : Int) (l : List (Tr n)) (b off c : Nat) (w : World) (hF : (∀ y ∈ l, ∀ (s : Option Addr) (c : Nat) (W : World), NdAt W n y s → Calls Tryz.prog 11 #[ndV n y s c] W fun e w' => e = .returned (.int .i64 (szP n y)) ∧ Below W.heap.size W w')) (hlen : l.length ≤ 9223372036854775807) (hsz : 1 + (l.map (szP n)).sum ≤ 8000000000000000000)
    (hc : ∀ i y, l[i]? = some y → ∃ s c, (w.cell? ⟨b, off + i * 5, none⟩ = some (.int .i64 (kd n y)) ∧ w.cell? ⟨b, off + i * 5 + 1, none⟩ = some (.string (bsA (tx n y))) ∧ w.cell? ⟨b, off + i * 5 + 2, none⟩ = some (.int .i64 (nu n y)) ∧ w.cell? ⟨b, off + i * 5 + 3, none⟩ = some (.int .i64 (pl n y)) ∧ w.cell? ⟨b, off + i * 5 + 4, none⟩ = some (.slice s (ks n y).length c)) ∧ NdAt w n y s) :
    Calls Tryz.prog 11 #[.agg #[.int .i64 k, .string (bsA t), .int .i64 m, .int .i64 a, .slice (some ⟨b, off, none⟩) l.length c]] w fun e w' => e = .returned (.int .i64 (((1 + (l.map (szP n)).sum : Nat) : Int))) ∧ Below w.heap.size w w' := by
  have HFF : Hid _ := hF
  have HC : Hid _ := hc
  clear hF hc
  have x4 := box4 w (.int .i64 k) (.string (bsA t)) (.int .i64 m) (.int .i64 a) (.slice (some ⟨b, off, none⟩) l.length c) 24
  have hB0 : Below w.heap.size w (w.alloc (Obj.cells #[Value.int IntKind.i64 k, Value.string (bsA t), Value.int IntKind.i64 m, Value.int IntKind.i64 a, Value.slice (some ⟨b, off, none⟩) l.length c] 24)) := (Below.refl _ w).alloc (Nat.le_refl _) _
  go_enter Tryz.func11, Tryz.ntmps11
  go_wp2
  generalize w.alloc (Obj.cells #[Value.int IntKind.i64 k, Value.string (bsA t), Value.int IntKind.i64 m, Value.int IntKind.i64 a, Value.slice (some ⟨b, off, none⟩) l.length c] 24) = W0 at *
  go_loopw [3, 4] (fun o y wr => ∃ i z : Nat, i ≤ l.length ∧ y = .int .i64 i ∧ o = .int .i64 z ∧ z = 1 + ((l.take i).map (szP n)).sum ∧ Bel W0.heap.size W0 wr) (fun _ y _ => l.length - (intOf y).toNat)
  case atStart => exact ⟨0, 1, Nat.zero_le _, rfl, rfl, rfl, Bel.refl _⟩
  case round =>
    obtain ⟨i, z, hi, rfl, rfl, hz, HB⟩ := hrel
    have HZZ : Hid _ := hz
    clear hz
    have hW := HB.out
    have hBr : Below w.heap.size w wr := hB0.trans (hW.mono hB0.size)
    have x4 := cell_below hW x4
    rcases Nat.lt_or_ge i l.length with hlt | hge
    · have gc : l[i]? = some l[i] := List.getElem?_eq_getElem hlt
      obtain ⟨s, cs, ⟨c0, c1, c2, c3, c4⟩, hp⟩ := HC.out i _ gc
      have c0 := cell_below hBr c0
      have c1 := cell_below hBr c1
      have c2 := cell_below hBr c2
      have c3 := cell_below hBr c3
      have c4 := cell_below hBr c4
      have h1 := HFF.out l[i] (List.mem_of_getElem? gc) s cs wr (NdAt.below hBr hp)
      have HZ : Hid (1 + ((l.take (i + 1)).map (szP n)).sum = z + szP n l[i]) := by show _ = _; rw [HZZ.out, sum_snoc (szP n) gc]; omega
      have hb0 : z + szP n l[i] ≤ 8000000000000000000 := by
        rw [← HZ.out]
        have := sum_take (szP n) l (i + 1)
        omega
      clear hp gc
      generalize l[i] = y at *
      unfold ndV at h1
      go_wp2_with fail
      refine h1.mono ?_
      rintro e w1 ⟨rfl, hb1⟩
      have hB1 := hW.trans (hb1.mono hW.size)
      clear h1
      go_wp2
      go_roundw
      case rel => exact ⟨i + 1, z + szP n y, by omega, by go_num, by go_num, HZ.out.symm, ⟨hB1, hB1.size⟩⟩
      case measure => simp [intOf]; omega
    · have HT : Hid (z = 1 + (l.map (szP n)).sum) := by show _ = _; rw [HZZ.out, List.take_of_length_le hge]
      go_wp2
      go_ret
      exact ⟨by rw [← HT.out]; rfl, hBr⟩
theorem RDepth_go (n : Nat) (k : Int) (t : List UInt8) (m a : Int) (l : List (Tr n)) (b off c : Nat) (w : World) (hF : (∀ y ∈ l, ∀ (s : Option Addr) (c : Nat) (W : World), NdAt W n y s → Calls Tryz.prog 13 #[ndV n y s c] W fun e w' => e = .returned (.int .i64 (dpP n y)) ∧ Below W.heap.size W w')) (hlen : l.length ≤ 9223372036854775807) (hdn : (n : Int) ≤ 8000000000000000000)
    (hc : ∀ i y, l[i]? = some y → ∃ s c, (w.cell? ⟨b, off + i * 5, none⟩ = some (.int .i64 (kd n y)) ∧ w.cell? ⟨b, off + i * 5 + 1, none⟩ = some (.string (bsA (tx n y))) ∧ w.cell? ⟨b, off + i * 5 + 2, none⟩ = some (.int .i64 (nu n y)) ∧ w.cell? ⟨b, off + i * 5 + 3, none⟩ = some (.int .i64 (pl n y)) ∧ w.cell? ⟨b, off + i * 5 + 4, none⟩ = some (.slice s (ks n y).length c)) ∧ NdAt w n y s) :
    Calls Tryz.prog 13 #[.agg #[.int .i64 k, .string (bsA t), .int .i64 m, .int .i64 a, .slice (some ⟨b, off, none⟩) l.length c]] w fun e w' => e = .returned (.int .i64 (((((l.map (dpP n)).foldl max 0 : Nat) : Int) + 1))) ∧ Below w.heap.size w w' := by
  have HFF : Hid _ := hF
  have HC : Hid _ := hc
  clear hF hc
  have x4 := box4 w (.int .i64 k) (.string (bsA t)) (.int .i64 m) (.int .i64 a) (.slice (some ⟨b, off, none⟩) l.length c) 24
  have hB0 : Below w.heap.size w (w.alloc (Obj.cells #[Value.int IntKind.i64 k, Value.string (bsA t), Value.int IntKind.i64 m, Value.int IntKind.i64 a, Value.slice (some ⟨b, off, none⟩) l.length c] 24)) := (Below.refl _ w).alloc (Nat.le_refl _) _
  go_enter Tryz.func13, Tryz.ntmps13
  go_wp2
  generalize w.alloc (Obj.cells #[Value.int IntKind.i64 k, Value.string (bsA t), Value.int IntKind.i64 m, Value.int IntKind.i64 a, Value.slice (some ⟨b, off, none⟩) l.length c] 24) = W0 at *
  go_loopw [3, 4] (fun o y wr => ∃ i z : Nat, i ≤ l.length ∧ y = .int .i64 i ∧ o = .int .i64 z ∧ z = ((l.take i).map (dpP n)).foldl max 0 ∧ Bel W0.heap.size W0 wr) (fun _ y _ => l.length - (intOf y).toNat)
  case atStart => exact ⟨0, 0, Nat.zero_le _, rfl, rfl, rfl, Bel.refl _⟩
  case round =>
    obtain ⟨i, z, hi, rfl, rfl, hz, HB⟩ := hrel
    have HZZ : Hid _ := hz
    clear hz
    have hW := HB.out
    have hBr : Below w.heap.size w wr := hB0.trans (hW.mono hB0.size)
    have x4 := cell_below hW x4
    rcases Nat.lt_or_ge i l.length with hlt | hge
    · have gc : l[i]? = some l[i] := List.getElem?_eq_getElem hlt
      obtain ⟨s, cs, ⟨c0, c1, c2, c3, c4⟩, hp⟩ := HC.out i _ gc
      have c0 := cell_below hBr c0
      have c1 := cell_below hBr c1
      have c2 := cell_below hBr c2
      have c3 := cell_below hBr c3
      have c4 := cell_below hBr c4
      have h1 := HFF.out l[i] (List.mem_of_getElem? gc) s cs wr (NdAt.below hBr hp)
      have HZ : Hid (((l.take (i + 1)).map (dpP n)).foldl max 0 = max z (dpP n l[i])) := by show _ = _; rw [HZZ.out, max_snoc (dpP n) gc]
      clear hp gc
      generalize l[i] = y at *
      unfold ndV at h1
      go_wp2_with fail
      refine h1.mono ?_
      rintro e w1 ⟨rfl, hb1⟩
      have hB1 := hW.trans (hb1.mono hW.size)
      clear h1
      go_wp2
      go_roundw
      case rel => exact ⟨i + 1, max z (dpP n y), by omega, by go_num, by go_num, HZ.out.symm, ⟨hB1, hB1.size⟩⟩
      case measure => simp [intOf]; omega
    · have HT : Hid (z = (l.map (dpP n)).foldl max 0) := by show _ = _; rw [HZZ.out, List.take_of_length_le hge]
      have hzn : z ≤ n := by
        rw [HT.out]
        have key : ∀ (l : List (Tr n)) (c : Nat), c ≤ n → (l.map (dpP n)).foldl max c ≤ n := by
          intro l
          induction l with
          | nil => intro c hc; exact hc
          | cons y l ih => intro c hc; exact ih _ (Nat.max_le.2 ⟨hc, dpP_le n y⟩)
        exact key l 0 (Nat.zero_le _)
      go_wp2
      go_ret
      exact ⟨by rw [← HT.out]; rfl, hBr⟩
theorem RSize_0 (k : Int) (t : List UInt8) (m a : Int) (s : Option Addr) (c : Nat) (w : World) : Calls Tryz.prog 11 #[.agg #[.int .i64 k, .string (bsA t), .int .i64 m, .int .i64 a, .slice s 0 c]] w fun e w' => e = .returned (.int .i64 1) ∧ Below w.heap.size w w' := by
  go_enter Tryz.func11, Tryz.ntmps11
  go_wp2
  refine wp_loop_rounds 1 ?_
  rw [rounds_succ]
  go_wp2
  go_ret
  exact ⟨rfl, Bel.out (by repeat (first | exact Bel.refl _ | assumption | refine Bel.drew ?_ | refine Bel.drewN ?_ _ | refine Bel.alloc ?_ _ | refine Bel.setCell ?_ (by simp <;> omega) _ | refine Bel.step ?_ (by assumption)))⟩
theorem RSize_any : ∀ (n : Nat) (x : Tr n) (s : Option Addr) (c : Nat) (W : World), szP n x ≤ 8000000000000000000 → NdAt W n x s → Calls Tryz.prog 11 #[ndV n x s c] W fun e w' => e = .returned (.int .i64 (szP n x)) ∧ Below W.heap.size W w'
  | 0, x => Empty.elim x
  | n + 1, x => fun s c W hs hx => by
    obtain ⟨hlen, hx⟩ := hx
    unfold ndV
    rcases hx with h0 | ⟨b, off, rfl, hc⟩
    · have e : szP (n + 1) x = 1 := by rw [szP, h0]; rfl
      rw [e, h0]
      exact RSize_0 _ _ _ _ s c W
    · exact RSize_go n _ _ _ _ (ks (n + 1) x) b off c W (fun y hy s c W hn => RSize_any n y s c W (by rw [szP] at hs; have := mem_sum (szP n) hy; omega) hn) hlen (by rw [szP] at hs; exact hs) hc
theorem RDepth_0 (k : Int) (t : List UInt8) (m a : Int) (s : Option Addr) (c : Nat) (w : World) : Calls Tryz.prog 13 #[.agg #[.int .i64 k, .string (bsA t), .int .i64 m, .int .i64 a, .slice s 0 c]] w fun e w' => e = .returned (.int .i64 1) ∧ Below w.heap.size w w' := by
  go_enter Tryz.func13, Tryz.ntmps13
  go_wp2
  refine wp_loop_rounds 1 ?_
  rw [rounds_succ]
  go_wp2
  go_ret
  exact ⟨rfl, Bel.out (by repeat (first | exact Bel.refl _ | assumption | refine Bel.drew ?_ | refine Bel.drewN ?_ _ | refine Bel.alloc ?_ _ | refine Bel.setCell ?_ (by simp <;> omega) _ | refine Bel.step ?_ (by assumption)))⟩
theorem RDepth_any : ∀ (n : Nat) (x : Tr n) (s : Option Addr) (c : Nat) (W : World), ((n : Nat) : Int) ≤ 8000000000000000000 → NdAt W n x s → Calls Tryz.prog 13 #[ndV n x s c] W fun e w' => e = .returned (.int .i64 (dpP n x)) ∧ Below W.heap.size W w'
  | 0, x => Empty.elim x
  | n + 1, x => fun s c W hs hx => by
    obtain ⟨hlen, hx⟩ := hx
    unfold ndV
    rcases hx with h0 | ⟨b, off, rfl, hc⟩
    · have e : dpP (n + 1) x = 1 := by rw [dpP, h0]; rfl
      rw [e, h0]
      exact RDepth_0 _ _ _ _ s c W
    · exact RDepth_go n _ _ _ _ (ks (n + 1) x) b off c W (fun y hy s c W hn => RDepth_any n y s c W (by omega) hn) hlen (by omega) hc
end Go.Proofs.YtcemogaacicnfaaGreatDoor
