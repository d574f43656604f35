/- The small tests of a tree's form, by the document. -/
import Derived.Test.YtcemogaacicnfaaGreatDoorSt2
import Derived.Test.YtcemogaacicnfaaGreatDoorRSa
namespace Go.Proofs.YtcemogaacicnfaaGreatDoor
set_option linter.unusedSimpArgs false
set_option maxRecDepth 20000
set_option maxHeartbeats 4000000
open Go.ChangeShapes Go.WideShapes Go.ChangeAt Go.RowKit

theorem rplain_any (n : Nat) (k : Int) (t : List UInt8) (m a : Int) (l : List (Tr n)) (s : Option Addr) (c : Nat) (w : World) (hR : Rdy w) (hl : KsG w n s c l) :
    Calls Tryz.prog 70 #[.agg #[.int .i64 k, .string (bsA t), .int .i64 m, .int .i64 a, .slice s l.length c]] w fun e w' => e = .returned (.bool (plainF t m)) ∧ Below w.heap.size w w' := by
  have HN : Hid (Nd w n k t m a l s c (w.alloc (Obj.cells #[Value.int IntKind.i64 k, Value.string (bsA t), Value.int IntKind.i64 m, Value.int IntKind.i64 a, Value.slice s l.length c] 24))) := Nd.new w n _ t _ a l s c hR hl
  obtain ⟨d0, d1, d2, d3, d4, -, -, -, -, -⟩ := HN.out.box
  clear hl hR
  go_enter Tryz.func70, Tryz.ntmps70
  go_wp2_with (first | fail)
  all_goals (go_ret; exact ⟨by simp_all [bsA_tl, beqI, beqL, plainF], HN.out.bel⟩)
def bitF (m : Int) : Bool := decide (m = 0) || decide (m = 1)
theorem bit_flag (m : Int) : bitF m = flagF m := by
  unfold bitF flagF
  by_cases h0 : m = 0
  · subst h0; rfl
  · by_cases h1 : m = 1
    · subst h1; rfl
    · rw [decide_eq_false h0, decide_eq_false h1]
      by_cases h2 : 0 ≤ m
      · rw [decide_eq_true h2, decide_eq_false (by omega)]
        rfl
      · rw [decide_eq_false h2]
        rfl
theorem rbit_any (n : Nat) (k : Int) (t : List UInt8) (m a : Int) (l : List (Tr n)) (s : Option Addr) (c : Nat) (w : World) (hR : Rdy w) (hl : KsG w n s c l) :
    Calls Tryz.prog 69 #[.agg #[.int .i64 k, .string (bsA t), .int .i64 m, .int .i64 a, .slice s l.length c]] w fun e w' => e = .returned (.bool (bitF m)) ∧ Below w.heap.size w w' := by
  rcases Classical.em (m = 0) with rfl | h0
  · have HN : Hid (Nd w n k t 0 a l s c (w.alloc (Obj.cells #[Value.int IntKind.i64 k, Value.string (bsA t), Value.int IntKind.i64 0, Value.int IntKind.i64 a, Value.slice s l.length c] 24))) := Nd.new w n _ t _ a l s c hR hl
    obtain ⟨d0, d1, d2, d3, d4, -, -, -, -, -⟩ := HN.out.box
    clear hl hR
    go_enter Tryz.func69, Tryz.ntmps69
    go_wp2_with (first | fail)
    all_goals (go_ret; exact ⟨by simp_all [bsA_tl, beqI, beqL, bitF], HN.out.bel⟩)
  · have HN : Hid (Nd w n k t m a l s c (w.alloc (Obj.cells #[Value.int IntKind.i64 k, Value.string (bsA t), Value.int IntKind.i64 m, Value.int IntKind.i64 a, Value.slice s l.length c] 24))) := Nd.new w n _ t _ a l s c hR hl
    obtain ⟨d0, d1, d2, d3, d4, -, -, -, -, -⟩ := HN.out.box
    clear hl hR
    go_enter Tryz.func69, Tryz.ntmps69
    go_wp2_with (first | fail)
    all_goals (go_ret; exact ⟨by simp_all [bsA_tl, beqI, beqL, bitF], HN.out.bel⟩)
theorem rbare_any (n : Nat) (k : Int) (t : List UInt8) (m a : Int) (l : List (Tr n)) (s : Option Addr) (c : Nat) (w : World) (hR : Rdy w) (hl : KsG w n s c l) :
    Calls Tryz.prog 73 #[.agg #[.int .i64 k, .string (bsA t), .int .i64 m, .int .i64 a, .slice s l.length c]] w fun e w' => e = .returned (.bool (emp n l)) ∧ Below w.heap.size w w' := by
  have HN : Hid (Nd w n k t m a l s c (w.alloc (Obj.cells #[Value.int IntKind.i64 k, Value.string (bsA t), Value.int IntKind.i64 m, Value.int IntKind.i64 a, Value.slice s l.length c] 24))) := Nd.new w n _ t _ a l s c hR hl
  obtain ⟨d0, d1, d2, d3, d4, -, -, -, -, -⟩ := HN.out.box
  clear hl hR
  go_enter Tryz.func73, Tryz.ntmps73
  go_wp2_with (first | fail)
  all_goals (go_ret; refine ⟨?_, HN.out.bel⟩; unfold emp; cases l <;> simp_all <;> omega)
theorem contains_snoc (t : List UInt8) {l : List (List UInt8)} {i : Nat} {x : List UInt8} (h : l[i]? = some x) : ((l.take (i + 1)).any fun y => decide (y = t)) = (((l.take i).any fun y => decide (y = t)) || decide (x = t)) := by
  rw [List.take_add_one, h, List.any_append]
  simp
theorem rin_go (t : List UInt8) (l : List (List UInt8)) (g c : Nat) (w : World) (hl : l.length ≤ 9223372036854775807) (hc : ∀ i x, l[i]? = some x → w.cell? ⟨g, i, none⟩ = some (.string (bsA x))) :
    Calls Tryz.prog 67 #[.string (bsA t), .slice (some ⟨g, 0, none⟩) l.length c] w fun e w' => e = .returned (.bool (l.any fun y => decide (y = t))) ∧ w' = w := by
  have HC : Hid _ := hc
  clear hc
  go_enter Tryz.func67, Tryz.ntmps67
  go_wp2
  go_loopw [5] (fun i wr => ∃ k : Nat, k ≤ l.length ∧ i = .int .i64 k ∧ ((l.take k).any fun y => decide (y = t)) = false ∧ wr = w) (fun i _ => l.length - (intOf i).toNat)
  case atStart => exact ⟨0, Nat.zero_le _, rfl, rfl, rfl⟩
  case round =>
    obtain ⟨k, hk, rfl, hV, rfl⟩ := hrel
    have HV : Hid (((l.take k).any fun y => decide (y = t)) = false) := hV
    clear hV
    rcases Nat.lt_or_ge k l.length with hlt | hge
    · obtain ⟨x, gx⟩ : ∃ x, l[k]? = some x := ⟨_, List.getElem?_eq_getElem hlt⟩
      have c0 := HC.out k x gx
      have HZ : Hid _ := contains_snoc t gx
      by_cases hx : x = t
      · have HN : Hid ((l.any fun y => decide (y = t)) = true) := by
          show _ = _
          rw [List.any_eq_true]
          exact ⟨x, List.mem_of_getElem? gx, by simpa using hx⟩
        subst hx
        clear gx HZ HV
        go_wp2
        go_ret
        exact ⟨ret_bool HN.out.symm, rfl⟩
      · have HN : Hid (((l.take (k + 1)).any fun y => decide (y = t)) = false) := by show _ = _; rw [HZ.out, HV.out, decide_eq_false hx]; rfl
        have hx2 : ((bsA x).toList == (bsA t).toList) = false := by rw [bsA_tl, bsA_tl, beqL]; exact decide_eq_false hx
        clear gx HZ HV
        go_wp2
        go_roundw
        case rel => exact ⟨k + 1, by omega, by go_num, HN.out, trivial⟩
        case measure => simp [intOf]; omega
    · have HN : Hid ((l.any fun y => decide (y = t)) = false) := by
        show _ = _
        rw [← HV.out, List.take_of_length_le hge]
      go_wp2
      go_ret
      exact ⟨ret_bool HN.out.symm, rfl⟩
/-- No text in a tree is too long. -/
def Txs : (n : Nat) → Tr n → Prop
  | 0, _ => True
  | n + 1, x => (tx (n + 1) x).length ≤ 1048576 ∧ ∀ y : Tr n, y ∈ ks (n + 1) x → Txs n y
/-- A function of the document's that tells of trees by P. -/
structure RM (k : FuncId) (n : Nat) (P : Tr n → Bool) (w : World) : Prop where
  run : ∀ W : World, Below w.heap.size w W → ∀ (y : Tr n) (s : Option Addr) (c : Nat), NdG W n y s c → Txs n y → Calls Tryz.prog k #[ndV n y s c] W fun e w' => e = .returned (.bool (P y)) ∧ Below W.heap.size W w'
theorem RM.below {k : FuncId} {n : Nat} {P : Tr n → Bool} {w w' : World} (h : RM k n P w) (hb : Below w.heap.size w w') : RM k n P w' := ⟨fun W hW y s c hy ht => h.run W (hb.trans (hW.mono hb.size)) y s c hy ht⟩
theorem all_snoc {α : Type} (f : α → Bool) {l : List α} {i : Nat} {a : α} (ha : l[i]? = some a) : (l.take (i + 1)).all f = ((l.take i).all f && f a) := by
  rw [List.take_add_one, ha, List.all_append]
  simp
theorem rexprs_go (n : Nat) (l : List (Tr n)) (b off c : Nat) (E : Tr n → Bool) (w : World) (hlen : l.length ≤ 9223372036854775807) (hc : ∀ i y, l[i]? = some y → ∃ s c, (w.cell? ⟨b, off + i * 5, none⟩ = some (.int .i64 (kd n y)) ∧ w.cell? ⟨b, off + i * 5 + 1, none⟩ = some (.string (bsA (tx n y))) ∧ w.cell? ⟨b, off + i * 5 + 2, none⟩ = some (.int .i64 (nu n y)) ∧ w.cell? ⟨b, off + i * 5 + 3, none⟩ = some (.int .i64 (pl n y)) ∧ w.cell? ⟨b, off + i * 5 + 4, none⟩ = some (.slice s (ks n y).length c)) ∧ NdG w n y s c) (hE : RM 26 n E w) (ht : ∀ y ∈ l, Txs n y) :
    Calls Tryz.prog 68 #[.slice (some ⟨b, off, none⟩) l.length c] w fun e w' => e = .returned (.bool (l.all E)) ∧ Below w.heap.size w w' := by
  have HC : Hid _ := hc
  have HE : Hid _ := hE
  have HT : Hid _ := ht
  clear hc hE ht
  go_enter Tryz.func68, Tryz.ntmps68
  go_wp2
  go_loopw [3] (fun i wr => ∃ k : Nat, k ≤ l.length ∧ i = .int .i64 k ∧ (l.take k).all E = true ∧ Bel w.heap.size w wr) (fun i _ => l.length - (intOf i).toNat)
  case atStart => exact ⟨0, Nat.zero_le _, rfl, rfl, Bel.refl _⟩
  case round =>
    obtain ⟨k, hk, rfl, hV, HB⟩ := hrel
    have HV : Hid ((l.take k).all E = true) := hV
    clear hV
    have hW := HB.out
    rcases Nat.lt_or_ge k l.length with hlt | hge
    · obtain ⟨y, gy⟩ : ∃ y, l[k]? = some y := ⟨_, List.getElem?_eq_getElem hlt⟩
      obtain ⟨s, cs, ⟨c0, c1, c2, c3, c4⟩, hp⟩ := HC.out k _ gy
      have c0 := cell_below hW c0
      have c1 := cell_below hW c1
      have c2 := cell_below hW c2
      have c3 := cell_below hW c3
      have c4 := cell_below hW c4
      have h1 := (HE.out.below hW).run wr (Below.refl _ _) y s cs (NdG.below hW hp) (HT.out y (List.mem_of_getElem? gy))
      unfold ndV at h1
      have HZ : Hid _ := all_snoc E gy
      cases hy : E y with
      | false =>
        have HN : Hid (l.all E = false) := by
          show _ = _
          rw [List.all_eq_false]
          exact ⟨y, List.mem_of_getElem? gy, by rw [hy]; simp⟩
        rw [hy] at h1
        clear gy hp HZ HV hy
        go_wp2_with fail
        refine h1.mono ?_
        rintro e w1 ⟨rfl, hb1⟩
        have hB1 := hW.trans (hb1.mono hW.size)
        clear h1
        go_wp2
        go_ret
        exact ⟨ret_bool HN.out.symm, hB1⟩
      | true =>
        have HN : Hid ((l.take (k + 1)).all E = true) := by show _ = _; rw [HZ.out, HV.out, hy]; rfl
        rw [hy] at h1
        clear gy hp HZ HV hy
        go_wp2_with fail
        refine h1.mono ?_
        rintro e w1 ⟨rfl, hb1⟩
        have hB1 := hW.trans (hb1.mono hW.size)
        clear h1
        go_wp2
        go_roundw
        case rel => exact ⟨k + 1, by omega, by go_num, HN.out, ⟨hB1, hB1.size⟩⟩
        case measure => simp [intOf]; omega
    · have HN : Hid (l.all E = true) := by
        show _ = _
        rw [← HV.out, List.take_of_length_le hge]
      go_wp2
      go_ret
      exact ⟨ret_bool HN.out.symm, hW⟩
theorem rexprs_0 (s : Option Addr) (c : Nat) (w : World) : Calls Tryz.prog 68 #[.slice s 0 c] w fun e w' => e = .returned (.bool true) ∧ Below w.heap.size w w' := by
  go_enter Tryz.func68, Tryz.ntmps68
  go_wp2
  refine wp_loop_rounds 1 ?_
  rw [rounds_succ]
  go_wp2
  go_ret
  exact ⟨rfl, Below.refl _ _⟩
theorem rexprs_any (n : Nat) (l : List (Tr n)) (s : Option Addr) (c : Nat) (E : Tr n → Bool) (w : World) (hl : KsG w n s c l) (hE : RM 26 n E w) (ht : ∀ y ∈ l, Txs n y) :
    Calls Tryz.prog 68 #[.slice s l.length c] w fun e w' => e = .returned (.bool (l.all E)) ∧ Below w.heap.size w w' := by
  obtain ⟨hlen, hl, _⟩ := hl
  rcases hl with rfl | ⟨b, off, rfl, hc⟩
  · exact rexprs_0 s c w
  · exact rexprs_go n l b off c E w hlen hc hE ht
end Go.Proofs.YtcemogaacicnfaaGreatDoor
