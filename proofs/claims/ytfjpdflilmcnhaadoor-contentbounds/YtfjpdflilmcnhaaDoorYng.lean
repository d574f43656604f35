/- The places that a view of time, a view of batches of time holds (young, pastBatch). -/
import Derived.Test.YtfjpdflilmcnhaaDoorTrn
import Derived.Test.YtfjpdflilmcnhaaDoorPik
import Derived.Test.YtfjpdflilmcnhaaDoorWit
namespace Go.Proofs.YtfjpdflilmcnhaaDoor
open Go.ChangeShapes Go.WideShapes Go.ChangeAt Go.RowKit

/-- What the held places of a view come to. -/
def HsP (w : World) (ps : List Nat) (e : Ending) (w' : World) : Prop := (∃ a cap, e = .returned (.slice a ps.length cap) ∧ PsAt w' a ps) ∧ Below w.heap.size w w'
def ysP (P : Nat → Bool) (m : Nat) : List Nat := (List.range m).filter P
theorem ysP_succ (P : Nat → Bool) (m : Nat) : ysP P (m + 1) = if P m = true then ysP P m ++ [m] else ysP P m := by
  unfold ysP
  rw [List.range_succ, List.filter_append, List.filter_cons]
  split <;> simp
theorem ysP_len (P : Nat → Bool) (m : Nat) : (ysP P m).length ≤ m := by
  have h := List.length_filter_le P (List.range m)
  rw [List.length_range] at h; exact h
theorem ysP_lt {P : Nat → Bool} {m : Nat} : ∀ p ∈ ysP P m, p < m := fun p hp => by
  have h := (List.mem_filter.1 hp).1
  simpa using h
set_option maxRecDepth 20000 in
set_option maxHeartbeats 8000000 in
theorem young_any (f0 f1 f2 : Nat) (n : Int) (a : Option Addr) (cn cc : Nat) (d : Bool) (la : Option Addr) (lc : Nat) (now : Int) (l : List Arv) (w : World) (hl : CelsAt w la l) (hll : l.length ≤ 200) (ht : Tms l) (hn : 1 ≤ n) (hn2 : n ≤ 1099511627776) :
    Calls Tryd.prog 36 #[vvV f0 f1 f2 n a cn cc d la l.length lc now] w (HsP w (ysP (fun i => decide ((aAt l i).time + n > now)) l.length)) := by
  have HL : Hid (CelsAt w la l) := hl
  have HT : Hid (Tms l) := ht
  clear hl ht
  obtain ⟨P, hP⟩ : ∃ P : Nat → Bool, (fun i => decide ((aAt l i).time + n > now)) = P := ⟨_, rfl⟩
  have HP : Hid (∀ i, P i = decide ((aAt l i).time + n > now)) := fun i => by rw [← hP]
  rw [hP]
  clear hP
  obtain ⟨i0, hi, hz0⟩ := Option.map_eq_some_iff.1 info3
  simp only [Prod.mk.injEq] at hz0
  obtain ⟨hz, hs, hb3⟩ := hz0
  unfold vvV
  go_enter Tryd.func36, Tryd.ntmps36
  go_upto_region 1 with (fail)
  have hb1 : Below w.heap.size w (w.alloc (Obj.cells #[.func (.func f0) #[] #[], .func (.func f1) #[] #[], .func (.func f2) #[] #[], .int .i64 n, .slice a cn cc, .bool d, .slice la l.length lc, .int .i64 now] 64)) := (Below.refl w.heap.size w).alloc (Nat.le_refl _) _
  have ys : ∀ i v, #[Value.func (.func f0) #[] #[], .func (.func f1) #[] #[], .func (.func f2) #[] #[], .int .i64 n, .slice a cn cc, .bool d, .slice la l.length lc, .int .i64 now][i]? = some v → (w.alloc (Obj.cells #[.func (.func f0) #[] #[], .func (.func f1) #[] #[], .func (.func f2) #[] #[], .int .i64 n, .slice a cn cc, .bool d, .slice la l.length lc, .int .i64 now] 64)).cell? ⟨w.heap.size, i, none⟩ = some v := fun i v h => (World.cell?_alloc_mark w _ 64 (0, 0) i).trans h
  obtain ⟨X, hX⟩ : ∃ X, w.heap.size = X := ⟨_, rfl⟩
  have HB1 : Hid _ := hb1
  have HC1 : Hid (CelsAt (w.alloc (Obj.cells #[.func (.func f0) #[] #[], .func (.func f1) #[] #[], .func (.func f2) #[] #[], .int .i64 n, .slice a cn cc, .bool d, .slice la l.length lc, .int .i64 now] 64)) la l) := HL.out.below hb1
  rw [hX] at ys ⊢
  clear hX HL hb1
  generalize (w.alloc (Obj.cells #[.func (.func f0) #[] #[], .func (.func f1) #[] #[], .func (.func f2) #[] #[], .int .i64 n, .slice a cn cc, .bool d, .slice la l.length lc, .int .i64 now] 64)) = w1 at *
  have y0 := ys 0 _ rfl
  have y1 := ys 1 _ rfl
  have y2 := ys 2 _ rfl
  have y3 := ys 3 _ rfl
  have y4 := ys 4 _ rfl
  have y5 := ys 5 _ rfl
  have y6 := ys 6 _ rfl
  have y7 := ys 7 _ rfl
  clear ys
  have HY : Hid (w1.cell? ⟨X, 0, none⟩ = some (.func (.func f0) #[] #[]) ∧ w1.cell? ⟨X, 1, none⟩ = some (.func (.func f1) #[] #[]) ∧ w1.cell? ⟨X, 2, none⟩ = some (.func (.func f2) #[] #[]) ∧ w1.cell? ⟨X, 3, none⟩ = some (.int .i64 n) ∧ w1.cell? ⟨X, 4, none⟩ = some (.slice a cn cc) ∧ w1.cell? ⟨X, 5, none⟩ = some (.bool d) ∧ w1.cell? ⟨X, 6, none⟩ = some (.slice la l.length lc) ∧ w1.cell? ⟨X, 7, none⟩ = some (.int .i64 now)) := ⟨y0, y1, y2, y3, y4, y5, y6, y7⟩
  clear y0 y1 y2 y3 y4 y5 y7
  go_wp2
  clear y6
  go_loopw [3, 9] (fun v i wr => ∃ (m : Nat) (v1 : Value), m ≤ l.length ∧ v = v1 ∧ i = .int .i64 m ∧ wr.ownsRow w1.heap.size 3 1 v1 (ysP P m).length (inC (ysP P m)) ∧ Bel w1.heap.size w1 wr) (fun _ i _ => l.length - (intOf i).toNat)
  case atStart => exact ⟨0, _, Nat.zero_le _, rfl, rfl, World.ownsRow_nil _ _ _ _, Bel.refl _⟩
  case round =>
    obtain ⟨m, v1, hm, hv, rfl, hO, HB⟩ := hrel
    have hv2 := hv.symm
    clear hv
    subst hv2
    have HO : Hid (wr.ownsRow w1.heap.size 3 1 v1 (ysP P m).length (inC (ysP P m))) := hO
    clear hO
    have hW := HB.out
    rcases Nat.lt_or_ge m l.length with hlt | hge
    · have HCW : Hid (CelsAt wr la l) := HC1.out.below hW
      have HL0 : Hid (0 < l.length) := by show _ < _; omega
      obtain ⟨b, off, rfl, hc⟩ : ∃ b off, la = some ⟨b, off, none⟩ ∧ ∀ i, i < l.length → w1.cell? ⟨b, off + i * 3, none⟩ = some (.int .i64 (aAt l i).seq) ∧ w1.cell? ⟨b, off + i * 3 + 1, none⟩ = some (.int .i64 (aAt l i).time) ∧ w1.cell? ⟨b, off + i * 3 + 2, none⟩ = some (.slice (aAt l i).a (aAt l i).row.length (aAt l i).cap) := by
        rcases HC1.out with h | h
        · rw [h] at hlt; cases hlt
        · exact h
      have c0 := cell_below hW (hc m hlt).1
      have c1 := cell_below hW (hc m hlt).2.1
      have c2 := cell_below hW (hc m hlt).2.2
      clear hc
      obtain ⟨t1, t2, t3⟩ := HT.out _ (aAt_mem hlt)
      have HPm := HP.out m
      have hps := ysP_succ P m

      generalize aAt l m = x at *
      go_upto_region 5 with (fail)
      obtain ⟨y0, y1, y2, y3, y4, y5, y6, y7⟩ := HY.out
      have hB2 : Bel w1.heap.size w1 (wr.alloc (Obj.cells #[.int .i64 x.seq, .int .i64 x.time, .slice x.a x.row.length x.cap] 40)) := HB.alloc _
      have HO2 : Hid (World.ownsRow (wr.alloc (Obj.cells #[.int .i64 x.seq, .int .i64 x.time, .slice x.a x.row.length x.cap] 40)) w1.heap.size 3 1 v1 (ysP P m).length (inC (ysP P m))) := HO.out.alloc _
      have HCW2 : Hid (CelsAt (wr.alloc (Obj.cells #[.int .i64 x.seq, .int .i64 x.time, .slice x.a x.row.length x.cap] 40)) (some ⟨b, off, none⟩) l) := HCW.out.below ((Below.refl wr.heap.size wr).alloc (Nat.le_refl _) _)
      have x0 : (wr.alloc (Obj.cells #[.int .i64 x.seq, .int .i64 x.time, .slice x.a x.row.length x.cap] 40)).cell? ⟨wr.heap.size, 0, none⟩ = some (.int .i64 x.seq) := by go_simp
      have x1 : (wr.alloc (Obj.cells #[.int .i64 x.seq, .int .i64 x.time, .slice x.a x.row.length x.cap] 40)).cell? ⟨wr.heap.size, 1, none⟩ = some (.int .i64 x.time) := by go_simp
      have x2 : (wr.alloc (Obj.cells #[.int .i64 x.seq, .int .i64 x.time, .slice x.a x.row.length x.cap] 40)).cell? ⟨wr.heap.size, 2, none⟩ = some (.slice x.a x.row.length x.cap) := by go_simp
      obtain ⟨Z, hZ⟩ : ∃ Z, wr.heap.size = Z := ⟨_, rfl⟩
      rw [hZ] at x0 x1 x2 ⊢
      clear hZ c0 c1 c2 HO HCW
      generalize (wr.alloc (Obj.cells #[.int .i64 x.seq, .int .i64 x.time, .slice x.a x.row.length x.cap] 40)) = w2 at *
      have z0 := cell_below hB2.out y0
      have z1 := cell_below hB2.out y1
      have z2 := cell_below hB2.out y2
      have z3 := cell_below hB2.out y3
      have z4 := cell_below hB2.out y4
      have z5 := cell_below hB2.out y5
      have z6 := cell_below hB2.out y6
      have z7 := cell_below hB2.out y7
      have HB2 : Hid (Bel w1.heap.size w1 w2) := hB2
      clear y0 y1 y2 y3 y4 y5 y6 y7 hB2
      have hcl := fun wx => leaves_any f0 f1 f2 n a cn cc d (some ⟨b, off, none⟩) l.length lc now x wx t1 t2 hn hn2
      unfold vvV arV at hcl
      clear HCW2 HL0
      by_cases h1 : x.time + n > now
      · have HT2 : Hid (ysP P (m + 1) = ysP P m ++ [m]) := by
          show _ = _
          rw [hps, HPm, if_pos (by simpa using h1)]
        clear hps HPm
        go_wp2
        refine wp_region_held_drew (S := (fun wS => Bel w2.heap.size w2 wS)) (by kernel_rfl) ?_ (fun hHeld => ?_)
        · (try dsimp only); exact (Bel.refl _).drew
        refine wpAnyH_take (i := 0) (oi := { dst := some 14, op := Op.load 64 (Operand.tmp 1), type := 64, pos := "kinds.go:89", after := #[], guard := none }) (v := ?_) rfl (by kernel_rfl) (by kernel_rfl) (by kernel_rfl) (fun _ _ _ h => h) (Or.inl ⟨by kernel_rfl, ?_⟩) (by assumption) ?_
        rotate_left
        · intro wS hSw; (try dsimp only at hSw); have d0 := cell_below hSw.out z0; have d1 := cell_below hSw.out z1; have d2 := cell_below hSw.out z2; have d3 := cell_below hSw.out z3; have d4 := cell_below hSw.out z4; have d5 := cell_below hSw.out z5; have d6 := cell_below hSw.out z6; have d7 := cell_below hSw.out z7; go_simp; (try with_reducible rfl)
        try simp only [Act.put, List.setIfInBounds_toArray, List.set_cons_zero, List.set_cons_succ]
        refine wpAnyH_take (i := 1) (oi := { dst := some 15, op := Op.load 40 (Operand.tmp 5), type := 40, pos := "kinds.go:89", after := #[], guard := none }) (v := ?_) rfl (by kernel_rfl) (by kernel_rfl) (by kernel_rfl) (fun _ _ _ h => h) (Or.inl ⟨by kernel_rfl, ?_⟩) (by assumption) ?_
        rotate_left
        · intro wS hSw; (try dsimp only at hSw); have d0 := cell_below hSw.out x0; have d1 := cell_below hSw.out x1; have d2 := cell_below hSw.out x2; go_simp; (try with_reducible rfl)
        try simp only [Act.put, List.setIfInBounds_toArray, List.set_cons_zero, List.set_cons_succ]
        refine wpAnyH_take (i := 3) (oi := { dst := some 17, op := Op.fieldAddr 64 (Operand.tmp 1) 5, type := 0, pos := "kinds.go:89", after := #[], guard := none }) (v := ?_) rfl (by kernel_rfl) (by kernel_rfl) (by kernel_rfl) (fun _ _ _ h => h) (Or.inl ⟨by kernel_rfl, ?_⟩) (by assumption) ?_
        rotate_left
        · intro wS hSw; (try dsimp only at hSw); go_simp; (try with_reducible rfl)
        try simp only [Act.put, List.setIfInBounds_toArray, List.set_cons_zero, List.set_cons_succ]
        refine wpAnyH_take (i := 4) (oi := { dst := some 18, op := Op.load 3 (Operand.tmp 17), type := 3, pos := "kinds.go:89", after := #[{ on := 3, ground := Ground.data }], guard := none }) (v := ?_) rfl (by kernel_rfl) (by kernel_rfl) (by kernel_rfl) (fun _ _ _ h => h) (Or.inl ⟨by kernel_rfl, ?_⟩) (by assumption) ?_
        rotate_left
        · intro wS hSw; (try dsimp only at hSw); have d7 := cell_below hSw.out z7; go_simp; (try with_reducible rfl)
        try simp only [Act.put, List.setIfInBounds_toArray, List.set_cons_zero, List.set_cons_succ]
        refine wpAnyH_ready (rs := [2]) (by kernel_rfl) (by simp) ?_
        refine AllReadyH.cons (o := { dst := some 16, op := Op.call { callee := Callee.value (Operand.func 51), args := #[Operand.tmp 14, Operand.tmp 15], argTypes := #[64, 40] }, type := 3, pos := "kinds.go:89", after := #[{ on := 0, ground := Ground.data }, { on := 1, ground := Ground.data }], guard := none }) rfl (fun K hK => ?_) AllReadyH.nil
        go_simp
        refine (hcl _).mono ?_
        rintro e w3 ⟨rfl, hb3c⟩
        try dsimp only
        refine hK.out _ _ ?_ (fun hH2 => ?_)
        · (try dsimp only); exact (by repeat (first | exact Bel.refl _ | assumption | refine Bel.drew ?_ | refine Bel.drewN ?_ _ | refine Bel.alloc ?_ _ | refine Bel.setCell ?_ (by simp <;> omega) _ | refine Bel.step ?_ (by assumption)))
        clear hK K
        try simp only [Act.put, List.setIfInBounds_toArray, List.set_cons_zero, List.set_cons_succ]
        refine wpAnyH_take (i := 5) (oi := { dst := some 19, op := Op.binOp BinOp.gtr 3 (Operand.tmp 16) (Operand.tmp 18) 3, type := 4, pos := "kinds.go:89", after := #[{ on := 2, ground := Ground.data }, { on := 4, ground := Ground.data }], guard := none }) (v := ?_) rfl (by kernel_rfl) (by kernel_rfl) (by kernel_rfl) (fun _ _ _ h => h) (Or.inl ⟨by kernel_rfl, ?_⟩) (by assumption) ?_
        rotate_left
        · intro wS hSw; (try dsimp only at hSw); go_simp; (try with_reducible rfl)
        try simp only [Act.put, List.setIfInBounds_toArray, List.set_cons_zero, List.set_cons_succ]
        refine wpAnyH_done (by kernel_rfl) ?_ _
        have HB3 : Hid (Bel w1.heap.size w1 w3) := HB2.out.step hH2.out
        have HO3 : Hid (w3.ownsRow w1.heap.size 3 1 v1 (ysP P m).length (inC (ysP P m))) := owns_below HO2.out hH2.out
        clear hH2 hHeld hb3c HB2 HO2 z0 z1 z2 z3 z4 z5 z6 z7 x0 x1 x2
        have hrow : Hid ((w3.alloc (.cells #[.int .i64 m] 3)).ownsRow w1.heap.size 3 1 v1 (ysP P m).length (inC (ysP P m))) := HO3.out.alloc _
        have hcel : Hid (∀ j u, ([Value.int .i64 m])[j]? = some u → (w3.alloc (.cells #[.int .i64 m] 3)).cell? ((⟨w3.heap.size, 0, none⟩ : Addr).add j) = some u) := by
          intro j u hj
          rw [add_plain]
          match j, hj with
          | 0, hj => simp only [List.getElem?_cons_zero, Option.some.injEq] at hj; subst hj; simp only [Nat.zero_add]; go_simp
          | j + 1, hj => simp at hj
        have hone : Hid (∀ u ∈ [Value.int .i64 m], u.oneCell' = true) := by intro u hu; simp only [List.mem_singleton] at hu; subst hu; rfl
        have hpl := ysP_len P m
        have hnl : (ysP P m).length + 1 ≤ maxLen := by unfold maxLen; omega
        have hby1 : ((ysP P m).length + 1) * 8 ≤ 140737488355328 := by omega
        have hbw2 : w1.heap.size ≤ (w3.alloc (.cells #[.int .i64 m] 3)).heap.size := by rw [World.size_alloc]; have := HB3.out.le; omega
        have hvl : Hid (([Value.int .i64 m]).length = 1 * 1) := rfl
        go_wp2_with (at_builtin; refine wpList_append_own _ rfl _ _ 22 rfl w1.heap.size 3 i0 (.int .i64 0) 1 8 Tryd.underlying22 hi hz hs hb3 rfl (by decide) _ _ _ rfl hrow.out ⟨w3.heap.size, 0, none⟩ 1 1 [Value.int .i64 m] rfl hvl.out hcel.out hone.out hnl hby1 hbw2 ?_)
        intro v4 w4 hown4 hgrow4 hi4
        clear hi4
        have HO4 : Hid (w4.ownsRow w1.heap.size 3 1 v4 (ysP P (m + 1)).length (inC (ysP P (m + 1)))) := by
          show World.ownsRow _ _ _ _ _ _ _
          have e : inC (ysP P m ++ [m]) = inC (ysP P m) ++ [Value.int .i64 m] := by simp [inC]
          rw [HT2.out, e, List.length_append, List.length_singleton]; exact hown4
        have hB4 : Bel w1.heap.size w1 w4 := by
          have h2 := (HB3.out.alloc (.cells #[.int .i64 m] 3)).out.grown hgrow4 hbw2 (fun j hj => (hrow.out.lt j hj).1)
          exact ⟨h2, h2.size⟩
        clear hown4 hgrow4 hrow hcel hone hvl HO3 HB3 HT2 hpl hnl hby1 hbw2
        go_wp2
        go_roundw
        case rel => exact ⟨m + 1, v4, by omega, rfl, by go_num, HO4.out, hB4⟩
        case measure => simp [intOf]; omega
      · have HT2 : Hid (ysP P (m + 1) = ysP P m) := by
          show _ = _
          rw [hps, HPm, if_neg (by simpa using h1)]
        clear hps HPm
        go_wp2
        refine wp_region_held_drew (S := (fun wS => Bel w2.heap.size w2 wS)) (by kernel_rfl) ?_ (fun hHeld => ?_)
        · (try dsimp only); exact (Bel.refl _).drew
        refine wpAnyH_take (i := 0) (oi := { dst := some 14, op := Op.load 64 (Operand.tmp 1), type := 64, pos := "kinds.go:89", after := #[], guard := none }) (v := ?_) rfl (by kernel_rfl) (by kernel_rfl) (by kernel_rfl) (fun _ _ _ h => h) (Or.inl ⟨by kernel_rfl, ?_⟩) (by assumption) ?_
        rotate_left
        · intro wS hSw; (try dsimp only at hSw); have d0 := cell_below hSw.out z0; have d1 := cell_below hSw.out z1; have d2 := cell_below hSw.out z2; have d3 := cell_below hSw.out z3; have d4 := cell_below hSw.out z4; have d5 := cell_below hSw.out z5; have d6 := cell_below hSw.out z6; have d7 := cell_below hSw.out z7; go_simp; (try with_reducible rfl)
        try simp only [Act.put, List.setIfInBounds_toArray, List.set_cons_zero, List.set_cons_succ]
        refine wpAnyH_take (i := 1) (oi := { dst := some 15, op := Op.load 40 (Operand.tmp 5), type := 40, pos := "kinds.go:89", after := #[], guard := none }) (v := ?_) rfl (by kernel_rfl) (by kernel_rfl) (by kernel_rfl) (fun _ _ _ h => h) (Or.inl ⟨by kernel_rfl, ?_⟩) (by assumption) ?_
        rotate_left
        · intro wS hSw; (try dsimp only at hSw); have d0 := cell_below hSw.out x0; have d1 := cell_below hSw.out x1; have d2 := cell_below hSw.out x2; go_simp; (try with_reducible rfl)
        try simp only [Act.put, List.setIfInBounds_toArray, List.set_cons_zero, List.set_cons_succ]
        refine wpAnyH_take (i := 3) (oi := { dst := some 17, op := Op.fieldAddr 64 (Operand.tmp 1) 5, type := 0, pos := "kinds.go:89", after := #[], guard := none }) (v := ?_) rfl (by kernel_rfl) (by kernel_rfl) (by kernel_rfl) (fun _ _ _ h => h) (Or.inl ⟨by kernel_rfl, ?_⟩) (by assumption) ?_
        rotate_left
        · intro wS hSw; (try dsimp only at hSw); go_simp; (try with_reducible rfl)
        try simp only [Act.put, List.setIfInBounds_toArray, List.set_cons_zero, List.set_cons_succ]
        refine wpAnyH_take (i := 4) (oi := { dst := some 18, op := Op.load 3 (Operand.tmp 17), type := 3, pos := "kinds.go:89", after := #[{ on := 3, ground := Ground.data }], guard := none }) (v := ?_) rfl (by kernel_rfl) (by kernel_rfl) (by kernel_rfl) (fun _ _ _ h => h) (Or.inl ⟨by kernel_rfl, ?_⟩) (by assumption) ?_
        rotate_left
        · intro wS hSw; (try dsimp only at hSw); have d7 := cell_below hSw.out z7; go_simp; (try with_reducible rfl)
        try simp only [Act.put, List.setIfInBounds_toArray, List.set_cons_zero, List.set_cons_succ]
        refine wpAnyH_ready (rs := [2]) (by kernel_rfl) (by simp) ?_
        refine AllReadyH.cons (o := { dst := some 16, op := Op.call { callee := Callee.value (Operand.func 51), args := #[Operand.tmp 14, Operand.tmp 15], argTypes := #[64, 40] }, type := 3, pos := "kinds.go:89", after := #[{ on := 0, ground := Ground.data }, { on := 1, ground := Ground.data }], guard := none }) rfl (fun K hK => ?_) AllReadyH.nil
        go_simp
        refine (hcl _).mono ?_
        rintro e w3 ⟨rfl, hb3c⟩
        try dsimp only
        refine hK.out _ _ ?_ (fun hH2 => ?_)
        · (try dsimp only); exact (by repeat (first | exact Bel.refl _ | assumption | refine Bel.drew ?_ | refine Bel.drewN ?_ _ | refine Bel.alloc ?_ _ | refine Bel.setCell ?_ (by simp <;> omega) _ | refine Bel.step ?_ (by assumption)))
        clear hK K
        try simp only [Act.put, List.setIfInBounds_toArray, List.set_cons_zero, List.set_cons_succ]
        refine wpAnyH_take (i := 5) (oi := { dst := some 19, op := Op.binOp BinOp.gtr 3 (Operand.tmp 16) (Operand.tmp 18) 3, type := 4, pos := "kinds.go:89", after := #[{ on := 2, ground := Ground.data }, { on := 4, ground := Ground.data }], guard := none }) (v := ?_) rfl (by kernel_rfl) (by kernel_rfl) (by kernel_rfl) (fun _ _ _ h => h) (Or.inl ⟨by kernel_rfl, ?_⟩) (by assumption) ?_
        rotate_left
        · intro wS hSw; (try dsimp only at hSw); go_simp; (try with_reducible rfl)
        try simp only [Act.put, List.setIfInBounds_toArray, List.set_cons_zero, List.set_cons_succ]
        refine wpAnyH_done (by kernel_rfl) ?_ _
        have HB3 : Hid (Bel w1.heap.size w1 w3) := HB2.out.step hH2.out
        have HO3 : Hid (w3.ownsRow w1.heap.size 3 1 v1 (ysP P m).length (inC (ysP P m))) := owns_below HO2.out hH2.out
        clear hH2 hHeld hb3c HB2 HO2 z0 z1 z2 z3 z4 z5 z6 z7 x0 x1 x2
        have HO4 : Hid (w3.ownsRow w1.heap.size 3 1 v1 (ysP P (m + 1)).length (inC (ysP P (m + 1)))) := by
          show World.ownsRow _ _ _ _ _ _ _
          rw [HT2.out]; exact HO3.out
        clear HO3 HT2
        go_wp2
        go_roundw
        case rel => exact ⟨m + 1, v1, by omega, rfl, by go_num, HO4.out, HB3.out⟩
        case measure => simp [intOf]; omega
    · obtain rfl : m = l.length := by omega
      obtain ⟨pa, pcap, rfl, hpa⟩ := ps_of_owns HO.out
      have HPS : Hid (PsAt wr pa (ysP P l.length)) := hpa
      have HBF : Hid (Below w.heap.size w wr) := HB1.out.trans (HB.out.mono HB1.out.size)
      generalize (ysP P l.length) = ps at *
      clear HC1 HT HY hpa HO HP
      go_wp2
      go_ret
      exact ⟨⟨pa, pcap, rfl, HPS.out⟩, HBF.out⟩
set_option maxRecDepth 20000 in
set_option maxHeartbeats 8000000 in
theorem past_any (f0 f1 f2 : Nat) (n : Int) (a : Option Addr) (cn cc : Nat) (d : Bool) (la : Option Addr) (lc : Nat) (now : Int) (l : List Arv) (w : World) (hl : CelsAt w la l) (hll : l.length ≤ 200) (ht : Tms l) (hn : 1 ≤ n) (hn2 : n ≤ 1099511627776) :
    Calls Tryd.prog 39 #[vvV f0 f1 f2 n a cn cc d la l.length lc now] w (HsP w (ysP (fun i => decide (bgI (aAt l 0).time n (aAt l i) ≤ now ∧ now < bgI (aAt l 0).time n (aAt l i) + n)) l.length)) := by
  have HL : Hid (CelsAt w la l) := hl
  have HT : Hid (Tms l) := ht
  clear hl ht
  obtain ⟨P, hP⟩ : ∃ P : Nat → Bool, (fun i => decide (bgI (aAt l 0).time n (aAt l i) ≤ now ∧ now < bgI (aAt l 0).time n (aAt l i) + n)) = P := ⟨_, rfl⟩
  have HP : Hid (∀ i, P i = decide (bgI (aAt l 0).time n (aAt l i) ≤ now ∧ now < bgI (aAt l 0).time n (aAt l i) + n)) := fun i => by rw [← hP]
  rw [hP]
  clear hP
  obtain ⟨i0, hi, hz0⟩ := Option.map_eq_some_iff.1 info3
  simp only [Prod.mk.injEq] at hz0
  obtain ⟨hz, hs, hb3⟩ := hz0
  unfold vvV
  go_enter Tryd.func39, Tryd.ntmps39
  go_upto_region 1 with (fail)
  have hb1 : Below w.heap.size w (w.alloc (Obj.cells #[.func (.func f0) #[] #[], .func (.func f1) #[] #[], .func (.func f2) #[] #[], .int .i64 n, .slice a cn cc, .bool d, .slice la l.length lc, .int .i64 now] 64)) := (Below.refl w.heap.size w).alloc (Nat.le_refl _) _
  have ys : ∀ i v, #[Value.func (.func f0) #[] #[], .func (.func f1) #[] #[], .func (.func f2) #[] #[], .int .i64 n, .slice a cn cc, .bool d, .slice la l.length lc, .int .i64 now][i]? = some v → (w.alloc (Obj.cells #[.func (.func f0) #[] #[], .func (.func f1) #[] #[], .func (.func f2) #[] #[], .int .i64 n, .slice a cn cc, .bool d, .slice la l.length lc, .int .i64 now] 64)).cell? ⟨w.heap.size, i, none⟩ = some v := fun i v h => (World.cell?_alloc_mark w _ 64 (0, 0) i).trans h
  obtain ⟨X, hX⟩ : ∃ X, w.heap.size = X := ⟨_, rfl⟩
  have HB1 : Hid _ := hb1
  have HC1 : Hid (CelsAt (w.alloc (Obj.cells #[.func (.func f0) #[] #[], .func (.func f1) #[] #[], .func (.func f2) #[] #[], .int .i64 n, .slice a cn cc, .bool d, .slice la l.length lc, .int .i64 now] 64)) la l) := HL.out.below hb1
  rw [hX] at ys ⊢
  clear hX HL hb1
  generalize (w.alloc (Obj.cells #[.func (.func f0) #[] #[], .func (.func f1) #[] #[], .func (.func f2) #[] #[], .int .i64 n, .slice a cn cc, .bool d, .slice la l.length lc, .int .i64 now] 64)) = w1 at *
  have y0 := ys 0 _ rfl
  have y1 := ys 1 _ rfl
  have y2 := ys 2 _ rfl
  have y3 := ys 3 _ rfl
  have y4 := ys 4 _ rfl
  have y5 := ys 5 _ rfl
  have y6 := ys 6 _ rfl
  have y7 := ys 7 _ rfl
  clear ys
  have HY : Hid (w1.cell? ⟨X, 0, none⟩ = some (.func (.func f0) #[] #[]) ∧ w1.cell? ⟨X, 1, none⟩ = some (.func (.func f1) #[] #[]) ∧ w1.cell? ⟨X, 2, none⟩ = some (.func (.func f2) #[] #[]) ∧ w1.cell? ⟨X, 3, none⟩ = some (.int .i64 n) ∧ w1.cell? ⟨X, 4, none⟩ = some (.slice a cn cc) ∧ w1.cell? ⟨X, 5, none⟩ = some (.bool d) ∧ w1.cell? ⟨X, 6, none⟩ = some (.slice la l.length lc) ∧ w1.cell? ⟨X, 7, none⟩ = some (.int .i64 now)) := ⟨y0, y1, y2, y3, y4, y5, y6, y7⟩
  clear y0 y1 y2 y3 y4 y5 y7
  go_wp2
  clear y6
  go_loopw [3, 11] (fun v i wr => ∃ (m : Nat) (v1 : Value), m ≤ l.length ∧ v = v1 ∧ i = .int .i64 m ∧ wr.ownsRow w1.heap.size 3 1 v1 (ysP P m).length (inC (ysP P m)) ∧ Bel w1.heap.size w1 wr) (fun _ i _ => l.length - (intOf i).toNat)
  case atStart => exact ⟨0, _, Nat.zero_le _, rfl, rfl, World.ownsRow_nil _ _ _ _, Bel.refl _⟩
  case round =>
    obtain ⟨m, v1, hm, hv, rfl, hO, HB⟩ := hrel
    have hv2 := hv.symm
    clear hv
    subst hv2
    have HO : Hid (wr.ownsRow w1.heap.size 3 1 v1 (ysP P m).length (inC (ysP P m))) := hO
    clear hO
    have hW := HB.out
    rcases Nat.lt_or_ge m l.length with hlt | hge
    · have HCW : Hid (CelsAt wr la l) := HC1.out.below hW
      have HL0 : Hid (0 < l.length) := by show _ < _; omega
      obtain ⟨b, off, rfl, hc⟩ : ∃ b off, la = some ⟨b, off, none⟩ ∧ ∀ i, i < l.length → w1.cell? ⟨b, off + i * 3, none⟩ = some (.int .i64 (aAt l i).seq) ∧ w1.cell? ⟨b, off + i * 3 + 1, none⟩ = some (.int .i64 (aAt l i).time) ∧ w1.cell? ⟨b, off + i * 3 + 2, none⟩ = some (.slice (aAt l i).a (aAt l i).row.length (aAt l i).cap) := by
        rcases HC1.out with h | h
        · rw [h] at hlt; cases hlt
        · exact h
      have c0 := cell_below hW (hc m hlt).1
      have c1 := cell_below hW (hc m hlt).2.1
      have c2 := cell_below hW (hc m hlt).2.2
      clear hc
      obtain ⟨t1, t2, t3⟩ := HT.out _ (aAt_mem hlt)
      have HPm := HP.out m
      have hps := ysP_succ P m
      have ht0 := (HT.out _ (aAt_mem (show 0 < l.length by omega))).1
      generalize aAt l m = x at *
      go_upto_region 5 with (fail)
      obtain ⟨y0, y1, y2, y3, y4, y5, y6, y7⟩ := HY.out
      have hB2 : Bel w1.heap.size w1 (wr.alloc (Obj.cells #[.int .i64 x.seq, .int .i64 x.time, .slice x.a x.row.length x.cap] 40)) := HB.alloc _
      have HO2 : Hid (World.ownsRow (wr.alloc (Obj.cells #[.int .i64 x.seq, .int .i64 x.time, .slice x.a x.row.length x.cap] 40)) w1.heap.size 3 1 v1 (ysP P m).length (inC (ysP P m))) := HO.out.alloc _
      have HCW2 : Hid (CelsAt (wr.alloc (Obj.cells #[.int .i64 x.seq, .int .i64 x.time, .slice x.a x.row.length x.cap] 40)) (some ⟨b, off, none⟩) l) := HCW.out.below ((Below.refl wr.heap.size wr).alloc (Nat.le_refl _) _)
      have x0 : (wr.alloc (Obj.cells #[.int .i64 x.seq, .int .i64 x.time, .slice x.a x.row.length x.cap] 40)).cell? ⟨wr.heap.size, 0, none⟩ = some (.int .i64 x.seq) := by go_simp
      have x1 : (wr.alloc (Obj.cells #[.int .i64 x.seq, .int .i64 x.time, .slice x.a x.row.length x.cap] 40)).cell? ⟨wr.heap.size, 1, none⟩ = some (.int .i64 x.time) := by go_simp
      have x2 : (wr.alloc (Obj.cells #[.int .i64 x.seq, .int .i64 x.time, .slice x.a x.row.length x.cap] 40)).cell? ⟨wr.heap.size, 2, none⟩ = some (.slice x.a x.row.length x.cap) := by go_simp
      obtain ⟨Z, hZ⟩ : ∃ Z, wr.heap.size = Z := ⟨_, rfl⟩
      rw [hZ] at x0 x1 x2 ⊢
      clear hZ c0 c1 c2 HO HCW
      generalize (wr.alloc (Obj.cells #[.int .i64 x.seq, .int .i64 x.time, .slice x.a x.row.length x.cap] 40)) = w2 at *
      have z0 := cell_below hB2.out y0
      have z1 := cell_below hB2.out y1
      have z2 := cell_below hB2.out y2
      have z3 := cell_below hB2.out y3
      have z4 := cell_below hB2.out y4
      have z5 := cell_below hB2.out y5
      have z6 := cell_below hB2.out y6
      have z7 := cell_below hB2.out y7
      have HB2 : Hid (Bel w1.heap.size w1 w2) := hB2
      clear y0 y1 y2 y3 y4 y5 y6 y7 hB2
      have hcl := fun wx (hb : Below w2.heap.size w2 wx) => stay_any f0 f1 f2 n a cn cc d (some ⟨b, off, none⟩) lc now l x wx (HCW2.out.below hb) HL0.out hll ht0 t3 t2 hn hn2
      unfold vvV arV at hcl
      clear HCW2 HL0
      obtain ⟨bg, hbg⟩ : ∃ bg, bgI (aAt l 0).time n x = bg := ⟨_, rfl⟩
      rw [hbg] at hcl HPm
      by_cases h1 : bg ≤ now
      · by_cases h2 : now < bg + n
        · have HT2 : Hid (ysP P (m + 1) = ysP P m ++ [m]) := by
            show _ = _
            rw [hps, HPm, if_pos (by simp [h1, h2])]
          clear hps HPm
          go_wp2_with fail
          refine (hcl _ (Bel.out (by repeat (first | exact Bel.refl _ | assumption | refine Bel.drew ?_)))).mono ?_
          rintro e w3 ⟨rfl, hb3c⟩
          have q7 := cell_below hb3c z7
          have HB3 : Hid (Bel w1.heap.size w1 w3) := HB2.out.step hb3c
          have HO3 : Hid (w3.ownsRow w1.heap.size 3 1 v1 (ysP P m).length (inC (ysP P m))) := owns_below HO2.out hb3c
          clear hb3c HB2 HO2 z0 z1 z2 z3 z4 z5 z6 z7 x0 x1 x2 hcl hbg
          have hrow : Hid ((w3.alloc (.cells #[.int .i64 m] 3)).ownsRow w1.heap.size 3 1 v1 (ysP P m).length (inC (ysP P m))) := HO3.out.alloc _
          have hcel : Hid (∀ j u, ([Value.int .i64 m])[j]? = some u → (w3.alloc (.cells #[.int .i64 m] 3)).cell? ((⟨w3.heap.size, 0, none⟩ : Addr).add j) = some u) := by
            intro j u hj
            rw [add_plain]
            match j, hj with
            | 0, hj => simp only [List.getElem?_cons_zero, Option.some.injEq] at hj; subst hj; simp only [Nat.zero_add]; go_simp
            | j + 1, hj => simp at hj
          have hone : Hid (∀ u ∈ [Value.int .i64 m], u.oneCell' = true) := by intro u hu; simp only [List.mem_singleton] at hu; subst hu; rfl
          have hpl := ysP_len P m
          have hnl : (ysP P m).length + 1 ≤ maxLen := by unfold maxLen; omega
          have hby1 : ((ysP P m).length + 1) * 8 ≤ 140737488355328 := by omega
          have hbw2 : w1.heap.size ≤ (w3.alloc (.cells #[.int .i64 m] 3)).heap.size := by rw [World.size_alloc]; have := HB3.out.le; omega
          have hvl : Hid (([Value.int .i64 m]).length = 1 * 1) := rfl
          go_wp2_with (at_builtin; refine wpList_append_own _ rfl _ _ 22 rfl w1.heap.size 3 i0 (.int .i64 0) 1 8 Tryd.underlying22 hi hz hs hb3 rfl (by decide) _ _ _ rfl hrow.out ⟨w3.heap.size, 0, none⟩ 1 1 [Value.int .i64 m] rfl hvl.out hcel.out hone.out hnl hby1 hbw2 ?_)
          intro v4 w4 hown4 hgrow4 hi4
          clear hi4
          have HO4 : Hid (w4.ownsRow w1.heap.size 3 1 v4 (ysP P (m + 1)).length (inC (ysP P (m + 1)))) := by
            show World.ownsRow _ _ _ _ _ _ _
            have e : inC (ysP P m ++ [m]) = inC (ysP P m) ++ [Value.int .i64 m] := by simp [inC]
            rw [HT2.out, e, List.length_append, List.length_singleton]; exact hown4
          have hB4 : Bel w1.heap.size w1 w4 := by
            have h2 := (HB3.out.alloc (.cells #[.int .i64 m] 3)).out.grown hgrow4 hbw2 (fun j hj => (hrow.out.lt j hj).1)
            exact ⟨h2, h2.size⟩
          clear hown4 hgrow4 hrow hcel hone hvl HO3 HB3 HT2 hpl hnl hby1 hbw2
          go_wp2
          go_roundw
          case rel => exact ⟨m + 1, v4, by omega, rfl, by go_num, HO4.out, hB4⟩
          case measure => simp [intOf]; omega
        · have HT2 : Hid (ysP P (m + 1) = ysP P m) := by
            show _ = _
            rw [hps, HPm, if_neg (by simp [h2])]
          clear hps HPm
          go_wp2_with fail
          refine (hcl _ (Bel.out (by repeat (first | exact Bel.refl _ | assumption | refine Bel.drew ?_)))).mono ?_
          rintro e w3 ⟨rfl, hb3c⟩
          have q7 := cell_below hb3c z7
          have HB3 : Hid (Bel w1.heap.size w1 w3) := HB2.out.step hb3c
          have HO3 : Hid (w3.ownsRow w1.heap.size 3 1 v1 (ysP P m).length (inC (ysP P m))) := owns_below HO2.out hb3c
          clear hb3c HB2 HO2 z0 z1 z2 z3 z4 z5 z6 z7 x0 x1 x2 hcl hbg
          have HO4 : Hid (w3.ownsRow w1.heap.size 3 1 v1 (ysP P (m + 1)).length (inC (ysP P (m + 1)))) := by
            show World.ownsRow _ _ _ _ _ _ _
            rw [HT2.out]; exact HO3.out
          clear HO3 HT2
          go_wp2
          go_roundw
          case rel => exact ⟨m + 1, v1, by omega, rfl, by go_num, HO4.out, HB3.out⟩
          case measure => simp [intOf]; omega
      · have HT2 : Hid (ysP P (m + 1) = ysP P m) := by
          show _ = _
          rw [hps, HPm, if_neg (by simp [h1])]
        clear hps HPm
        go_wp2_with fail
        refine (hcl _ (Bel.out (by repeat (first | exact Bel.refl _ | assumption | refine Bel.drew ?_)))).mono ?_
        rintro e w3 ⟨rfl, hb3c⟩
        have q7 := cell_below hb3c z7
        have HB3 : Hid (Bel w1.heap.size w1 w3) := HB2.out.step hb3c
        have HO3 : Hid (w3.ownsRow w1.heap.size 3 1 v1 (ysP P m).length (inC (ysP P m))) := owns_below HO2.out hb3c
        clear hb3c HB2 HO2 z0 z1 z2 z3 z4 z5 z6 z7 x0 x1 x2 hcl hbg
        have HO4 : Hid (w3.ownsRow w1.heap.size 3 1 v1 (ysP P (m + 1)).length (inC (ysP P (m + 1)))) := by
          show World.ownsRow _ _ _ _ _ _ _
          rw [HT2.out]; exact HO3.out
        clear HO3 HT2
        go_wp2
        go_roundw
        case rel => exact ⟨m + 1, v1, by omega, rfl, by go_num, HO4.out, HB3.out⟩
        case measure => simp [intOf]; omega
    · obtain rfl : m = l.length := by omega
      obtain ⟨pa, pcap, rfl, hpa⟩ := ps_of_owns HO.out
      have HPS : Hid (PsAt wr pa (ysP P l.length)) := hpa
      have HBF : Hid (Below w.heap.size w wr) := HB1.out.trans (HB.out.mono HB1.out.size)
      generalize (ysP P l.length) = ps at *
      clear HC1 HT HY hpa HO HP
      go_wp2
      go_ret
      exact ⟨⟨pa, pcap, rfl, HPS.out⟩, HBF.out⟩
end Go.Proofs.YtfjpdflilmcnhaaDoor
