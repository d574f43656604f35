/- The walk of SchemaNulls, where the row fits. -/
import Derived.Test.YtjncoihppmbijaaDoorNullsWalk
import Derived.Test.YtjncoihppmbijaaDoorNullsMem2
namespace Go.Proofs.YtjncoihppmbijaaDoor
open Go.ChangeShapes Go.WideShapes Go.ChangeAt Go.RowKit
attribute [local go_sem ↓] Go.wp_at_zero Go.wp_at_succ

set_option maxHeartbeats 16000000 in
theorem nulls_yes (sn : ByteArray) (b off len cap : Nat) (nm : Nat → ByteArray) (kd : Nat → Int) (b2 off2 cap2 : Nat) (k v : Nat → Int) (t : Nat → ByteArray) (at0 : Int) (w : World) (hR : Ready w) (hn : len ≤ 9223372036854775807) (hc : ColsAt w (some ⟨b, off, none⟩) len nm kd) (hv : ValsAt w (some ⟨b2, off2, none⟩) len k v t) (h : (len : Int) ≤ 1000) (hF : fitsS len kd len k v t = true) (hp : 0 < len) :
    Calls Tryd.prog 7 #[.agg #[.string sn, .slice (some ⟨b, off, none⟩) len cap], .slice (some ⟨b2, off2, none⟩) len cap2, .int .i64 at0] w fun e w' => e = .returned (.bool true) ∧ Below w.heap.size w w' := by
  have hRu := runes_is
  have hR1 : Ready (w.alloc (.cells #[.string sn, .slice (some ⟨b, off, none⟩) len cap] 24)) := hR.alloc _
  have g1 : ColsAt (w.alloc (.cells #[.string sn, .slice (some ⟨b, off, none⟩) len cap] 24)) (some ⟨b, off, none⟩) len nm kd := hc.alloc _
  have g2 : ValsAt (w.alloc (.cells #[.string sn, .slice (some ⟨b, off, none⟩) len cap] 24)) (some ⟨b2, off2, none⟩) len k v t := hv.alloc _
  have hB1 : Below w.heap.size w (w.alloc (.cells #[.string sn, .slice (some ⟨b, off, none⟩) len cap] 24)) := (Bel.out (by repeat (first | exact Bel.refl _ | assumption | refine Bel.drew ?_ | refine Bel.drewN ?_ _ | refine Bel.alloc ?_ _ | refine Bel.setCell ?_ (by simp <;> omega) _ | refine Bel.step ?_ (by assumption))))
  clear hc hv
  have S0 : (w.alloc (.cells #[.string sn, .slice (some ⟨b, off, none⟩) len cap] 24)).cell? ⟨w.heap.size, 0, none⟩ = some (.string sn) ∧ (w.alloc (.cells #[.string sn, .slice (some ⟨b, off, none⟩) len cap] 24)).cell? ⟨w.heap.size, 1, none⟩ = some (.slice (some ⟨b, off, none⟩) len cap) ∧ Below (w.alloc (.cells #[.string sn, .slice (some ⟨b, off, none⟩) len cap] 24)).heap.size (w.alloc (.cells #[.string sn, .slice (some ⟨b, off, none⟩) len cap] 24)) (w.alloc (.cells #[.string sn, .slice (some ⟨b, off, none⟩) len cap] 24)) := ⟨by go_simp, by go_simp, Below.refl _ _⟩
  have hmk := made_run len (by omega)
  have g3 : ValsAt ((w.alloc (.cells #[.string sn, .slice (some ⟨b, off, none⟩) len cap] 24)).alloc (.cells (nulC len) 50)).drew (some ⟨w.heap.size + 1, 0, none⟩) len (fun _ => 0) (fun _ => 0) (fun _ => ⟨#[]⟩) := by
    have := made_at len (w.alloc (.cells #[.string sn, .slice (some ⟨b, off, none⟩) len cap] 24))
    rw [World.size_alloc] at this
    exact this.below (Below.refl _ _).drew
  have hnul : erI 31 (fitsS len kd len (fun _ => 0) (fun _ => 0) (fun _ => ⟨#[]⟩)) = 0 := by rw [fits_nulls]; rfl
  have z1 : decide (1000 < (len : Int)) = false := decide_eq_false (by omega)
  have hinfo := info50
  obtain ⟨i0, hi, hz0⟩ := Option.map_eq_some_iff.1 hinfo
  simp only [Prod.mk.injEq] at hz0
  obtain ⟨hz, hs, hb3⟩ := hz0
  clear hinfo
  have hE : erI 31 (fitsS len kd len k v t) = 0 := by rw [hF]; rfl
  go_enter Tryd.func7, Tryd.ntmps7
  go_wp2
  refine wp_region_held_drew (S := (fun wS => wS.cell? ⟨w.heap.size, 0, none⟩ = some (.string sn) ∧ wS.cell? ⟨w.heap.size, 1, none⟩ = some (.slice (some ⟨b, off, none⟩) len cap) ∧ Below (w.alloc (.cells #[.string sn, .slice (some ⟨b, off, none⟩) len cap] 24)).heap.size (w.alloc (.cells #[.string sn, .slice (some ⟨b, off, none⟩) len cap] 24)) wS)) (by kernel_rfl) ?_ (fun hHeld => ?_)
  · (try dsimp only); exact kp2d S0
  refine wpAnyH_take (i := 0) (oi := { dst := some 15, op := Op.load 24 (Operand.tmp 3), type := 24, pos := "law.go:50", after := #[], guard := none }) (v := ?_) rfl (by kernel_rfl) (by kernel_rfl) (by kernel_rfl) (fun _ _ _ h => h) (Or.inl ⟨by kernel_rfl, ?_⟩) (by assumption) ?_
  rotate_left
  · intro wS hSw; (try dsimp only at hSw); go_simp; (try with_reducible rfl)
  try simp only [Act.put, List.setIfInBounds_toArray, List.set_cons_zero, List.set_cons_succ]
  refine wpAnyH_take (i := 1) (oi := { dst := some 16, op := Op.fieldAddr 24 (Operand.tmp 3) 1, type := 0, pos := "law.go:50", after := #[], guard := none }) (v := ?_) rfl (by kernel_rfl) (by kernel_rfl) (by kernel_rfl) (fun _ _ _ h => h) (Or.inl ⟨by kernel_rfl, ?_⟩) (by assumption) ?_
  rotate_left
  · intro wS hSw; (try dsimp only at hSw); go_simp; (try with_reducible rfl)
  try simp only [Act.put, List.setIfInBounds_toArray, List.set_cons_zero, List.set_cons_succ]
  refine wpAnyH_take (i := 2) (oi := { dst := some 17, op := Op.load 22 (Operand.tmp 16), type := 22, pos := "law.go:50", after := #[{ on := 1, ground := Ground.data }], guard := none }) (v := ?_) rfl (by kernel_rfl) (by kernel_rfl) (by kernel_rfl) (fun _ _ _ h => h) (Or.inl ⟨by kernel_rfl, ?_⟩) (by assumption) ?_
  rotate_left
  · intro wS hSw; (try dsimp only at hSw); go_simp; (try with_reducible rfl)
  try simp only [Act.put, List.setIfInBounds_toArray, List.set_cons_zero, List.set_cons_succ]
  refine wpAnyH_take (i := 3) (oi := { dst := some 18, op := Op.call { callee := Callee.builtin Builtin.len, args := #[Operand.tmp 17], argTypes := #[22] }, type := 3, pos := "law.go:50", after := #[{ on := 2, ground := Ground.data }], guard := none }) (v := ?_) rfl (by kernel_rfl) (by kernel_rfl) (by kernel_rfl) (fun _ _ _ h => h) (Or.inl ⟨by kernel_rfl, ?_⟩) (by assumption) ?_
  rotate_left
  · intro wS hSw; (try dsimp only at hSw); go_simp; (try with_reducible rfl)
  try simp only [Act.put, List.setIfInBounds_toArray, List.set_cons_zero, List.set_cons_succ]
  refine wpAnyH_ready (rs := [4]) (by kernel_rfl) (by simp) ?_
  refine AllReadyH.cons (o := { dst := some 19, op := Op.makeSlice 33 (Operand.tmp 18) (Operand.tmp 18), type := 33, pos := "law.go:50", after := #[{ on := 3, ground := Ground.data }, { on := 3, ground := Ground.data }], guard := none }) rfl (fun K hK => ?_) AllReadyH.nil
  go_simp
  refine hK.out _ _ ?_ (fun hH4 => ?_)
  · (try dsimp only); exact kp2 (by assumption) ((Below.refl _ _).alloc (Nat.le_refl _) _)
  clear hK K
  try simp only [Act.put, List.setIfInBounds_toArray, List.set_cons_zero, List.set_cons_succ]
  refine wpAnyH_ready (rs := [5]) (by kernel_rfl) (by simp) ?_
  refine AllReadyH.cons (o := { dst := some 20, op := Op.call { callee := Callee.value (Operand.func 15), args := #[Operand.tmp 15, Operand.tmp 19], argTypes := #[24, 33] }, type := 27, pos := "law.go:50", after := #[{ on := 0, ground := Ground.data }, { on := 4, ground := Ground.data }], guard := none }) rfl (fun K hK => ?_) AllReadyH.nil
  go_simp
  go_at_call 15
  refine (Fits_any sn (some ⟨b, off, none⟩) len cap (some ⟨w.heap.size + 1, 0, none⟩) len len nm kd (fun _ => 0) (fun _ => 0) (fun _ => ⟨#[]⟩) _ (kp2r hR1 (by assumption)) (by omega) (g1.below (kp2l (by assumption))) g3).mono ?_
  rintro e w' ⟨rfl, hb⟩
  rw [hnul]
  refine hK.out _ _ ?_ (fun hH5 => ?_)
  · (try dsimp only); exact kp2 (by assumption) hb
  clear hK K
  try simp only [Act.put, List.setIfInBounds_toArray, List.set_cons_zero, List.set_cons_succ]
  refine wpAnyH_take (i := 6) (oi := { dst := some 21, op := Op.binOp BinOp.neq 27 (Operand.tmp 20) (Operand.const (Value.int IntKind.i64 0)) 27, type := 4, pos := "law.go:50", after := #[{ on := 5, ground := Ground.data }], guard := none }) (v := ?_) rfl (by kernel_rfl) (by kernel_rfl) (by kernel_rfl) (fun _ _ _ h => h) (Or.inl ⟨by kernel_rfl, ?_⟩) (by assumption) ?_
  rotate_left
  · intro wS hSw; (try dsimp only at hSw); go_simp; (try with_reducible rfl)
  try simp only [Act.put, List.setIfInBounds_toArray, List.set_cons_zero, List.set_cons_succ]
  refine wpAnyH_done (by kernel_rfl) ?_ _
  obtain ⟨t0, t1, hB5⟩ := hH5
  clear hmk z1 g3 S0
  go_wp2_with fail
  refine (Fits_any sn (some ⟨b, off, none⟩) len cap (some ⟨b2, off2, none⟩) len cap2 nm kd k v t _ (hR1.below hB5) hn (g1.below hB5) (g2.below hB5)).mono ?_
  rintro e w6 ⟨rfl, hb6⟩
  rw [hE]
  have t2 := cell_below hb6 t0
  have t3 := cell_below hb6 t1
  have hB6 := hB5.trans (hb6.mono hB5.size)
  clear t0 t1
  have hl1 : Hid _ := rowC_len len k v t
  have hone : Hid _ := rowC_one len k v t
  have hnews : Hid (∀ j u, (rowC len k v t)[j]? = some u → w6.cell? ((⟨b2, off2, none⟩ : Addr).add j) = some u) := by
    show ∀ j u, (rowC len k v t)[j]? = some u → w6.cell? ((⟨b2, off2, none⟩ : Addr).add j) = some u
    rcases g2.below hB6 with h0 | ⟨bb, oo, e, hx⟩
    · omega
    · injection e with e; injection e with e1 e2 _; subst e1 e2
      exact rowC_cells hx
  have hn1 : 0 + len ≤ maxLen := by unfold maxLen; omega
  have hby1 : (0 + len) * 32 ≤ 140737488355328 := by omega
  have hbase : (w.alloc (.cells #[.string sn, .slice (some ⟨b, off, none⟩) len cap] 24)).heap.size ≤ w6.heap.size := hB6.size
  go_wp2_with (at_builtin; refine wpList_append_own _ rfl _ _ 33 rfl (w.alloc (.cells #[.string sn, .slice (some ⟨b, off, none⟩) len cap] 24)).heap.size 50 i0 (.agg #[.int .i64 0, .int .i64 0, .string ⟨#[]⟩]) 3 32 Tryd.underlying33 hi hz hs hb3 rfl (by decide) _ 0 [] rfl (World.ownsRow_nil _ _ _ _) ⟨b2, off2, none⟩ len cap2 (rowC len k v t) rfl hl1.out hnews.out hone.out hn1 hby1 hbase ?_)
  intro v1 w9 hown1 hgrow1 hi1
  clear hi1
  have hB9 : Below (w.alloc (.cells #[.string sn, .slice (some ⟨b, off, none⟩) len cap] 24)).heap.size (w.alloc (.cells #[.string sn, .slice (some ⟨b, off, none⟩) len cap] 24)) w9 := hB6.grown hgrow1 hB6.size (fun k hk => by cases hk)
  have x0 : w9.cell? ⟨w.heap.size, 0, none⟩ = some (.string sn) := cell_below hB9 (by go_simp)
  have x1 : w9.cell? ⟨w.heap.size, 1, none⟩ = some (.slice (some ⟨b, off, none⟩) len cap) := cell_below hB9 (by go_simp)
  have hsz9 : w.heap.size + 1 ≤ w9.heap.size := by have := hB9.size; rw [World.size_alloc] at this; exact this
  have hnw2 : Hid (∀ j u, ([.int .i64 0, .int .i64 0, .string ⟨#[]⟩] : List Value)[j]? = some u → (w9.alloc (.cells #[.int .i64 0, .int .i64 0, .string ⟨#[]⟩] 50)).cell? ((⟨w9.heap.size, 0, none⟩ : Addr).add j) = some u) := by
    show ∀ j u, ([.int .i64 0, .int .i64 0, .string ⟨#[]⟩] : List Value)[j]? = some u → (w9.alloc (.cells #[.int .i64 0, .int .i64 0, .string ⟨#[]⟩] 50)).cell? ((⟨w9.heap.size, 0, none⟩ : Addr).add j) = some u
    intro j u hj
    rw [add_plain, World.cell?_alloc_new, Nat.zero_add]
    simpa using hj
  have hone2 : Hid (∀ u ∈ ([.int .i64 0, .int .i64 0, .string ⟨#[]⟩] : List Value), u.oneCell' = true) := by
    show ∀ u ∈ ([.int .i64 0, .int .i64 0, .string ⟨#[]⟩] : List Value), u.oneCell' = true
    intro u hu
    simp only [List.mem_cons, List.not_mem_nil, or_false] at hu
    rcases hu with rfl | rfl | rfl <;> rfl
  have hn2 : len + 1 ≤ maxLen := by unfold maxLen; omega
  have hby2 : (len + 1) * 32 ≤ 140737488355328 := by omega
  have hbase2 : w.heap.size + 1 ≤ (w9.alloc (.cells #[.int .i64 0, .int .i64 0, .string ⟨#[]⟩] 50)).heap.size := by rw [World.size_alloc]; omega
  clear hl1 hone hnews hn1 hby1 hbase t2 t3
  go_wp2_with (at_builtin; refine wpList_append_own _ rfl _ _ 33 rfl (w.heap.size + 1) 50 i0 (.agg #[.int .i64 0, .int .i64 0, .string ⟨#[]⟩]) 3 32 Tryd.underlying33 hi hz hs hb3 rfl (by decide) _ len (rowC len k v t) rfl (hown1.alloc _) ⟨w9.heap.size, 0, none⟩ 1 1 [.int .i64 0, .int .i64 0, .string ⟨#[]⟩] rfl rfl hnw2.out hone2.out hn2 hby2 hbase2 ?_)
  intro v2 w10 hown2 hgrow2 hi2
  clear hi2
  obtain ⟨am, cm, hv2⟩ := owns_slice hown2
  have hB10 : Below (w.alloc (.cells #[.string sn, .slice (some ⟨b, off, none⟩) len cap] 24)).heap.size (w.alloc (.cells #[.string sn, .slice (some ⟨b, off, none⟩) len cap] 24)) w10 := (hB9.alloc hB9.size _).grown hgrow2 (by rw [World.size_alloc, World.size_alloc]; omega) (fun kk hk => by rw [World.size_alloc]; exact (hown1.lt kk hk).1)
  have y0 : w10.cell? ⟨w.heap.size, 0, none⟩ = some (.string sn) := cell_below hB10 (by go_simp)
  have y1 : w10.cell? ⟨w.heap.size, 1, none⟩ = some (.slice (some ⟨b, off, none⟩) len cap) := cell_below hB10 (by go_simp)
  rw [hv2]
  clear hown2 hgrow2 hv2 hown1 hgrow1 hnw2 hone2 hn2 hby2 hbase2 x0 x1 hsz9 v2
  go_wp2_with fail
  refine (Fits_ne sn (some ⟨b, off, none⟩) am len cap (len + 1) cm _ (by rw [beq_eq_false_iff_ne]; omega)).mono ?_
  rintro e w11 ⟨rfl, hb11⟩
  have hB11 := hB10.trans (hb11.mono hB10.size)
  have u0 : w11.cell? ⟨w.heap.size, 0, none⟩ = some (.string sn) := cell_below hB11 (by go_simp)
  have u1 : w11.cell? ⟨w.heap.size, 1, none⟩ = some (.slice (some ⟨b, off, none⟩) len cap) := cell_below hB11 (by go_simp)
  clear y0 y1
  have zl : ((len : Int) == 0) = false := by rw [beq_eq_false_iff_ne]; omega
  obtain ⟨p, hpl, hpe, hq1, hq2⟩ := at_place at0 len hp (by omega)
  have hl3 : Hid _ := rowC_len len k v t
  have hone3 : Hid _ := rowC_one len k v t
  have hnews3 : Hid (∀ j u, (rowC len k v t)[j]? = some u → w11.cell? ((⟨b2, off2, none⟩ : Addr).add j) = some u) := by
    show ∀ j u, (rowC len k v t)[j]? = some u → w11.cell? ((⟨b2, off2, none⟩ : Addr).add j) = some u
    rcases g2.below hB11 with h0 | ⟨bb, oo, e, hx⟩
    · omega
    · injection e with e; injection e with e1 e2 _; subst e1 e2
      exact rowC_cells hx
  have hn3 : 0 + len ≤ maxLen := by unfold maxLen; omega
  have hby3 : (0 + len) * 32 ≤ 140737488355328 := by omega
  have hbase3 : w.heap.size + 1 ≤ w11.heap.size := by have := hB11.size; rw [World.size_alloc] at this; exact this
  go_wp2_with (at_builtin; refine wpList_append_own _ rfl _ _ 33 rfl (w.heap.size + 1) 50 i0 (.agg #[.int .i64 0, .int .i64 0, .string ⟨#[]⟩]) 3 32 Tryd.underlying33 hi hz hs hb3 rfl (by decide) _ 0 [] rfl (World.ownsRow_nil _ _ _ _) ⟨b2, off2, none⟩ len cap2 (rowC len k v t) rfl hl3.out hnews3.out hone3.out hn3 hby3 hbase3 ?_)
  intro v3 w12 hown3 hgrow3 hi3
  clear hi3 hl3 hone3 hnews3 hn3 hby3 hbase3 u0 u1 zl hpe hq1 hq2
  have hB12 : Below (w.alloc (.cells #[.string sn, .slice (some ⟨b, off, none⟩) len cap] 24)).heap.size (w.alloc (.cells #[.string sn, .slice (some ⟨b, off, none⟩) len cap] 24)) w12 := hB11.grown hgrow3 hB11.size (fun k hk => by cases hk)
  obtain ⟨g, cg, hv3, hbg, hrow⟩ := vals_of_owns hp hown3
  rw [hv3] at hown3 ⊢
  have f0 := hown3.frozenAt (p * 3)
  have f1 := hown3.frozenAt (p * 3 + 1)
  have f2 := hown3.frozenAt (p * 3 + 2)
  have r0 := (hrow p hpl).1
  have r1 := (hrow p hpl).2.1
  have r2 := (hrow p hpl).2.2
  have hROW : Hid (Row3 w12 g len k v t) := hrow
  clear hrow hown3 hgrow3 hv3
  have x0 : w12.cell? ⟨w.heap.size, 0, none⟩ = some (.string sn) := cell_below hB12 (by go_simp)
  have x1 : w12.cell? ⟨w.heap.size, 1, none⟩ = some (.slice (some ⟨b, off, none⟩) len cap) := cell_below hB12 (by go_simp)
  have cK : w12.cell? ⟨b, off + p * 2 + 1, none⟩ = some (.int .i64 (kd p)) := by
    rcases g1.below hB12 with h0 | ⟨bb, oo, e, hx⟩
    · omega
    · injection e with e; injection e with e1 e2 _; subst e1 e2
      exact (hx p hpl).2
  have hBB : (w.alloc (.cells #[.string sn, .slice (some ⟨b, off, none⟩) len cap] 24)).heap.size ≤ g := by rw [World.size_alloc]; exact hbg
  have hgw : w.heap.size ≠ g := by omega
  have hBT1 : Below (w.alloc (.cells #[.string sn, .slice (some ⟨b, off, none⟩) len cap] 24)).heap.size (w.alloc (.cells #[.string sn, .slice (some ⟨b, off, none⟩) len cap] 24)) (((w12.setCell ⟨g, p * 3, none⟩ (.int .i64 1)).setCell ⟨g, p * 3 + 1, none⟩ (.int .i64 1)).setCell ⟨g, p * 3 + 2, none⟩ (.string ⟨#[]⟩)) := ((hB12.setCell (p := ⟨g, p * 3, none⟩) hBB _).setCell (p := ⟨g, p * 3 + 1, none⟩) hBB _).setCell (p := ⟨g, p * 3 + 2, none⟩) hBB _
  have R1 : Hid _ := turned hROW.out hpl 1 1
  generalize hk1 : (kd p == 1) = K1
  cases K1
  · skip
    have hE2 : erI 31 (fitsS len kd len (up p 1 k) (up p 1 v) (upT p t)) = 31 := misfit hpl (by rw [up_at]; exact fc_1 hk1 _ _)
    go_wp2_with fail
    refine (Fits_any sn (some ⟨b, off, none⟩) len cap (some ⟨g, 0, none⟩) len cg nm kd (up p 1 k) (up p 1 v) (upT p t) _ (hR1.below hBT1) hn (g1.below hBT1) (Row3.vals R1.out)).mono ?_
    rintro e w13 ⟨rfl, hb13⟩
    rw [hE2]
    have hB13 := hBT1.trans (hb13.mono hBT1.size)
    go_wp2_with (go_at_call 14; refine (awake_any _ (hR1.below hB13)).mono ?_; rintro e w14 ⟨rfl, hb14⟩)
    go_ret
    exact ⟨rfl, (Bel.out (by repeat (first | exact Bel.refl _ | assumption | refine Bel.drew ?_ | refine Bel.drewN ?_ _ | refine Bel.alloc ?_ _ | refine Bel.setCell ?_ (by simp <;> omega) _ | refine Bel.step ?_ (by assumption))))⟩
  · have hBT2 : Below (w.alloc (.cells #[.string sn, .slice (some ⟨b, off, none⟩) len cap] 24)).heap.size (w.alloc (.cells #[.string sn, .slice (some ⟨b, off, none⟩) len cap] 24)) ((((((w12.setCell ⟨g, p * 3, none⟩ (.int .i64 1)).setCell ⟨g, p * 3 + 1, none⟩ (.int .i64 1)).setCell ⟨g, p * 3 + 2, none⟩ (.string ⟨#[]⟩)).setCell ⟨g, p * 3, none⟩ (.int .i64 2)).setCell ⟨g, p * 3 + 1, none⟩ (.int .i64 1)).setCell ⟨g, p * 3 + 2, none⟩ (.string ⟨#[]⟩)) := ((hBT1.setCell (p := ⟨g, p * 3, none⟩) hBB _).setCell (p := ⟨g, p * 3 + 1, none⟩) hBB _).setCell (p := ⟨g, p * 3 + 2, none⟩) hBB _
    have R2 : Hid _ := turned R1.out hpl 2 1
    have hE2 : erI 31 (fitsS len kd len (up p 2 (up p 1 k)) (up p 1 (up p 1 v)) (upT p (upT p t))) = 31 := misfit hpl (by rw [up_at]; rw [eq_of_beq hk1]; exact fc_2 _ _)
    go_wp2_with fail
    refine (Fits_any sn (some ⟨b, off, none⟩) len cap (some ⟨g, 0, none⟩) len cg nm kd (up p 2 (up p 1 k)) (up p 1 (up p 1 v)) (upT p (upT p t)) _ (hR1.below hBT2) hn (g1.below hBT2) (Row3.vals R2.out)).mono ?_
    rintro e w13 ⟨rfl, hb13⟩
    rw [hE2]
    have hB13 := hBT2.trans (hb13.mono hBT2.size)
    go_wp2_with (go_at_call 14; refine (awake_any _ (hR1.below hB13)).mono ?_; rintro e w14 ⟨rfl, hb14⟩)
    go_ret
    exact ⟨rfl, (Bel.out (by repeat (first | exact Bel.refl _ | assumption | refine Bel.drew ?_ | refine Bel.drewN ?_ _ | refine Bel.alloc ?_ _ | refine Bel.setCell ?_ (by simp <;> omega) _ | refine Bel.step ?_ (by assumption))))⟩

end Go.Proofs.YtjncoihppmbijaaDoor
