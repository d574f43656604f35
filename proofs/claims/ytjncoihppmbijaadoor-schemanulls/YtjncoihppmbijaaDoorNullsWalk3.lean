/- The walk of SchemaNulls, where neither row nor schema has anything; and whatever they are. -/
import Derived.Test.YtjncoihppmbijaaDoorNullsWalk2
namespace Go.Proofs.YtjncoihppmbijaaDoor
open Go.ChangeShapes Go.WideShapes Go.ChangeAt Go.RowKit
attribute [local go_sem ↓] Go.wp_at_zero Go.wp_at_succ

set_option maxHeartbeats 16000000 in
theorem nulls_some (sn : ByteArray) (a : Option Addr) (cap : Nat) (nm : Nat → ByteArray) (kd : Nat → Int) (ad : Addr) (cap2 : Nat) (at0 : Int) (w : World) (hR : Ready w) : Calls Tryd.prog 7 #[.agg #[.string sn, .slice a 0 cap], .slice (some ad) 0 cap2, .int .i64 at0] w fun e w' => e = .returned (.bool true) ∧ Below w.heap.size w w' := by
  have hR1 : Ready (w.alloc (.cells #[.string sn, .slice a 0 cap] 24)) := hR.alloc _
  have g1 : ColsAt (w.alloc (.cells #[.string sn, .slice a 0 cap] 24)) a 0 nm kd := Or.inl rfl
  have hB1 : Below w.heap.size w (w.alloc (.cells #[.string sn, .slice a 0 cap] 24)) := (Bel.out (by repeat (first | exact Bel.refl _ | assumption | refine Bel.drew ?_ | refine Bel.drewN ?_ _ | refine Bel.alloc ?_ _ | refine Bel.setCell ?_ (by simp <;> omega) _ | refine Bel.step ?_ (by assumption))))
  have S0 : (w.alloc (.cells #[.string sn, .slice a 0 cap] 24)).cell? ⟨w.heap.size, 0, none⟩ = some (.string sn) ∧ (w.alloc (.cells #[.string sn, .slice a 0 cap] 24)).cell? ⟨w.heap.size, 1, none⟩ = some (.slice a 0 cap) ∧ Below (w.alloc (.cells #[.string sn, .slice a 0 cap] 24)).heap.size (w.alloc (.cells #[.string sn, .slice a 0 cap] 24)) (w.alloc (.cells #[.string sn, .slice a 0 cap] 24)) := ⟨by go_simp, by go_simp, Below.refl _ _⟩
  have hmk : ∀ wx : World, (Instr.makeSlice 33 (.int .i64 0) (.int .i64 0)).run Tryd.prog wx = .ok (.slice (some ⟨wx.heap.size, 0, none⟩) 0 0) (wx.alloc (.cells (nulC 0) 50)) := fun wx => made_run 0 (by omega) wx
  have g3 : ValsAt ((w.alloc (.cells #[.string sn, .slice a 0 cap] 24)).alloc (.cells (nulC 0) 50)).drew (some ⟨w.heap.size + 1, 0, none⟩) 0 (fun _ => 0) (fun _ => 0) (fun _ => ⟨#[]⟩) := Or.inl rfl
  have hnul : erI 31 (fitsS 0 kd 0 (fun _ => 0) (fun _ => 0) (fun _ => ⟨#[]⟩)) = 0 := by rw [fits_nulls]; rfl
  have hinfo := info50
  obtain ⟨i0, hi, hz0⟩ := Option.map_eq_some_iff.1 hinfo
  simp only [Prod.mk.injEq] at hz0
  obtain ⟨hz, hs, hb3⟩ := hz0
  clear hinfo
  go_enter Tryd.func7, Tryd.ntmps7
  go_wp2
  refine wp_region_held_drew (S := (fun wS => wS.cell? ⟨w.heap.size, 0, none⟩ = some (.string sn) ∧ wS.cell? ⟨w.heap.size, 1, none⟩ = some (.slice a 0 cap) ∧ Below (w.alloc (.cells #[.string sn, .slice a 0 cap] 24)).heap.size (w.alloc (.cells #[.string sn, .slice a 0 cap] 24)) wS)) (by kernel_rfl) ?_ (fun hHeld => ?_)
  · (try dsimp only); exact kp2d S0
  refine wpAnyH_take (i := 0) (oi := { dst := some 15, op := Op.load 24 (Operand.tmp 3), type := 24, pos := "law.go:50", after := #[], guard := none }) (v := ?_) rfl (by kernel_rfl) (by kernel_rfl) (by kernel_rfl) (fun _ _ _ h => h) (Or.inl ⟨by kernel_rfl, ?_⟩) (by assumption) ?_
  rotate_left
  · intro wS hSw; (try dsimp only at hSw); go_simp; (try with_reducible rfl)
  try simp only [Act.put, List.setIfInBounds_toArray, List.set_cons_zero, List.set_cons_succ]
  refine wpAnyH_take (i := 1) (oi := { dst := some 16, op := Op.fieldAddr 24 (Operand.tmp 3) 1, type := 0, pos := "law.go:50", after := #[], guard := none }) (v := ?_) rfl (by kernel_rfl) (by kernel_rfl) (by kernel_rfl) (fun _ _ _ h => h) (Or.inl ⟨by kernel_rfl, ?_⟩) (by assumption) ?_
  rotate_left
  · intro wS hSw; (try dsimp only at hSw); go_simp; (try with_reducible rfl)
  try simp only [Act.put, List.setIfInBounds_toArray, List.set_cons_zero, List.set_cons_succ]
  refine wpAnyH_take (i := 2) (oi := { dst := some 17, op := Op.load 22 (Operand.tmp 16), type := 22, pos := "law.go:50", after := #[{ on := 1, ground := Ground.data }], guard := none }) (v := ?_) rfl (by kernel_rfl) (by kernel_rfl) (by kernel_rfl) (fun _ _ _ h => h) (Or.inl ⟨by kernel_rfl, ?_⟩) (by assumption) ?_
  rotate_left
  · intro wS hSw; (try dsimp only at hSw); go_simp; (try with_reducible rfl)
  try simp only [Act.put, List.setIfInBounds_toArray, List.set_cons_zero, List.set_cons_succ]
  refine wpAnyH_take (i := 3) (oi := { dst := some 18, op := Op.call { callee := Callee.builtin Builtin.len, args := #[Operand.tmp 17], argTypes := #[22] }, type := 3, pos := "law.go:50", after := #[{ on := 2, ground := Ground.data }], guard := none }) (v := ?_) rfl (by kernel_rfl) (by kernel_rfl) (by kernel_rfl) (fun _ _ _ h => h) (Or.inl ⟨by kernel_rfl, ?_⟩) (by assumption) ?_
  rotate_left
  · intro wS hSw; (try dsimp only at hSw); go_simp; (try with_reducible rfl)
  try simp only [Act.put, List.setIfInBounds_toArray, List.set_cons_zero, List.set_cons_succ]
  refine wpAnyH_ready (rs := [4]) (by kernel_rfl) (by simp) ?_
  refine AllReadyH.cons (o := { dst := some 19, op := Op.makeSlice 33 (Operand.tmp 18) (Operand.tmp 18), type := 33, pos := "law.go:50", after := #[{ on := 3, ground := Ground.data }, { on := 3, ground := Ground.data }], guard := none }) rfl (fun K hK => ?_) AllReadyH.nil
  go_simp
  refine hK.out _ _ ?_ (fun hH4 => ?_)
  · (try dsimp only); exact kp2 (by assumption) ((Below.refl _ _).alloc (Nat.le_refl _) _)
  clear hK K
  try simp only [Act.put, List.setIfInBounds_toArray, List.set_cons_zero, List.set_cons_succ]
  refine wpAnyH_ready (rs := [5]) (by kernel_rfl) (by simp) ?_
  refine AllReadyH.cons (o := { dst := some 20, op := Op.call { callee := Callee.value (Operand.func 15), args := #[Operand.tmp 15, Operand.tmp 19], argTypes := #[24, 33] }, type := 27, pos := "law.go:50", after := #[{ on := 0, ground := Ground.data }, { on := 4, ground := Ground.data }], guard := none }) rfl (fun K hK => ?_) AllReadyH.nil
  go_simp
  go_at_call 15
  refine (Fits_any sn a 0 cap (some ⟨w.heap.size + 1, 0, none⟩) 0 0 nm kd (fun _ => 0) (fun _ => 0) (fun _ => ⟨#[]⟩) _ (kp2r hR1 (by assumption)) (by omega) (g1.below (kp2l (by assumption))) g3).mono ?_
  rintro e w' ⟨rfl, hb⟩
  rw [hnul]
  refine hK.out _ _ ?_ (fun hH5 => ?_)
  · (try dsimp only); exact kp2 (by assumption) hb
  clear hK K
  try simp only [Act.put, List.setIfInBounds_toArray, List.set_cons_zero, List.set_cons_succ]
  refine wpAnyH_take (i := 6) (oi := { dst := some 21, op := Op.binOp BinOp.neq 27 (Operand.tmp 20) (Operand.const (Value.int IntKind.i64 0)) 27, type := 4, pos := "law.go:50", after := #[{ on := 5, ground := Ground.data }], guard := none }) (v := ?_) rfl (by kernel_rfl) (by kernel_rfl) (by kernel_rfl) (fun _ _ _ h => h) (Or.inl ⟨by kernel_rfl, ?_⟩) (by assumption) ?_
  rotate_left
  · intro wS hSw; (try dsimp only at hSw); go_simp; (try with_reducible rfl)
  try simp only [Act.put, List.setIfInBounds_toArray, List.set_cons_zero, List.set_cons_succ]
  refine wpAnyH_done (by kernel_rfl) ?_ _
  obtain ⟨t0, t1, hB5⟩ := hH5
  clear hmk g3 S0
  go_wp2_with fail
  refine (Fits_any sn a 0 cap (some ad) 0 cap2 nm kd (fun _ => 0) (fun _ => 0) (fun _ => ⟨#[]⟩) _ (hR1.below hB5) (by omega) (g1.below hB5) (Or.inl rfl)).mono ?_
  rintro e w6 ⟨rfl, hb6⟩
  rw [hnul]
  have t2 := cell_below hb6 t0
  have t3 := cell_below hb6 t1
  have hB6 := hB5.trans (hb6.mono hB5.size)
  clear t0 t1
  have hnw1 : Hid (∀ j u, ([] : List Value)[j]? = some u → w6.cell? (ad.add j) = some u) := by
    show ∀ j u, ([] : List Value)[j]? = some u → w6.cell? (ad.add j) = some u
    intro j u hj; simp at hj
  have hone1 : Hid (∀ u ∈ ([] : List Value), u.oneCell' = true) := by
    show ∀ u ∈ ([] : List Value), u.oneCell' = true
    intro u hu; cases hu
  have hn1 : 0 + 0 ≤ maxLen := by unfold maxLen; omega
  have hby1 : (0 + 0) * 32 ≤ 140737488355328 := by omega
  have hbase1 : w.heap.size + 1 ≤ w6.heap.size := by have := hB6.size; rw [World.size_alloc] at this; exact this
  go_wp2_with (at_builtin; refine wpList_append_own _ rfl _ _ 33 rfl (w.heap.size + 1) 50 i0 (.agg #[.int .i64 0, .int .i64 0, .string ⟨#[]⟩]) 3 32 Tryd.underlying33 hi hz hs hb3 rfl (by decide) _ 0 [] rfl (World.ownsRow_nil _ _ _ _) ad 0 cap2 [] rfl rfl hnw1.out hone1.out hn1 hby1 hbase1 ?_)
  intro v1 w9 hown1 hgrow1 hi1
  clear hi1 hnw1 hone1 hn1 hby1 hbase1 t2 t3
  have hB9 : Below (w.alloc (.cells #[.string sn, .slice a 0 cap] 24)).heap.size (w.alloc (.cells #[.string sn, .slice a 0 cap] 24)) w9 := hB6.grown hgrow1 hB6.size (fun k hk => by cases hk)
  have hsz9 : w.heap.size + 1 ≤ w9.heap.size := by have := hB9.size; rw [World.size_alloc] at this; exact this
  have hnw2 : Hid (∀ j u, ([.int .i64 0, .int .i64 0, .string ⟨#[]⟩] : List Value)[j]? = some u → (w9.alloc (.cells #[.int .i64 0, .int .i64 0, .string ⟨#[]⟩] 50)).cell? ((⟨w9.heap.size, 0, none⟩ : Addr).add j) = some u) := by
    show ∀ j u, ([.int .i64 0, .int .i64 0, .string ⟨#[]⟩] : List Value)[j]? = some u → (w9.alloc (.cells #[.int .i64 0, .int .i64 0, .string ⟨#[]⟩] 50)).cell? ((⟨w9.heap.size, 0, none⟩ : Addr).add j) = some u
    intro j u hj
    rw [add_plain, World.cell?_alloc_new, Nat.zero_add]
    simpa using hj
  have hone2 : Hid (∀ u ∈ ([.int .i64 0, .int .i64 0, .string ⟨#[]⟩] : List Value), u.oneCell' = true) := by
    show ∀ u ∈ ([.int .i64 0, .int .i64 0, .string ⟨#[]⟩] : List Value), u.oneCell' = true
    intro u hu
    simp only [List.mem_cons, List.not_mem_nil, or_false] at hu
    rcases hu with rfl | rfl | rfl <;> rfl
  have hn2 : 0 + 1 ≤ maxLen := by unfold maxLen; omega
  have hby2 : (0 + 1) * 32 ≤ 140737488355328 := by omega
  have hbase2 : w.heap.size + 1 ≤ (w9.alloc (.cells #[.int .i64 0, .int .i64 0, .string ⟨#[]⟩] 50)).heap.size := by rw [World.size_alloc]; omega
  go_wp2_with (at_builtin; refine wpList_append_own _ rfl _ _ 33 rfl (w.heap.size + 1) 50 i0 (.agg #[.int .i64 0, .int .i64 0, .string ⟨#[]⟩]) 3 32 Tryd.underlying33 hi hz hs hb3 rfl (by decide) _ 0 [] rfl (hown1.alloc _) ⟨w9.heap.size, 0, none⟩ 1 1 [.int .i64 0, .int .i64 0, .string ⟨#[]⟩] rfl rfl hnw2.out hone2.out hn2 hby2 hbase2 ?_)
  intro v2 w10 hown2 hgrow2 hi2
  clear hi2
  obtain ⟨am, cm, hv2⟩ := owns_slice hown2
  have hB10 : Below (w.alloc (.cells #[.string sn, .slice a 0 cap] 24)).heap.size (w.alloc (.cells #[.string sn, .slice a 0 cap] 24)) w10 := (hB9.alloc hB9.size _).grown hgrow2 (by rw [World.size_alloc, World.size_alloc]; omega) (fun kk hk => by rw [World.size_alloc]; exact (hown1.lt kk hk).1)
  have y0 : w10.cell? ⟨w.heap.size, 0, none⟩ = some (.string sn) := cell_below hB10 (by go_simp)
  have y1 : w10.cell? ⟨w.heap.size, 1, none⟩ = some (.slice a 0 cap) := cell_below hB10 (by go_simp)
  rw [hv2]
  clear hown2 hgrow2 hv2 hnw2 hone2 hn2 hby2 hbase2 hsz9
  go_wp2_with fail
  refine (Fits_ne sn a am 0 cap 1 cm _ (by rfl)).mono ?_
  rintro e w11 ⟨rfl, hb11⟩
  have hB11 := hB10.trans (hb11.mono hB10.size)
  go_wp2_with (go_at_call 14; refine (awake_any _ (hR1.below hB11)).mono ?_; rintro e w14 ⟨rfl, hb14⟩)
  go_ret
  exact ⟨rfl, (Bel.out (by repeat (first | exact Bel.refl _ | assumption | refine Bel.drew ?_ | refine Bel.drewN ?_ _ | refine Bel.alloc ?_ _ | refine Bel.setCell ?_ (by simp <;> omega) _ | refine Bel.step ?_ (by assumption))))⟩

set_option maxHeartbeats 16000000 in
theorem nulls_none (sn : ByteArray) (a : Option Addr) (cap : Nat) (nm : Nat → ByteArray) (kd : Nat → Int)  (cap2 : Nat) (at0 : Int) (w : World) (hR : Ready w) : Calls Tryd.prog 7 #[.agg #[.string sn, .slice a 0 cap], .slice none 0 cap2, .int .i64 at0] w fun e w' => e = .returned (.bool true) ∧ Below w.heap.size w w' := by
  have hR1 : Ready (w.alloc (.cells #[.string sn, .slice a 0 cap] 24)) := hR.alloc _
  have g1 : ColsAt (w.alloc (.cells #[.string sn, .slice a 0 cap] 24)) a 0 nm kd := Or.inl rfl
  have hB1 : Below w.heap.size w (w.alloc (.cells #[.string sn, .slice a 0 cap] 24)) := (Bel.out (by repeat (first | exact Bel.refl _ | assumption | refine Bel.drew ?_ | refine Bel.drewN ?_ _ | refine Bel.alloc ?_ _ | refine Bel.setCell ?_ (by simp <;> omega) _ | refine Bel.step ?_ (by assumption))))
  have S0 : (w.alloc (.cells #[.string sn, .slice a 0 cap] 24)).cell? ⟨w.heap.size, 0, none⟩ = some (.string sn) ∧ (w.alloc (.cells #[.string sn, .slice a 0 cap] 24)).cell? ⟨w.heap.size, 1, none⟩ = some (.slice a 0 cap) ∧ Below (w.alloc (.cells #[.string sn, .slice a 0 cap] 24)).heap.size (w.alloc (.cells #[.string sn, .slice a 0 cap] 24)) (w.alloc (.cells #[.string sn, .slice a 0 cap] 24)) := ⟨by go_simp, by go_simp, Below.refl _ _⟩
  have hmk : ∀ wx : World, (Instr.makeSlice 33 (.int .i64 0) (.int .i64 0)).run Tryd.prog wx = .ok (.slice (some ⟨wx.heap.size, 0, none⟩) 0 0) (wx.alloc (.cells (nulC 0) 50)) := fun wx => made_run 0 (by omega) wx
  have g3 : ValsAt ((w.alloc (.cells #[.string sn, .slice a 0 cap] 24)).alloc (.cells (nulC 0) 50)).drew (some ⟨w.heap.size + 1, 0, none⟩) 0 (fun _ => 0) (fun _ => 0) (fun _ => ⟨#[]⟩) := Or.inl rfl
  have hnul : erI 31 (fitsS 0 kd 0 (fun _ => 0) (fun _ => 0) (fun _ => ⟨#[]⟩)) = 0 := by rw [fits_nulls]; rfl
  have hinfo := info50
  obtain ⟨i0, hi, hz0⟩ := Option.map_eq_some_iff.1 hinfo
  simp only [Prod.mk.injEq] at hz0
  obtain ⟨hz, hs, hb3⟩ := hz0
  clear hinfo
  go_enter Tryd.func7, Tryd.ntmps7
  go_wp2
  refine wp_region_held_drew (S := (fun wS => wS.cell? ⟨w.heap.size, 0, none⟩ = some (.string sn) ∧ wS.cell? ⟨w.heap.size, 1, none⟩ = some (.slice a 0 cap) ∧ Below (w.alloc (.cells #[.string sn, .slice a 0 cap] 24)).heap.size (w.alloc (.cells #[.string sn, .slice a 0 cap] 24)) wS)) (by kernel_rfl) ?_ (fun hHeld => ?_)
  · (try dsimp only); exact kp2d S0
  refine wpAnyH_take (i := 0) (oi := { dst := some 15, op := Op.load 24 (Operand.tmp 3), type := 24, pos := "law.go:50", after := #[], guard := none }) (v := ?_) rfl (by kernel_rfl) (by kernel_rfl) (by kernel_rfl) (fun _ _ _ h => h) (Or.inl ⟨by kernel_rfl, ?_⟩) (by assumption) ?_
  rotate_left
  · intro wS hSw; (try dsimp only at hSw); go_simp; (try with_reducible rfl)
  try simp only [Act.put, List.setIfInBounds_toArray, List.set_cons_zero, List.set_cons_succ]
  refine wpAnyH_take (i := 1) (oi := { dst := some 16, op := Op.fieldAddr 24 (Operand.tmp 3) 1, type := 0, pos := "law.go:50", after := #[], guard := none }) (v := ?_) rfl (by kernel_rfl) (by kernel_rfl) (by kernel_rfl) (fun _ _ _ h => h) (Or.inl ⟨by kernel_rfl, ?_⟩) (by assumption) ?_
  rotate_left
  · intro wS hSw; (try dsimp only at hSw); go_simp; (try with_reducible rfl)
  try simp only [Act.put, List.setIfInBounds_toArray, List.set_cons_zero, List.set_cons_succ]
  refine wpAnyH_take (i := 2) (oi := { dst := some 17, op := Op.load 22 (Operand.tmp 16), type := 22, pos := "law.go:50", after := #[{ on := 1, ground := Ground.data }], guard := none }) (v := ?_) rfl (by kernel_rfl) (by kernel_rfl) (by kernel_rfl) (fun _ _ _ h => h) (Or.inl ⟨by kernel_rfl, ?_⟩) (by assumption) ?_
  rotate_left
  · intro wS hSw; (try dsimp only at hSw); go_simp; (try with_reducible rfl)
  try simp only [Act.put, List.setIfInBounds_toArray, List.set_cons_zero, List.set_cons_succ]
  refine wpAnyH_take (i := 3) (oi := { dst := some 18, op := Op.call { callee := Callee.builtin Builtin.len, args := #[Operand.tmp 17], argTypes := #[22] }, type := 3, pos := "law.go:50", after := #[{ on := 2, ground := Ground.data }], guard := none }) (v := ?_) rfl (by kernel_rfl) (by kernel_rfl) (by kernel_rfl) (fun _ _ _ h => h) (Or.inl ⟨by kernel_rfl, ?_⟩) (by assumption) ?_
  rotate_left
  · intro wS hSw; (try dsimp only at hSw); go_simp; (try with_reducible rfl)
  try simp only [Act.put, List.setIfInBounds_toArray, List.set_cons_zero, List.set_cons_succ]
  refine wpAnyH_ready (rs := [4]) (by kernel_rfl) (by simp) ?_
  refine AllReadyH.cons (o := { dst := some 19, op := Op.makeSlice 33 (Operand.tmp 18) (Operand.tmp 18), type := 33, pos := "law.go:50", after := #[{ on := 3, ground := Ground.data }, { on := 3, ground := Ground.data }], guard := none }) rfl (fun K hK => ?_) AllReadyH.nil
  go_simp
  refine hK.out _ _ ?_ (fun hH4 => ?_)
  · (try dsimp only); exact kp2 (by assumption) ((Below.refl _ _).alloc (Nat.le_refl _) _)
  clear hK K
  try simp only [Act.put, List.setIfInBounds_toArray, List.set_cons_zero, List.set_cons_succ]
  refine wpAnyH_ready (rs := [5]) (by kernel_rfl) (by simp) ?_
  refine AllReadyH.cons (o := { dst := some 20, op := Op.call { callee := Callee.value (Operand.func 15), args := #[Operand.tmp 15, Operand.tmp 19], argTypes := #[24, 33] }, type := 27, pos := "law.go:50", after := #[{ on := 0, ground := Ground.data }, { on := 4, ground := Ground.data }], guard := none }) rfl (fun K hK => ?_) AllReadyH.nil
  go_simp
  go_at_call 15
  refine (Fits_any sn a 0 cap (some ⟨w.heap.size + 1, 0, none⟩) 0 0 nm kd (fun _ => 0) (fun _ => 0) (fun _ => ⟨#[]⟩) _ (kp2r hR1 (by assumption)) (by omega) (g1.below (kp2l (by assumption))) g3).mono ?_
  rintro e w' ⟨rfl, hb⟩
  rw [hnul]
  refine hK.out _ _ ?_ (fun hH5 => ?_)
  · (try dsimp only); exact kp2 (by assumption) hb
  clear hK K
  try simp only [Act.put, List.setIfInBounds_toArray, List.set_cons_zero, List.set_cons_succ]
  refine wpAnyH_take (i := 6) (oi := { dst := some 21, op := Op.binOp BinOp.neq 27 (Operand.tmp 20) (Operand.const (Value.int IntKind.i64 0)) 27, type := 4, pos := "law.go:50", after := #[{ on := 5, ground := Ground.data }], guard := none }) (v := ?_) rfl (by kernel_rfl) (by kernel_rfl) (by kernel_rfl) (fun _ _ _ h => h) (Or.inl ⟨by kernel_rfl, ?_⟩) (by assumption) ?_
  rotate_left
  · intro wS hSw; (try dsimp only at hSw); go_simp; (try with_reducible rfl)
  try simp only [Act.put, List.setIfInBounds_toArray, List.set_cons_zero, List.set_cons_succ]
  refine wpAnyH_done (by kernel_rfl) ?_ _
  obtain ⟨t0, t1, hB5⟩ := hH5
  clear hmk g3 S0
  go_wp2_with fail
  refine (Fits_any sn a 0 cap none 0 cap2 nm kd (fun _ => 0) (fun _ => 0) (fun _ => ⟨#[]⟩) _ (hR1.below hB5) (by omega) (g1.below hB5) (Or.inl rfl)).mono ?_
  rintro e w6 ⟨rfl, hb6⟩
  rw [hnul]
  have t2 := cell_below hb6 t0
  have t3 := cell_below hb6 t1
  have hB6 := hB5.trans (hb6.mono hB5.size)
  clear t0 t1
  have hB9 := hB6
  have hsz9 : w.heap.size + 1 ≤ w6.heap.size := by have := hB9.size; rw [World.size_alloc] at this; exact this
  have hnw2 : Hid (∀ j u, ([.int .i64 0, .int .i64 0, .string ⟨#[]⟩] : List Value)[j]? = some u → (w6.alloc (.cells #[.int .i64 0, .int .i64 0, .string ⟨#[]⟩] 50)).cell? ((⟨w6.heap.size, 0, none⟩ : Addr).add j) = some u) := by
    show ∀ j u, ([.int .i64 0, .int .i64 0, .string ⟨#[]⟩] : List Value)[j]? = some u → (w6.alloc (.cells #[.int .i64 0, .int .i64 0, .string ⟨#[]⟩] 50)).cell? ((⟨w6.heap.size, 0, none⟩ : Addr).add j) = some u
    intro j u hj
    rw [add_plain, World.cell?_alloc_new, Nat.zero_add]
    simpa using hj
  have hone2 : Hid (∀ u ∈ ([.int .i64 0, .int .i64 0, .string ⟨#[]⟩] : List Value), u.oneCell' = true) := by
    show ∀ u ∈ ([.int .i64 0, .int .i64 0, .string ⟨#[]⟩] : List Value), u.oneCell' = true
    intro u hu
    simp only [List.mem_cons, List.not_mem_nil, or_false] at hu
    rcases hu with rfl | rfl | rfl <;> rfl
  have hn2 : 0 + 1 ≤ maxLen := by unfold maxLen; omega
  have hby2 : (0 + 1) * 32 ≤ 140737488355328 := by omega
  have hbase2 : w.heap.size + 1 ≤ (w6.alloc (.cells #[.int .i64 0, .int .i64 0, .string ⟨#[]⟩] 50)).heap.size := by rw [World.size_alloc]; omega
  go_wp2_with (at_builtin; refine wpList_append_own _ rfl _ _ 33 rfl (w.heap.size + 1) 50 i0 (.agg #[.int .i64 0, .int .i64 0, .string ⟨#[]⟩]) 3 32 Tryd.underlying33 hi hz hs hb3 rfl (by decide) _ 0 [] rfl (World.ownsRow_nil _ _ _ _) ⟨w6.heap.size, 0, none⟩ 1 1 [.int .i64 0, .int .i64 0, .string ⟨#[]⟩] rfl rfl hnw2.out hone2.out hn2 hby2 hbase2 ?_)
  intro v2 w10 hown2 hgrow2 hi2
  clear hi2
  obtain ⟨am, cm, hv2⟩ := owns_slice hown2
  have hB10 : Below (w.alloc (.cells #[.string sn, .slice a 0 cap] 24)).heap.size (w.alloc (.cells #[.string sn, .slice a 0 cap] 24)) w10 := (hB9.alloc hB9.size _).grown hgrow2 (by rw [World.size_alloc, World.size_alloc]; omega) (fun kk hk => by cases hk)
  have y0 : w10.cell? ⟨w.heap.size, 0, none⟩ = some (.string sn) := cell_below hB10 (by go_simp)
  have y1 : w10.cell? ⟨w.heap.size, 1, none⟩ = some (.slice a 0 cap) := cell_below hB10 (by go_simp)
  rw [hv2]
  clear hown2 hgrow2 hv2 hnw2 hone2 hn2 hby2 hbase2 hsz9
  go_wp2_with fail
  refine (Fits_ne sn a am 0 cap 1 cm _ (by rfl)).mono ?_
  rintro e w11 ⟨rfl, hb11⟩
  have hB11 := hB10.trans (hb11.mono hB10.size)
  go_wp2_with (go_at_call 14; refine (awake_any _ (hR1.below hB11)).mono ?_; rintro e w14 ⟨rfl, hb14⟩)
  go_ret
  exact ⟨rfl, (Bel.out (by repeat (first | exact Bel.refl _ | assumption | refine Bel.drew ?_ | refine Bel.drewN ?_ _ | refine Bel.alloc ?_ _ | refine Bel.setCell ?_ (by simp <;> omega) _ | refine Bel.step ?_ (by assumption))))⟩

theorem schemaNulls_walk (sn : ByteArray) (a : Option Addr) (len cap : Nat) (nm : Nat → ByteArray) (kd : Nat → Int) (a2 : Option Addr) (n cap2 : Nat) (k v : Nat → Int) (t : Nat → ByteArray) (at0 : Int) (w : World) (hR : Ready w) (hn : n ≤ 9223372036854775807) (hc : ColsAt w a len nm kd) (hv : ValsAt w a2 n k v t) :
    Calls Tryd.prog 7 #[.agg #[.string sn, .slice a len cap], .slice a2 n cap2, .int .i64 at0] w fun e w' => e = .returned (.bool true) ∧ Below w.heap.size w w' := by
  rcases Int.lt_or_le 1000 (len : Int) with h | h
  · exact nulls_wide sn a len cap a2 n cap2 at0 w hR h
  cases hF : fitsS len kd n k v t
  · exact nulls_no sn a len cap nm kd a2 n cap2 k v t at0 w hR hn hc hv h hF
  obtain rfl := fits_len hF
  rcases Nat.eq_zero_or_pos n with rfl | hp
  · cases a2 with
    | none => exact nulls_none sn a cap nm kd cap2 at0 w hR
    | some ad => exact nulls_some sn a cap nm kd ad cap2 at0 w hR
  have hc' := hc
  have hv' := hv
  rcases hc' with h0 | ⟨b, off, rfl, _⟩
  · omega
  rcases hv' with h0 | ⟨b2, off2, rfl, _⟩
  · omega
  exact nulls_yes sn b off n cap nm kd b2 off2 cap2 k v t at0 w hR hn hc hv h hF hp
end Go.Proofs.YtjncoihppmbijaaDoor
