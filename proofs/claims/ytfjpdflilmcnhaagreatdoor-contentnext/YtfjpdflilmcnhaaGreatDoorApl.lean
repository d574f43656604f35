/- Unlike places of columns, one at least (arePlaces). -/
import Derived.Test.YtfjpdflilmcnhaaGreatDoorSrd
import Derived.Test.YtfjpdflilmcnhaaGreatDoorVw
namespace Go.Proofs.YtfjpdflilmcnhaaGreatDoor
open Go.ChangeShapes Go.WideShapes Go.ChangeAt Go.RowKit

open Go.Shelf Go.Sort
open Go.RowKit (Below)
/-- A slice of numbers. -/
def NsAt (w : World) (a : Option Addr) (zs : List Int) : Prop := zs = [] ∨ ∃ b off, a = some ⟨b, off, none⟩ ∧ ∀ i, i < zs.length → w.cell? ⟨b, off + i, none⟩ = some (.int .i64 (zs[i]?.getD 0))
theorem NsAt.below {w w' : World} {a : Option Addr} {zs : List Int} (h : NsAt w a zs) (hb : Below w.heap.size w w') : NsAt w' a zs := by
  rcases h with h | ⟨b, off, ha, hc⟩
  · exact Or.inl h
  · exact Or.inr ⟨b, off, ha, fun i hi => cell_below hb (hc i hi)⟩
theorem NsAt.ints {w : World} {a : Option Addr} {zs : List Int} (h : NsAt w a zs) (cap : Nat) (hz : 0 < zs.length) : Ints w.heap.size w (.slice a zs.length cap) zs := by
  rcases h with h | ⟨b, off, rfl, hc⟩
  · rw [h] at hz; cases hz
  · exact Or.inr ⟨b, off, cap, rfl, cell_lt (hc 0 hz), hc⟩
theorem holds_own {w : World} {base g cap : Nat} {zs : List Int} (h : w.ownsRow base 3 1 (.slice (some ⟨g, 0, none⟩) zs.length cap) zs.length (itC zs)) : Holds (Value.int .i64) w g 0 zs.toArray := by
  rcases h.2 with ⟨e, _⟩ | ⟨g', cap', cur, e, hbg, hg, r1, r2, r3, r4⟩
  · cases e
  · injection e with e1 _ _
    injection e1 with e1
    injection e1 with e1 _ _
    subst e1
    exact holds_of_block_i hg (by rw [Nat.mul_one] at r4; exact r4)
set_option maxRecDepth 20000 in
set_option maxHeartbeats 8000000 in
theorem arePlaces_any (k n : Int) (a : Option Addr) (cap : Nat) (d : Bool) (c : Int) (zs : List Int) (w : World) (hreach : zs.length * 8 ≤ 140737488351232) (hz : NsAt w a zs) :
    Calls Tryz.prog 61 #[vwV k n a zs.length cap d, .int .i64 c] w fun e w' => e = .returned (.bool (arB zs c)) ∧ Below w.heap.size w w' := by
  rcases Nat.eq_zero_or_pos zs.length with h0 | h0
  · have e : arB zs c = false := by rw [List.length_eq_zero_iff.1 h0]; rfl
    rw [e, h0]
    clear hz hreach e
    unfold vwV
    go_enter Tryz.func61, Tryz.ntmps61
    go_wp2
    go_ret
    exact ⟨rfl, (Bel.out (by repeat (first | exact Bel.refl _ | assumption | refine Bel.drew ?_ | refine Bel.drewN ?_ _ | refine Bel.alloc ?_ _ | refine Bel.setCell ?_ (by simp <;> omega) _ | refine Bel.step ?_ (by assumption))))⟩
  · obtain ⟨m, hm⟩ : ∃ m, zs.length = m + 1 := ⟨zs.length - 1, by omega⟩
    have hs0 : 0 < (srt zs).length := by rw [srt_len]; omega
    have hsm : m < (srt zs).length := by rw [srt_len]; omega
    have hAR : arB zs c = (!(decide ((srt zs)[0] < 0)) && !(decide ((srt zs)[m] ≥ c)) && decide ((Go.Lib.compact (srt zs)).length = m + 1)) := arB_is hm c hs0 hsm
    have HL : Hid (∀ Bs wx, Below w.heap.size w wx → Bs < wx.heap.size → wx.cell? ⟨Bs, 0, none⟩ = some (.slice a (m + 1) cap) → _) := fun Bs wx hb h1 h2 => Sorted_any Bs (.slice a zs.length cap) zs wx h0 hreach h1 (by rw [hm]; exact h2) ((hz.below hb).ints cap h0)
    rw [hm]
    unfold vwV
    go_enter Tryz.func61, Tryz.ntmps61
    have hva := Values_any a (m + 1) cap
    go_wp2_with fail
    refine (hva _).mono ?_
    rintro e w1 ⟨rfl, hw1⟩
    have HW : Hid (w1 = _) := hw1
    have x2 : (w.alloc (Obj.cells #[.int .i64 k, .int .i64 n, .slice a (m + 1) cap, .bool d] 71)).cell? ⟨w.heap.size, 2, none⟩ = some (.slice a (m + 1) cap) := by go_simp
    have hbx : Below w.heap.size w (w.alloc (Obj.cells #[.int .i64 k, .int .i64 n, .slice a (m + 1) cap, .bool d] 71)) := (Below.refl _ _).alloc (Nat.le_refl _) _
    have hszx : (w.alloc (Obj.cells #[.int .i64 k, .int .i64 n, .slice a (m + 1) cap, .bool d] 71)).heap.size = w.heap.size + 1 := by simp
    generalize (w.alloc (Obj.cells #[.int .i64 k, .int .i64 n, .slice a (m + 1) cap, .bool d] 71)) = wx at *
    have hb1 : Below w.heap.size w w1 := by rw [hw1]; exact hbx.alloc hbx.size _
    have hx2 : w1.cell? ⟨w.heap.size, 2, none⟩ = some (.slice a (m + 1) cap) := by rw [hw1]; exact cell_below ((Below.refl wx.heap.size wx).alloc (Nat.le_refl _) _) x2
    have hB : w1.cell? ⟨wx.heap.size, 0, none⟩ = some (.slice a (m + 1) cap) := by rw [hw1]; go_simp
    have hsz1 : w1.heap.size = w.heap.size + 2 := by rw [hw1]; simp [hszx]
    have hcall := HL.out wx.heap.size w1 hb1 (by omega) hB
    rw [hm, hszx] at hcall
    clear HL HW hw1 hva hz hB x2
    go_wp2_with fail
    refine hcall.mono ?_
    rintro e w3 ⟨g, gcap, rfl, hcap, hg, hO, hb3⟩
    have x3 := cell_below hb3 hx2
    have hXg : ¬ w.heap.size = g := by omega
    have hB3 : Below w.heap.size w w3 := hb1.trans (hb3.mono hb1.size)
    have hH3 : Holds (Value.int .i64) w3 g 0 (srt zs).toArray := holds_own (base := w1.heap.size) (cap := gcap) (by rw [srt_len, hm]; exact hO)
    have s0 : w3.cell? ⟨g, 0, none⟩ = some (.int .i64 (srt zs)[0]) := by
      have h := (hH3 0 (by simpa using hs0)).1
      rw [getB hs0] at h
      simpa using h
    have s1 : w3.cell? ⟨g, m, none⟩ = some (.int .i64 (srt zs)[m]) := by
      have h := (hH3 m (by simpa using hsm)).1
      rw [getB hsm] at h
      simpa using h
    have HC : Hid (∀ wy, Holds (Value.int .i64) wy g 0 (srt zs).toArray → Calls Tryz.prog 78 #[.slice (some ⟨g, 0, none⟩) (m + 1) gcap] wy fun e w' => e = .returned (.slice (some ⟨g, 0, none⟩) (Go.Lib.compact (srt zs)).length gcap) ∧ ∃ q, w' = putRow (Value.int .i64) (Sort.ahead wy q) g 0 (Go.Lib.compact (srt zs) ++ List.replicate ((srt zs).length - (Go.Lib.compact (srt zs)).length) 0).toArray) := fun wy hy => by
      have h := Tryz.slices_Compact_int g 0 gcap (srt zs) wy hy (by rw [srt_len]; omega) (by rw [srt_len, hm]; exact hcap)
      have e : (srt zs).length = m + 1 := by rw [srt_len, hm]
      rw [e] at h ⊢
      exact h
    have HB3 : Hid _ := hB3
    have HH3 : Hid _ := hH3
    have HAR : Hid _ := hAR
    have HGW : Hid (w.heap.size ≤ g) := by show _ ≤ _; have := hb1.size; omega
    clear hcall hO hb3 hx2 hH3 hB3 hb1 hbx hAR
    generalize hgs0 : (srt zs)[0] = a0 at *
    generalize hgsm : (srt zs)[m] = am at *
    clear hgs0 hgsm
    by_cases t1 : a0 < 0
    · have HE : Hid (false = arB zs c) := by
        show _ = _
        rw [HAR.out]; simp [t1]
      clear HAR HC HH3
      go_wp2
      go_ret
      exact ⟨ret_bool HE.out, HB3.out⟩
    · by_cases t2 : am ≥ c
      · have HE : Hid (false = arB zs c) := by
          show _ = _
          rw [HAR.out]; simp [t2]
        clear HAR HC HH3
        go_wp2
        go_ret
        exact ⟨ret_bool HE.out, HB3.out⟩
      · have HE : Hid (decide ((Go.Lib.compact (srt zs)).length = m + 1) = arB zs c) := by
          show _ = _
          rw [HAR.out]; simp [t1, t2]
        clear HAR
        have hC := HC.out
        have hH3 : Holds (Value.int .i64) w3.drew g 0 (srt zs).toArray := HH3.out
        have hFC : ∀ q, Fr (fun k => k = g) w3.drew (putRow (Value.int .i64) (Sort.ahead w3.drew q) g 0 (Go.Lib.compact (srt zs) ++ List.replicate ((srt zs).length - (Go.Lib.compact (srt zs)).length) 0).toArray) := fun q => by
          have h := grownBy_sorted_i (w := w3.drew) (g := g) (n := q) (os := #[]) (Go.Lib.compact (srt zs) ++ List.replicate ((srt zs).length - (Go.Lib.compact (srt zs)).length) 0).toArray
          rw [grow_empty] at h
          exact fr_grown h
        clear HC HH3
        generalize (Go.Lib.compact (srt zs) ++ List.replicate ((srt zs).length - (Go.Lib.compact (srt zs)).length) 0).toArray = cd at *
        generalize (Go.Lib.compact (srt zs)).length = cl at *
        have x2 := x3
        go_upto_region 6 with (fail)
        refine wp_region_held_drew (S := (fun wS => Fr (fun k => k = g) w3 wS)) (by kernel_rfl) ?_ (fun hHeld => ?_)
        · (try dsimp only); exact (Fr.refl (fun k => k = g) w3).drew
        refine wpAnyH_take (i := 0) (oi := { dst := some 28, op := Op.move (Operand.tmp 5), type := 30, pos := "check.go:41", after := #[], guard := none }) (v := ?_) rfl (by kernel_rfl) (by kernel_rfl) (by kernel_rfl) (fun _ _ _ h => h) (Or.inl ⟨by kernel_rfl, ?_⟩) (by assumption) ?_
        rotate_left
        · intro wS hSw; (try dsimp only at hSw); go_simp; (try with_reducible rfl)
        try simp only [Act.put, List.setIfInBounds_toArray, List.set_cons_zero, List.set_cons_succ]
        refine wpAnyH_take (i := 3) (oi := { dst := some 31, op := Op.fieldAddr 71 (Operand.tmp 2) 2, type := 0, pos := "check.go:41", after := #[], guard := none }) (v := ?_) rfl (by kernel_rfl) (by kernel_rfl) (by kernel_rfl) (fun _ _ _ h => h) (Or.inl ⟨by kernel_rfl, ?_⟩) (by assumption) ?_
        rotate_left
        · intro wS hSw; (try dsimp only at hSw); go_simp; (try with_reducible rfl)
        try simp only [Act.put, List.setIfInBounds_toArray, List.set_cons_zero, List.set_cons_succ]
        refine wpAnyH_take (i := 4) (oi := { dst := some 32, op := Op.load 30 (Operand.tmp 31), type := 30, pos := "check.go:41", after := #[{ on := 3, ground := Ground.data }], guard := none }) (v := ?_) rfl (by kernel_rfl) (by kernel_rfl) (by kernel_rfl) (fun _ _ _ h => h) (Or.inl ⟨by kernel_rfl, ?_⟩) (by assumption) ?_
        rotate_left
        · intro wS hSw; (try dsimp only at hSw); have c2 := hSw.cell hXg x2; go_simp; (try with_reducible rfl)
        try simp only [Act.put, List.setIfInBounds_toArray, List.set_cons_zero, List.set_cons_succ]
        refine wpAnyH_take (i := 5) (oi := { dst := some 33, op := Op.call { callee := Callee.builtin Builtin.len, args := #[Operand.tmp 32], argTypes := #[30] }, type := 3, pos := "check.go:41", after := #[{ on := 4, ground := Ground.data }], guard := none }) (v := ?_) rfl (by kernel_rfl) (by kernel_rfl) (by kernel_rfl) (fun _ _ _ h => h) (Or.inl ⟨by kernel_rfl, ?_⟩) (by assumption) ?_
        rotate_left
        · intro wS hSw; (try dsimp only at hSw); go_simp; (try with_reducible rfl)
        try simp only [Act.put, List.setIfInBounds_toArray, List.set_cons_zero, List.set_cons_succ]
        refine wpAnyH_ready (rs := [1]) (by kernel_rfl) (by simp) ?_
        refine AllReadyH.cons (o := { dst := some 29, op := Op.call { callee := Callee.value (Operand.func 78), args := #[Operand.tmp 28], argTypes := #[30] }, type := 30, pos := "check.go:41", after := #[{ on := 0, ground := Ground.data }], guard := none }) rfl (fun K hK => ?_) AllReadyH.nil
        go_simp
        refine (hC w3.drew hH3).mono ?_
        rintro e w4 ⟨rfl, q, rfl⟩
        (try dsimp only)
        refine hK.out _ _ ?_ (fun hH1 => ?_)
        · (try dsimp only); exact (Fr.refl (fun k => k = g) w3).drew.trans (hFC q)
        clear hK K
        try simp only [Act.put, List.setIfInBounds_toArray, List.set_cons_zero, List.set_cons_succ]
        refine wpAnyH_take (i := 2) (oi := { dst := some 30, op := Op.call { callee := Callee.builtin Builtin.len, args := #[Operand.tmp 29], argTypes := #[30] }, type := 3, pos := "check.go:41", after := #[{ on := 1, ground := Ground.data }], guard := none }) (v := ?_) rfl (by kernel_rfl) (by kernel_rfl) (by kernel_rfl) (fun _ _ _ h => h) (Or.inl ⟨by kernel_rfl, ?_⟩) (by assumption) ?_
        rotate_left
        · intro wS hSw; (try dsimp only at hSw); go_simp; (try with_reducible rfl)
        try simp only [Act.put, List.setIfInBounds_toArray, List.set_cons_zero, List.set_cons_succ]
        refine wpAnyH_take (i := 6) (oi := { dst := some 34, op := Op.binOp BinOp.eql 3 (Operand.tmp 30) (Operand.tmp 33) 3, type := 4, pos := "check.go:41", after := #[{ on := 2, ground := Ground.data }, { on := 5, ground := Ground.data }], guard := none }) (v := ?_) rfl (by kernel_rfl) (by kernel_rfl) (by kernel_rfl) (fun _ _ _ h => h) (Or.inl ⟨by kernel_rfl, ?_⟩) (by assumption) ?_
        rotate_left
        · intro wS hSw; (try dsimp only at hSw); go_simp; (try with_reducible rfl)
        try simp only [Act.put, List.setIfInBounds_toArray, List.set_cons_zero, List.set_cons_succ]
        refine wpAnyH_take (i := 7) (oi := { dst := some 4, op := Op.assign (Operand.tmp 34), type := 4, pos := "check.go:41", after := #[{ on := 6, ground := Ground.data }, { on := 1, ground := Ground.chain }, { on := 0, ground := Ground.phase }, { on := 1, ground := Ground.phase }, { on := 2, ground := Ground.phase }, { on := 3, ground := Ground.phase }, { on := 4, ground := Ground.phase }, { on := 5, ground := Ground.phase }, { on := 6, ground := Ground.phase }], guard := none }) (v := ?_) rfl (by kernel_rfl) (by kernel_rfl) (by kernel_rfl) (fun _ _ _ h => h) (Or.inl ⟨by kernel_rfl, ?_⟩) (by assumption) ?_
        rotate_left
        · intro wS hSw; (try dsimp only at hSw); go_simp; (try with_reducible rfl)
        try simp only [Act.put, List.setIfInBounds_toArray, List.set_cons_zero, List.set_cons_succ]
        refine wpAnyH_done (by kernel_rfl) ?_ _
        have hcl : ((cl : Int) == (m : Int) + 1) = decide (cl = m + 1) := by
          rw [Bool.eq_iff_iff, beq_iff_eq, decide_eq_true_iff]; omega
        have HF : Hid (Below w.heap.size w (putRow (Value.int .i64) (Sort.ahead w3.drew q) g 0 cd)) := ((Fr.refl (fun k => k = g) w3).drew.trans (hFC q)).below (a := w) (B := w.heap.size) HB3.out.size (fun k hk => by have := HGW.out; omega) HB3.out
        clear hFC hC hH3 hHeld
        go_wp2
        go_ret
        exact ⟨ret_bool (hcl.trans HE.out), HF.out⟩
end Go.Proofs.YtfjpdflilmcnhaaGreatDoor
