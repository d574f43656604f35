/- Unlike places of columns, one at least (arePlaces). -/
import Derived.Test.YtfjpdflilmcnhaaDoorMgE
import Derived.Test.YtfjpdflilmcnhaaDoorMgC
namespace Go.Proofs.YtfjpdflilmcnhaaDoor
open Go.ChangeShapes Go.WideShapes Go.ChangeAt Go.RowKit

open Go.Shelf Go.Sort
open Go.RowKit (Below)
/-- A slice of numbers. -/
def NsAt (w : World) (a : Option Addr) (zs : List Int) : Prop := zs = [] ∨ ∃ b off, a = some ⟨b, off, none⟩ ∧ ∀ i, i < zs.length → w.cell? ⟨b, off + i, none⟩ = some (.int .i64 (zs[i]?.getD 0))
theorem NsAt.below {w w' : World} {a : Option Addr} {zs : List Int} (h : NsAt w a zs) (hb : Below w.heap.size w w') : NsAt w' a zs := by
  rcases h with h | ⟨b, off, ha, hc⟩
  · exact Or.inl h
  · exact Or.inr ⟨b, off, ha, fun i hi => cell_below hb (hc i hi)⟩
theorem NsAt.ints {w : World} {a : Option Addr} {zs : List Int} (h : NsAt w a zs) (cap : Nat) (hz : 0 < zs.length) : Ints w.heap.size w (.slice a zs.length cap) zs := by
  rcases h with h | ⟨b, off, rfl, hc⟩
  · rw [h] at hz; cases hz
  · exact Or.inr ⟨b, off, cap, rfl, cell_lt (hc 0 hz), hc⟩
theorem holds_own {w : World} {base g cap : Nat} {zs : List Int} (h : w.ownsRow base 3 1 (.slice (some ⟨g, 0, none⟩) zs.length cap) zs.length (itC zs)) : Holds (Value.int .i64) w g 0 zs.toArray := by
  rcases h.2 with ⟨e, _⟩ | ⟨g', cap', cur, e, hbg, hg, r1, r2, r3, r4⟩
  · cases e
  · injection e with e1 _ _
    injection e1 with e1
    injection e1 with e1 _ _
    subst e1
    exact holds_of_block_i hg (by rw [Nat.mul_one] at r4; exact r4)
set_option maxRecDepth 20000 in
set_option maxHeartbeats 8000000 in
theorem arePlaces_any (k n : Int) (a : Option Addr) (cap : Nat) (d : Bool) (c : Int) (zs : List Int) (w : World) (hreach : zs.length * 8 ≤ 140737488351232) (hz : NsAt w a zs) :
    Calls Tryd.prog 53 #[vwV k n a zs.length cap d, .int .i64 c] w fun e w' => e = .returned (.bool (arB zs c)) ∧ Below w.heap.size w w' := by
  rcases Nat.eq_zero_or_pos zs.length with h0 | h0
  · have e : arB zs c = false := by rw [List.length_eq_zero_iff.1 h0]; rfl
    rw [e, h0]
    clear hz hreach e
    unfold vwV
    go_enter Tryd.func53, Tryd.ntmps53
    go_wp2
    go_ret
    exact ⟨rfl, (Bel.out (by repeat (first | exact Bel.refl _ | assumption | refine Bel.drew ?_ | refine Bel.drewN ?_ _ | refine Bel.alloc ?_ _ | refine Bel.setCell ?_ (by simp <;> omega) _ | refine Bel.step ?_ (by assumption))))⟩
  · obtain ⟨m, hm⟩ : ∃ m, zs.length = m + 1 := ⟨zs.length - 1, by omega⟩
    have hs0 : 0 < (srt zs).length := by rw [srt_len]; omega
    have hsm : m < (srt zs).length := by rw [srt_len]; omega
    have hAR : arB zs c = (!(decide ((srt zs)[0] < 0)) && !(decide ((srt zs)[m] ≥ c)) && decide ((Go.Lib.compact (srt zs)).length = m + 1)) := arB_is hm c hs0 hsm
    have HL : Hid (∀ Bs wx, Below w.heap.size w wx → Bs < wx.heap.size → wx.cell? ⟨Bs, 0, none⟩ = some (.slice a (m + 1) cap) → _) := fun Bs wx hb h1 h2 => Sorted_any Bs (.slice a zs.length cap) zs wx h0 hreach h1 (by rw [hm]; exact h2) ((hz.below hb).ints cap h0)
    rw [hm]
    unfold vwV
    go_enter Tryd.func53, Tryd.ntmps53
    have hva := Values_any a (m + 1) cap
    go_wp2_with fail
    refine (hva _).mono ?_
    rintro e w1 ⟨rfl, hw1⟩
    have HW : Hid (w1 = _) := hw1
    have x2 : (w.alloc (Obj.cells #[.int .i64 k, .int .i64 n, .slice a (m + 1) cap, .bool d] 60)).cell? ⟨w.heap.size, 2, none⟩ = some (.slice a (m + 1) cap) := by go_simp
    have hbx : Below w.heap.size w (w.alloc (Obj.cells #[.int .i64 k, .int .i64 n, .slice a (m + 1) cap, .bool d] 60)) := (Below.refl _ _).alloc (Nat.le_refl _) _
    have hszx : (w.alloc (Obj.cells #[.int .i64 k, .int .i64 n, .slice a (m + 1) cap, .bool d] 60)).heap.size = w.heap.size + 1 := by simp
    generalize (w.alloc (Obj.cells #[.int .i64 k, .int .i64 n, .slice a (m + 1) cap, .bool d] 60)) = wx at *
    have hb1 : Below w.heap.size w w1 := by rw [hw1]; exact hbx.alloc hbx.size _
    have hx2 : w1.cell? ⟨w.heap.size, 2, none⟩ = some (.slice a (m + 1) cap) := by rw [hw1]; exact cell_below ((Below.refl wx.heap.size wx).alloc (Nat.le_refl _) _) x2
    have hB : w1.cell? ⟨wx.heap.size, 0, none⟩ = some (.slice a (m + 1) cap) := by rw [hw1]; go_simp
    have hsz1 : w1.heap.size = w.heap.size + 2 := by rw [hw1]; simp [hszx]
    have hcall := HL.out wx.heap.size w1 hb1 (by omega) hB
    rw [hm, hszx] at hcall
    clear HL HW hw1 hva hz hB x2
    go_wp2_with fail
    refine hcall.mono ?_
    rintro e w3 ⟨g, gcap, rfl, hcap, hg, hO, hb3⟩
    have x3 := cell_below hb3 hx2
    have hXg : ¬ w.heap.size = g := by omega
    have hB3 : Below w.heap.size w w3 := hb1.trans (hb3.mono hb1.size)
    have hH3 : Holds (Value.int .i64) w3 g 0 (srt zs).toArray := holds_own (base := w1.heap.size) (cap := gcap) (by rw [srt_len, hm]; exact hO)
    have s0 : w3.cell? ⟨g, 0, none⟩ = some (.int .i64 (srt zs)[0]) := by
      have h := (hH3 0 (by simpa using hs0)).1
      rw [getB hs0] at h
      simpa using h
    have s1 : w3.cell? ⟨g, m, none⟩ = some (.int .i64 (srt zs)[m]) := by
      have h := (hH3 m (by simpa using hsm)).1
      rw [getB hsm] at h
      simpa using h
    have HC : Hid (∀ wy, Holds (Value.int .i64) wy g 0 (srt zs).toArray → Calls Tryd.prog 65 #[.slice (some ⟨g, 0, none⟩) (m + 1) gcap] wy fun e w' => e = .returned (.slice (some ⟨g, 0, none⟩) (Go.Lib.compact (srt zs)).length gcap) ∧ ∃ q, w' = putRow (Value.int .i64) (Sort.ahead wy q) g 0 (Go.Lib.compact (srt zs) ++ List.replicate ((srt zs).length - (Go.Lib.compact (srt zs)).length) 0).toArray) := fun wy hy => by
      have h := Tryd.slices_Compact_int g 0 gcap (srt zs) wy hy (by rw [srt_len]; omega) (by rw [srt_len, hm]; exact hcap)
      have e : (srt zs).length = m + 1 := by rw [srt_len, hm]
      rw [e] at h ⊢
      exact h
    have HB3 : Hid _ := hB3
    have HH3 : Hid _ := hH3
    have HAR : Hid _ := hAR
    have HGW : Hid (w.heap.size ≤ g) := by show _ ≤ _; have := hb1.size; omega
    clear hcall hO hb3 hx2 hH3 hB3 hb1 hbx hAR
    generalize hgs0 : (srt zs)[0] = a0 at *
    generalize hgsm : (srt zs)[m] = am at *
    clear hgs0 hgsm
    by_cases t1 : a0 < 0
    · have HE : Hid (false = arB zs c) := by
        show _ = _
        rw [HAR.out]; simp [t1]
      clear HAR HC HH3
      go_wp2
      go_ret
      exact ⟨ret_bool HE.out, HB3.out⟩
    · by_cases t2 : am ≥ c
      · have HE : Hid (false = arB zs c) := by
          show _ = _
          rw [HAR.out]; simp [t2]
        clear HAR HC HH3
        go_wp2
        go_ret
        exact ⟨ret_bool HE.out, HB3.out⟩
      · have HE : Hid (decide ((Go.Lib.compact (srt zs)).length = m + 1) = arB zs c) := by
          show _ = _
          rw [HAR.out]; simp [t1, t2]
        clear HAR
        have hC := HC.out
        have hH3 : Holds (Value.int .i64) w3.drew g 0 (srt zs).toArray := HH3.out
        have hFC : ∀ q, Fr (fun k => k = g) w3.drew (putRow (Value.int .i64) (Sort.ahead w3.drew q) g 0 (Go.Lib.compact (srt zs) ++ List.replicate ((srt zs).length - (Go.Lib.compact (srt zs)).length) 0).toArray) := fun q => by
          have h := grownBy_sorted_i (w := w3.drew) (g := g) (n := q) (os := #[]) (Go.Lib.compact (srt zs) ++ List.replicate ((srt zs).length - (Go.Lib.compact (srt zs)).length) 0).toArray
          rw [grow_empty] at h
          exact fr_grown h
        clear HC HH3
        generalize (Go.Lib.compact (srt zs) ++ List.replicate ((srt zs).length - (Go.Lib.compact (srt zs)).length) 0).toArray = cd at *
        generalize (Go.Lib.compact (srt zs)).length = cl at *
        have x2 := x3
        go_upto_region 6 with (fail)
        refine wp_region_held_drew (S := (fun wS => Fr (fun k => k = g) w3 wS)) (by kernel_rfl) ?_ (fun hHeld => ?_)
        · (try dsimp only); exact (Fr.refl (fun k => k = g) w3).drew
        refine wpAnyH_take (i := 0) (oi := { dst := some 28, op := Op.move (Operand.tmp 5), type := 22, pos := "check.go:41", after := #[], guard := none }) (v := ?_) rfl (by kernel_rfl) (by kernel_rfl) (by kernel_rfl) (fun _ _ _ h => h) (Or.inl ⟨by kernel_rfl, ?_⟩) (by assumption) ?_
        rotate_left
        · intro wS hSw; (try dsimp only at hSw); go_simp; (try with_reducible rfl)
        try simp only [Act.put, List.setIfInBounds_toArray, List.set_cons_zero, List.set_cons_succ]
        refine wpAnyH_take (i := 3) (oi := { dst := some 31, op := Op.fieldAddr 60 (Operand.tmp 2) 2, type := 0, pos := "check.go:41", after := #[], guard := none }) (v := ?_) rfl (by kernel_rfl) (by kernel_rfl) (by kernel_rfl) (fun _ _ _ h => h) (Or.inl ⟨by kernel_rfl, ?_⟩) (by assumption) ?_
        rotate_left
        · intro wS hSw; (try dsimp only at hSw); go_simp; (try with_reducible rfl)
        try simp only [Act.put, List.setIfInBounds_toArray, List.set_cons_zero, List.set_cons_succ]
        refine wpAnyH_take (i := 4) (oi := { dst := some 32, op := Op.load 22 (Operand.tmp 31), type := 22, pos := "check.go:41", after := #[{ on := 3, ground := Ground.data }], guard := none }) (v := ?_) rfl (by kernel_rfl) (by kernel_rfl) (by kernel_rfl) (fun _ _ _ h => h) (Or.inl ⟨by kernel_rfl, ?_⟩) (by assumption) ?_
        rotate_left
        · intro wS hSw; (try dsimp only at hSw); have c2 := hSw.cell hXg x2; go_simp; (try with_reducible rfl)
        try simp only [Act.put, List.setIfInBounds_toArray, List.set_cons_zero, List.set_cons_succ]
        refine wpAnyH_take (i := 5) (oi := { dst := some 33, op := Op.call { callee := Callee.builtin Builtin.len, args := #[Operand.tmp 32], argTypes := #[22] }, type := 3, pos := "check.go:41", after := #[{ on := 4, ground := Ground.data }], guard := none }) (v := ?_) rfl (by kernel_rfl) (by kernel_rfl) (by kernel_rfl) (fun _ _ _ h => h) (Or.inl ⟨by kernel_rfl, ?_⟩) (by assumption) ?_
        rotate_left
        · intro wS hSw; (try dsimp only at hSw); go_simp; (try with_reducible rfl)
        try simp only [Act.put, List.setIfInBounds_toArray, List.set_cons_zero, List.set_cons_succ]
        refine wpAnyH_ready (rs := [1]) (by kernel_rfl) (by simp) ?_
        refine AllReadyH.cons (o := { dst := some 29, op := Op.call { callee := Callee.value (Operand.func 65), args := #[Operand.tmp 28], argTypes := #[22] }, type := 22, pos := "check.go:41", after := #[{ on := 0, ground := Ground.data }], guard := none }) rfl (fun K hK => ?_) AllReadyH.nil
        go_simp
        refine (hC w3.drew hH3).mono ?_
        rintro e w4 ⟨rfl, q, rfl⟩
        (try dsimp only)
        refine hK.out _ _ ?_ (fun hH1 => ?_)
        · (try dsimp only); exact (Fr.refl (fun k => k = g) w3).drew.trans (hFC q)
        clear hK K
        try simp only [Act.put, List.setIfInBounds_toArray, List.set_cons_zero, List.set_cons_succ]
        refine wpAnyH_take (i := 2) (oi := { dst := some 30, op := Op.call { callee := Callee.builtin Builtin.len, args := #[Operand.tmp 29], argTypes := #[22] }, type := 3, pos := "check.go:41", after := #[{ on := 1, ground := Ground.data }], guard := none }) (v := ?_) rfl (by kernel_rfl) (by kernel_rfl) (by kernel_rfl) (fun _ _ _ h => h) (Or.inl ⟨by kernel_rfl, ?_⟩) (by assumption) ?_
        rotate_left
        · intro wS hSw; (try dsimp only at hSw); go_simp; (try with_reducible rfl)
        try simp only [Act.put, List.setIfInBounds_toArray, List.set_cons_zero, List.set_cons_succ]
        refine wpAnyH_take (i := 6) (oi := { dst := some 34, op := Op.binOp BinOp.eql 3 (Operand.tmp 30) (Operand.tmp 33) 3, type := 4, pos := "check.go:41", after := #[{ on := 2, ground := Ground.data }, { on := 5, ground := Ground.data }], guard := none }) (v := ?_) rfl (by kernel_rfl) (by kernel_rfl) (by kernel_rfl) (fun _ _ _ h => h) (Or.inl ⟨by kernel_rfl, ?_⟩) (by assumption) ?_
        rotate_left
        · intro wS hSw; (try dsimp only at hSw); go_simp; (try with_reducible rfl)
        try simp only [Act.put, List.setIfInBounds_toArray, List.set_cons_zero, List.set_cons_succ]
        refine wpAnyH_take (i := 7) (oi := { dst := some 4, op := Op.assign (Operand.tmp 34), type := 4, pos := "check.go:41", after := #[{ on := 6, ground := Ground.data }, { on := 1, ground := Ground.chain }, { on := 0, ground := Ground.phase }, { on := 1, ground := Ground.phase }, { on := 2, ground := Ground.phase }, { on := 3, ground := Ground.phase }, { on := 4, ground := Ground.phase }, { on := 5, ground := Ground.phase }, { on := 6, ground := Ground.phase }], guard := none }) (v := ?_) rfl (by kernel_rfl) (by kernel_rfl) (by kernel_rfl) (fun _ _ _ h => h) (Or.inl ⟨by kernel_rfl, ?_⟩) (by assumption) ?_
        rotate_left
        · intro wS hSw; (try dsimp only at hSw); go_simp; (try with_reducible rfl)
        try simp only [Act.put, List.setIfInBounds_toArray, List.set_cons_zero, List.set_cons_succ]
        refine wpAnyH_done (by kernel_rfl) ?_ _
        have hcl : ((cl : Int) == (m : Int) + 1) = decide (cl = m + 1) := by
          rw [Bool.eq_iff_iff, beq_iff_eq, decide_eq_true_iff]; omega
        have HF : Hid (Below w.heap.size w (putRow (Value.int .i64) (Sort.ahead w3.drew q) g 0 cd)) := ((Fr.refl (fun k => k = g) w3).drew.trans (hFC q)).below (a := w) (B := w.heap.size) HB3.out.size (fun k hk => by have := HGW.out; omega) HB3.out
        clear hFC hC hH3 hHeld
        go_wp2
        go_ret
        exact ⟨ret_bool (hcl.trans HE.out), HF.out⟩
end Go.Proofs.YtfjpdflilmcnhaaDoor

/- Which views may be (Check). -/
namespace Go.Proofs.YtfjpdflilmcnhaaDoor
open Go.ChangeShapes Go.WideShapes Go.ChangeAt Go.RowKit

def evB (f : Nat) (n : Int) (zs : List Int) (d : Bool) (c : Int) : Bool :=
  if f = 31 then (n == 0) && plB zs.length d else if f = 33 then utB n 65536 && plB zs.length d else if f = 35 then utB n 1099511627776 && plB zs.length d
  else if f = 41 then ((n == 0) && !d) && arB zs c else if f = 43 then (utB n 65536 && ((zs.length : Int) == 1)) && arB zs c else false
/-- May a view be? -/
def mayB (k n : Int) (zs : List Int) (d : Bool) (c : Int) : Bool := evB (kM (clsI k)) n zs d c
theorem isKeyed_any (k n : Int) (a : Option Addr) (cap : Nat) (d : Bool) (c : Int) (zs : List Int) (w : World) (hreach : zs.length * 8 ≤ 140737488351232) (hz : NsAt w a zs) :
    Calls Tryd.prog 41 #[vwV k n a zs.length cap d, .int .i64 c] w fun e w' => e = .returned (.bool (((n == 0) && !d) && arB zs c)) ∧ Below w.heap.size w w' := by
  have hp := fun wx (hb : Below w.heap.size w wx) => arePlaces_any k n a cap d c zs wx hreach (hz.below hb)
  clear hz hreach
  generalize arB zs c = r at *
  generalize zs.length = len at *
  unfold vwV at hp ⊢
  cases h : (n == 0)
  · clear hp
    go_enter Tryd.func41, Tryd.ntmps41
    go_wp2
    go_ret
    exact ⟨rfl, (Bel.out (by repeat (first | exact Bel.refl _ | assumption | refine Bel.drew ?_ | refine Bel.drewN ?_ _ | refine Bel.alloc ?_ _ | refine Bel.setCell ?_ (by simp <;> omega) _ | refine Bel.step ?_ (by assumption))))⟩
  · cases d
    · go_enter Tryd.func41, Tryd.ntmps41
      go_wp2_with fail
      refine (hp _ (Bel.out (by repeat (first | exact Bel.refl _ | assumption | refine Bel.drew ?_ | refine Bel.drewN ?_ _ | refine Bel.alloc ?_ _ | refine Bel.setCell ?_ (by simp <;> omega) _ | refine Bel.step ?_ (by assumption))))).mono ?_
      rintro e w1 ⟨rfl, hb1⟩
      clear hp
      go_wp2
      go_ret
      exact ⟨by simp, (Bel.out (by repeat (first | exact Bel.refl _ | assumption | refine Bel.drew ?_ | refine Bel.drewN ?_ _ | refine Bel.alloc ?_ _ | refine Bel.setCell ?_ (by simp <;> omega) _ | refine Bel.step ?_ (by assumption))))⟩
    · clear hp
      go_enter Tryd.func41, Tryd.ntmps41
      go_wp2
      go_ret
      exact ⟨rfl, (Bel.out (by repeat (first | exact Bel.refl _ | assumption | refine Bel.drew ?_ | refine Bel.drewN ?_ _ | refine Bel.alloc ?_ _ | refine Bel.setCell ?_ (by simp <;> omega) _ | refine Bel.step ?_ (by assumption))))⟩
theorem isSorted_any (k n : Int) (a : Option Addr) (cap : Nat) (d : Bool) (c : Int) (zs : List Int) (w : World) (hreach : zs.length * 8 ≤ 140737488351232) (hz : NsAt w a zs) :
    Calls Tryd.prog 43 #[vwV k n a zs.length cap d, .int .i64 c] w fun e w' => e = .returned (.bool ((utB n 65536 && ((zs.length : Int) == 1)) && arB zs c)) ∧ Below w.heap.size w w' := by
  have hp := fun wx (hb : Below w.heap.size w wx) => arePlaces_any k n a cap d c zs wx hreach (hz.below hb)
  have hu := isUpTo_any k n a zs.length cap d 65536
  clear hz hreach
  generalize arB zs c = r at *
  generalize zs.length = len at *
  unfold vwV at hp hu ⊢
  generalize utB n 65536 = u at *
  cases u
  · clear hp
    go_enter Tryd.func43, Tryd.ntmps43
    go_wp2_with fail
    refine (hu _).mono ?_
    rintro e w1 ⟨rfl, hb1⟩
    go_wp2
    go_ret
    exact ⟨rfl, (Bel.out (by repeat (first | exact Bel.refl _ | assumption | refine Bel.drew ?_ | refine Bel.drewN ?_ _ | refine Bel.alloc ?_ _ | refine Bel.setCell ?_ (by simp <;> omega) _ | refine Bel.step ?_ (by assumption))))⟩
  · cases h : ((len : Int) == 1)
    · clear hp
      go_enter Tryd.func43, Tryd.ntmps43
      go_wp2_with fail
      refine (hu _).mono ?_
      rintro e w1 ⟨rfl, hb1⟩
      have y2 : w1.cell? ⟨w.heap.size, 2, none⟩ = some (.slice a len cap) := cell_below hb1 (by go_simp)
      go_wp2
      go_ret
      exact ⟨rfl, (Bel.out (by repeat (first | exact Bel.refl _ | assumption | refine Bel.drew ?_ | refine Bel.drewN ?_ _ | refine Bel.alloc ?_ _ | refine Bel.setCell ?_ (by simp <;> omega) _ | refine Bel.step ?_ (by assumption))))⟩
    · go_enter Tryd.func43, Tryd.ntmps43
      go_wp2_with fail
      refine (hu _).mono ?_
      rintro e w1 ⟨rfl, hb1⟩
      have y0 : w1.cell? ⟨w.heap.size, 0, none⟩ = some (.int .i64 k) := cell_below hb1 (by go_simp)
      have y1 : w1.cell? ⟨w.heap.size, 1, none⟩ = some (.int .i64 n) := cell_below hb1 (by go_simp)
      have y2 : w1.cell? ⟨w.heap.size, 2, none⟩ = some (.slice a len cap) := cell_below hb1 (by go_simp)
      have y3 : w1.cell? ⟨w.heap.size, 3, none⟩ = some (.bool d) := cell_below hb1 (by go_simp)
      have hB1 : Below w.heap.size w w1 := ((Below.refl w.heap.size w).alloc (Nat.le_refl _) _).trans (hb1.mono (by simp))
      go_wp2_with fail
      refine (hp _ hB1).mono ?_
      rintro e w2 ⟨rfl, hb2⟩
      clear hp
      go_wp2
      go_ret
      exact ⟨by simp, hB1.trans (hb2.mono hB1.size)⟩
theorem kM_cases (c : Nat) (h : c < 10) : kM c = 28 ∨ kM c = 31 ∨ kM c = 33 ∨ kM c = 35 ∨ kM c = 41 ∨ kM c = 43 := by
  have : c = 0 ∨ c = 1 ∨ c = 2 ∨ c = 3 ∨ c = 4 ∨ c = 5 ∨ c = 6 ∨ c = 7 ∨ c = 8 ∨ c = 9 := by omega
  rcases this with rfl | rfl | rfl | rfl | rfl | rfl | rfl | rfl | rfl | rfl <;> decide
theorem each_any (f : Nat) (hf : f = 28 ∨ f = 31 ∨ f = 33 ∨ f = 35 ∨ f = 41 ∨ f = 43) (k n : Int) (a : Option Addr) (cap : Nat) (d : Bool) (c : Int) (zs : List Int) (w : World) (hreach : zs.length * 8 ≤ 140737488351232) (hz : NsAt w a zs) :
    Calls Tryd.prog f #[vwV k n a zs.length cap d, .int .i64 c] w fun e w' => e = .returned (.bool (evB f n zs d c)) ∧ Below w.heap.size w w' := by
  rcases hf with rfl | rfl | rfl | rfl | rfl | rfl
  · exact isNone_any k n a zs.length cap d c w
  · exact isBare_any k n a zs.length cap d c w
  · exact isOfLength_any k n a zs.length cap d c w
  · exact isOfTime_any k n a zs.length cap d c w
  · exact isKeyed_any k n a cap d c zs w hreach hz
  · exact isSorted_any k n a cap d c zs w hreach hz
theorem fld58 (f0 f1 f2 : Nat) (w : World) : (Instr.field 58 (.agg #[.func (.func f0) #[] #[], .func (.func f1) #[] #[], .func (.func f2) #[] #[]]) 0).run Tryd.prog w = .ok (.func (.func f0) #[] #[]) w := by kernel_rfl
theorem enters_each (f : Nat) (hf : f = 28 ∨ f = 31 ∨ f = 33 ∨ f = 35 ∨ f = 41 ∨ f = 43) (args : Array Value) (w : World) : (callFunc f args).run Tryd.prog w = .ok (.enter f args) w := by
  rcases hf with rfl | rfl | rfl | rfl | rfl | rfl
  · exact enters_of Tryd.func28 (by kernel_rfl) rfl args w
  · exact enters_of Tryd.func31 (by kernel_rfl) rfl args w
  · exact enters_of Tryd.func33 (by kernel_rfl) rfl args w
  · exact enters_of Tryd.func35 (by kernel_rfl) rfl args w
  · exact enters_of Tryd.func41 (by kernel_rfl) rfl args w
  · exact enters_of Tryd.func43 (by kernel_rfl) rfl args w
def ckE (b : Bool) : Int := if b then 0 else 150
set_option maxRecDepth 20000 in
set_option maxHeartbeats 8000000 in
theorem Check_any (k n : Int) (a : Option Addr) (cap : Nat) (d : Bool) (c : Int) (zs : List Int) (w : World) (hreach : zs.length * 8 ≤ 140737488351232) (hz : NsAt w a zs) :
    Calls Tryd.prog 7 #[vwV k n a zs.length cap d, .int .i64 c] w fun e w' => e = .returned (.int .i64 (ckE (mayB k n zs d c))) ∧ Below w.heap.size w w' := by
  have hE := fun wx (hb : Below w.heap.size w wx) => each_any (kM (clsI k)) (kM_cases _ (cls_lt k)) k n a cap d c zs wx hreach (hz.below hb)
  change ∀ wx, _ → Calls Tryd.prog (kM (clsI k)) _ wx fun e w' => e = .returned (.bool (mayB k n zs d c)) ∧ _ at hE
  have hk := kindOf_any k
  have eg := enters_each (kM (clsI k)) (kM_cases _ (cls_lt k))
  generalize mayB k n zs d c = b at *
  generalize zs.length = len at *
  clear hz hreach
  unfold kndV fnV at hk
  unfold vwV at hE ⊢
  generalize clsI k = cls at *
  generalize kM cls = f0 at *
  generalize kH cls = f1 at *
  generalize kT cls = f2 at *
  go_enter Tryd.func7, Tryd.ntmps7
  go_upto_region 1 with (fail)
  have y0 : (w.alloc (Obj.cells #[.int .i64 k, .int .i64 n, .slice a len cap, .bool d] 24)).cell? ⟨w.heap.size, 0, none⟩ = some (.int .i64 k) := by go_simp
  have y1 : (w.alloc (Obj.cells #[.int .i64 k, .int .i64 n, .slice a len cap, .bool d] 24)).cell? ⟨w.heap.size, 1, none⟩ = some (.int .i64 n) := by go_simp
  have y2 : (w.alloc (Obj.cells #[.int .i64 k, .int .i64 n, .slice a len cap, .bool d] 24)).cell? ⟨w.heap.size, 2, none⟩ = some (.slice a len cap) := by go_simp
  have y3 : (w.alloc (Obj.cells #[.int .i64 k, .int .i64 n, .slice a len cap, .bool d] 24)).cell? ⟨w.heap.size, 3, none⟩ = some (.bool d) := by go_simp
  have hb1 : Below w.heap.size w (w.alloc (Obj.cells #[.int .i64 k, .int .i64 n, .slice a len cap, .bool d] 24)) := (Below.refl _ _).alloc (Nat.le_refl _) _
  obtain ⟨X, hX⟩ : ∃ X, w.heap.size = X := ⟨_, rfl⟩
  have HB1 : Hid _ := hb1
  rw [hX] at y0 y1 y2 y3 ⊢
  clear hX
  generalize (w.alloc (Obj.cells #[.int .i64 k, .int .i64 n, .slice a len cap, .bool d] 24)) = w1 at *
  refine wp_region_held_drew (S := (fun wS => Bel w1.heap.size w1 wS)) (by kernel_rfl) ?_ (fun hHeld => ?_)
  · (try dsimp only); exact (Bel.refl _).drew
  refine wpAnyH_take (i := 0) (oi := { dst := some 5, op := Op.fieldAddr 24 (Operand.tmp 2) 0, type := 0, pos := "content.go:12", after := #[], guard := none }) (v := ?_) rfl (by kernel_rfl) (by kernel_rfl) (by kernel_rfl) (fun _ _ _ h => h) (Or.inl ⟨by kernel_rfl, ?_⟩) (by assumption) ?_
  rotate_left
  · intro wS hSw; (try dsimp only at hSw); go_simp; (try with_reducible rfl)
  try simp only [Act.put, List.setIfInBounds_toArray, List.set_cons_zero, List.set_cons_succ]
  refine wpAnyH_take (i := 1) (oi := { dst := some 6, op := Op.load 3 (Operand.tmp 5), type := 3, pos := "content.go:12", after := #[{ on := 0, ground := Ground.data }], guard := none }) (v := ?_) rfl (by kernel_rfl) (by kernel_rfl) (by kernel_rfl) (fun _ _ _ h => h) (Or.inl ⟨by kernel_rfl, ?_⟩) (by assumption) ?_
  rotate_left
  · intro wS hSw; (try dsimp only at hSw); have c0 := cell_below hSw.out y0; go_simp; (try with_reducible rfl)
  try simp only [Act.put, List.setIfInBounds_toArray, List.set_cons_zero, List.set_cons_succ]
  refine wpAnyH_take (i := 4) (oi := { dst := some 9, op := Op.load 24 (Operand.tmp 2), type := 24, pos := "content.go:12", after := #[], guard := none }) (v := ?_) rfl (by kernel_rfl) (by kernel_rfl) (by kernel_rfl) (fun _ _ _ h => h) (Or.inl ⟨by kernel_rfl, ?_⟩) (by assumption) ?_
  rotate_left
  · intro wS hSw; (try dsimp only at hSw); have c0 := cell_below hSw.out y0; have c1 := cell_below hSw.out y1; have c2 := cell_below hSw.out y2; have c3 := cell_below hSw.out y3; go_simp; (try with_reducible rfl)
  try simp only [Act.put, List.setIfInBounds_toArray, List.set_cons_zero, List.set_cons_succ]
  refine wpAnyH_take (i := 5) (oi := { dst := some 10, op := Op.move (Operand.tmp 1), type := 3, pos := "content.go:12", after := #[], guard := none }) (v := ?_) rfl (by kernel_rfl) (by kernel_rfl) (by kernel_rfl) (fun _ _ _ h => h) (Or.inl ⟨by kernel_rfl, ?_⟩) (by assumption) ?_
  rotate_left
  · intro wS hSw; (try dsimp only at hSw); go_simp; (try with_reducible rfl)
  try simp only [Act.put, List.setIfInBounds_toArray, List.set_cons_zero, List.set_cons_succ]
  refine wpAnyH_ready (rs := [2]) (by kernel_rfl) (by simp) ?_
  refine AllReadyH.cons (o := { dst := some 7, op := Op.call { callee := Callee.value (Operand.func 20), args := #[Operand.tmp 6], argTypes := #[3] }, type := 58, pos := "content.go:12", after := #[{ on := 1, ground := Ground.data }], guard := none }) rfl (fun K hK => ?_) AllReadyH.nil
  go_simp
  refine (hk _).mono ?_
  rintro e w2 ⟨rfl, hb2⟩
  (try dsimp only)
  refine hK.out _ _ ?_ (fun hH2 => ?_)
  · (try dsimp only); exact (by repeat (first | exact Bel.refl _ | assumption | refine Bel.drew ?_ | refine Bel.drewN ?_ _ | refine Bel.alloc ?_ _ | refine Bel.setCell ?_ (by simp <;> omega) _ | refine Bel.step ?_ (by assumption)))
  clear hK K
  try simp only [Act.put, List.setIfInBounds_toArray, List.set_cons_zero, List.set_cons_succ]
  refine wpAnyH_take (i := 3) (oi := { dst := some 8, op := Op.field 58 (Operand.tmp 7) 0, type := 54, pos := "content.go:12", after := #[{ on := 2, ground := Ground.data }], guard := none }) (v := ?_) rfl (by kernel_rfl) (by kernel_rfl) (by kernel_rfl) (fun _ _ _ h => h) (Or.inl ⟨by kernel_rfl, ?_⟩) (by assumption) ?_
  rotate_left
  · intro wS hSw; (try dsimp only at hSw); have hfl := fld58 f0 f1 f2 wS; go_simp; (try with_reducible rfl)
  try simp only [Act.put, List.setIfInBounds_toArray, List.set_cons_zero, List.set_cons_succ]
  refine wpAnyH_ready (rs := [6]) (by kernel_rfl) (by simp) ?_
  refine AllReadyH.cons (o := { dst := some 11, op := Op.call { callee := Callee.value (Operand.tmp 8), args := #[Operand.tmp 9, Operand.tmp 10], argTypes := #[60, 3] }, type := 4, pos := "content.go:12", after := #[{ on := 3, ground := Ground.data }, { on := 4, ground := Ground.data }, { on := 5, ground := Ground.data }, { on := 2, ground := Ground.chain }], guard := none }) rfl (fun K hK => ?_) AllReadyH.nil
  go_simp
  refine (hE w2 (HB1.out.trans (((Below.refl w1.heap.size w1).drew.trans hb2).mono HB1.out.size))).mono ?_
  rintro e w3 ⟨rfl, hb3⟩
  (try dsimp only)
  refine hK.out _ _ ?_ (fun hH6 => ?_)
  · (try dsimp only); exact (by repeat (first | exact Bel.refl _ | assumption | refine Bel.drew ?_ | refine Bel.drewN ?_ _ | refine Bel.alloc ?_ _ | refine Bel.setCell ?_ (by simp <;> omega) _ | refine Bel.step ?_ (by assumption)))
  clear hK K
  try simp only [Act.put, List.setIfInBounds_toArray, List.set_cons_zero, List.set_cons_succ]
  refine wpAnyH_done (by kernel_rfl) ?_ _
  have HB3 : Hid (Below w.heap.size w w3) := HB1.out.trans (((Below.refl w1.heap.size w1).drew.trans (hb2.trans (hb3.mono hb2.size))).mono HB1.out.size)
  clear hE hk hH2 hH6 hHeld hb2 hb3 HB1 hb1 y0 y1 y2 y3
  cases b
  · go_wp2
    go_ret
    exact ⟨rfl, HB3.out⟩
  · go_wp2
    go_ret
    exact ⟨rfl, HB3.out⟩
end Go.Proofs.YtfjpdflilmcnhaaDoor
