/- Which views may be (Check). -/
import Derived.Test.YtfjpdflilmcnhaaGreatDoorKof
import Derived.Test.YtfjpdflilmcnhaaGreatDoorApl
namespace Go.Proofs.YtfjpdflilmcnhaaGreatDoor
open Go.ChangeShapes Go.WideShapes Go.ChangeAt Go.RowKit

def evB (f : Nat) (n : Int) (zs : List Int) (d : Bool) (c : Int) : Bool :=
  if f = 38 then (n == 0) && plB zs.length d else if f = 40 then utB n 65536 && plB zs.length d else if f = 42 then utB n 1099511627776 && plB zs.length d
  else if f = 48 then ((n == 0) && !d) && arB zs c else if f = 50 then (utB n 65536 && ((zs.length : Int) == 1)) && arB zs c else false
/-- May a view be? -/
def mayB (k n : Int) (zs : List Int) (d : Bool) (c : Int) : Bool := evB (kM (clsI k)) n zs d c
theorem isKeyed_any (k n : Int) (a : Option Addr) (cap : Nat) (d : Bool) (c : Int) (zs : List Int) (w : World) (hreach : zs.length * 8 ≤ 140737488351232) (hz : NsAt w a zs) :
    Calls Tryz.prog 48 #[vwV k n a zs.length cap d, .int .i64 c] w fun e w' => e = .returned (.bool (((n == 0) && !d) && arB zs c)) ∧ Below w.heap.size w w' := by
  have hp := fun wx (hb : Below w.heap.size w wx) => arePlaces_any k n a cap d c zs wx hreach (hz.below hb)
  clear hz hreach
  generalize arB zs c = r at *
  generalize zs.length = len at *
  unfold vwV at hp ⊢
  cases h : (n == 0)
  · clear hp
    go_enter Tryz.func48, Tryz.ntmps48
    go_wp2
    go_ret
    exact ⟨rfl, (Bel.out (by repeat (first | exact Bel.refl _ | assumption | refine Bel.drew ?_ | refine Bel.drewN ?_ _ | refine Bel.alloc ?_ _ | refine Bel.setCell ?_ (by simp <;> omega) _ | refine Bel.step ?_ (by assumption))))⟩
  · cases d
    · go_enter Tryz.func48, Tryz.ntmps48
      go_wp2_with fail
      refine (hp _ (Bel.out (by repeat (first | exact Bel.refl _ | assumption | refine Bel.drew ?_ | refine Bel.drewN ?_ _ | refine Bel.alloc ?_ _ | refine Bel.setCell ?_ (by simp <;> omega) _ | refine Bel.step ?_ (by assumption))))).mono ?_
      rintro e w1 ⟨rfl, hb1⟩
      clear hp
      go_wp2
      go_ret
      exact ⟨by simp, (Bel.out (by repeat (first | exact Bel.refl _ | assumption | refine Bel.drew ?_ | refine Bel.drewN ?_ _ | refine Bel.alloc ?_ _ | refine Bel.setCell ?_ (by simp <;> omega) _ | refine Bel.step ?_ (by assumption))))⟩
    · clear hp
      go_enter Tryz.func48, Tryz.ntmps48
      go_wp2
      go_ret
      exact ⟨rfl, (Bel.out (by repeat (first | exact Bel.refl _ | assumption | refine Bel.drew ?_ | refine Bel.drewN ?_ _ | refine Bel.alloc ?_ _ | refine Bel.setCell ?_ (by simp <;> omega) _ | refine Bel.step ?_ (by assumption))))⟩
theorem isSorted_any (k n : Int) (a : Option Addr) (cap : Nat) (d : Bool) (c : Int) (zs : List Int) (w : World) (hreach : zs.length * 8 ≤ 140737488351232) (hz : NsAt w a zs) :
    Calls Tryz.prog 50 #[vwV k n a zs.length cap d, .int .i64 c] w fun e w' => e = .returned (.bool ((utB n 65536 && ((zs.length : Int) == 1)) && arB zs c)) ∧ Below w.heap.size w w' := by
  have hp := fun wx (hb : Below w.heap.size w wx) => arePlaces_any k n a cap d c zs wx hreach (hz.below hb)
  have hu := isUpTo_any k n a zs.length cap d 65536
  clear hz hreach
  generalize arB zs c = r at *
  generalize zs.length = len at *
  unfold vwV at hp hu ⊢
  generalize utB n 65536 = u at *
  cases u
  · clear hp
    go_enter Tryz.func50, Tryz.ntmps50
    go_wp2_with fail
    refine (hu _).mono ?_
    rintro e w1 ⟨rfl, hb1⟩
    go_wp2
    go_ret
    exact ⟨rfl, (Bel.out (by repeat (first | exact Bel.refl _ | assumption | refine Bel.drew ?_ | refine Bel.drewN ?_ _ | refine Bel.alloc ?_ _ | refine Bel.setCell ?_ (by simp <;> omega) _ | refine Bel.step ?_ (by assumption))))⟩
  · cases h : ((len : Int) == 1)
    · clear hp
      go_enter Tryz.func50, Tryz.ntmps50
      go_wp2_with fail
      refine (hu _).mono ?_
      rintro e w1 ⟨rfl, hb1⟩
      have y2 : w1.cell? ⟨w.heap.size, 2, none⟩ = some (.slice a len cap) := cell_below hb1 (by go_simp)
      go_wp2
      go_ret
      exact ⟨rfl, (Bel.out (by repeat (first | exact Bel.refl _ | assumption | refine Bel.drew ?_ | refine Bel.drewN ?_ _ | refine Bel.alloc ?_ _ | refine Bel.setCell ?_ (by simp <;> omega) _ | refine Bel.step ?_ (by assumption))))⟩
    · go_enter Tryz.func50, Tryz.ntmps50
      go_wp2_with fail
      refine (hu _).mono ?_
      rintro e w1 ⟨rfl, hb1⟩
      have y0 : w1.cell? ⟨w.heap.size, 0, none⟩ = some (.int .i64 k) := cell_below hb1 (by go_simp)
      have y1 : w1.cell? ⟨w.heap.size, 1, none⟩ = some (.int .i64 n) := cell_below hb1 (by go_simp)
      have y2 : w1.cell? ⟨w.heap.size, 2, none⟩ = some (.slice a len cap) := cell_below hb1 (by go_simp)
      have y3 : w1.cell? ⟨w.heap.size, 3, none⟩ = some (.bool d) := cell_below hb1 (by go_simp)
      have hB1 : Below w.heap.size w w1 := ((Below.refl w.heap.size w).alloc (Nat.le_refl _) _).trans (hb1.mono (by simp))
      go_wp2_with fail
      refine (hp _ hB1).mono ?_
      rintro e w2 ⟨rfl, hb2⟩
      clear hp
      go_wp2
      go_ret
      exact ⟨by simp, hB1.trans (hb2.mono hB1.size)⟩
theorem kM_cases (c : Nat) (h : c < 10) : kM c = 35 ∨ kM c = 38 ∨ kM c = 40 ∨ kM c = 42 ∨ kM c = 48 ∨ kM c = 50 := by
  have : c = 0 ∨ c = 1 ∨ c = 2 ∨ c = 3 ∨ c = 4 ∨ c = 5 ∨ c = 6 ∨ c = 7 ∨ c = 8 ∨ c = 9 := by omega
  rcases this with rfl | rfl | rfl | rfl | rfl | rfl | rfl | rfl | rfl | rfl <;> decide
theorem each_any (f : Nat) (hf : f = 35 ∨ f = 38 ∨ f = 40 ∨ f = 42 ∨ f = 48 ∨ f = 50) (k n : Int) (a : Option Addr) (cap : Nat) (d : Bool) (c : Int) (zs : List Int) (w : World) (hreach : zs.length * 8 ≤ 140737488351232) (hz : NsAt w a zs) :
    Calls Tryz.prog f #[vwV k n a zs.length cap d, .int .i64 c] w fun e w' => e = .returned (.bool (evB f n zs d c)) ∧ Below w.heap.size w w' := by
  rcases hf with rfl | rfl | rfl | rfl | rfl | rfl
  · exact isNone_any k n a zs.length cap d c w
  · exact isBare_any k n a zs.length cap d c w
  · exact isOfLength_any k n a zs.length cap d c w
  · exact isOfTime_any k n a zs.length cap d c w
  · exact isKeyed_any k n a cap d c zs w hreach hz
  · exact isSorted_any k n a cap d c zs w hreach hz
theorem fld58 (f0 f1 f2 : Nat) (w : World) : (Instr.field 45 (.agg #[.func (.func f0) #[] #[], .func (.func f1) #[] #[], .func (.func f2) #[] #[]]) 0).run Tryz.prog w = .ok (.func (.func f0) #[] #[]) w := by kernel_rfl
theorem enters_each (f : Nat) (hf : f = 35 ∨ f = 38 ∨ f = 40 ∨ f = 42 ∨ f = 48 ∨ f = 50) (args : Array Value) (w : World) : (callFunc f args).run Tryz.prog w = .ok (.enter f args) w := by
  rcases hf with rfl | rfl | rfl | rfl | rfl | rfl
  · exact enters_of Tryz.func35 (by kernel_rfl) rfl args w
  · exact enters_of Tryz.func38 (by kernel_rfl) rfl args w
  · exact enters_of Tryz.func40 (by kernel_rfl) rfl args w
  · exact enters_of Tryz.func42 (by kernel_rfl) rfl args w
  · exact enters_of Tryz.func48 (by kernel_rfl) rfl args w
  · exact enters_of Tryz.func50 (by kernel_rfl) rfl args w
def ckE (b : Bool) : Int := if b then 0 else 150
set_option maxRecDepth 20000 in
set_option maxHeartbeats 8000000 in
theorem Check_any (k n : Int) (a : Option Addr) (cap : Nat) (d : Bool) (c : Int) (zs : List Int) (w : World) (hreach : zs.length * 8 ≤ 140737488351232) (hz : NsAt w a zs) :
    Calls Tryz.prog 24 #[vwV k n a zs.length cap d, .int .i64 c] w fun e w' => e = .returned (.int .i64 (ckE (mayB k n zs d c))) ∧ Below w.heap.size w w' := by
  have hE := fun wx (hb : Below w.heap.size w wx) => each_any (kM (clsI k)) (kM_cases _ (cls_lt k)) k n a cap d c zs wx hreach (hz.below hb)
  change ∀ wx, _ → Calls Tryz.prog (kM (clsI k)) _ wx fun e w' => e = .returned (.bool (mayB k n zs d c)) ∧ _ at hE
  have hk := kindOf_any k
  have eg := enters_each (kM (clsI k)) (kM_cases _ (cls_lt k))
  generalize mayB k n zs d c = b at *
  generalize zs.length = len at *
  clear hz hreach
  unfold kndV fnV at hk
  unfold vwV at hE ⊢
  generalize clsI k = cls at *
  generalize kM cls = f0 at *
  generalize kH cls = f1 at *
  generalize kT cls = f2 at *
  go_enter Tryz.func24, Tryz.ntmps24
  go_upto_region 1 with (fail)
  have y0 : (w.alloc (Obj.cells #[.int .i64 k, .int .i64 n, .slice a len cap, .bool d] 32)).cell? ⟨w.heap.size, 0, none⟩ = some (.int .i64 k) := by go_simp
  have y1 : (w.alloc (Obj.cells #[.int .i64 k, .int .i64 n, .slice a len cap, .bool d] 32)).cell? ⟨w.heap.size, 1, none⟩ = some (.int .i64 n) := by go_simp
  have y2 : (w.alloc (Obj.cells #[.int .i64 k, .int .i64 n, .slice a len cap, .bool d] 32)).cell? ⟨w.heap.size, 2, none⟩ = some (.slice a len cap) := by go_simp
  have y3 : (w.alloc (Obj.cells #[.int .i64 k, .int .i64 n, .slice a len cap, .bool d] 32)).cell? ⟨w.heap.size, 3, none⟩ = some (.bool d) := by go_simp
  have hb1 : Below w.heap.size w (w.alloc (Obj.cells #[.int .i64 k, .int .i64 n, .slice a len cap, .bool d] 32)) := (Below.refl _ _).alloc (Nat.le_refl _) _
  obtain ⟨X, hX⟩ : ∃ X, w.heap.size = X := ⟨_, rfl⟩
  have HB1 : Hid _ := hb1
  rw [hX] at y0 y1 y2 y3 ⊢
  clear hX
  generalize (w.alloc (Obj.cells #[.int .i64 k, .int .i64 n, .slice a len cap, .bool d] 32)) = w1 at *
  refine wp_region_held_drew (S := (fun wS => Bel w1.heap.size w1 wS)) (by kernel_rfl) ?_ (fun hHeld => ?_)
  · (try dsimp only); exact (Bel.refl _).drew
  refine wpAnyH_take (i := 0) (oi := { dst := some 5, op := Op.fieldAddr 32 (Operand.tmp 2) 0, type := 0, pos := "content.go:12", after := #[], guard := none }) (v := ?_) rfl (by kernel_rfl) (by kernel_rfl) (by kernel_rfl) (fun _ _ _ h => h) (Or.inl ⟨by kernel_rfl, ?_⟩) (by assumption) ?_
  rotate_left
  · intro wS hSw; (try dsimp only at hSw); go_simp; (try with_reducible rfl)
  try simp only [Act.put, List.setIfInBounds_toArray, List.set_cons_zero, List.set_cons_succ]
  refine wpAnyH_take (i := 1) (oi := { dst := some 6, op := Op.load 3 (Operand.tmp 5), type := 3, pos := "content.go:12", after := #[{ on := 0, ground := Ground.data }], guard := none }) (v := ?_) rfl (by kernel_rfl) (by kernel_rfl) (by kernel_rfl) (fun _ _ _ h => h) (Or.inl ⟨by kernel_rfl, ?_⟩) (by assumption) ?_
  rotate_left
  · intro wS hSw; (try dsimp only at hSw); have c0 := cell_below hSw.out y0; go_simp; (try with_reducible rfl)
  try simp only [Act.put, List.setIfInBounds_toArray, List.set_cons_zero, List.set_cons_succ]
  refine wpAnyH_take (i := 4) (oi := { dst := some 9, op := Op.load 32 (Operand.tmp 2), type := 32, pos := "content.go:12", after := #[], guard := none }) (v := ?_) rfl (by kernel_rfl) (by kernel_rfl) (by kernel_rfl) (fun _ _ _ h => h) (Or.inl ⟨by kernel_rfl, ?_⟩) (by assumption) ?_
  rotate_left
  · intro wS hSw; (try dsimp only at hSw); have c0 := cell_below hSw.out y0; have c1 := cell_below hSw.out y1; have c2 := cell_below hSw.out y2; have c3 := cell_below hSw.out y3; go_simp; (try with_reducible rfl)
  try simp only [Act.put, List.setIfInBounds_toArray, List.set_cons_zero, List.set_cons_succ]
  refine wpAnyH_take (i := 5) (oi := { dst := some 10, op := Op.move (Operand.tmp 1), type := 3, pos := "content.go:12", after := #[], guard := none }) (v := ?_) rfl (by kernel_rfl) (by kernel_rfl) (by kernel_rfl) (fun _ _ _ h => h) (Or.inl ⟨by kernel_rfl, ?_⟩) (by assumption) ?_
  rotate_left
  · intro wS hSw; (try dsimp only at hSw); go_simp; (try with_reducible rfl)
  try simp only [Act.put, List.setIfInBounds_toArray, List.set_cons_zero, List.set_cons_succ]
  refine wpAnyH_ready (rs := [2]) (by kernel_rfl) (by simp) ?_
  refine AllReadyH.cons (o := { dst := some 7, op := Op.call { callee := Callee.value (Operand.func 28), args := #[Operand.tmp 6], argTypes := #[3] }, type := 45, pos := "content.go:12", after := #[{ on := 1, ground := Ground.data }], guard := none }) rfl (fun K hK => ?_) AllReadyH.nil
  go_simp
  refine (hk _).mono ?_
  rintro e w2 ⟨rfl, hb2⟩
  (try dsimp only)
  refine hK.out _ _ ?_ (fun hH2 => ?_)
  · (try dsimp only); exact (by repeat (first | exact Bel.refl _ | assumption | refine Bel.drew ?_ | refine Bel.drewN ?_ _ | refine Bel.alloc ?_ _ | refine Bel.setCell ?_ (by simp <;> omega) _ | refine Bel.step ?_ (by assumption)))
  clear hK K
  try simp only [Act.put, List.setIfInBounds_toArray, List.set_cons_zero, List.set_cons_succ]
  refine wpAnyH_take (i := 3) (oi := { dst := some 8, op := Op.field 45 (Operand.tmp 7) 0, type := 41, pos := "content.go:12", after := #[{ on := 2, ground := Ground.data }], guard := none }) (v := ?_) rfl (by kernel_rfl) (by kernel_rfl) (by kernel_rfl) (fun _ _ _ h => h) (Or.inl ⟨by kernel_rfl, ?_⟩) (by assumption) ?_
  rotate_left
  · intro wS hSw; (try dsimp only at hSw); have hfl := fld58 f0 f1 f2 wS; go_simp; (try with_reducible rfl)
  try simp only [Act.put, List.setIfInBounds_toArray, List.set_cons_zero, List.set_cons_succ]
  refine wpAnyH_ready (rs := [6]) (by kernel_rfl) (by simp) ?_
  refine AllReadyH.cons (o := { dst := some 11, op := Op.call { callee := Callee.value (Operand.tmp 8), args := #[Operand.tmp 9, Operand.tmp 10], argTypes := #[71, 3] }, type := 4, pos := "content.go:12", after := #[{ on := 3, ground := Ground.data }, { on := 4, ground := Ground.data }, { on := 5, ground := Ground.data }, { on := 2, ground := Ground.chain }], guard := none }) rfl (fun K hK => ?_) AllReadyH.nil
  go_simp
  refine (hE w2 (HB1.out.trans (((Below.refl w1.heap.size w1).drew.trans hb2).mono HB1.out.size))).mono ?_
  rintro e w3 ⟨rfl, hb3⟩
  (try dsimp only)
  refine hK.out _ _ ?_ (fun hH6 => ?_)
  · (try dsimp only); exact (by repeat (first | exact Bel.refl _ | assumption | refine Bel.drew ?_ | refine Bel.drewN ?_ _ | refine Bel.alloc ?_ _ | refine Bel.setCell ?_ (by simp <;> omega) _ | refine Bel.step ?_ (by assumption)))
  clear hK K
  try simp only [Act.put, List.setIfInBounds_toArray, List.set_cons_zero, List.set_cons_succ]
  refine wpAnyH_done (by kernel_rfl) ?_ _
  have HB3 : Hid (Below w.heap.size w w3) := HB1.out.trans (((Below.refl w1.heap.size w1).drew.trans (hb2.trans (hb3.mono hb2.size))).mono HB1.out.size)
  clear hE hk hH2 hH6 hHeld hb2 hb3 HB1 hb1 y0 y1 y2 y3
  cases b
  · go_wp2
    go_ret
    exact ⟨rfl, HB3.out⟩
  · go_wp2
    go_ret
    exact ⟨rfl, HB3.out⟩
end Go.Proofs.YtfjpdflilmcnhaaGreatDoor
