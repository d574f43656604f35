/- An expression put in an expression's place, a pattern in a pattern's (the walk). -/
import Derived.Test.YtcemogaacicnfaaGreatDoorSt5
import Derived.Test.YtcemogaacicnfaaGreatDoorSux
namespace Go.Proofs.YtcemogaacicnfaaGreatDoor
open Go.ChangeShapes Go.WideShapes Go.ChangeAt Go.RowKit

set_option linter.unusedSimpArgs false in
set_option maxRecDepth 20000 in
set_option maxHeartbeats 8000000 in
theorem nests_walk (ka na pa kb nb pb : Int) (ta tb op : ByteArray) (sa sb : Option Addr) (la ca lb cb : Nat) (w : World) (hR : Rdy w) (f g h1 h2 za zb zc da db dc : Int)
    (hFA : ∀ W, Below w.heap.size w W → Calls Tryz.prog 8 #[.agg #[.int .i64 ka, .string ta, .int .i64 na, .int .i64 pa, .slice sa la ca]] W fun e w' => e = .returned (.int .i64 f) ∧ Below W.heap.size W w')
    (hFB : ∀ W, Below w.heap.size w W → Calls Tryz.prog 8 #[.agg #[.int .i64 kb, .string tb, .int .i64 nb, .int .i64 pb, .slice sb lb cb]] W fun e w' => e = .returned (.int .i64 g) ∧ Below W.heap.size W w')
    (hBo : ∀ W G, Below w.heap.size w W → At W G [.int .i64 ka, .string ta, .int .i64 na, .int .i64 pa, .slice sa la ca, .int .i64 kb, .string tb, .int .i64 nb, .int .i64 pb, .slice sb lb cb] → Calls Tryz.prog 8 #[.agg #[.int .i64 8, .string ⟨#[97, 110, 100]⟩, .int .i64 0, .int .i64 0, .slice (some ⟨G, 0, none⟩) 2 2]] W fun e w' => e = .returned (.int .i64 h1) ∧ Below W.heap.size W w')
    (hTh : ∀ W G H, Below w.heap.size w W → At W G [.int .i64 ka, .string ta, .int .i64 na, .int .i64 pa, .slice sa la ca, .int .i64 31, .string ⟨#[]⟩, .int .i64 0, .int .i64 0, .slice (some ⟨H, 0, none⟩) 1 1] → At W H [.int .i64 kb, .string tb, .int .i64 nb, .int .i64 pb, .slice sb lb cb] → Calls Tryz.prog 8 #[.agg #[.int .i64 32, .string ⟨#[]⟩, .int .i64 0, .int .i64 0, .slice (some ⟨G, 0, none⟩) 2 2]] W fun e w' => e = .returned (.int .i64 h2) ∧ Below W.heap.size W w')
    (hNo : ∀ W G, Below w.heap.size w W → At W G [.int .i64 ka, .string ta, .int .i64 na, .int .i64 pa, .slice sa la ca, .int .i64 kb, .string tb, .int .i64 nb, .int .i64 pb, .slice sb lb cb, .int .i64 ka, .string ta, .int .i64 na, .int .i64 pa, .slice sa la ca] → Calls Tryz.prog 8 #[.agg #[.int .i64 8, .string op, .int .i64 0, .int .i64 0, .slice (some ⟨G, 0, none⟩) 3 3]] W fun e w' => e = .returned (.int .i64 0) ∧ Below W.heap.size W w')
    (hSA : ∀ W, Below w.heap.size w W → Calls Tryz.prog 10 #[.agg #[.int .i64 ka, .string ta, .int .i64 na, .int .i64 pa, .slice sa la ca]] W fun e w' => e = .returned (.int .i64 za) ∧ Below W.heap.size W w')
    (hSB : ∀ W, Below w.heap.size w W → Calls Tryz.prog 10 #[.agg #[.int .i64 kb, .string tb, .int .i64 nb, .int .i64 pb, .slice sb lb cb]] W fun e w' => e = .returned (.int .i64 zb) ∧ Below W.heap.size W w')
    (hSC : ∀ W G, Below w.heap.size w W → At W G [.int .i64 ka, .string ta, .int .i64 na, .int .i64 pa, .slice sa la ca, .int .i64 kb, .string tb, .int .i64 nb, .int .i64 pb, .slice sb lb cb] → Calls Tryz.prog 10 #[.agg #[.int .i64 8, .string ⟨#[97, 110, 100]⟩, .int .i64 0, .int .i64 0, .slice (some ⟨G, 0, none⟩) 2 2]] W fun e w' => e = .returned (.int .i64 zc) ∧ Below W.heap.size W w')
    (hDA : ∀ W, Below w.heap.size w W → Calls Tryz.prog 12 #[.agg #[.int .i64 ka, .string ta, .int .i64 na, .int .i64 pa, .slice sa la ca]] W fun e w' => e = .returned (.int .i64 da) ∧ Below W.heap.size W w')
    (hDB : ∀ W, Below w.heap.size w W → Calls Tryz.prog 12 #[.agg #[.int .i64 kb, .string tb, .int .i64 nb, .int .i64 pb, .slice sb lb cb]] W fun e w' => e = .returned (.int .i64 db) ∧ Below W.heap.size W w')
    (hDC : ∀ W G, Below w.heap.size w W → At W G [.int .i64 ka, .string ta, .int .i64 na, .int .i64 pa, .slice sa la ca, .int .i64 kb, .string tb, .int .i64 nb, .int .i64 pb, .slice sb lb cb] → Calls Tryz.prog 12 #[.agg #[.int .i64 8, .string ⟨#[97, 110, 100]⟩, .int .i64 0, .int .i64 0, .slice (some ⟨G, 0, none⟩) 2 2]] W fun e w' => e = .returned (.int .i64 dc) ∧ Below W.heap.size W w')
    (e1 : (h1 == 1) = ((f == 1) && (g == 1))) (e0 : (h1 == 0) = !((f == 1) && (g == 1))) (e2 : (h2 == 2) = ((f == 2) && (g == 2)))
    (hf : ((f == 1) = true ∧ (f == 2) = false) ∨ ((f == 1) = false ∧ (f == 2) = true) ∨ ((f == 1) = false ∧ (f == 2) = false)) (hg : ((g == 1) = true ∧ (g == 2) = false) ∨ ((g == 1) = false ∧ (g == 2) = true) ∨ ((g == 1) = false ∧ (g == 2) = false))
    (hz : zc = 1 + za + zb) (hd : dc = 1 + max da db) (rz : 0 ≤ za ∧ za ≤ 2097152 ∧ 0 ≤ zb ∧ zb ≤ 2097152) (rd : 0 ≤ da ∧ da ≤ 2097152 ∧ 0 ≤ db ∧ db ≤ 2097152) :
    Calls Tryz.prog 6 #[.agg #[.int .i64 ka, .string ta, .int .i64 na, .int .i64 pa, .slice sa la ca], .agg #[.int .i64 kb, .string tb, .int .i64 nb, .int .i64 pb, .slice sb lb cb], .string op] w fun e w' => e = .returned (.bool true) ∧ Below w.heap.size w w' := by
  subst hz hd
  have wr1 : IntKind.i64.wrap (1 + za) = 1 + za := by rw [IntKind.wrap_i64]; omega
  have wr2 : IntKind.i64.wrap (1 + za + zb) = 1 + za + zb := by rw [IntKind.wrap_i64]; omega
  have wr3 : IntKind.i64.wrap (1 + max da db) = 1 + max da db := by rw [IntKind.wrap_i64]; omega
  have HFA : Hid _ := hFA
  have HFB : Hid _ := hFB
  have HBo : Hid _ := hBo
  have HTh : Hid _ := hTh
  have HNo : Hid _ := hNo
  have HSA : Hid _ := hSA
  have HSB : Hid _ := hSB
  have HSC : Hid _ := hSC
  have HDA : Hid _ := hDA
  have HDB : Hid _ := hDB
  have HDC : Hid _ := hDC
  have hW1 : Below w.heap.size w ((w.alloc (Obj.cells #[Value.int IntKind.i64 ka, Value.string ta, Value.int IntKind.i64 na, Value.int IntKind.i64 pa, Value.slice sa la ca] 24)).alloc (Obj.cells #[Value.int IntKind.i64 kb, Value.string tb, Value.int IntKind.i64 nb, Value.int IntKind.i64 pb, Value.slice sb lb cb] 24)) := ((Below.refl _ w).alloc (Nat.le_refl _) _).alloc (by simp) _
  have bA := (Box5.new w (.int .i64 ka) (.string ta) (.int .i64 na) (.int .i64 pa) (.slice sa la ca) 24).below ((Below.refl _ _).alloc (Nat.le_refl _) (Obj.cells #[Value.int IntKind.i64 kb, Value.string tb, Value.int IntKind.i64 nb, Value.int IntKind.i64 pb, Value.slice sb lb cb] 24))
  have bB := Box5.new (w.alloc (Obj.cells #[Value.int IntKind.i64 ka, Value.string ta, Value.int IntKind.i64 na, Value.int IntKind.i64 pa, Value.slice sa la ca] 24)) (.int .i64 kb) (.string tb) (.int .i64 nb) (.int .i64 pb) (.slice sb lb cb) 24
  rw [World.size_alloc] at bB
  have HBA : Hid (Box5 ((w.alloc (Obj.cells #[Value.int IntKind.i64 ka, Value.string ta, Value.int IntKind.i64 na, Value.int IntKind.i64 pa, Value.slice sa la ca] 24)).alloc (Obj.cells #[Value.int IntKind.i64 kb, Value.string tb, Value.int IntKind.i64 nb, Value.int IntKind.i64 pb, Value.slice sb lb cb] 24)).drew w.heap.size (.int .i64 ka) (.string ta) (.int .i64 na) (.int .i64 pa) (.slice sa la ca)) := bA.drew
  have HBB : Hid (Box5 ((w.alloc (Obj.cells #[Value.int IntKind.i64 ka, Value.string ta, Value.int IntKind.i64 na, Value.int IntKind.i64 pa, Value.slice sa la ca] 24)).alloc (Obj.cells #[Value.int IntKind.i64 kb, Value.string tb, Value.int IntKind.i64 nb, Value.int IntKind.i64 pb, Value.slice sb lb cb] 24)).drew (w.heap.size + 1) (.int .i64 kb) (.string tb) (.int .i64 nb) (.int .i64 pb) (.slice sb lb cb)) := bB.drew
  have HBW : Hid (Below w.heap.size w ((w.alloc (Obj.cells #[Value.int IntKind.i64 ka, Value.string ta, Value.int IntKind.i64 na, Value.int IntKind.i64 pa, Value.slice sa la ca] 24)).alloc (Obj.cells #[Value.int IntKind.i64 kb, Value.string tb, Value.int IntKind.i64 nb, Value.int IntKind.i64 pb, Value.slice sb lb cb] 24)).drew) := hW1.drew
  clear hFA hFB hBo hTh hNo hSA hSB hSC hDA hDB hDC hW1 bA bB
  go_enter Tryz.func6, Tryz.ntmps6
  go_wp2_with fail
  refine wp_region_held_drew (S := (fun wS => Box5 wS w.heap.size (.int .i64 ka) (.string ta) (.int .i64 na) (.int .i64 pa) (.slice sa la ca) ∧ Box5 wS (w.heap.size + 1) (.int .i64 kb) (.string tb) (.int .i64 nb) (.int .i64 pb) (.slice sb lb cb))) (by kernel_rfl) ?_ (fun hHeld => ?_)
  · (try dsimp only); exact ⟨HBA.out, HBB.out⟩
  refine wpAnyH_take (i := 0) (oi := { dst := some 13, op := Op.load 24 (Operand.tmp 3), type := 24, pos := "law.go:69", after := #[], guard := none }) (v := ?_) rfl (by kernel_rfl) (by kernel_rfl) (by kernel_rfl) (fun _ _ _ h => h) (Or.inl ⟨by kernel_rfl, ?_⟩) (by assumption) ?_
  rotate_left
  · intro wS hSw; (try dsimp only at hSw); have q0 := hSw.1.c0; have q1 := hSw.1.c1; have q2 := hSw.1.c2; have q3 := hSw.1.c3; have q4 := hSw.1.c4; go_simp; (try with_reducible rfl)
  try simp only [Act.put, List.setIfInBounds_toArray, List.set_cons_zero, List.set_cons_succ]
  refine wpAnyH_take (i := 2) (oi := { dst := some 15, op := Op.load 24 (Operand.tmp 4), type := 24, pos := "law.go:69", after := #[], guard := none }) (v := ?_) rfl (by kernel_rfl) (by kernel_rfl) (by kernel_rfl) (fun _ _ _ h => h) (Or.inl ⟨by kernel_rfl, ?_⟩) (by assumption) ?_
  rotate_left
  · intro wS hSw; (try dsimp only at hSw); have q0 := hSw.2.c0; have q1 := hSw.2.c1; have q2 := hSw.2.c2; have q3 := hSw.2.c3; have q4 := hSw.2.c4; go_simp; (try with_reducible rfl)
  try simp only [Act.put, List.setIfInBounds_toArray, List.set_cons_zero, List.set_cons_succ]
  refine wpAnyH_ready (rs := [1]) (by kernel_rfl) (by simp) ?_
  refine AllReadyH.cons (o := { dst := some 14, op := Op.call { callee := Callee.value (Operand.func 8), args := #[Operand.tmp 13], argTypes := #[24] }, type := 3, pos := "law.go:69", after := #[{ on := 0, ground := Ground.data }], guard := none }) rfl (fun K hK => ?_) AllReadyH.nil
  go_simp
  go_at_call 8
  refine (HFA.out _ HBW.out).mono ?_
  rintro e v1 ⟨rfl, hb1⟩
  replace HBA : Hid _ := HBA.out.below hb1
  replace HBB : Hid _ := HBB.out.below hb1
  replace HBW : Hid _ := HBW.out.trans (hb1.mono HBW.out.size)
  refine hK.out _ _ ?_ (fun hH1 => ?_)
  · (try dsimp only); exact ⟨HBA.out, HBB.out⟩
  clear hK K
  try simp only [Act.put, List.setIfInBounds_toArray, List.set_cons_zero, List.set_cons_succ]
  refine wpAnyH_ready (rs := [3]) (by kernel_rfl) (by simp) ?_
  refine AllReadyH.cons (o := { dst := some 16, op := Op.call { callee := Callee.value (Operand.func 8), args := #[Operand.tmp 15], argTypes := #[24] }, type := 3, pos := "law.go:69", after := #[{ on := 2, ground := Ground.data }, { on := 1, ground := Ground.chain }], guard := none }) rfl (fun K hK => ?_) AllReadyH.nil
  go_simp
  go_at_call 8
  refine (HFB.out _ HBW.out).mono ?_
  rintro e v2 ⟨rfl, hb1⟩
  replace HBA : Hid _ := HBA.out.below hb1
  replace HBB : Hid _ := HBB.out.below hb1
  replace HBW : Hid _ := HBW.out.trans (hb1.mono HBW.out.size)
  refine hK.out _ _ ?_ (fun hH3 => ?_)
  · (try dsimp only); exact ⟨HBA.out, HBB.out⟩
  clear hK K
  try simp only [Act.put, List.setIfInBounds_toArray, List.set_cons_zero, List.set_cons_succ]
  refine wpAnyH_take (i := 4) (oi := { dst := some 7, op := Op.assign (Operand.tmp 14), type := 3, pos := "law.go:69", after := #[{ on := 1, ground := Ground.data }, { on := 3, ground := Ground.chain }, { on := 0, ground := Ground.phase }, { on := 1, ground := Ground.phase }, { on := 2, ground := Ground.textOnly Departure.lateStores }, { on := 3, ground := Ground.textOnly Departure.lateStoresUnsure }], guard := none }) (v := ?_) rfl (by kernel_rfl) (by kernel_rfl) (by kernel_rfl) (fun _ _ _ h => h) (Or.inl ⟨by kernel_rfl, ?_⟩) (by assumption) ?_
  rotate_left
  · intro wS hSw; (try dsimp only at hSw); go_simp; (try with_reducible rfl)
  try simp only [Act.put, List.setIfInBounds_toArray, List.set_cons_zero, List.set_cons_succ]
  refine wpAnyH_take (i := 5) (oi := { dst := some 8, op := Op.assign (Operand.tmp 16), type := 3, pos := "law.go:69", after := #[{ on := 3, ground := Ground.data }, { on := 4, ground := Ground.chain }, { on := 0, ground := Ground.phase }, { on := 1, ground := Ground.phase }, { on := 2, ground := Ground.phase }, { on := 3, ground := Ground.phase }, { on := 4, ground := Ground.phase }], guard := none }) (v := ?_) rfl (by kernel_rfl) (by kernel_rfl) (by kernel_rfl) (fun _ _ _ h => h) (Or.inl ⟨by kernel_rfl, ?_⟩) (by assumption) ?_
  rotate_left
  · intro wS hSw; (try dsimp only at hSw); go_simp; (try with_reducible rfl)
  try simp only [Act.put, List.setIfInBounds_toArray, List.set_cons_zero, List.set_cons_succ]
  refine wpAnyH_done (by kernel_rfl) ?_ _
  obtain ⟨a0, a1, a2, a3, a4, -, -, -, -, -⟩ := HBA.out
  obtain ⟨b0, b1, b2, b3, b4, -, -, -, -, -⟩ := HBB.out
  clear hb1
  have hx1 : Below v2.heap.size v2 (v2.alloc (Obj.cells #[Value.int IntKind.i64 ka, Value.string ta, Value.int IntKind.i64 na, Value.int IntKind.i64 pa, Value.slice sa la ca, Value.int IntKind.i64 kb, Value.string tb, Value.int IntKind.i64 nb, Value.int IntKind.i64 pb, Value.slice sb lb cb] 24)) := (Below.refl _ _).alloc (Nat.le_refl _) _
  have hx2 : Below (v2.alloc (Obj.cells #[Value.int IntKind.i64 ka, Value.string ta, Value.int IntKind.i64 na, Value.int IntKind.i64 pa, Value.slice sa la ca, Value.int IntKind.i64 kb, Value.string tb, Value.int IntKind.i64 nb, Value.int IntKind.i64 pb, Value.slice sb lb cb] 24)).heap.size (v2.alloc (Obj.cells #[Value.int IntKind.i64 ka, Value.string ta, Value.int IntKind.i64 na, Value.int IntKind.i64 pa, Value.slice sa la ca, Value.int IntKind.i64 kb, Value.string tb, Value.int IntKind.i64 nb, Value.int IntKind.i64 pb, Value.slice sb lb cb] 24)) ((v2.alloc (Obj.cells #[Value.int IntKind.i64 ka, Value.string ta, Value.int IntKind.i64 na, Value.int IntKind.i64 pa, Value.slice sa la ca, Value.int IntKind.i64 kb, Value.string tb, Value.int IntKind.i64 nb, Value.int IntKind.i64 pb, Value.slice sb lb cb] 24)).alloc (Obj.cells #[Value.int IntKind.i64 8, Value.string ⟨#[97, 110, 100]⟩, Value.int IntKind.i64 0, Value.int IntKind.i64 0, Value.slice (some ⟨v2.heap.size, 0, none⟩) 2 2] 24)) := (Below.refl _ _).alloc (Nat.le_refl _) _
  have hx3 : Below ((v2.alloc (Obj.cells #[Value.int IntKind.i64 ka, Value.string ta, Value.int IntKind.i64 na, Value.int IntKind.i64 pa, Value.slice sa la ca, Value.int IntKind.i64 kb, Value.string tb, Value.int IntKind.i64 nb, Value.int IntKind.i64 pb, Value.slice sb lb cb] 24)).alloc (Obj.cells #[Value.int IntKind.i64 8, Value.string ⟨#[97, 110, 100]⟩, Value.int IntKind.i64 0, Value.int IntKind.i64 0, Value.slice (some ⟨v2.heap.size, 0, none⟩) 2 2] 24)).heap.size ((v2.alloc (Obj.cells #[Value.int IntKind.i64 ka, Value.string ta, Value.int IntKind.i64 na, Value.int IntKind.i64 pa, Value.slice sa la ca, Value.int IntKind.i64 kb, Value.string tb, Value.int IntKind.i64 nb, Value.int IntKind.i64 pb, Value.slice sb lb cb] 24)).alloc (Obj.cells #[Value.int IntKind.i64 8, Value.string ⟨#[97, 110, 100]⟩, Value.int IntKind.i64 0, Value.int IntKind.i64 0, Value.slice (some ⟨v2.heap.size, 0, none⟩) 2 2] 24)) (((v2.alloc (Obj.cells #[Value.int IntKind.i64 ka, Value.string ta, Value.int IntKind.i64 na, Value.int IntKind.i64 pa, Value.slice sa la ca, Value.int IntKind.i64 kb, Value.string tb, Value.int IntKind.i64 nb, Value.int IntKind.i64 pb, Value.slice sb lb cb] 24)).alloc (Obj.cells #[Value.int IntKind.i64 8, Value.string ⟨#[97, 110, 100]⟩, Value.int IntKind.i64 0, Value.int IntKind.i64 0, Value.slice (some ⟨v2.heap.size, 0, none⟩) 2 2] 24)).alloc (Obj.cells #[Value.int IntKind.i64 kb, Value.string tb, Value.int IntKind.i64 nb, Value.int IntKind.i64 pb, Value.slice sb lb cb] 24)) := (Below.refl _ _).alloc (Nat.le_refl _) _
  have hx4 : Below (((v2.alloc (Obj.cells #[Value.int IntKind.i64 ka, Value.string ta, Value.int IntKind.i64 na, Value.int IntKind.i64 pa, Value.slice sa la ca, Value.int IntKind.i64 kb, Value.string tb, Value.int IntKind.i64 nb, Value.int IntKind.i64 pb, Value.slice sb lb cb] 24)).alloc (Obj.cells #[Value.int IntKind.i64 8, Value.string ⟨#[97, 110, 100]⟩, Value.int IntKind.i64 0, Value.int IntKind.i64 0, Value.slice (some ⟨v2.heap.size, 0, none⟩) 2 2] 24)).alloc (Obj.cells #[Value.int IntKind.i64 kb, Value.string tb, Value.int IntKind.i64 nb, Value.int IntKind.i64 pb, Value.slice sb lb cb] 24)).heap.size (((v2.alloc (Obj.cells #[Value.int IntKind.i64 ka, Value.string ta, Value.int IntKind.i64 na, Value.int IntKind.i64 pa, Value.slice sa la ca, Value.int IntKind.i64 kb, Value.string tb, Value.int IntKind.i64 nb, Value.int IntKind.i64 pb, Value.slice sb lb cb] 24)).alloc (Obj.cells #[Value.int IntKind.i64 8, Value.string ⟨#[97, 110, 100]⟩, Value.int IntKind.i64 0, Value.int IntKind.i64 0, Value.slice (some ⟨v2.heap.size, 0, none⟩) 2 2] 24)).alloc (Obj.cells #[Value.int IntKind.i64 kb, Value.string tb, Value.int IntKind.i64 nb, Value.int IntKind.i64 pb, Value.slice sb lb cb] 24)) ((((v2.alloc (Obj.cells #[Value.int IntKind.i64 ka, Value.string ta, Value.int IntKind.i64 na, Value.int IntKind.i64 pa, Value.slice sa la ca, Value.int IntKind.i64 kb, Value.string tb, Value.int IntKind.i64 nb, Value.int IntKind.i64 pb, Value.slice sb lb cb] 24)).alloc (Obj.cells #[Value.int IntKind.i64 8, Value.string ⟨#[97, 110, 100]⟩, Value.int IntKind.i64 0, Value.int IntKind.i64 0, Value.slice (some ⟨v2.heap.size, 0, none⟩) 2 2] 24)).alloc (Obj.cells #[Value.int IntKind.i64 kb, Value.string tb, Value.int IntKind.i64 nb, Value.int IntKind.i64 pb, Value.slice sb lb cb] 24)).alloc (Obj.cells #[Value.int IntKind.i64 ka, Value.string ta, Value.int IntKind.i64 na, Value.int IntKind.i64 pa, Value.slice sa la ca, Value.int IntKind.i64 31, Value.string ⟨#[]⟩, Value.int IntKind.i64 0, Value.int IntKind.i64 0, Value.slice (some ⟨(v2.heap.size + 1 + 1), 0, none⟩) 1 1] 24)) := (Below.refl _ _).alloc (Nat.le_refl _) _
  have hx5 : Below ((((v2.alloc (Obj.cells #[Value.int IntKind.i64 ka, Value.string ta, Value.int IntKind.i64 na, Value.int IntKind.i64 pa, Value.slice sa la ca, Value.int IntKind.i64 kb, Value.string tb, Value.int IntKind.i64 nb, Value.int IntKind.i64 pb, Value.slice sb lb cb] 24)).alloc (Obj.cells #[Value.int IntKind.i64 8, Value.string ⟨#[97, 110, 100]⟩, Value.int IntKind.i64 0, Value.int IntKind.i64 0, Value.slice (some ⟨v2.heap.size, 0, none⟩) 2 2] 24)).alloc (Obj.cells #[Value.int IntKind.i64 kb, Value.string tb, Value.int IntKind.i64 nb, Value.int IntKind.i64 pb, Value.slice sb lb cb] 24)).alloc (Obj.cells #[Value.int IntKind.i64 ka, Value.string ta, Value.int IntKind.i64 na, Value.int IntKind.i64 pa, Value.slice sa la ca, Value.int IntKind.i64 31, Value.string ⟨#[]⟩, Value.int IntKind.i64 0, Value.int IntKind.i64 0, Value.slice (some ⟨(v2.heap.size + 1 + 1), 0, none⟩) 1 1] 24)).heap.size ((((v2.alloc (Obj.cells #[Value.int IntKind.i64 ka, Value.string ta, Value.int IntKind.i64 na, Value.int IntKind.i64 pa, Value.slice sa la ca, Value.int IntKind.i64 kb, Value.string tb, Value.int IntKind.i64 nb, Value.int IntKind.i64 pb, Value.slice sb lb cb] 24)).alloc (Obj.cells #[Value.int IntKind.i64 8, Value.string ⟨#[97, 110, 100]⟩, Value.int IntKind.i64 0, Value.int IntKind.i64 0, Value.slice (some ⟨v2.heap.size, 0, none⟩) 2 2] 24)).alloc (Obj.cells #[Value.int IntKind.i64 kb, Value.string tb, Value.int IntKind.i64 nb, Value.int IntKind.i64 pb, Value.slice sb lb cb] 24)).alloc (Obj.cells #[Value.int IntKind.i64 ka, Value.string ta, Value.int IntKind.i64 na, Value.int IntKind.i64 pa, Value.slice sa la ca, Value.int IntKind.i64 31, Value.string ⟨#[]⟩, Value.int IntKind.i64 0, Value.int IntKind.i64 0, Value.slice (some ⟨(v2.heap.size + 1 + 1), 0, none⟩) 1 1] 24)) (((((v2.alloc (Obj.cells #[Value.int IntKind.i64 ka, Value.string ta, Value.int IntKind.i64 na, Value.int IntKind.i64 pa, Value.slice sa la ca, Value.int IntKind.i64 kb, Value.string tb, Value.int IntKind.i64 nb, Value.int IntKind.i64 pb, Value.slice sb lb cb] 24)).alloc (Obj.cells #[Value.int IntKind.i64 8, Value.string ⟨#[97, 110, 100]⟩, Value.int IntKind.i64 0, Value.int IntKind.i64 0, Value.slice (some ⟨v2.heap.size, 0, none⟩) 2 2] 24)).alloc (Obj.cells #[Value.int IntKind.i64 kb, Value.string tb, Value.int IntKind.i64 nb, Value.int IntKind.i64 pb, Value.slice sb lb cb] 24)).alloc (Obj.cells #[Value.int IntKind.i64 ka, Value.string ta, Value.int IntKind.i64 na, Value.int IntKind.i64 pa, Value.slice sa la ca, Value.int IntKind.i64 31, Value.string ⟨#[]⟩, Value.int IntKind.i64 0, Value.int IntKind.i64 0, Value.slice (some ⟨(v2.heap.size + 1 + 1), 0, none⟩) 1 1] 24)).alloc (Obj.cells #[Value.int IntKind.i64 32, Value.string ⟨#[]⟩, Value.int IntKind.i64 0, Value.int IntKind.i64 0, Value.slice (some ⟨(v2.heap.size + 1 + 1 + 1), 0, none⟩) 2 2] 24)) := (Below.refl _ _).alloc (Nat.le_refl _) _
  have hx6 : Below (((((v2.alloc (Obj.cells #[Value.int IntKind.i64 ka, Value.string ta, Value.int IntKind.i64 na, Value.int IntKind.i64 pa, Value.slice sa la ca, Value.int IntKind.i64 kb, Value.string tb, Value.int IntKind.i64 nb, Value.int IntKind.i64 pb, Value.slice sb lb cb] 24)).alloc (Obj.cells #[Value.int IntKind.i64 8, Value.string ⟨#[97, 110, 100]⟩, Value.int IntKind.i64 0, Value.int IntKind.i64 0, Value.slice (some ⟨v2.heap.size, 0, none⟩) 2 2] 24)).alloc (Obj.cells #[Value.int IntKind.i64 kb, Value.string tb, Value.int IntKind.i64 nb, Value.int IntKind.i64 pb, Value.slice sb lb cb] 24)).alloc (Obj.cells #[Value.int IntKind.i64 ka, Value.string ta, Value.int IntKind.i64 na, Value.int IntKind.i64 pa, Value.slice sa la ca, Value.int IntKind.i64 31, Value.string ⟨#[]⟩, Value.int IntKind.i64 0, Value.int IntKind.i64 0, Value.slice (some ⟨(v2.heap.size + 1 + 1), 0, none⟩) 1 1] 24)).alloc (Obj.cells #[Value.int IntKind.i64 32, Value.string ⟨#[]⟩, Value.int IntKind.i64 0, Value.int IntKind.i64 0, Value.slice (some ⟨(v2.heap.size + 1 + 1 + 1), 0, none⟩) 2 2] 24)).heap.size (((((v2.alloc (Obj.cells #[Value.int IntKind.i64 ka, Value.string ta, Value.int IntKind.i64 na, Value.int IntKind.i64 pa, Value.slice sa la ca, Value.int IntKind.i64 kb, Value.string tb, Value.int IntKind.i64 nb, Value.int IntKind.i64 pb, Value.slice sb lb cb] 24)).alloc (Obj.cells #[Value.int IntKind.i64 8, Value.string ⟨#[97, 110, 100]⟩, Value.int IntKind.i64 0, Value.int IntKind.i64 0, Value.slice (some ⟨v2.heap.size, 0, none⟩) 2 2] 24)).alloc (Obj.cells #[Value.int IntKind.i64 kb, Value.string tb, Value.int IntKind.i64 nb, Value.int IntKind.i64 pb, Value.slice sb lb cb] 24)).alloc (Obj.cells #[Value.int IntKind.i64 ka, Value.string ta, Value.int IntKind.i64 na, Value.int IntKind.i64 pa, Value.slice sa la ca, Value.int IntKind.i64 31, Value.string ⟨#[]⟩, Value.int IntKind.i64 0, Value.int IntKind.i64 0, Value.slice (some ⟨(v2.heap.size + 1 + 1), 0, none⟩) 1 1] 24)).alloc (Obj.cells #[Value.int IntKind.i64 32, Value.string ⟨#[]⟩, Value.int IntKind.i64 0, Value.int IntKind.i64 0, Value.slice (some ⟨(v2.heap.size + 1 + 1 + 1), 0, none⟩) 2 2] 24)) ((((((v2.alloc (Obj.cells #[Value.int IntKind.i64 ka, Value.string ta, Value.int IntKind.i64 na, Value.int IntKind.i64 pa, Value.slice sa la ca, Value.int IntKind.i64 kb, Value.string tb, Value.int IntKind.i64 nb, Value.int IntKind.i64 pb, Value.slice sb lb cb] 24)).alloc (Obj.cells #[Value.int IntKind.i64 8, Value.string ⟨#[97, 110, 100]⟩, Value.int IntKind.i64 0, Value.int IntKind.i64 0, Value.slice (some ⟨v2.heap.size, 0, none⟩) 2 2] 24)).alloc (Obj.cells #[Value.int IntKind.i64 kb, Value.string tb, Value.int IntKind.i64 nb, Value.int IntKind.i64 pb, Value.slice sb lb cb] 24)).alloc (Obj.cells #[Value.int IntKind.i64 ka, Value.string ta, Value.int IntKind.i64 na, Value.int IntKind.i64 pa, Value.slice sa la ca, Value.int IntKind.i64 31, Value.string ⟨#[]⟩, Value.int IntKind.i64 0, Value.int IntKind.i64 0, Value.slice (some ⟨(v2.heap.size + 1 + 1), 0, none⟩) 1 1] 24)).alloc (Obj.cells #[Value.int IntKind.i64 32, Value.string ⟨#[]⟩, Value.int IntKind.i64 0, Value.int IntKind.i64 0, Value.slice (some ⟨(v2.heap.size + 1 + 1 + 1), 0, none⟩) 2 2] 24)).alloc (Obj.cells #[Value.int IntKind.i64 ka, Value.string ta, Value.int IntKind.i64 na, Value.int IntKind.i64 pa, Value.slice sa la ca, Value.int IntKind.i64 kb, Value.string tb, Value.int IntKind.i64 nb, Value.int IntKind.i64 pb, Value.slice sb lb cb, Value.int IntKind.i64 ka, Value.string ta, Value.int IntKind.i64 na, Value.int IntKind.i64 pa, Value.slice sa la ca] 24)) := (Below.refl _ _).alloc (Nat.le_refl _) _
  have hx7 : Below ((((((v2.alloc (Obj.cells #[Value.int IntKind.i64 ka, Value.string ta, Value.int IntKind.i64 na, Value.int IntKind.i64 pa, Value.slice sa la ca, Value.int IntKind.i64 kb, Value.string tb, Value.int IntKind.i64 nb, Value.int IntKind.i64 pb, Value.slice sb lb cb] 24)).alloc (Obj.cells #[Value.int IntKind.i64 8, Value.string ⟨#[97, 110, 100]⟩, Value.int IntKind.i64 0, Value.int IntKind.i64 0, Value.slice (some ⟨v2.heap.size, 0, none⟩) 2 2] 24)).alloc (Obj.cells #[Value.int IntKind.i64 kb, Value.string tb, Value.int IntKind.i64 nb, Value.int IntKind.i64 pb, Value.slice sb lb cb] 24)).alloc (Obj.cells #[Value.int IntKind.i64 ka, Value.string ta, Value.int IntKind.i64 na, Value.int IntKind.i64 pa, Value.slice sa la ca, Value.int IntKind.i64 31, Value.string ⟨#[]⟩, Value.int IntKind.i64 0, Value.int IntKind.i64 0, Value.slice (some ⟨(v2.heap.size + 1 + 1), 0, none⟩) 1 1] 24)).alloc (Obj.cells #[Value.int IntKind.i64 32, Value.string ⟨#[]⟩, Value.int IntKind.i64 0, Value.int IntKind.i64 0, Value.slice (some ⟨(v2.heap.size + 1 + 1 + 1), 0, none⟩) 2 2] 24)).alloc (Obj.cells #[Value.int IntKind.i64 ka, Value.string ta, Value.int IntKind.i64 na, Value.int IntKind.i64 pa, Value.slice sa la ca, Value.int IntKind.i64 kb, Value.string tb, Value.int IntKind.i64 nb, Value.int IntKind.i64 pb, Value.slice sb lb cb, Value.int IntKind.i64 ka, Value.string ta, Value.int IntKind.i64 na, Value.int IntKind.i64 pa, Value.slice sa la ca] 24)).heap.size ((((((v2.alloc (Obj.cells #[Value.int IntKind.i64 ka, Value.string ta, Value.int IntKind.i64 na, Value.int IntKind.i64 pa, Value.slice sa la ca, Value.int IntKind.i64 kb, Value.string tb, Value.int IntKind.i64 nb, Value.int IntKind.i64 pb, Value.slice sb lb cb] 24)).alloc (Obj.cells #[Value.int IntKind.i64 8, Value.string ⟨#[97, 110, 100]⟩, Value.int IntKind.i64 0, Value.int IntKind.i64 0, Value.slice (some ⟨v2.heap.size, 0, none⟩) 2 2] 24)).alloc (Obj.cells #[Value.int IntKind.i64 kb, Value.string tb, Value.int IntKind.i64 nb, Value.int IntKind.i64 pb, Value.slice sb lb cb] 24)).alloc (Obj.cells #[Value.int IntKind.i64 ka, Value.string ta, Value.int IntKind.i64 na, Value.int IntKind.i64 pa, Value.slice sa la ca, Value.int IntKind.i64 31, Value.string ⟨#[]⟩, Value.int IntKind.i64 0, Value.int IntKind.i64 0, Value.slice (some ⟨(v2.heap.size + 1 + 1), 0, none⟩) 1 1] 24)).alloc (Obj.cells #[Value.int IntKind.i64 32, Value.string ⟨#[]⟩, Value.int IntKind.i64 0, Value.int IntKind.i64 0, Value.slice (some ⟨(v2.heap.size + 1 + 1 + 1), 0, none⟩) 2 2] 24)).alloc (Obj.cells #[Value.int IntKind.i64 ka, Value.string ta, Value.int IntKind.i64 na, Value.int IntKind.i64 pa, Value.slice sa la ca, Value.int IntKind.i64 kb, Value.string tb, Value.int IntKind.i64 nb, Value.int IntKind.i64 pb, Value.slice sb lb cb, Value.int IntKind.i64 ka, Value.string ta, Value.int IntKind.i64 na, Value.int IntKind.i64 pa, Value.slice sa la ca] 24)) (((((((v2.alloc (Obj.cells #[Value.int IntKind.i64 ka, Value.string ta, Value.int IntKind.i64 na, Value.int IntKind.i64 pa, Value.slice sa la ca, Value.int IntKind.i64 kb, Value.string tb, Value.int IntKind.i64 nb, Value.int IntKind.i64 pb, Value.slice sb lb cb] 24)).alloc (Obj.cells #[Value.int IntKind.i64 8, Value.string ⟨#[97, 110, 100]⟩, Value.int IntKind.i64 0, Value.int IntKind.i64 0, Value.slice (some ⟨v2.heap.size, 0, none⟩) 2 2] 24)).alloc (Obj.cells #[Value.int IntKind.i64 kb, Value.string tb, Value.int IntKind.i64 nb, Value.int IntKind.i64 pb, Value.slice sb lb cb] 24)).alloc (Obj.cells #[Value.int IntKind.i64 ka, Value.string ta, Value.int IntKind.i64 na, Value.int IntKind.i64 pa, Value.slice sa la ca, Value.int IntKind.i64 31, Value.string ⟨#[]⟩, Value.int IntKind.i64 0, Value.int IntKind.i64 0, Value.slice (some ⟨(v2.heap.size + 1 + 1), 0, none⟩) 1 1] 24)).alloc (Obj.cells #[Value.int IntKind.i64 32, Value.string ⟨#[]⟩, Value.int IntKind.i64 0, Value.int IntKind.i64 0, Value.slice (some ⟨(v2.heap.size + 1 + 1 + 1), 0, none⟩) 2 2] 24)).alloc (Obj.cells #[Value.int IntKind.i64 ka, Value.string ta, Value.int IntKind.i64 na, Value.int IntKind.i64 pa, Value.slice sa la ca, Value.int IntKind.i64 kb, Value.string tb, Value.int IntKind.i64 nb, Value.int IntKind.i64 pb, Value.slice sb lb cb, Value.int IntKind.i64 ka, Value.string ta, Value.int IntKind.i64 na, Value.int IntKind.i64 pa, Value.slice sa la ca] 24)).alloc (Obj.cells #[Value.int IntKind.i64 8, Value.string op, Value.int IntKind.i64 0, Value.int IntKind.i64 0, Value.slice (some ⟨(v2.heap.size + 1 + 1 + 1 + 1 + 1), 0, none⟩) 3 3] 24)) := (Below.refl _ _).alloc (Nat.le_refl _) _
  have y02 := (hx1.trans (hx2.mono hx1.size))
  have y05 := ((((hx1.trans (hx2.mono hx1.size)).trans (hx3.mono (hx1.trans (hx2.mono hx1.size)).size)).trans (hx4.mono ((hx1.trans (hx2.mono hx1.size)).trans (hx3.mono (hx1.trans (hx2.mono hx1.size)).size)).size)).trans (hx5.mono (((hx1.trans (hx2.mono hx1.size)).trans (hx3.mono (hx1.trans (hx2.mono hx1.size)).size)).trans (hx4.mono ((hx1.trans (hx2.mono hx1.size)).trans (hx3.mono (hx1.trans (hx2.mono hx1.size)).size)).size)).size))
  have y07 := ((((((hx1.trans (hx2.mono hx1.size)).trans (hx3.mono (hx1.trans (hx2.mono hx1.size)).size)).trans (hx4.mono ((hx1.trans (hx2.mono hx1.size)).trans (hx3.mono (hx1.trans (hx2.mono hx1.size)).size)).size)).trans (hx5.mono (((hx1.trans (hx2.mono hx1.size)).trans (hx3.mono (hx1.trans (hx2.mono hx1.size)).size)).trans (hx4.mono ((hx1.trans (hx2.mono hx1.size)).trans (hx3.mono (hx1.trans (hx2.mono hx1.size)).size)).size)).size)).trans (hx6.mono ((((hx1.trans (hx2.mono hx1.size)).trans (hx3.mono (hx1.trans (hx2.mono hx1.size)).size)).trans (hx4.mono ((hx1.trans (hx2.mono hx1.size)).trans (hx3.mono (hx1.trans (hx2.mono hx1.size)).size)).size)).trans (hx5.mono (((hx1.trans (hx2.mono hx1.size)).trans (hx3.mono (hx1.trans (hx2.mono hx1.size)).size)).trans (hx4.mono ((hx1.trans (hx2.mono hx1.size)).trans (hx3.mono (hx1.trans (hx2.mono hx1.size)).size)).size)).size)).size)).trans (hx7.mono (((((hx1.trans (hx2.mono hx1.size)).trans (hx3.mono (hx1.trans (hx2.mono hx1.size)).size)).trans (hx4.mono ((hx1.trans (hx2.mono hx1.size)).trans (hx3.mono (hx1.trans (hx2.mono hx1.size)).size)).size)).trans (hx5.mono (((hx1.trans (hx2.mono hx1.size)).trans (hx3.mono (hx1.trans (hx2.mono hx1.size)).size)).trans (hx4.mono ((hx1.trans (hx2.mono hx1.size)).trans (hx3.mono (hx1.trans (hx2.mono hx1.size)).size)).size)).size)).trans (hx6.mono ((((hx1.trans (hx2.mono hx1.size)).trans (hx3.mono (hx1.trans (hx2.mono hx1.size)).size)).trans (hx4.mono ((hx1.trans (hx2.mono hx1.size)).trans (hx3.mono (hx1.trans (hx2.mono hx1.size)).size)).size)).trans (hx5.mono (((hx1.trans (hx2.mono hx1.size)).trans (hx3.mono (hx1.trans (hx2.mono hx1.size)).size)).trans (hx4.mono ((hx1.trans (hx2.mono hx1.size)).trans (hx3.mono (hx1.trans (hx2.mono hx1.size)).size)).size)).size)).size)).size))
  have a0' := cell_below y02 a0
  have a0'' := cell_below y05 a0
  have a1' := cell_below y02 a1
  have a1'' := cell_below y05 a1
  have a2' := cell_below y02 a2
  have a2'' := cell_below y05 a2
  have a3' := cell_below y02 a3
  have a3'' := cell_below y05 a3
  have a4' := cell_below y02 a4
  have a4'' := cell_below y05 a4
  have b0' := cell_below y02 b0
  have b0'' := cell_below y05 b0
  have b1' := cell_below y02 b1
  have b1'' := cell_below y05 b1
  have b2' := cell_below y02 b2
  have b2'' := cell_below y05 b2
  have b3' := cell_below y02 b3
  have b3'' := cell_below y05 b3
  have b4' := cell_below y02 b4
  have b4'' := cell_below y05 b4
  have t1 := At.new v2 #[Value.int IntKind.i64 ka, Value.string ta, Value.int IntKind.i64 na, Value.int IntKind.i64 pa, Value.slice sa la ca, Value.int IntKind.i64 kb, Value.string tb, Value.int IntKind.i64 nb, Value.int IntKind.i64 pb, Value.slice sb lb cb] 24
  have HT1 : Hid (At (((((((v2.alloc (Obj.cells #[Value.int IntKind.i64 ka, Value.string ta, Value.int IntKind.i64 na, Value.int IntKind.i64 pa, Value.slice sa la ca, Value.int IntKind.i64 kb, Value.string tb, Value.int IntKind.i64 nb, Value.int IntKind.i64 pb, Value.slice sb lb cb] 24)).alloc (Obj.cells #[Value.int IntKind.i64 8, Value.string ⟨#[97, 110, 100]⟩, Value.int IntKind.i64 0, Value.int IntKind.i64 0, Value.slice (some ⟨v2.heap.size, 0, none⟩) 2 2] 24)).alloc (Obj.cells #[Value.int IntKind.i64 kb, Value.string tb, Value.int IntKind.i64 nb, Value.int IntKind.i64 pb, Value.slice sb lb cb] 24)).alloc (Obj.cells #[Value.int IntKind.i64 ka, Value.string ta, Value.int IntKind.i64 na, Value.int IntKind.i64 pa, Value.slice sa la ca, Value.int IntKind.i64 31, Value.string ⟨#[]⟩, Value.int IntKind.i64 0, Value.int IntKind.i64 0, Value.slice (some ⟨(v2.heap.size + 1 + 1), 0, none⟩) 1 1] 24)).alloc (Obj.cells #[Value.int IntKind.i64 32, Value.string ⟨#[]⟩, Value.int IntKind.i64 0, Value.int IntKind.i64 0, Value.slice (some ⟨(v2.heap.size + 1 + 1 + 1), 0, none⟩) 2 2] 24)).alloc (Obj.cells #[Value.int IntKind.i64 ka, Value.string ta, Value.int IntKind.i64 na, Value.int IntKind.i64 pa, Value.slice sa la ca, Value.int IntKind.i64 kb, Value.string tb, Value.int IntKind.i64 nb, Value.int IntKind.i64 pb, Value.slice sb lb cb, Value.int IntKind.i64 ka, Value.string ta, Value.int IntKind.i64 na, Value.int IntKind.i64 pa, Value.slice sa la ca] 24)).alloc (Obj.cells #[Value.int IntKind.i64 8, Value.string op, Value.int IntKind.i64 0, Value.int IntKind.i64 0, Value.slice (some ⟨(v2.heap.size + 1 + 1 + 1 + 1 + 1), 0, none⟩) 3 3] 24)) v2.heap.size [.int .i64 ka, .string ta, .int .i64 na, .int .i64 pa, .slice sa la ca, .int .i64 kb, .string tb, .int .i64 nb, .int .i64 pb, .slice sb lb cb]) := t1.below (((((hx2.trans (hx3.mono hx2.size)).trans (hx4.mono (hx2.trans (hx3.mono hx2.size)).size)).trans (hx5.mono ((hx2.trans (hx3.mono hx2.size)).trans (hx4.mono (hx2.trans (hx3.mono hx2.size)).size)).size)).trans (hx6.mono (((hx2.trans (hx3.mono hx2.size)).trans (hx4.mono (hx2.trans (hx3.mono hx2.size)).size)).trans (hx5.mono ((hx2.trans (hx3.mono hx2.size)).trans (hx4.mono (hx2.trans (hx3.mono hx2.size)).size)).size)).size)).trans (hx7.mono ((((hx2.trans (hx3.mono hx2.size)).trans (hx4.mono (hx2.trans (hx3.mono hx2.size)).size)).trans (hx5.mono ((hx2.trans (hx3.mono hx2.size)).trans (hx4.mono (hx2.trans (hx3.mono hx2.size)).size)).size)).trans (hx6.mono (((hx2.trans (hx3.mono hx2.size)).trans (hx4.mono (hx2.trans (hx3.mono hx2.size)).size)).trans (hx5.mono ((hx2.trans (hx3.mono hx2.size)).trans (hx4.mono (hx2.trans (hx3.mono hx2.size)).size)).size)).size)).size))
  clear t1
  have t2 := Box5.new (v2.alloc (Obj.cells #[Value.int IntKind.i64 ka, Value.string ta, Value.int IntKind.i64 na, Value.int IntKind.i64 pa, Value.slice sa la ca, Value.int IntKind.i64 kb, Value.string tb, Value.int IntKind.i64 nb, Value.int IntKind.i64 pb, Value.slice sb lb cb] 24)) (.int .i64 8) (.string ⟨#[97, 110, 100]⟩) (.int .i64 0) (.int .i64 0) (.slice (some ⟨v2.heap.size, 0, none⟩) 2 2) 24
  simp only [World.size_alloc] at t2
  have HX2 : Hid (Box5 (((((((v2.alloc (Obj.cells #[Value.int IntKind.i64 ka, Value.string ta, Value.int IntKind.i64 na, Value.int IntKind.i64 pa, Value.slice sa la ca, Value.int IntKind.i64 kb, Value.string tb, Value.int IntKind.i64 nb, Value.int IntKind.i64 pb, Value.slice sb lb cb] 24)).alloc (Obj.cells #[Value.int IntKind.i64 8, Value.string ⟨#[97, 110, 100]⟩, Value.int IntKind.i64 0, Value.int IntKind.i64 0, Value.slice (some ⟨v2.heap.size, 0, none⟩) 2 2] 24)).alloc (Obj.cells #[Value.int IntKind.i64 kb, Value.string tb, Value.int IntKind.i64 nb, Value.int IntKind.i64 pb, Value.slice sb lb cb] 24)).alloc (Obj.cells #[Value.int IntKind.i64 ka, Value.string ta, Value.int IntKind.i64 na, Value.int IntKind.i64 pa, Value.slice sa la ca, Value.int IntKind.i64 31, Value.string ⟨#[]⟩, Value.int IntKind.i64 0, Value.int IntKind.i64 0, Value.slice (some ⟨(v2.heap.size + 1 + 1), 0, none⟩) 1 1] 24)).alloc (Obj.cells #[Value.int IntKind.i64 32, Value.string ⟨#[]⟩, Value.int IntKind.i64 0, Value.int IntKind.i64 0, Value.slice (some ⟨(v2.heap.size + 1 + 1 + 1), 0, none⟩) 2 2] 24)).alloc (Obj.cells #[Value.int IntKind.i64 ka, Value.string ta, Value.int IntKind.i64 na, Value.int IntKind.i64 pa, Value.slice sa la ca, Value.int IntKind.i64 kb, Value.string tb, Value.int IntKind.i64 nb, Value.int IntKind.i64 pb, Value.slice sb lb cb, Value.int IntKind.i64 ka, Value.string ta, Value.int IntKind.i64 na, Value.int IntKind.i64 pa, Value.slice sa la ca] 24)).alloc (Obj.cells #[Value.int IntKind.i64 8, Value.string op, Value.int IntKind.i64 0, Value.int IntKind.i64 0, Value.slice (some ⟨(v2.heap.size + 1 + 1 + 1 + 1 + 1), 0, none⟩) 3 3] 24)) (v2.heap.size + 1) (.int .i64 8) (.string ⟨#[97, 110, 100]⟩) (.int .i64 0) (.int .i64 0) (.slice (some ⟨v2.heap.size, 0, none⟩) 2 2)) := t2.below ((((hx3.trans (hx4.mono hx3.size)).trans (hx5.mono (hx3.trans (hx4.mono hx3.size)).size)).trans (hx6.mono ((hx3.trans (hx4.mono hx3.size)).trans (hx5.mono (hx3.trans (hx4.mono hx3.size)).size)).size)).trans (hx7.mono (((hx3.trans (hx4.mono hx3.size)).trans (hx5.mono (hx3.trans (hx4.mono hx3.size)).size)).trans (hx6.mono ((hx3.trans (hx4.mono hx3.size)).trans (hx5.mono (hx3.trans (hx4.mono hx3.size)).size)).size)).size))
  clear t2
  have t3 := At.new ((v2.alloc (Obj.cells #[Value.int IntKind.i64 ka, Value.string ta, Value.int IntKind.i64 na, Value.int IntKind.i64 pa, Value.slice sa la ca, Value.int IntKind.i64 kb, Value.string tb, Value.int IntKind.i64 nb, Value.int IntKind.i64 pb, Value.slice sb lb cb] 24)).alloc (Obj.cells #[Value.int IntKind.i64 8, Value.string ⟨#[97, 110, 100]⟩, Value.int IntKind.i64 0, Value.int IntKind.i64 0, Value.slice (some ⟨v2.heap.size, 0, none⟩) 2 2] 24)) #[Value.int IntKind.i64 kb, Value.string tb, Value.int IntKind.i64 nb, Value.int IntKind.i64 pb, Value.slice sb lb cb] 24
  simp only [World.size_alloc] at t3
  have HT3 : Hid (At (((((((v2.alloc (Obj.cells #[Value.int IntKind.i64 ka, Value.string ta, Value.int IntKind.i64 na, Value.int IntKind.i64 pa, Value.slice sa la ca, Value.int IntKind.i64 kb, Value.string tb, Value.int IntKind.i64 nb, Value.int IntKind.i64 pb, Value.slice sb lb cb] 24)).alloc (Obj.cells #[Value.int IntKind.i64 8, Value.string ⟨#[97, 110, 100]⟩, Value.int IntKind.i64 0, Value.int IntKind.i64 0, Value.slice (some ⟨v2.heap.size, 0, none⟩) 2 2] 24)).alloc (Obj.cells #[Value.int IntKind.i64 kb, Value.string tb, Value.int IntKind.i64 nb, Value.int IntKind.i64 pb, Value.slice sb lb cb] 24)).alloc (Obj.cells #[Value.int IntKind.i64 ka, Value.string ta, Value.int IntKind.i64 na, Value.int IntKind.i64 pa, Value.slice sa la ca, Value.int IntKind.i64 31, Value.string ⟨#[]⟩, Value.int IntKind.i64 0, Value.int IntKind.i64 0, Value.slice (some ⟨(v2.heap.size + 1 + 1), 0, none⟩) 1 1] 24)).alloc (Obj.cells #[Value.int IntKind.i64 32, Value.string ⟨#[]⟩, Value.int IntKind.i64 0, Value.int IntKind.i64 0, Value.slice (some ⟨(v2.heap.size + 1 + 1 + 1), 0, none⟩) 2 2] 24)).alloc (Obj.cells #[Value.int IntKind.i64 ka, Value.string ta, Value.int IntKind.i64 na, Value.int IntKind.i64 pa, Value.slice sa la ca, Value.int IntKind.i64 kb, Value.string tb, Value.int IntKind.i64 nb, Value.int IntKind.i64 pb, Value.slice sb lb cb, Value.int IntKind.i64 ka, Value.string ta, Value.int IntKind.i64 na, Value.int IntKind.i64 pa, Value.slice sa la ca] 24)).alloc (Obj.cells #[Value.int IntKind.i64 8, Value.string op, Value.int IntKind.i64 0, Value.int IntKind.i64 0, Value.slice (some ⟨(v2.heap.size + 1 + 1 + 1 + 1 + 1), 0, none⟩) 3 3] 24)) (v2.heap.size + 1 + 1) [.int .i64 kb, .string tb, .int .i64 nb, .int .i64 pb, .slice sb lb cb]) := t3.below (((hx4.trans (hx5.mono hx4.size)).trans (hx6.mono (hx4.trans (hx5.mono hx4.size)).size)).trans (hx7.mono ((hx4.trans (hx5.mono hx4.size)).trans (hx6.mono (hx4.trans (hx5.mono hx4.size)).size)).size))
  clear t3
  have t4 := At.new (((v2.alloc (Obj.cells #[Value.int IntKind.i64 ka, Value.string ta, Value.int IntKind.i64 na, Value.int IntKind.i64 pa, Value.slice sa la ca, Value.int IntKind.i64 kb, Value.string tb, Value.int IntKind.i64 nb, Value.int IntKind.i64 pb, Value.slice sb lb cb] 24)).alloc (Obj.cells #[Value.int IntKind.i64 8, Value.string ⟨#[97, 110, 100]⟩, Value.int IntKind.i64 0, Value.int IntKind.i64 0, Value.slice (some ⟨v2.heap.size, 0, none⟩) 2 2] 24)).alloc (Obj.cells #[Value.int IntKind.i64 kb, Value.string tb, Value.int IntKind.i64 nb, Value.int IntKind.i64 pb, Value.slice sb lb cb] 24)) #[Value.int IntKind.i64 ka, Value.string ta, Value.int IntKind.i64 na, Value.int IntKind.i64 pa, Value.slice sa la ca, Value.int IntKind.i64 31, Value.string ⟨#[]⟩, Value.int IntKind.i64 0, Value.int IntKind.i64 0, Value.slice (some ⟨(v2.heap.size + 1 + 1), 0, none⟩) 1 1] 24
  simp only [World.size_alloc] at t4
  have HT4 : Hid (At (((((((v2.alloc (Obj.cells #[Value.int IntKind.i64 ka, Value.string ta, Value.int IntKind.i64 na, Value.int IntKind.i64 pa, Value.slice sa la ca, Value.int IntKind.i64 kb, Value.string tb, Value.int IntKind.i64 nb, Value.int IntKind.i64 pb, Value.slice sb lb cb] 24)).alloc (Obj.cells #[Value.int IntKind.i64 8, Value.string ⟨#[97, 110, 100]⟩, Value.int IntKind.i64 0, Value.int IntKind.i64 0, Value.slice (some ⟨v2.heap.size, 0, none⟩) 2 2] 24)).alloc (Obj.cells #[Value.int IntKind.i64 kb, Value.string tb, Value.int IntKind.i64 nb, Value.int IntKind.i64 pb, Value.slice sb lb cb] 24)).alloc (Obj.cells #[Value.int IntKind.i64 ka, Value.string ta, Value.int IntKind.i64 na, Value.int IntKind.i64 pa, Value.slice sa la ca, Value.int IntKind.i64 31, Value.string ⟨#[]⟩, Value.int IntKind.i64 0, Value.int IntKind.i64 0, Value.slice (some ⟨(v2.heap.size + 1 + 1), 0, none⟩) 1 1] 24)).alloc (Obj.cells #[Value.int IntKind.i64 32, Value.string ⟨#[]⟩, Value.int IntKind.i64 0, Value.int IntKind.i64 0, Value.slice (some ⟨(v2.heap.size + 1 + 1 + 1), 0, none⟩) 2 2] 24)).alloc (Obj.cells #[Value.int IntKind.i64 ka, Value.string ta, Value.int IntKind.i64 na, Value.int IntKind.i64 pa, Value.slice sa la ca, Value.int IntKind.i64 kb, Value.string tb, Value.int IntKind.i64 nb, Value.int IntKind.i64 pb, Value.slice sb lb cb, Value.int IntKind.i64 ka, Value.string ta, Value.int IntKind.i64 na, Value.int IntKind.i64 pa, Value.slice sa la ca] 24)).alloc (Obj.cells #[Value.int IntKind.i64 8, Value.string op, Value.int IntKind.i64 0, Value.int IntKind.i64 0, Value.slice (some ⟨(v2.heap.size + 1 + 1 + 1 + 1 + 1), 0, none⟩) 3 3] 24)) (v2.heap.size + 1 + 1 + 1) [.int .i64 ka, .string ta, .int .i64 na, .int .i64 pa, .slice sa la ca, .int .i64 31, .string ⟨#[]⟩, .int .i64 0, .int .i64 0, .slice (some ⟨(v2.heap.size + 1 + 1), 0, none⟩) 1 1]) := t4.below ((hx5.trans (hx6.mono hx5.size)).trans (hx7.mono (hx5.trans (hx6.mono hx5.size)).size))
  clear t4
  have t5 := Box5.new ((((v2.alloc (Obj.cells #[Value.int IntKind.i64 ka, Value.string ta, Value.int IntKind.i64 na, Value.int IntKind.i64 pa, Value.slice sa la ca, Value.int IntKind.i64 kb, Value.string tb, Value.int IntKind.i64 nb, Value.int IntKind.i64 pb, Value.slice sb lb cb] 24)).alloc (Obj.cells #[Value.int IntKind.i64 8, Value.string ⟨#[97, 110, 100]⟩, Value.int IntKind.i64 0, Value.int IntKind.i64 0, Value.slice (some ⟨v2.heap.size, 0, none⟩) 2 2] 24)).alloc (Obj.cells #[Value.int IntKind.i64 kb, Value.string tb, Value.int IntKind.i64 nb, Value.int IntKind.i64 pb, Value.slice sb lb cb] 24)).alloc (Obj.cells #[Value.int IntKind.i64 ka, Value.string ta, Value.int IntKind.i64 na, Value.int IntKind.i64 pa, Value.slice sa la ca, Value.int IntKind.i64 31, Value.string ⟨#[]⟩, Value.int IntKind.i64 0, Value.int IntKind.i64 0, Value.slice (some ⟨(v2.heap.size + 1 + 1), 0, none⟩) 1 1] 24)) (.int .i64 32) (.string ⟨#[]⟩) (.int .i64 0) (.int .i64 0) (.slice (some ⟨(v2.heap.size + 1 + 1 + 1), 0, none⟩) 2 2) 24
  simp only [World.size_alloc] at t5
  have HX5 : Hid (Box5 (((((((v2.alloc (Obj.cells #[Value.int IntKind.i64 ka, Value.string ta, Value.int IntKind.i64 na, Value.int IntKind.i64 pa, Value.slice sa la ca, Value.int IntKind.i64 kb, Value.string tb, Value.int IntKind.i64 nb, Value.int IntKind.i64 pb, Value.slice sb lb cb] 24)).alloc (Obj.cells #[Value.int IntKind.i64 8, Value.string ⟨#[97, 110, 100]⟩, Value.int IntKind.i64 0, Value.int IntKind.i64 0, Value.slice (some ⟨v2.heap.size, 0, none⟩) 2 2] 24)).alloc (Obj.cells #[Value.int IntKind.i64 kb, Value.string tb, Value.int IntKind.i64 nb, Value.int IntKind.i64 pb, Value.slice sb lb cb] 24)).alloc (Obj.cells #[Value.int IntKind.i64 ka, Value.string ta, Value.int IntKind.i64 na, Value.int IntKind.i64 pa, Value.slice sa la ca, Value.int IntKind.i64 31, Value.string ⟨#[]⟩, Value.int IntKind.i64 0, Value.int IntKind.i64 0, Value.slice (some ⟨(v2.heap.size + 1 + 1), 0, none⟩) 1 1] 24)).alloc (Obj.cells #[Value.int IntKind.i64 32, Value.string ⟨#[]⟩, Value.int IntKind.i64 0, Value.int IntKind.i64 0, Value.slice (some ⟨(v2.heap.size + 1 + 1 + 1), 0, none⟩) 2 2] 24)).alloc (Obj.cells #[Value.int IntKind.i64 ka, Value.string ta, Value.int IntKind.i64 na, Value.int IntKind.i64 pa, Value.slice sa la ca, Value.int IntKind.i64 kb, Value.string tb, Value.int IntKind.i64 nb, Value.int IntKind.i64 pb, Value.slice sb lb cb, Value.int IntKind.i64 ka, Value.string ta, Value.int IntKind.i64 na, Value.int IntKind.i64 pa, Value.slice sa la ca] 24)).alloc (Obj.cells #[Value.int IntKind.i64 8, Value.string op, Value.int IntKind.i64 0, Value.int IntKind.i64 0, Value.slice (some ⟨(v2.heap.size + 1 + 1 + 1 + 1 + 1), 0, none⟩) 3 3] 24)) (v2.heap.size + 1 + 1 + 1 + 1) (.int .i64 32) (.string ⟨#[]⟩) (.int .i64 0) (.int .i64 0) (.slice (some ⟨(v2.heap.size + 1 + 1 + 1), 0, none⟩) 2 2)) := t5.below (hx6.trans (hx7.mono hx6.size))
  clear t5
  have t6 := At.new (((((v2.alloc (Obj.cells #[Value.int IntKind.i64 ka, Value.string ta, Value.int IntKind.i64 na, Value.int IntKind.i64 pa, Value.slice sa la ca, Value.int IntKind.i64 kb, Value.string tb, Value.int IntKind.i64 nb, Value.int IntKind.i64 pb, Value.slice sb lb cb] 24)).alloc (Obj.cells #[Value.int IntKind.i64 8, Value.string ⟨#[97, 110, 100]⟩, Value.int IntKind.i64 0, Value.int IntKind.i64 0, Value.slice (some ⟨v2.heap.size, 0, none⟩) 2 2] 24)).alloc (Obj.cells #[Value.int IntKind.i64 kb, Value.string tb, Value.int IntKind.i64 nb, Value.int IntKind.i64 pb, Value.slice sb lb cb] 24)).alloc (Obj.cells #[Value.int IntKind.i64 ka, Value.string ta, Value.int IntKind.i64 na, Value.int IntKind.i64 pa, Value.slice sa la ca, Value.int IntKind.i64 31, Value.string ⟨#[]⟩, Value.int IntKind.i64 0, Value.int IntKind.i64 0, Value.slice (some ⟨(v2.heap.size + 1 + 1), 0, none⟩) 1 1] 24)).alloc (Obj.cells #[Value.int IntKind.i64 32, Value.string ⟨#[]⟩, Value.int IntKind.i64 0, Value.int IntKind.i64 0, Value.slice (some ⟨(v2.heap.size + 1 + 1 + 1), 0, none⟩) 2 2] 24)) #[Value.int IntKind.i64 ka, Value.string ta, Value.int IntKind.i64 na, Value.int IntKind.i64 pa, Value.slice sa la ca, Value.int IntKind.i64 kb, Value.string tb, Value.int IntKind.i64 nb, Value.int IntKind.i64 pb, Value.slice sb lb cb, Value.int IntKind.i64 ka, Value.string ta, Value.int IntKind.i64 na, Value.int IntKind.i64 pa, Value.slice sa la ca] 24
  simp only [World.size_alloc] at t6
  have HT6 : Hid (At (((((((v2.alloc (Obj.cells #[Value.int IntKind.i64 ka, Value.string ta, Value.int IntKind.i64 na, Value.int IntKind.i64 pa, Value.slice sa la ca, Value.int IntKind.i64 kb, Value.string tb, Value.int IntKind.i64 nb, Value.int IntKind.i64 pb, Value.slice sb lb cb] 24)).alloc (Obj.cells #[Value.int IntKind.i64 8, Value.string ⟨#[97, 110, 100]⟩, Value.int IntKind.i64 0, Value.int IntKind.i64 0, Value.slice (some ⟨v2.heap.size, 0, none⟩) 2 2] 24)).alloc (Obj.cells #[Value.int IntKind.i64 kb, Value.string tb, Value.int IntKind.i64 nb, Value.int IntKind.i64 pb, Value.slice sb lb cb] 24)).alloc (Obj.cells #[Value.int IntKind.i64 ka, Value.string ta, Value.int IntKind.i64 na, Value.int IntKind.i64 pa, Value.slice sa la ca, Value.int IntKind.i64 31, Value.string ⟨#[]⟩, Value.int IntKind.i64 0, Value.int IntKind.i64 0, Value.slice (some ⟨(v2.heap.size + 1 + 1), 0, none⟩) 1 1] 24)).alloc (Obj.cells #[Value.int IntKind.i64 32, Value.string ⟨#[]⟩, Value.int IntKind.i64 0, Value.int IntKind.i64 0, Value.slice (some ⟨(v2.heap.size + 1 + 1 + 1), 0, none⟩) 2 2] 24)).alloc (Obj.cells #[Value.int IntKind.i64 ka, Value.string ta, Value.int IntKind.i64 na, Value.int IntKind.i64 pa, Value.slice sa la ca, Value.int IntKind.i64 kb, Value.string tb, Value.int IntKind.i64 nb, Value.int IntKind.i64 pb, Value.slice sb lb cb, Value.int IntKind.i64 ka, Value.string ta, Value.int IntKind.i64 na, Value.int IntKind.i64 pa, Value.slice sa la ca] 24)).alloc (Obj.cells #[Value.int IntKind.i64 8, Value.string op, Value.int IntKind.i64 0, Value.int IntKind.i64 0, Value.slice (some ⟨(v2.heap.size + 1 + 1 + 1 + 1 + 1), 0, none⟩) 3 3] 24)) (v2.heap.size + 1 + 1 + 1 + 1 + 1) [.int .i64 ka, .string ta, .int .i64 na, .int .i64 pa, .slice sa la ca, .int .i64 kb, .string tb, .int .i64 nb, .int .i64 pb, .slice sb lb cb, .int .i64 ka, .string ta, .int .i64 na, .int .i64 pa, .slice sa la ca]) := t6.below hx7
  clear t6
  have t7 := Box5.new ((((((v2.alloc (Obj.cells #[Value.int IntKind.i64 ka, Value.string ta, Value.int IntKind.i64 na, Value.int IntKind.i64 pa, Value.slice sa la ca, Value.int IntKind.i64 kb, Value.string tb, Value.int IntKind.i64 nb, Value.int IntKind.i64 pb, Value.slice sb lb cb] 24)).alloc (Obj.cells #[Value.int IntKind.i64 8, Value.string ⟨#[97, 110, 100]⟩, Value.int IntKind.i64 0, Value.int IntKind.i64 0, Value.slice (some ⟨v2.heap.size, 0, none⟩) 2 2] 24)).alloc (Obj.cells #[Value.int IntKind.i64 kb, Value.string tb, Value.int IntKind.i64 nb, Value.int IntKind.i64 pb, Value.slice sb lb cb] 24)).alloc (Obj.cells #[Value.int IntKind.i64 ka, Value.string ta, Value.int IntKind.i64 na, Value.int IntKind.i64 pa, Value.slice sa la ca, Value.int IntKind.i64 31, Value.string ⟨#[]⟩, Value.int IntKind.i64 0, Value.int IntKind.i64 0, Value.slice (some ⟨(v2.heap.size + 1 + 1), 0, none⟩) 1 1] 24)).alloc (Obj.cells #[Value.int IntKind.i64 32, Value.string ⟨#[]⟩, Value.int IntKind.i64 0, Value.int IntKind.i64 0, Value.slice (some ⟨(v2.heap.size + 1 + 1 + 1), 0, none⟩) 2 2] 24)).alloc (Obj.cells #[Value.int IntKind.i64 ka, Value.string ta, Value.int IntKind.i64 na, Value.int IntKind.i64 pa, Value.slice sa la ca, Value.int IntKind.i64 kb, Value.string tb, Value.int IntKind.i64 nb, Value.int IntKind.i64 pb, Value.slice sb lb cb, Value.int IntKind.i64 ka, Value.string ta, Value.int IntKind.i64 na, Value.int IntKind.i64 pa, Value.slice sa la ca] 24)) (.int .i64 8) (.string op) (.int .i64 0) (.int .i64 0) (.slice (some ⟨(v2.heap.size + 1 + 1 + 1 + 1 + 1), 0, none⟩) 3 3) 24
  simp only [World.size_alloc] at t7
  have HX7 : Hid (Box5 (((((((v2.alloc (Obj.cells #[Value.int IntKind.i64 ka, Value.string ta, Value.int IntKind.i64 na, Value.int IntKind.i64 pa, Value.slice sa la ca, Value.int IntKind.i64 kb, Value.string tb, Value.int IntKind.i64 nb, Value.int IntKind.i64 pb, Value.slice sb lb cb] 24)).alloc (Obj.cells #[Value.int IntKind.i64 8, Value.string ⟨#[97, 110, 100]⟩, Value.int IntKind.i64 0, Value.int IntKind.i64 0, Value.slice (some ⟨v2.heap.size, 0, none⟩) 2 2] 24)).alloc (Obj.cells #[Value.int IntKind.i64 kb, Value.string tb, Value.int IntKind.i64 nb, Value.int IntKind.i64 pb, Value.slice sb lb cb] 24)).alloc (Obj.cells #[Value.int IntKind.i64 ka, Value.string ta, Value.int IntKind.i64 na, Value.int IntKind.i64 pa, Value.slice sa la ca, Value.int IntKind.i64 31, Value.string ⟨#[]⟩, Value.int IntKind.i64 0, Value.int IntKind.i64 0, Value.slice (some ⟨(v2.heap.size + 1 + 1), 0, none⟩) 1 1] 24)).alloc (Obj.cells #[Value.int IntKind.i64 32, Value.string ⟨#[]⟩, Value.int IntKind.i64 0, Value.int IntKind.i64 0, Value.slice (some ⟨(v2.heap.size + 1 + 1 + 1), 0, none⟩) 2 2] 24)).alloc (Obj.cells #[Value.int IntKind.i64 ka, Value.string ta, Value.int IntKind.i64 na, Value.int IntKind.i64 pa, Value.slice sa la ca, Value.int IntKind.i64 kb, Value.string tb, Value.int IntKind.i64 nb, Value.int IntKind.i64 pb, Value.slice sb lb cb, Value.int IntKind.i64 ka, Value.string ta, Value.int IntKind.i64 na, Value.int IntKind.i64 pa, Value.slice sa la ca] 24)).alloc (Obj.cells #[Value.int IntKind.i64 8, Value.string op, Value.int IntKind.i64 0, Value.int IntKind.i64 0, Value.slice (some ⟨(v2.heap.size + 1 + 1 + 1 + 1 + 1), 0, none⟩) 3 3] 24)) (v2.heap.size + 1 + 1 + 1 + 1 + 1 + 1) (.int .i64 8) (.string op) (.int .i64 0) (.int .i64 0) (.slice (some ⟨(v2.heap.size + 1 + 1 + 1 + 1 + 1), 0, none⟩) 3 3)) := t7
  clear t7
  obtain ⟨c0, c1, c2, c3, c4, -, -, -, -, -⟩ := HX2.out
  replace HBA : Hid _ := HBA.out.below y07
  replace HBB : Hid _ := HBB.out.below y07
  replace HBW : Hid _ := HBW.out.trans (y07.mono HBW.out.size)
  clear y02 y05 y07 hx1 hx2 hx3 hx4 hx5 hx6 hx7
  go_wp2_with fail
  refine (HBo.out _ (v2.heap.size) HBW.out HT1.out).mono ?_
  rintro e v3 ⟨rfl, hb3⟩
  replace HBA : Hid _ := HBA.out.below hb3
  replace HBB : Hid _ := HBB.out.below hb3
  replace HX2 : Hid _ := HX2.out.below hb3
  replace HX5 : Hid _ := HX5.out.below hb3
  replace HX7 : Hid _ := HX7.out.below hb3
  replace HT1 : Hid (At v3 v2.heap.size [.int .i64 ka, .string ta, .int .i64 na, .int .i64 pa, .slice sa la ca, .int .i64 kb, .string tb, .int .i64 nb, .int .i64 pb, .slice sb lb cb]) := HT1.out.below hb3
  replace HT3 : Hid (At v3 (v2.heap.size + 1 + 1) [.int .i64 kb, .string tb, .int .i64 nb, .int .i64 pb, .slice sb lb cb]) := HT3.out.below hb3
  replace HT4 : Hid (At v3 (v2.heap.size + 1 + 1 + 1) [.int .i64 ka, .string ta, .int .i64 na, .int .i64 pa, .slice sa la ca, .int .i64 31, .string ⟨#[]⟩, .int .i64 0, .int .i64 0, .slice (some ⟨(v2.heap.size + 1 + 1), 0, none⟩) 1 1]) := HT4.out.below hb3
  replace HT6 : Hid (At v3 (v2.heap.size + 1 + 1 + 1 + 1 + 1) [.int .i64 ka, .string ta, .int .i64 na, .int .i64 pa, .slice sa la ca, .int .i64 kb, .string tb, .int .i64 nb, .int .i64 pb, .slice sb lb cb, .int .i64 ka, .string ta, .int .i64 na, .int .i64 pa, .slice sa la ca]) := HT6.out.below hb3
  replace HBW : Hid _ := HBW.out.trans (hb3.mono HBW.out.size)
  clear c0 c1 c2 c3 c4 a0 a0' a0'' a1 a1' a1'' a2 a2' a2'' a3 a3' a3'' a4 a4' a4'' b0 b0' b0'' b1 b1' b1'' b2 b2' b2'' b3 b3' b3'' b4 b4' b4''
  obtain ⟨c0, c1, c2, c3, c4, -, -, -, -, -⟩ := HX5.out
  rcases hf with ⟨f1, f2⟩ | ⟨f1, f2⟩ | ⟨f1, f2⟩ <;> rcases hg with ⟨g1, g2⟩ | ⟨g1, g2⟩ | ⟨g1, g2⟩
  all_goals
    rw [f1, g1] at e1 e0
    rw [f2, g2] at e2
    simp only [Bool.and_true, Bool.and_false, Bool.true_and, Bool.false_and, Bool.not_true, Bool.not_false] at e1 e0 e2
    first | (obtain rfl := eq_of_beq e1) | (obtain rfl := eq_of_beq e0)
    clear e1 e0
    go_wp2_with fail
    refine (HTh.out _ _ _ HBW.out HT4.out HT3.out).mono ?_
    rintro e v4 ⟨rfl, hb3⟩
    replace HBA : Hid _ := HBA.out.below hb3
    replace HBB : Hid _ := HBB.out.below hb3
    replace HX2 : Hid _ := HX2.out.below hb3
    replace HX5 : Hid _ := HX5.out.below hb3
    replace HX7 : Hid _ := HX7.out.below hb3
    replace HT1 : Hid (At v4 v2.heap.size [.int .i64 ka, .string ta, .int .i64 na, .int .i64 pa, .slice sa la ca, .int .i64 kb, .string tb, .int .i64 nb, .int .i64 pb, .slice sb lb cb]) := HT1.out.below hb3
    replace HT3 : Hid (At v4 (v2.heap.size + 1 + 1) [.int .i64 kb, .string tb, .int .i64 nb, .int .i64 pb, .slice sb lb cb]) := HT3.out.below hb3
    replace HT4 : Hid (At v4 (v2.heap.size + 1 + 1 + 1) [.int .i64 ka, .string ta, .int .i64 na, .int .i64 pa, .slice sa la ca, .int .i64 31, .string ⟨#[]⟩, .int .i64 0, .int .i64 0, .slice (some ⟨(v2.heap.size + 1 + 1), 0, none⟩) 1 1]) := HT4.out.below hb3
    replace HT6 : Hid (At v4 (v2.heap.size + 1 + 1 + 1 + 1 + 1) [.int .i64 ka, .string ta, .int .i64 na, .int .i64 pa, .slice sa la ca, .int .i64 kb, .string tb, .int .i64 nb, .int .i64 pb, .slice sb lb cb, .int .i64 ka, .string ta, .int .i64 na, .int .i64 pa, .slice sa la ca]) := HT6.out.below hb3
    replace HBW : Hid _ := HBW.out.trans (hb3.mono HBW.out.size)
    clear c0 c1 c2 c3 c4
    go_wp2_with fail
    replace HBA : Hid _ := HBA.out.drew
    replace HBB : Hid _ := HBB.out.drew
    replace HX2 : Hid _ := HX2.out.drew
    replace HX7 : Hid _ := HX7.out.drew
    replace HT1 : Hid (At v4.drew v2.heap.size [.int .i64 ka, .string ta, .int .i64 na, .int .i64 pa, .slice sa la ca, .int .i64 kb, .string tb, .int .i64 nb, .int .i64 pb, .slice sb lb cb]) := HT1.out.below (Below.refl _ _).drew
    replace HT6 : Hid (At v4.drew (v2.heap.size + 1 + 1 + 1 + 1 + 1) [.int .i64 ka, .string ta, .int .i64 na, .int .i64 pa, .slice sa la ca, .int .i64 kb, .string tb, .int .i64 nb, .int .i64 pb, .slice sb lb cb, .int .i64 ka, .string ta, .int .i64 na, .int .i64 pa, .slice sa la ca]) := HT6.out.below (Below.refl _ _).drew
    replace HBW : Hid _ := HBW.out.drew
    clear HX5 HT3 HT4 hb3
    refine wp_region_held_drew (S := (fun wS => Box5 wS w.heap.size (.int .i64 ka) (.string ta) (.int .i64 na) (.int .i64 pa) (.slice sa la ca) ∧ Box5 wS (w.heap.size + 1) (.int .i64 kb) (.string tb) (.int .i64 nb) (.int .i64 pb) (.slice sb lb cb) ∧ Box5 wS (v2.heap.size + 1) (.int .i64 8) (.string ⟨#[97, 110, 100]⟩) (.int .i64 0) (.int .i64 0) (.slice (some ⟨v2.heap.size, 0, none⟩) 2 2) ∧ Box5 wS (v2.heap.size + 1 + 1 + 1 + 1 + 1 + 1) (.int .i64 8) (.string op) (.int .i64 0) (.int .i64 0) (.slice (some ⟨(v2.heap.size + 1 + 1 + 1 + 1 + 1), 0, none⟩) 3 3))) (by kernel_rfl) ?_ (fun hHeld => ?_)
    · (try dsimp only); exact ⟨HBA.out, HBB.out, HX2.out, HX7.out⟩
    refine wpAnyH_take (i := 0) (oi := { dst := some 63, op := Op.load 24 (Operand.tmp 11), type := 24, pos := "law.go:81", after := #[], guard := none }) (v := ?_) rfl (by kernel_rfl) (by kernel_rfl) (by kernel_rfl) (fun _ _ _ h => h) (Or.inl ⟨by kernel_rfl, ?_⟩) (by assumption) ?_
    rotate_left
    · intro wS hSw; (try dsimp only at hSw); have q0 := hSw.2.2.2.c0; have q1 := hSw.2.2.2.c1; have q2 := hSw.2.2.2.c2; have q3 := hSw.2.2.2.c3; have q4 := hSw.2.2.2.c4; go_simp; (try with_reducible rfl)
    try simp only [Act.put, List.setIfInBounds_toArray, List.set_cons_zero, List.set_cons_succ]
    refine wpAnyH_ready (rs := [1]) (by kernel_rfl) (by simp) ?_
    refine AllReadyH.cons (o := { dst := some 64, op := Op.call { callee := Callee.value (Operand.func 8), args := #[Operand.tmp 63], argTypes := #[24] }, type := 3, pos := "law.go:81", after := #[{ on := 0, ground := Ground.data }], guard := none }) rfl (fun K hK => ?_) AllReadyH.nil
    go_simp
    go_at_call 8
    refine (HNo.out _ _ HBW.out HT6.out).mono ?_
    rintro e u1 ⟨rfl, hb1⟩
    replace HBA : Hid _ := HBA.out.below hb1
    replace HBB : Hid _ := HBB.out.below hb1
    replace HX2 : Hid _ := HX2.out.below hb1
    replace HX7 : Hid _ := HX7.out.below hb1
    replace HT1 : Hid (At u1 v2.heap.size [.int .i64 ka, .string ta, .int .i64 na, .int .i64 pa, .slice sa la ca, .int .i64 kb, .string tb, .int .i64 nb, .int .i64 pb, .slice sb lb cb]) := HT1.out.below hb1
    replace HBW : Hid _ := HBW.out.trans (hb1.mono HBW.out.size)
    clear hb1
    refine hK.out _ _ ?_ (fun hH1 => ?_)
    · (try dsimp only); exact ⟨HBA.out, HBB.out, HX2.out, HX7.out⟩
    clear hK K
    try simp only [Act.put, List.setIfInBounds_toArray, List.set_cons_zero, List.set_cons_succ]
    refine wpAnyH_take (i := 2) (oi := { dst := some 65, op := Op.binOp BinOp.eql 3 (Operand.tmp 64) (Operand.const (Value.int IntKind.i64 0)) 3, type := 4, pos := "law.go:81", after := #[{ on := 1, ground := Ground.data }], guard := none }) (v := ?_) rfl (by kernel_rfl) (by kernel_rfl) (by kernel_rfl) (fun _ _ _ h => h) (Or.inl ⟨by kernel_rfl, ?_⟩) (by assumption) ?_
    rotate_left
    · intro wS hSw; (try dsimp only at hSw); go_simp; (try with_reducible rfl)
    try simp only [Act.put, List.setIfInBounds_toArray, List.set_cons_zero, List.set_cons_succ]
    refine wpAnyH_take (i := 3) (oi := { dst := some 66, op := Op.move (Operand.tmp 65), type := 4, pos := "law.go:81", after := #[{ on := 2, ground := Ground.data }, { on := 1, ground := Ground.chain }], guard := none }) (v := ?_) rfl (by kernel_rfl) (by kernel_rfl) (by kernel_rfl) (fun _ _ _ h => h) (Or.inl ⟨by kernel_rfl, ?_⟩) (by assumption) ?_
    rotate_left
    · intro wS hSw; (try dsimp only at hSw); go_simp; (try with_reducible rfl)
    try simp only [Act.put, List.setIfInBounds_toArray, List.set_cons_zero, List.set_cons_succ]
    refine wpAnyH_take (i := 4) (oi := { dst := some 67, op := Op.load 24 (Operand.tmp 9), type := 24, pos := "law.go:81", after := #[{ on := 3, ground := Ground.guard }], guard := some (3, true) }) (v := ?_) rfl (by kernel_rfl) (by kernel_rfl) (by kernel_rfl) (fun _ _ _ h => h) (Or.inl ⟨by kernel_rfl, ?_⟩) (by assumption) ?_
    rotate_left
    · intro wS hSw; (try dsimp only at hSw); have q0 := hSw.2.2.1.c0; have q1 := hSw.2.2.1.c1; have q2 := hSw.2.2.1.c2; have q3 := hSw.2.2.1.c3; have q4 := hSw.2.2.1.c4; go_simp; (try with_reducible rfl)
    try simp only [Act.put, List.setIfInBounds_toArray, List.set_cons_zero, List.set_cons_succ]
    refine wpAnyH_take (i := 6) (oi := { dst := some 69, op := Op.load 24 (Operand.tmp 3), type := 24, pos := "law.go:81", after := #[{ on := 3, ground := Ground.guard }], guard := some (3, true) }) (v := ?_) rfl (by kernel_rfl) (by kernel_rfl) (by kernel_rfl) (fun _ _ _ h => h) (Or.inl ⟨by kernel_rfl, ?_⟩) (by assumption) ?_
    rotate_left
    · intro wS hSw; (try dsimp only at hSw); have q0 := hSw.1.c0; have q1 := hSw.1.c1; have q2 := hSw.1.c2; have q3 := hSw.1.c3; have q4 := hSw.1.c4; go_simp; (try with_reducible rfl)
    try simp only [Act.put, List.setIfInBounds_toArray, List.set_cons_zero, List.set_cons_succ]
    refine wpAnyH_take (i := 9) (oi := { dst := some 72, op := Op.load 24 (Operand.tmp 4), type := 24, pos := "law.go:81", after := #[{ on := 3, ground := Ground.guard }], guard := some (3, true) }) (v := ?_) rfl (by kernel_rfl) (by kernel_rfl) (by kernel_rfl) (fun _ _ _ h => h) (Or.inl ⟨by kernel_rfl, ?_⟩) (by assumption) ?_
    rotate_left
    · intro wS hSw; (try dsimp only at hSw); have q0 := hSw.2.1.c0; have q1 := hSw.2.1.c1; have q2 := hSw.2.1.c2; have q3 := hSw.2.1.c3; have q4 := hSw.2.1.c4; go_simp; (try with_reducible rfl)
    try simp only [Act.put, List.setIfInBounds_toArray, List.set_cons_zero, List.set_cons_succ]
    refine wpAnyH_ready (rs := [5]) (by kernel_rfl) (by simp) ?_
    refine AllReadyH.cons (o := { dst := some 68, op := Op.call { callee := Callee.value (Operand.func 10), args := #[Operand.tmp 67], argTypes := #[24] }, type := 3, pos := "law.go:81", after := #[{ on := 4, ground := Ground.data }, { on := 3, ground := Ground.chain }, { on := 3, ground := Ground.guard }], guard := some (3, true) }) rfl (fun K hK => ?_) AllReadyH.nil
    go_simp
    go_at_call 10
    refine (HSC.out _ _ HBW.out HT1.out).mono ?_
    rintro e u2 ⟨rfl, hb1⟩
    replace HBA : Hid _ := HBA.out.below hb1
    replace HBB : Hid _ := HBB.out.below hb1
    replace HX2 : Hid _ := HX2.out.below hb1
    replace HX7 : Hid _ := HX7.out.below hb1
    replace HT1 : Hid (At u2 v2.heap.size [.int .i64 ka, .string ta, .int .i64 na, .int .i64 pa, .slice sa la ca, .int .i64 kb, .string tb, .int .i64 nb, .int .i64 pb, .slice sb lb cb]) := HT1.out.below hb1
    replace HBW : Hid _ := HBW.out.trans (hb1.mono HBW.out.size)
    clear hb1
    refine hK.out _ _ ?_ (fun hH5 => ?_)
    · (try dsimp only); exact ⟨HBA.out, HBB.out, HX2.out, HX7.out⟩
    clear hK K
    try simp only [Act.put, List.setIfInBounds_toArray, List.set_cons_zero, List.set_cons_succ]
    refine wpAnyH_ready (rs := [7]) (by kernel_rfl) (by simp) ?_
    refine AllReadyH.cons (o := { dst := some 70, op := Op.call { callee := Callee.value (Operand.func 10), args := #[Operand.tmp 69], argTypes := #[24] }, type := 3, pos := "law.go:81", after := #[{ on := 6, ground := Ground.data }, { on := 5, ground := Ground.chain }, { on := 3, ground := Ground.guard }], guard := some (3, true) }) rfl (fun K hK => ?_) AllReadyH.nil
    go_simp
    go_at_call 10
    refine (HSA.out _ HBW.out).mono ?_
    rintro e u3 ⟨rfl, hb1⟩
    replace HBA : Hid _ := HBA.out.below hb1
    replace HBB : Hid _ := HBB.out.below hb1
    replace HX2 : Hid _ := HX2.out.below hb1
    replace HX7 : Hid _ := HX7.out.below hb1
    replace HT1 : Hid (At u3 v2.heap.size [.int .i64 ka, .string ta, .int .i64 na, .int .i64 pa, .slice sa la ca, .int .i64 kb, .string tb, .int .i64 nb, .int .i64 pb, .slice sb lb cb]) := HT1.out.below hb1
    replace HBW : Hid _ := HBW.out.trans (hb1.mono HBW.out.size)
    clear hb1
    refine hK.out _ _ ?_ (fun hH7 => ?_)
    · (try dsimp only); exact ⟨HBA.out, HBB.out, HX2.out, HX7.out⟩
    clear hK K
    try simp only [Act.put, List.setIfInBounds_toArray, List.set_cons_zero, List.set_cons_succ]
    refine wpAnyH_take (i := 8) (oi := { dst := some 71, op := Op.binOp BinOp.add 3 (Operand.const (Value.int IntKind.i64 1)) (Operand.tmp 70) 3, type := 3, pos := "law.go:81", after := #[{ on := 7, ground := Ground.data }, { on := 3, ground := Ground.guard }], guard := some (3, true) }) (v := ?_) rfl (by kernel_rfl) (by kernel_rfl) (by kernel_rfl) (fun _ _ _ h => h) (Or.inl ⟨by kernel_rfl, ?_⟩) (by assumption) ?_
    rotate_left
    · intro wS hSw; (try dsimp only at hSw); go_simp; (try with_reducible rfl)
    try simp only [Act.put, List.setIfInBounds_toArray, List.set_cons_zero, List.set_cons_succ]
    refine wpAnyH_ready (rs := [10]) (by kernel_rfl) (by simp) ?_
    refine AllReadyH.cons (o := { dst := some 73, op := Op.call { callee := Callee.value (Operand.func 10), args := #[Operand.tmp 72], argTypes := #[24] }, type := 3, pos := "law.go:81", after := #[{ on := 9, ground := Ground.data }, { on := 7, ground := Ground.chain }, { on := 3, ground := Ground.guard }], guard := some (3, true) }) rfl (fun K hK => ?_) AllReadyH.nil
    go_simp
    go_at_call 10
    refine (HSB.out _ HBW.out).mono ?_
    rintro e u4 ⟨rfl, hb1⟩
    replace HBA : Hid _ := HBA.out.below hb1
    replace HBB : Hid _ := HBB.out.below hb1
    replace HX2 : Hid _ := HX2.out.below hb1
    replace HX7 : Hid _ := HX7.out.below hb1
    replace HT1 : Hid (At u4 v2.heap.size [.int .i64 ka, .string ta, .int .i64 na, .int .i64 pa, .slice sa la ca, .int .i64 kb, .string tb, .int .i64 nb, .int .i64 pb, .slice sb lb cb]) := HT1.out.below hb1
    replace HBW : Hid _ := HBW.out.trans (hb1.mono HBW.out.size)
    clear hb1
    refine hK.out _ _ ?_ (fun hH10 => ?_)
    · (try dsimp only); exact ⟨HBA.out, HBB.out, HX2.out, HX7.out⟩
    clear hK K
    try simp only [Act.put, List.setIfInBounds_toArray, List.set_cons_zero, List.set_cons_succ]
    refine wpAnyH_take (i := 11) (oi := { dst := some 74, op := Op.binOp BinOp.add 3 (Operand.tmp 71) (Operand.tmp 73) 3, type := 3, pos := "law.go:81", after := #[{ on := 8, ground := Ground.data }, { on := 10, ground := Ground.data }, { on := 3, ground := Ground.guard }], guard := some (3, true) }) (v := ?_) rfl (by kernel_rfl) (by kernel_rfl) (by kernel_rfl) (fun _ _ _ h => h) (Or.inl ⟨by kernel_rfl, ?_⟩) (by assumption) ?_
    rotate_left
    · intro wS hSw; (try dsimp only at hSw); go_simp; (try with_reducible rfl)
    try simp only [Act.put, List.setIfInBounds_toArray, List.set_cons_zero, List.set_cons_succ]
    refine wpAnyH_take (i := 12) (oi := { dst := some 75, op := Op.binOp BinOp.eql 3 (Operand.tmp 68) (Operand.tmp 74) 3, type := 4, pos := "law.go:81", after := #[{ on := 5, ground := Ground.data }, { on := 11, ground := Ground.data }, { on := 3, ground := Ground.guard }], guard := some (3, true) }) (v := ?_) rfl (by kernel_rfl) (by kernel_rfl) (by kernel_rfl) (fun _ _ _ h => h) (Or.inl ⟨by kernel_rfl, ?_⟩) (by assumption) ?_
    rotate_left
    · intro wS hSw; (try dsimp only at hSw); go_simp; (try with_reducible rfl)
    try simp only [Act.put, List.setIfInBounds_toArray, List.set_cons_zero, List.set_cons_succ]
    refine wpAnyH_take (i := 13) (oi := { dst := some 76, op := Op.pick (Operand.tmp 66) (Operand.tmp 75) (Operand.const (Value.bool false)), type := 4, pos := "law.go:81", after := #[{ on := 3, ground := Ground.data }, { on := 12, ground := Ground.data }], guard := none }) (v := ?_) rfl (by kernel_rfl) (by kernel_rfl) (by kernel_rfl) (fun _ _ _ h => h) (Or.inl ⟨by kernel_rfl, ?_⟩) (by assumption) ?_
    rotate_left
    · intro wS hSw; (try dsimp only at hSw); go_simp; (try with_reducible rfl)
    try simp only [Act.put, List.setIfInBounds_toArray, List.set_cons_zero, List.set_cons_succ]
    refine wpAnyH_take (i := 14) (oi := { dst := some 77, op := Op.move (Operand.tmp 76), type := 4, pos := "law.go:81", after := #[{ on := 13, ground := Ground.data }, { on := 10, ground := Ground.chain }], guard := none }) (v := ?_) rfl (by kernel_rfl) (by kernel_rfl) (by kernel_rfl) (fun _ _ _ h => h) (Or.inl ⟨by kernel_rfl, ?_⟩) (by assumption) ?_
    rotate_left
    · intro wS hSw; (try dsimp only at hSw); go_simp; (try with_reducible rfl)
    try simp only [Act.put, List.setIfInBounds_toArray, List.set_cons_zero, List.set_cons_succ]
    refine wpAnyH_take (i := 15) (oi := { dst := some 78, op := Op.load 24 (Operand.tmp 9), type := 24, pos := "law.go:81", after := #[{ on := 14, ground := Ground.guard }], guard := some (14, true) }) (v := ?_) rfl (by kernel_rfl) (by kernel_rfl) (by kernel_rfl) (fun _ _ _ h => h) (Or.inl ⟨by kernel_rfl, ?_⟩) (by assumption) ?_
    rotate_left
    · intro wS hSw; (try dsimp only at hSw); have q0 := hSw.2.2.1.c0; have q1 := hSw.2.2.1.c1; have q2 := hSw.2.2.1.c2; have q3 := hSw.2.2.1.c3; have q4 := hSw.2.2.1.c4; go_simp; (try with_reducible rfl)
    try simp only [Act.put, List.setIfInBounds_toArray, List.set_cons_zero, List.set_cons_succ]
    refine wpAnyH_take (i := 17) (oi := { dst := some 80, op := Op.load 24 (Operand.tmp 3), type := 24, pos := "law.go:81", after := #[{ on := 14, ground := Ground.guard }], guard := some (14, true) }) (v := ?_) rfl (by kernel_rfl) (by kernel_rfl) (by kernel_rfl) (fun _ _ _ h => h) (Or.inl ⟨by kernel_rfl, ?_⟩) (by assumption) ?_
    rotate_left
    · intro wS hSw; (try dsimp only at hSw); have q0 := hSw.1.c0; have q1 := hSw.1.c1; have q2 := hSw.1.c2; have q3 := hSw.1.c3; have q4 := hSw.1.c4; go_simp; (try with_reducible rfl)
    try simp only [Act.put, List.setIfInBounds_toArray, List.set_cons_zero, List.set_cons_succ]
    refine wpAnyH_take (i := 19) (oi := { dst := some 82, op := Op.load 24 (Operand.tmp 4), type := 24, pos := "law.go:81", after := #[{ on := 14, ground := Ground.guard }], guard := some (14, true) }) (v := ?_) rfl (by kernel_rfl) (by kernel_rfl) (by kernel_rfl) (fun _ _ _ h => h) (Or.inl ⟨by kernel_rfl, ?_⟩) (by assumption) ?_
    rotate_left
    · intro wS hSw; (try dsimp only at hSw); have q0 := hSw.2.1.c0; have q1 := hSw.2.1.c1; have q2 := hSw.2.1.c2; have q3 := hSw.2.1.c3; have q4 := hSw.2.1.c4; go_simp; (try with_reducible rfl)
    try simp only [Act.put, List.setIfInBounds_toArray, List.set_cons_zero, List.set_cons_succ]
    refine wpAnyH_ready (rs := [16]) (by kernel_rfl) (by simp) ?_
    refine AllReadyH.cons (o := { dst := some 79, op := Op.call { callee := Callee.value (Operand.func 12), args := #[Operand.tmp 78], argTypes := #[24] }, type := 3, pos := "law.go:81", after := #[{ on := 15, ground := Ground.data }, { on := 14, ground := Ground.chain }, { on := 14, ground := Ground.guard }], guard := some (14, true) }) rfl (fun K hK => ?_) AllReadyH.nil
    go_simp
    go_at_call 12
    refine (HDC.out _ _ HBW.out HT1.out).mono ?_
    rintro e u5 ⟨rfl, hb1⟩
    replace HBA : Hid _ := HBA.out.below hb1
    replace HBB : Hid _ := HBB.out.below hb1
    replace HX2 : Hid _ := HX2.out.below hb1
    replace HX7 : Hid _ := HX7.out.below hb1
    replace HT1 : Hid (At u5 v2.heap.size [.int .i64 ka, .string ta, .int .i64 na, .int .i64 pa, .slice sa la ca, .int .i64 kb, .string tb, .int .i64 nb, .int .i64 pb, .slice sb lb cb]) := HT1.out.below hb1
    replace HBW : Hid _ := HBW.out.trans (hb1.mono HBW.out.size)
    clear hb1
    refine hK.out _ _ ?_ (fun hH16 => ?_)
    · (try dsimp only); exact ⟨HBA.out, HBB.out, HX2.out, HX7.out⟩
    clear hK K
    try simp only [Act.put, List.setIfInBounds_toArray, List.set_cons_zero, List.set_cons_succ]
    refine wpAnyH_ready (rs := [18]) (by kernel_rfl) (by simp) ?_
    refine AllReadyH.cons (o := { dst := some 81, op := Op.call { callee := Callee.value (Operand.func 12), args := #[Operand.tmp 80], argTypes := #[24] }, type := 3, pos := "law.go:81", after := #[{ on := 17, ground := Ground.data }, { on := 16, ground := Ground.chain }, { on := 14, ground := Ground.guard }], guard := some (14, true) }) rfl (fun K hK => ?_) AllReadyH.nil
    go_simp
    go_at_call 12
    refine (HDA.out _ HBW.out).mono ?_
    rintro e u6 ⟨rfl, hb1⟩
    replace HBA : Hid _ := HBA.out.below hb1
    replace HBB : Hid _ := HBB.out.below hb1
    replace HX2 : Hid _ := HX2.out.below hb1
    replace HX7 : Hid _ := HX7.out.below hb1
    replace HT1 : Hid (At u6 v2.heap.size [.int .i64 ka, .string ta, .int .i64 na, .int .i64 pa, .slice sa la ca, .int .i64 kb, .string tb, .int .i64 nb, .int .i64 pb, .slice sb lb cb]) := HT1.out.below hb1
    replace HBW : Hid _ := HBW.out.trans (hb1.mono HBW.out.size)
    clear hb1
    refine hK.out _ _ ?_ (fun hH18 => ?_)
    · (try dsimp only); exact ⟨HBA.out, HBB.out, HX2.out, HX7.out⟩
    clear hK K
    try simp only [Act.put, List.setIfInBounds_toArray, List.set_cons_zero, List.set_cons_succ]
    refine wpAnyH_ready (rs := [20]) (by kernel_rfl) (by simp) ?_
    refine AllReadyH.cons (o := { dst := some 83, op := Op.call { callee := Callee.value (Operand.func 12), args := #[Operand.tmp 82], argTypes := #[24] }, type := 3, pos := "law.go:81", after := #[{ on := 19, ground := Ground.data }, { on := 18, ground := Ground.chain }, { on := 14, ground := Ground.guard }], guard := some (14, true) }) rfl (fun K hK => ?_) AllReadyH.nil
    go_simp
    go_at_call 12
    refine (HDB.out _ HBW.out).mono ?_
    rintro e u7 ⟨rfl, hb1⟩
    replace HBA : Hid _ := HBA.out.below hb1
    replace HBB : Hid _ := HBB.out.below hb1
    replace HX2 : Hid _ := HX2.out.below hb1
    replace HX7 : Hid _ := HX7.out.below hb1
    replace HT1 : Hid (At u7 v2.heap.size [.int .i64 ka, .string ta, .int .i64 na, .int .i64 pa, .slice sa la ca, .int .i64 kb, .string tb, .int .i64 nb, .int .i64 pb, .slice sb lb cb]) := HT1.out.below hb1
    replace HBW : Hid _ := HBW.out.trans (hb1.mono HBW.out.size)
    clear hb1
    refine hK.out _ _ ?_ (fun hH20 => ?_)
    · (try dsimp only); exact ⟨HBA.out, HBB.out, HX2.out, HX7.out⟩
    clear hK K
    try simp only [Act.put, List.setIfInBounds_toArray, List.set_cons_zero, List.set_cons_succ]
    refine wpAnyH_take (i := 21) (oi := { dst := some 84, op := Op.call { callee := Callee.builtin Builtin.max, args := #[Operand.tmp 81, Operand.tmp 83], argTypes := #[3, 3] }, type := 3, pos := "law.go:81", after := #[{ on := 18, ground := Ground.data }, { on := 20, ground := Ground.data }, { on := 14, ground := Ground.guard }], guard := some (14, true) }) (v := ?_) rfl (by kernel_rfl) (by kernel_rfl) (by kernel_rfl) (fun _ _ _ h => h) (Or.inl ⟨by kernel_rfl, ?_⟩) (by assumption) ?_
    rotate_left
    · intro wS hSw; (try dsimp only at hSw); go_simp; (try with_reducible rfl)
    try simp only [Act.put, List.setIfInBounds_toArray, List.set_cons_zero, List.set_cons_succ]
    refine wpAnyH_take (i := 22) (oi := { dst := some 85, op := Op.binOp BinOp.add 3 (Operand.const (Value.int IntKind.i64 1)) (Operand.tmp 84) 3, type := 3, pos := "law.go:81", after := #[{ on := 21, ground := Ground.data }, { on := 14, ground := Ground.guard }], guard := some (14, true) }) (v := ?_) rfl (by kernel_rfl) (by kernel_rfl) (by kernel_rfl) (fun _ _ _ h => h) (Or.inl ⟨by kernel_rfl, ?_⟩) (by assumption) ?_
    rotate_left
    · intro wS hSw; (try dsimp only at hSw); go_simp; (try with_reducible rfl)
    try simp only [Act.put, List.setIfInBounds_toArray, List.set_cons_zero, List.set_cons_succ]
    refine wpAnyH_take (i := 23) (oi := { dst := some 86, op := Op.binOp BinOp.eql 3 (Operand.tmp 79) (Operand.tmp 85) 3, type := 4, pos := "law.go:81", after := #[{ on := 16, ground := Ground.data }, { on := 22, ground := Ground.data }, { on := 14, ground := Ground.guard }], guard := some (14, true) }) (v := ?_) rfl (by kernel_rfl) (by kernel_rfl) (by kernel_rfl) (fun _ _ _ h => h) (Or.inl ⟨by kernel_rfl, ?_⟩) (by assumption) ?_
    rotate_left
    · intro wS hSw; (try dsimp only at hSw); go_simp; (try with_reducible rfl)
    try simp only [Act.put, List.setIfInBounds_toArray, List.set_cons_zero, List.set_cons_succ]
    refine wpAnyH_take (i := 24) (oi := { dst := some 87, op := Op.pick (Operand.tmp 77) (Operand.tmp 86) (Operand.const (Value.bool false)), type := 4, pos := "law.go:81", after := #[{ on := 14, ground := Ground.data }, { on := 23, ground := Ground.data }], guard := none }) (v := ?_) rfl (by kernel_rfl) (by kernel_rfl) (by kernel_rfl) (fun _ _ _ h => h) (Or.inl ⟨by kernel_rfl, ?_⟩) (by assumption) ?_
    rotate_left
    · intro wS hSw; (try dsimp only at hSw); go_simp; (try with_reducible rfl)
    try simp only [Act.put, List.setIfInBounds_toArray, List.set_cons_zero, List.set_cons_succ]
    refine wpAnyH_take (i := 25) (oi := { dst := some 88, op := Op.move (Operand.tmp 87), type := 4, pos := "law.go:81", after := #[{ on := 24, ground := Ground.data }, { on := 20, ground := Ground.chain }], guard := none }) (v := ?_) rfl (by kernel_rfl) (by kernel_rfl) (by kernel_rfl) (fun _ _ _ h => h) (Or.inl ⟨by kernel_rfl, ?_⟩) (by assumption) ?_
    rotate_left
    · intro wS hSw; (try dsimp only at hSw); go_simp; (try with_reducible rfl)
    try simp only [Act.put, List.setIfInBounds_toArray, List.set_cons_zero, List.set_cons_succ]
    refine wpAnyH_ready (rs := [26]) (by kernel_rfl) (by simp) ?_
    refine AllReadyH.cons (o := { dst := some 89, op := Op.call { callee := Callee.value (Operand.func 17), args := #[], argTypes := #[] }, type := 4, pos := "law.go:81", after := #[{ on := 25, ground := Ground.chain }, { on := 25, ground := Ground.guard }], guard := some (25, true) }) rfl (fun K hK => ?_) AllReadyH.nil
    go_simp
    go_at_call 17
    refine (sure_any _ (hR.below HBW.out)).mono ?_
    rintro e u8 ⟨rfl, hb1⟩
    replace HBA : Hid _ := HBA.out.below hb1
    replace HBB : Hid _ := HBB.out.below hb1
    replace HX2 : Hid _ := HX2.out.below hb1
    replace HX7 : Hid _ := HX7.out.below hb1
    replace HT1 : Hid (At u8 v2.heap.size [.int .i64 ka, .string ta, .int .i64 na, .int .i64 pa, .slice sa la ca, .int .i64 kb, .string tb, .int .i64 nb, .int .i64 pb, .slice sb lb cb]) := HT1.out.below hb1
    replace HBW : Hid _ := HBW.out.trans (hb1.mono HBW.out.size)
    clear hb1
    refine hK.out _ _ ?_ (fun hH26 => ?_)
    · (try dsimp only); exact ⟨HBA.out, HBB.out, HX2.out, HX7.out⟩
    clear hK K
    try simp only [Act.put, List.setIfInBounds_toArray, List.set_cons_zero, List.set_cons_succ]
    refine wpAnyH_take (i := 27) (oi := { dst := some 90, op := Op.pick (Operand.tmp 88) (Operand.tmp 89) (Operand.const (Value.bool false)), type := 4, pos := "law.go:81", after := #[{ on := 25, ground := Ground.data }, { on := 26, ground := Ground.data }], guard := none }) (v := ?_) rfl (by kernel_rfl) (by kernel_rfl) (by kernel_rfl) (fun _ _ _ h => h) (Or.inl ⟨by kernel_rfl, ?_⟩) (by assumption) ?_
    rotate_left
    · intro wS hSw; (try dsimp only at hSw); go_simp; (try with_reducible rfl)
    try simp only [Act.put, List.setIfInBounds_toArray, List.set_cons_zero, List.set_cons_succ]
    refine wpAnyH_take (i := 28) (oi := { dst := some 6, op := Op.assign (Operand.tmp 90), type := 4, pos := "law.go:81", after := #[{ on := 27, ground := Ground.data }, { on := 26, ground := Ground.chain }, { on := 0, ground := Ground.phase }, { on := 1, ground := Ground.phase }, { on := 2, ground := Ground.phase }, { on := 3, ground := Ground.phase }, { on := 4, ground := Ground.phase }, { on := 5, ground := Ground.phase }, { on := 6, ground := Ground.phase }, { on := 7, ground := Ground.phase }, { on := 8, ground := Ground.phase }, { on := 9, ground := Ground.phase }, { on := 10, ground := Ground.phase }, { on := 11, ground := Ground.phase }, { on := 12, ground := Ground.phase }, { on := 13, ground := Ground.phase }, { on := 14, ground := Ground.phase }, { on := 15, ground := Ground.phase }, { on := 16, ground := Ground.phase }, { on := 17, ground := Ground.phase }, { on := 18, ground := Ground.phase }, { on := 19, ground := Ground.phase }, { on := 20, ground := Ground.phase }, { on := 21, ground := Ground.phase }, { on := 22, ground := Ground.phase }, { on := 23, ground := Ground.phase }, { on := 24, ground := Ground.phase }, { on := 25, ground := Ground.phase }, { on := 26, ground := Ground.phase }, { on := 27, ground := Ground.phase }], guard := none }) (v := ?_) rfl (by kernel_rfl) (by kernel_rfl) (by kernel_rfl) (fun _ _ _ h => h) (Or.inl ⟨by kernel_rfl, ?_⟩) (by assumption) ?_
    rotate_left
    · intro wS hSw; (try dsimp only at hSw); go_simp; (try with_reducible rfl)
    try simp only [Act.put, List.setIfInBounds_toArray, List.set_cons_zero, List.set_cons_succ]
    refine wpAnyH_done (by kernel_rfl) ?_ _
    go_wp2
    go_ret
    exact ⟨rfl, HBW.out⟩
end Go.Proofs.YtcemogaacicnfaaGreatDoor
