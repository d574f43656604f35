/- A function by its name (find). -/
import Derived.Test.YtjphmbgennadcaaGreatDoorTab
import Derived.Laws.EntriesVeiled
namespace Go.Proofs.YtjphmbgennadcaaGreatDoor
set_option maxHeartbeats 4000000
set_option linter.unusedSimpArgs false
open Go.ChangeShapes Go.WideShapes Go.ChangeAt Go.RowKit


/-- The table's row in its box, the box of the result, all else as it was. -/
structure Fst (w : World) (fb m : Nat) (wS : World) : Prop where
  bel : Bel w.heap.size w wS
  lt : w.heap.size < fb
  f0 : wS.cell? ⟨fb, 0, none⟩ = some (.string (nmA m))
  f1 : wS.cell? ⟨fb, 1, none⟩ = some (.func (.func (tkF m)) #[] #[])
  f2 : wS.cell? ⟨fb, 2, none⟩ = some (.int .i64 (anI m))
  f3 : wS.cell? ⟨fb, 3, none⟩ = some (.func (.func (dsF m)) #[] #[])
  f4 : wS.cell? ⟨fb, 4, none⟩ = some (.bool (snB m))
  r : ∀ i, i < 5 → ∃ u, wS.cell? ⟨w.heap.size, i, none⟩ = some u
  fr : ∀ i, i < 5 → wS.frozen? ⟨w.heap.size, i, none⟩ = false
theorem Fst.drew {w wS : World} {fb m : Nat} (h : Fst w fb m wS) : Fst w fb m wS.drew := { h with bel := h.bel.drew }
theorem Fst.below {w wS w' : World} {fb m : Nat} (h : Fst w fb m wS) (hb : Below wS.heap.size wS w') : Fst w fb m w' where
  bel := h.bel.step hb
  lt := h.lt
  f0 := cell_below hb h.f0
  f1 := cell_below hb h.f1
  f2 := cell_below hb h.f2
  f3 := cell_below hb h.f3
  f4 := cell_below hb h.f4
  r := fun i hi => by obtain ⟨u, hu⟩ := h.r i hi; exact ⟨u, cell_below hb hu⟩
  fr := fun i hi => by obtain ⟨u, hu⟩ := h.r i hi; rw [hb.frozen (p := ⟨w.heap.size, i, none⟩) (cell_lt hu)]; exact h.fr i hi
theorem set_off {w : World} {b x y : Nat} {u : Value} (h : x ≠ y) : (w.setCell ⟨b, y, none⟩ u).cell? ⟨b, x, none⟩ = w.cell? ⟨b, x, none⟩ := World.cell?_setCell_other _ _ _ _ (by intro e; injection e with _ e2 _; exact h e2.symm)
theorem set_blk {w : World} {b c x y : Nat} {u : Value} (h : b ≠ c) : (w.setCell ⟨c, y, none⟩ u).cell? ⟨b, x, none⟩ = w.cell? ⟨b, x, none⟩ := World.cell?_setCell_other _ _ _ _ (by intro e; injection e with e2 _ _; exact h e2.symm)
theorem Fst.set {w wS : World} {fb m i : Nat} {u : Value} (h : Fst w fb m wS) : Fst w fb m (wS.setCell ⟨w.heap.size, i, none⟩ u) where
  bel := h.bel.setCell (Nat.le_refl _) _
  lt := h.lt
  f0 := by rw [set_blk (Nat.ne_of_gt h.lt)]; exact h.f0
  f1 := by rw [set_blk (Nat.ne_of_gt h.lt)]; exact h.f1
  f2 := by rw [set_blk (Nat.ne_of_gt h.lt)]; exact h.f2
  f3 := by rw [set_blk (Nat.ne_of_gt h.lt)]; exact h.f3
  f4 := by rw [set_blk (Nat.ne_of_gt h.lt)]; exact h.f4
  r := fun j hj => by
    obtain ⟨x, hx⟩ := h.r j hj
    by_cases e : j = i
    · subst e; exact ⟨u, World.cell?_setCell_same _ _ _ hx⟩
    · exact ⟨x, by rw [set_off e]; exact hx⟩
  fr := fun j hj => by rw [World.frozen?_setCell]; exact h.fr j hj
theorem set5 {W : World} {b : Nat} {u0 u1 u2 u3 u4 : Value} (v0 v1 v2 v3 v4 : Value) (h0 : W.cell? ⟨b, 0, none⟩ = some u0) (h1 : W.cell? ⟨b, 1, none⟩ = some u1) (h2 : W.cell? ⟨b, 2, none⟩ = some u2) (h3 : W.cell? ⟨b, 3, none⟩ = some u3) (h4 : W.cell? ⟨b, 4, none⟩ = some u4) :
    let X := ((((W.setCell ⟨b, 0, none⟩ v0).setCell ⟨b, 1, none⟩ v1).setCell ⟨b, 2, none⟩ v2).setCell ⟨b, 3, none⟩ v3).setCell ⟨b, 4, none⟩ v4
    X.cell? ⟨b, 0, none⟩ = some v0 ∧ X.cell? ⟨b, 1, none⟩ = some v1 ∧ X.cell? ⟨b, 2, none⟩ = some v2 ∧ X.cell? ⟨b, 3, none⟩ = some v3 ∧ X.cell? ⟨b, 4, none⟩ = some v4 := by
  refine ⟨?_, ?_, ?_, ?_, ?_⟩
  · rw [set_off (by decide), set_off (by decide), set_off (by decide), set_off (by decide)]; exact World.cell?_setCell_same _ _ _ h0
  · rw [set_off (by decide), set_off (by decide), set_off (by decide)]; exact World.cell?_setCell_same _ _ _ (by rw [set_off (by decide)]; exact h1)
  · rw [set_off (by decide), set_off (by decide)]; exact World.cell?_setCell_same _ _ _ (by rw [set_off (by decide), set_off (by decide)]; exact h2)
  · rw [set_off (by decide)]; exact World.cell?_setCell_same _ _ _ (by rw [set_off (by decide), set_off (by decide), set_off (by decide)]; exact h3)
  · exact World.cell?_setCell_same _ _ _ (by rw [set_off (by decide), set_off (by decide), set_off (by decide), set_off (by decide)]; exact h4)
/-- The name stands in the k-th row. -/
def nmP (s : ByteArray) (k : Nat) : Bool := (nmA k).toList == s.toList
def fdK (s : ByteArray) : Option Nat := fnd (nmP s) 18 0
def zroV : Value := .agg #[.string ⟨#[]⟩, .nilFunc, .int .i64 0, .nilFunc, .bool false]
/-- What is found: the row, and whether it takes these kinds. -/
def fdV (o : Option Nat) : Value := match o with
  | some k => .agg #[.string (nmA k), .func (.func (tkF k)) #[] #[], .int .i64 (anI k), .func (.func (dsF k)) #[] #[], .bool (snB k)]
  | none => zroV
def fdB (o : Option Nat) (l : List Int) : Bool := match o with
  | some k => areK l && tkP k l
  | none => false
theorem tak_all (k : Nat) (hk : k < 18) : Tak (tkF k) (tkP k) := by
  rcases (show k = 0 ∨ k = 1 ∨ k = 2 ∨ k = 3 ∨ k = 4 ∨ k = 5 ∨ k = 6 ∨ k = 7 ∨ k = 8 ∨ k = 9 ∨ k = 10 ∨ k = 11 ∨ k = 12 ∨ k = 13 ∨ k = 14 ∨ k = 15 ∨ k = 16 ∨ k = 17 by omega) with rfl | rfl | rfl | rfl | rfl | rfl | rfl | rfl | rfl | rfl | rfl | rfl | rfl | rfl | rfl | rfl | rfl | rfl
  · exact tak_41
  · exact tak_41
  · exact tak_44
  · exact tak_46
  · exact tak_41
  · exact tak_44
  · exact tak_44
  · exact tak_51
  · exact tak_51
  · exact tak_54
  · exact tak_41
  · exact tak_41
  · exact tak_58
  · exact tak_41
  · exact tak_41
  · exact tak_62
  · exact tak_51
  · exact tak_51
theorem find_go (s : ByteArray) (a : Option Addr) (cap : Nat) (l : List Int) (w : World) (hlen : l.length ≤ 9223372036854775807) (hcap : l.length ≤ cap) (hk : KsAt w a l) :
    Calls Tryz.prog 22 #[.string s, .slice a l.length cap] w fun e w' => e = .returned (.tuple #[fdV (fdK s), .bool (fdB (fdK s) l)]) ∧ Below w.heap.size w w' := by
  have HK : Hid (KsAt w a l) := hk
  have HL : Hid (l.length ≤ 9223372036854775807) := hlen
  have HCp : Hid (l.length ≤ cap) := hcap
  clear hk hlen hcap
  go_enter Tryz.func22, Tryz.ntmps22
  go_wp2_with (go_at_call 21; refine (table_any _).mono ?_; rintro e w1 ⟨rfl, hb1⟩)
  obtain ⟨V, hV⟩ : ∃ V, V = tabL.toArray := ⟨_, rfl⟩
  have HIx : Hid (∀ (m : Nat), m < 18 → ∀ w : World, (Instr.index 50 (.agg V) (.int .i64 m)).run Tryz.prog w = .ok (.agg #[.string (nmA m), .func (.func (tkF m)) #[] #[], .int .i64 (anI m), .func (.func (dsF m)) #[] #[], .bool (snB m)]) w) := by rw [hV]; exact fun m hm w => tab_at m hm w
  rw [← hV]
  clear hV
  have HR0 : Hid (Bel w.heap.size w w1 ∧ w.heap.size < w1.heap.size ∧ (∀ i, i < 5 → ∃ u, w1.cell? ⟨w.heap.size, i, none⟩ = some u) ∧ (∀ i, i < 5 → w1.frozen? ⟨w.heap.size, i, none⟩ = false)) := by
    have hsz : w.heap.size < w1.heap.size := by have := hb1.size; simp at this; omega
    refine ⟨(Bel.alloc (Bel.refl _) _).step hb1, hsz, fun i hi => ?_, fun i hi => ?_⟩
    · rcases (show i = 0 ∨ i = 1 ∨ i = 2 ∨ i = 3 ∨ i = 4 by omega) with rfl | rfl | rfl | rfl | rfl
      all_goals exact ⟨_, cell_below hb1 (World.cell?_alloc_new _ _ _ _)⟩
    · rw [hb1.frozen (p := ⟨w.heap.size, i, none⟩) (by simp)]
      exact World.frozen?_alloc_new _ _ _ _
  clear hb1
  go_loopw [9] (fun i wr => ∃ m : Nat, m ≤ 18 ∧ i = .int .i64 m ∧ fnd (nmP s) 18 m = fdK s ∧ (Bel w.heap.size w wr ∧ w.heap.size < wr.heap.size ∧ (∀ i, i < 5 → ∃ u, wr.cell? ⟨w.heap.size, i, none⟩ = some u) ∧ (∀ i, i < 5 → wr.frozen? ⟨w.heap.size, i, none⟩ = false))) (fun i _ => 18 - (intOf i).toNat)
  case atStart => exact ⟨0, Nat.zero_le _, rfl, rfl, HR0.out⟩
  case round =>
    obtain ⟨m, hm, rfl, hV, hR⟩ := hrel
    have HV : Hid (fnd (nmP s) 18 m = fdK s) := hV
    have HR : Hid _ := hR
    have hwr : w.heap.size < wr.heap.size := hR.2.1
    clear hV HR0 hR
    rcases Nat.lt_or_ge m 18 with hlt | hge
    · have hix := HIx.out m hlt
      generalize hp : nmP s m = p
      have hq : ((nmA m).toList == s.toList) = p := hp
      have HP : Hid (nmP s m = p) := hp
      clear hp
      cases p
      · have HN : Hid (fnd (nmP s) 18 (m + 1) = fdK s) := by show _ = _; rw [← HV.out, fnd_miss hlt HP.out]
        go_wp2
        go_roundw
        case rel =>
          obtain ⟨h1, h2, h3, h4⟩ := HR.out
          have hA : Below wr.heap.size wr (wr.alloc (.cells #[.string (nmA m), .func (.func (tkF m)) #[] #[], .int .i64 (anI m), .func (.func (dsF m)) #[] #[], .bool (snB m)] 49)) := (Below.refl _ _).alloc (Nat.le_refl _) _
          refine ⟨m + 1, by omega, by go_num, HN.out, h1.step hA, by simp; omega, fun i hi => ?_, fun i hi => ?_⟩
          · obtain ⟨u, hu⟩ := h3 i hi; exact ⟨u, cell_below hA hu⟩
          · rw [hA.frozen (p := ⟨w.heap.size, i, none⟩) hwr]; exact h4 i hi
        case measure => simp [intOf]; omega
      · have HN : Hid (fdK s = some m) := by show _ = _; rw [← HV.out, fnd_hit hlt HP.out]
        have HT := (tak_all m hlt)
        have hE := HT.ent
        unfold Ent at hE
        have HTr : Hid _ := HT.run
        clear HT
        go_wp2
        obtain ⟨fb, hfb⟩ : ∃ fb, fb = wr.heap.size := ⟨_, rfl⟩
        have HF : Hid (Fst w fb m (wr.alloc (.cells #[.string (nmA m), .func (.func (tkF m)) #[] #[], .int .i64 (anI m), .func (.func (dsF m)) #[] #[], .bool (snB m)] 49))) := by
          obtain ⟨h1, h2, h3, h4⟩ := HR.out
          have hA : Below wr.heap.size wr (wr.alloc (.cells #[.string (nmA m), .func (.func (tkF m)) #[] #[], .int .i64 (anI m), .func (.func (dsF m)) #[] #[], .bool (snB m)] 49)) := (Below.refl _ _).alloc (Nat.le_refl _) _
          subst hfb
          exact { bel := h1.step hA, lt := h2, f0 := World.cell?_alloc_new _ _ _ _, f1 := World.cell?_alloc_new _ _ _ _, f2 := World.cell?_alloc_new _ _ _ _, f3 := World.cell?_alloc_new _ _ _ _, f4 := World.cell?_alloc_new _ _ _ _, r := fun i hi => by { obtain ⟨u, hu⟩ := h3 i hi; exact ⟨u, cell_below hA hu⟩ }, fr := fun i hi => by { rw [hA.frozen (p := ⟨w.heap.size, i, none⟩) hwr]; exact h4 i hi } }
        rw [← hfb]
        generalize (wr.alloc (.cells #[.string (nmA m), .func (.func (tkF m)) #[] #[], .int .i64 (anI m), .func (.func (dsF m)) #[] #[], .bool (snB m)] 49)) = W0 at HF ⊢
        clear hfb HR hwr hix
        have hAK := areKinds_any a cap l W0.drew HL.out (HK.out.below HF.out.drew.bel.out)
        generalize hak : areK l = ak at hAK
        have HAK : Hid (areK l = ak) := hak
        clear hak
        cases ak
        · skip
          refine wp_region_held_drew (S := (fun wS => Fst w fb m wS)) (by kernel_rfl) ?_ (fun hHeld => ?_)
          · (try dsimp only); exact HF.out.drew
          refine wpAnyH_take (i := 0) (oi := { dst := some 16, op := Op.load 49 (Operand.tmp 7), type := 49, pos := "funcs.go:45", after := #[], guard := none }) (v := ?_) rfl (by kernel_rfl) (by kernel_rfl) (by kernel_rfl) (fun _ _ _ h => h) (Or.inl ⟨by kernel_rfl, ?_⟩) (by assumption) ?_
          rotate_left
          · intro wS hSw; (try dsimp only at hSw); have y0 := hSw.f0; have y1 := hSw.f1; have y2 := hSw.f2; have y3 := hSw.f3; have y4 := hSw.f4; go_simp; (try with_reducible rfl)
          try simp only [Act.put, List.setIfInBounds_toArray, List.set_cons_zero, List.set_cons_succ]
          refine wpAnyH_take (i := 1) (oi := { dst := some 17, op := Op.move (Operand.tmp 1), type := 22, pos := "funcs.go:45", after := #[], guard := none }) (v := ?_) rfl (by kernel_rfl) (by kernel_rfl) (by kernel_rfl) (fun _ _ _ h => h) (Or.inl ⟨by kernel_rfl, ?_⟩) (by assumption) ?_
          rotate_left
          · intro wS hSw; (try dsimp only at hSw); go_simp; (try with_reducible rfl)
          try simp only [Act.put, List.setIfInBounds_toArray, List.set_cons_zero, List.set_cons_succ]
          refine wpAnyH_ready (rs := [2]) (by kernel_rfl) (by simp) ?_
          refine AllReadyH.cons (o := { dst := some 18, op := Op.call { callee := Callee.value (Operand.func 66), args := #[Operand.tmp 17], argTypes := #[22] }, type := 4, pos := "funcs.go:45", after := #[{ on := 1, ground := Ground.data }], guard := none }) rfl (fun K hK => ?_) AllReadyH.nil
          go_simp
          refine hAK.mono ?_
          rintro e w2 ⟨rfl, hw2⟩
          have HF2 : Hid (Fst w fb m w2) := by rw [hw2]; exact HF.out.drew
          clear hw2
          refine hK.out _ _ ?_ (fun hH2 => ?_)
          · (try dsimp only); exact HF2.out
          clear hK K
          try simp only [Act.put, List.setIfInBounds_toArray, List.set_cons_zero, List.set_cons_succ]
          refine wpAnyH_take (i := 3) (oi := { dst := some 19, op := Op.move (Operand.tmp 18), type := 4, pos := "funcs.go:45", after := #[{ on := 2, ground := Ground.data }, { on := 2, ground := Ground.chain }], guard := none }) (v := ?_) rfl (by kernel_rfl) (by kernel_rfl) (by kernel_rfl) (fun _ _ _ h => h) (Or.inl ⟨by kernel_rfl, ?_⟩) (by assumption) ?_
          rotate_left
          · intro wS hSw; (try dsimp only at hSw); go_simp; (try with_reducible rfl)
          try simp only [Act.put, List.setIfInBounds_toArray, List.set_cons_zero, List.set_cons_succ]
          refine wpAnyH_take (i := 4) (oi := { dst := some 20, op := Op.fieldAddr 49 (Operand.tmp 7) 1, type := 0, pos := "funcs.go:45", after := #[{ on := 3, ground := Ground.guard }], guard := some (3, true) }) (v := undef) rfl (by kernel_rfl) (by kernel_rfl) (by kernel_rfl) (fun _ _ _ h => h) (Or.inr ⟨by kernel_rfl, rfl⟩) (by assumption) ?_
          try simp only [Act.put, List.setIfInBounds_toArray, List.set_cons_zero, List.set_cons_succ]
          refine wpAnyH_take (i := 5) (oi := { dst := some 21, op := Op.load 46 (Operand.tmp 20), type := 46, pos := "funcs.go:45", after := #[{ on := 4, ground := Ground.data }, { on := 3, ground := Ground.guard }], guard := some (3, true) }) (v := undef) rfl (by kernel_rfl) (by kernel_rfl) (by kernel_rfl) (fun _ _ _ h => h) (Or.inr ⟨by kernel_rfl, rfl⟩) (by assumption) ?_
          try simp only [Act.put, List.setIfInBounds_toArray, List.set_cons_zero, List.set_cons_succ]
          refine wpAnyH_take (i := 6) (oi := { dst := some 22, op := Op.move (Operand.tmp 1), type := 22, pos := "funcs.go:45", after := #[{ on := 3, ground := Ground.guard }], guard := some (3, true) }) (v := undef) rfl (by kernel_rfl) (by kernel_rfl) (by kernel_rfl) (fun _ _ _ h => h) (Or.inr ⟨by kernel_rfl, rfl⟩) (by assumption) ?_
          try simp only [Act.put, List.setIfInBounds_toArray, List.set_cons_zero, List.set_cons_succ]
          refine wpAnyH_take (i := 7) (oi := { dst := some 23, op := Op.call { callee := Callee.value (Operand.tmp 21), args := #[Operand.tmp 22], argTypes := #[22] }, type := 4, pos := "funcs.go:45", after := #[{ on := 5, ground := Ground.data }, { on := 6, ground := Ground.data }, { on := 3, ground := Ground.chain }, { on := 3, ground := Ground.guard }], guard := some (3, true) }) (v := undef) rfl (by kernel_rfl) (by kernel_rfl) (by kernel_rfl) (fun _ _ _ h => h) (Or.inr ⟨by kernel_rfl, rfl⟩) (by assumption) ?_
          try simp only [Act.put, List.setIfInBounds_toArray, List.set_cons_zero, List.set_cons_succ]
          refine wpAnyH_take (i := 8) (oi := { dst := some 24, op := Op.pick (Operand.tmp 19) (Operand.tmp 23) (Operand.const (Value.bool false)), type := 4, pos := "funcs.go:45", after := #[{ on := 3, ground := Ground.data }, { on := 7, ground := Ground.data }, { on := 9, ground := Ground.gcOnly Departure.lateStores }], guard := none }) (v := ?_) rfl (by kernel_rfl) (by kernel_rfl) (by kernel_rfl) (fun _ _ _ h => h) (Or.inl ⟨by kernel_rfl, ?_⟩) (by assumption) ?_
          rotate_left
          · intro wS hSw; (try dsimp only at hSw); go_simp; (try with_reducible rfl)
          try simp only [Act.put, List.setIfInBounds_toArray, List.set_cons_zero, List.set_cons_succ]
          obtain ⟨z0v, z0⟩ := HF2.out.r 0 (by omega)
          obtain ⟨z1v, z1⟩ := HF2.out.r 1 (by omega)
          obtain ⟨z2v, z2⟩ := HF2.out.r 2 (by omega)
          obtain ⟨z3v, z3⟩ := HF2.out.r 3 (by omega)
          obtain ⟨z4v, z4⟩ := HF2.out.r 4 (by omega)
          have g0 := HF2.out.fr 0 (by omega)
          have g1 := HF2.out.fr 1 (by omega)
          have g2 := HF2.out.fr 2 (by omega)
          have g3 := HF2.out.fr 3 (by omega)
          have g4 := HF2.out.fr 4 (by omega)
          have HQ : Hid _ := set5 (.string (nmA m)) (.func (.func (tkF m)) #[] #[]) (.int .i64 (anI m)) (.func (.func (dsF m)) #[] #[]) (.bool (snB m)) z0 z1 z2 z3 z4
          have HF5 : Hid _ := Fst.set (i := 4) (u := .bool (snB m)) (Fst.set (i := 3) (u := .func (.func (dsF m)) #[] #[]) (Fst.set (i := 2) (u := .int .i64 (anI m)) (Fst.set (i := 1) (u := .func (.func (tkF m)) #[] #[]) (Fst.set (i := 0) (u := .string (nmA m)) HF2.out))))
          refine wpAnyH_ready (rs := [9]) (by kernel_rfl) (by simp) ?_
          refine AllReadyH.cons (o := { dst := none, op := Op.store 49 (Operand.tmp 4) (Operand.tmp 16), type := 0, pos := "funcs.go:45", after := #[{ on := 0, ground := Ground.data }, { on := 7, ground := Ground.chain }, { on := 0, ground := Ground.phase }, { on := 1, ground := Ground.textOnly Departure.lateStores }, { on := 2, ground := Ground.textOnly Departure.lateStoresUnsure }, { on := 3, ground := Ground.textOnly Departure.lateStores }, { on := 4, ground := Ground.textOnly Departure.lateStores }, { on := 5, ground := Ground.textOnly Departure.lateStores }, { on := 6, ground := Ground.textOnly Departure.lateStores }, { on := 7, ground := Ground.textOnly Departure.lateStoresUnsure }, { on := 8, ground := Ground.textOnly Departure.lateStores }], guard := none }) rfl (fun K hK => ?_) AllReadyH.nil
          go_simp
          refine hK.out _ _ ?_ (fun hH9 => ?_)
          · (try dsimp only); exact HF5.out
          clear hK K
          try simp only [Act.put, List.setIfInBounds_toArray, List.set_cons_zero, List.set_cons_succ]
          refine wpAnyH_take (i := 10) (oi := { dst := some 5, op := Op.assign (Operand.tmp 24), type := 4, pos := "funcs.go:45", after := #[{ on := 8, ground := Ground.data }, { on := 9, ground := Ground.chain }, { on := 0, ground := Ground.phase }, { on := 1, ground := Ground.phase }, { on := 2, ground := Ground.phase }, { on := 3, ground := Ground.phase }, { on := 4, ground := Ground.phase }, { on := 5, ground := Ground.phase }, { on := 6, ground := Ground.phase }, { on := 7, ground := Ground.phase }, { on := 8, ground := Ground.phase }, { on := 9, ground := Ground.phase }], guard := none }) (v := ?_) rfl (by kernel_rfl) (by kernel_rfl) (by kernel_rfl) (fun _ _ _ h => h) (Or.inl ⟨by kernel_rfl, ?_⟩) (by assumption) ?_
          rotate_left
          · intro wS hSw; (try dsimp only at hSw); go_simp; (try with_reducible rfl)
          try simp only [Act.put, List.setIfInBounds_toArray, List.set_cons_zero, List.set_cons_succ]
          refine wpAnyH_done (by kernel_rfl) ?_ _
          have q0 := HQ.out.1; have q1 := HQ.out.2.1; have q2 := HQ.out.2.2.1; have q3 := HQ.out.2.2.2.1; have q4 := HQ.out.2.2.2.2
          have HB5 := HF5.out.bel.out
          go_wp2
          have HV2 : Hid (fdV (fdK s) = .agg #[.string (nmA m), .func (.func (tkF m)) #[] #[], .int .i64 (anI m), .func (.func (dsF m)) #[] #[], .bool (snB m)]) := by show _ = _; rw [HN.out]; rfl
          have HB2 : Hid (fdB (fdK s) l = false) := by show _ = _; rw [HN.out]; show (areK l && tkP m l) = _; rw [HAK.out]; rfl
          exact bodyPost_ret (v := .tuple #[.agg #[.string (nmA m), .func (.func (tkF m)) #[] #[], .int .i64 (anI m), .func (.func (dsF m)) #[] #[], .bool (snB m)], .bool (false)]) (by simp [results, Tryz.results22, go_sem, q0, q1, q2, q3, q4]) rfl ⟨by rw [HV2.out, HB2.out], HB5⟩
        · skip
          refine wp_region_held_drew (S := (fun wS => Fst w fb m wS)) (by kernel_rfl) ?_ (fun hHeld => ?_)
          · (try dsimp only); exact HF.out.drew
          refine wpAnyH_take (i := 0) (oi := { dst := some 16, op := Op.load 49 (Operand.tmp 7), type := 49, pos := "funcs.go:45", after := #[], guard := none }) (v := ?_) rfl (by kernel_rfl) (by kernel_rfl) (by kernel_rfl) (fun _ _ _ h => h) (Or.inl ⟨by kernel_rfl, ?_⟩) (by assumption) ?_
          rotate_left
          · intro wS hSw; (try dsimp only at hSw); have y0 := hSw.f0; have y1 := hSw.f1; have y2 := hSw.f2; have y3 := hSw.f3; have y4 := hSw.f4; go_simp; (try with_reducible rfl)
          try simp only [Act.put, List.setIfInBounds_toArray, List.set_cons_zero, List.set_cons_succ]
          refine wpAnyH_take (i := 1) (oi := { dst := some 17, op := Op.move (Operand.tmp 1), type := 22, pos := "funcs.go:45", after := #[], guard := none }) (v := ?_) rfl (by kernel_rfl) (by kernel_rfl) (by kernel_rfl) (fun _ _ _ h => h) (Or.inl ⟨by kernel_rfl, ?_⟩) (by assumption) ?_
          rotate_left
          · intro wS hSw; (try dsimp only at hSw); go_simp; (try with_reducible rfl)
          try simp only [Act.put, List.setIfInBounds_toArray, List.set_cons_zero, List.set_cons_succ]
          refine wpAnyH_ready (rs := [2]) (by kernel_rfl) (by simp) ?_
          refine AllReadyH.cons (o := { dst := some 18, op := Op.call { callee := Callee.value (Operand.func 66), args := #[Operand.tmp 17], argTypes := #[22] }, type := 4, pos := "funcs.go:45", after := #[{ on := 1, ground := Ground.data }], guard := none }) rfl (fun K hK => ?_) AllReadyH.nil
          go_simp
          refine hAK.mono ?_
          rintro e w2 ⟨rfl, hw2⟩
          have HF2 : Hid (Fst w fb m w2) := by rw [hw2]; exact HF.out.drew
          clear hw2
          refine hK.out _ _ ?_ (fun hH2 => ?_)
          · (try dsimp only); exact HF2.out
          clear hK K
          try simp only [Act.put, List.setIfInBounds_toArray, List.set_cons_zero, List.set_cons_succ]
          refine wpAnyH_take (i := 3) (oi := { dst := some 19, op := Op.move (Operand.tmp 18), type := 4, pos := "funcs.go:45", after := #[{ on := 2, ground := Ground.data }, { on := 2, ground := Ground.chain }], guard := none }) (v := ?_) rfl (by kernel_rfl) (by kernel_rfl) (by kernel_rfl) (fun _ _ _ h => h) (Or.inl ⟨by kernel_rfl, ?_⟩) (by assumption) ?_
          rotate_left
          · intro wS hSw; (try dsimp only at hSw); go_simp; (try with_reducible rfl)
          try simp only [Act.put, List.setIfInBounds_toArray, List.set_cons_zero, List.set_cons_succ]
          refine wpAnyH_take (i := 4) (oi := { dst := some 20, op := Op.fieldAddr 49 (Operand.tmp 7) 1, type := 0, pos := "funcs.go:45", after := #[{ on := 3, ground := Ground.guard }], guard := some (3, true) }) (v := ?_) rfl (by kernel_rfl) (by kernel_rfl) (by kernel_rfl) (fun _ _ _ h => h) (Or.inl ⟨by kernel_rfl, ?_⟩) (by assumption) ?_
          rotate_left
          · intro wS hSw; (try dsimp only at hSw); go_simp; (try with_reducible rfl)
          try simp only [Act.put, List.setIfInBounds_toArray, List.set_cons_zero, List.set_cons_succ]
          refine wpAnyH_take (i := 5) (oi := { dst := some 21, op := Op.load 46 (Operand.tmp 20), type := 46, pos := "funcs.go:45", after := #[{ on := 4, ground := Ground.data }, { on := 3, ground := Ground.guard }], guard := some (3, true) }) (v := ?_) rfl (by kernel_rfl) (by kernel_rfl) (by kernel_rfl) (fun _ _ _ h => h) (Or.inl ⟨by kernel_rfl, ?_⟩) (by assumption) ?_
          rotate_left
          · intro wS hSw; (try dsimp only at hSw); have y0 := hSw.f0; have y1 := hSw.f1; have y2 := hSw.f2; have y3 := hSw.f3; have y4 := hSw.f4; go_simp; (try with_reducible rfl)
          try simp only [Act.put, List.setIfInBounds_toArray, List.set_cons_zero, List.set_cons_succ]
          refine wpAnyH_take (i := 6) (oi := { dst := some 22, op := Op.move (Operand.tmp 1), type := 22, pos := "funcs.go:45", after := #[{ on := 3, ground := Ground.guard }], guard := some (3, true) }) (v := ?_) rfl (by kernel_rfl) (by kernel_rfl) (by kernel_rfl) (fun _ _ _ h => h) (Or.inl ⟨by kernel_rfl, ?_⟩) (by assumption) ?_
          rotate_left
          · intro wS hSw; (try dsimp only at hSw); go_simp; (try with_reducible rfl)
          try simp only [Act.put, List.setIfInBounds_toArray, List.set_cons_zero, List.set_cons_succ]
          refine wpAnyH_ready (rs := [7]) (by kernel_rfl) (by simp) ?_
          refine AllReadyH.cons (o := { dst := some 23, op := Op.call { callee := Callee.value (Operand.tmp 21), args := #[Operand.tmp 22], argTypes := #[22] }, type := 4, pos := "funcs.go:45", after := #[{ on := 5, ground := Ground.data }, { on := 6, ground := Ground.data }, { on := 3, ground := Ground.chain }, { on := 3, ground := Ground.guard }], guard := some (3, true) }) rfl (fun K hK => ?_) AllReadyH.nil
          go_simp
          refine (HTr.out a cap l _ HL.out HCp.out (HK.out.below HF2.out.bel.out)).mono ?_
          rintro e w3 ⟨rfl, hb3⟩
          have HF3 : Hid (Fst w fb m w3) := HF2.out.below hb3
          clear hb3
          refine hK.out _ _ ?_ (fun hH7 => ?_)
          · (try dsimp only); exact HF3.out
          clear hK K
          try simp only [Act.put, List.setIfInBounds_toArray, List.set_cons_zero, List.set_cons_succ]
          refine wpAnyH_take (i := 8) (oi := { dst := some 24, op := Op.pick (Operand.tmp 19) (Operand.tmp 23) (Operand.const (Value.bool false)), type := 4, pos := "funcs.go:45", after := #[{ on := 3, ground := Ground.data }, { on := 7, ground := Ground.data }, { on := 9, ground := Ground.gcOnly Departure.lateStores }], guard := none }) (v := ?_) rfl (by kernel_rfl) (by kernel_rfl) (by kernel_rfl) (fun _ _ _ h => h) (Or.inl ⟨by kernel_rfl, ?_⟩) (by assumption) ?_
          rotate_left
          · intro wS hSw; (try dsimp only at hSw); go_simp; (try with_reducible rfl)
          try simp only [Act.put, List.setIfInBounds_toArray, List.set_cons_zero, List.set_cons_succ]
          obtain ⟨z0v, z0⟩ := HF3.out.r 0 (by omega)
          obtain ⟨z1v, z1⟩ := HF3.out.r 1 (by omega)
          obtain ⟨z2v, z2⟩ := HF3.out.r 2 (by omega)
          obtain ⟨z3v, z3⟩ := HF3.out.r 3 (by omega)
          obtain ⟨z4v, z4⟩ := HF3.out.r 4 (by omega)
          have g0 := HF3.out.fr 0 (by omega)
          have g1 := HF3.out.fr 1 (by omega)
          have g2 := HF3.out.fr 2 (by omega)
          have g3 := HF3.out.fr 3 (by omega)
          have g4 := HF3.out.fr 4 (by omega)
          have HQ : Hid _ := set5 (.string (nmA m)) (.func (.func (tkF m)) #[] #[]) (.int .i64 (anI m)) (.func (.func (dsF m)) #[] #[]) (.bool (snB m)) z0 z1 z2 z3 z4
          have HF5 : Hid _ := Fst.set (i := 4) (u := .bool (snB m)) (Fst.set (i := 3) (u := .func (.func (dsF m)) #[] #[]) (Fst.set (i := 2) (u := .int .i64 (anI m)) (Fst.set (i := 1) (u := .func (.func (tkF m)) #[] #[]) (Fst.set (i := 0) (u := .string (nmA m)) HF3.out))))
          refine wpAnyH_ready (rs := [9]) (by kernel_rfl) (by simp) ?_
          refine AllReadyH.cons (o := { dst := none, op := Op.store 49 (Operand.tmp 4) (Operand.tmp 16), type := 0, pos := "funcs.go:45", after := #[{ on := 0, ground := Ground.data }, { on := 7, ground := Ground.chain }, { on := 0, ground := Ground.phase }, { on := 1, ground := Ground.textOnly Departure.lateStores }, { on := 2, ground := Ground.textOnly Departure.lateStoresUnsure }, { on := 3, ground := Ground.textOnly Departure.lateStores }, { on := 4, ground := Ground.textOnly Departure.lateStores }, { on := 5, ground := Ground.textOnly Departure.lateStores }, { on := 6, ground := Ground.textOnly Departure.lateStores }, { on := 7, ground := Ground.textOnly Departure.lateStoresUnsure }, { on := 8, ground := Ground.textOnly Departure.lateStores }], guard := none }) rfl (fun K hK => ?_) AllReadyH.nil
          go_simp
          refine hK.out _ _ ?_ (fun hH9 => ?_)
          · (try dsimp only); exact HF5.out
          clear hK K
          try simp only [Act.put, List.setIfInBounds_toArray, List.set_cons_zero, List.set_cons_succ]
          refine wpAnyH_take (i := 10) (oi := { dst := some 5, op := Op.assign (Operand.tmp 24), type := 4, pos := "funcs.go:45", after := #[{ on := 8, ground := Ground.data }, { on := 9, ground := Ground.chain }, { on := 0, ground := Ground.phase }, { on := 1, ground := Ground.phase }, { on := 2, ground := Ground.phase }, { on := 3, ground := Ground.phase }, { on := 4, ground := Ground.phase }, { on := 5, ground := Ground.phase }, { on := 6, ground := Ground.phase }, { on := 7, ground := Ground.phase }, { on := 8, ground := Ground.phase }, { on := 9, ground := Ground.phase }], guard := none }) (v := ?_) rfl (by kernel_rfl) (by kernel_rfl) (by kernel_rfl) (fun _ _ _ h => h) (Or.inl ⟨by kernel_rfl, ?_⟩) (by assumption) ?_
          rotate_left
          · intro wS hSw; (try dsimp only at hSw); go_simp; (try with_reducible rfl)
          try simp only [Act.put, List.setIfInBounds_toArray, List.set_cons_zero, List.set_cons_succ]
          refine wpAnyH_done (by kernel_rfl) ?_ _
          have q0 := HQ.out.1; have q1 := HQ.out.2.1; have q2 := HQ.out.2.2.1; have q3 := HQ.out.2.2.2.1; have q4 := HQ.out.2.2.2.2
          have HB5 := HF5.out.bel.out
          go_wp2
          have HV2 : Hid (fdV (fdK s) = .agg #[.string (nmA m), .func (.func (tkF m)) #[] #[], .int .i64 (anI m), .func (.func (dsF m)) #[] #[], .bool (snB m)]) := by show _ = _; rw [HN.out]; rfl
          have HB2 : Hid (fdB (fdK s) l = tkP m l) := by show _ = _; rw [HN.out]; show (areK l && tkP m l) = _; rw [HAK.out]; rfl
          exact bodyPost_ret (v := .tuple #[.agg #[.string (nmA m), .func (.func (tkF m)) #[] #[], .int .i64 (anI m), .func (.func (dsF m)) #[] #[], .bool (snB m)], .bool (tkP m l)]) (by simp [results, Tryz.results22, go_sem, q0, q1, q2, q3, q4]) rfl ⟨by rw [HV2.out, HB2.out], HB5⟩
    · obtain rfl : m = 18 := by omega
      have HN : Hid (fdK s = none) := by show _ = _; rw [← HV.out, fnd_end (Nat.le_refl _)]
      obtain ⟨h1, h2, h3, h4⟩ := HR.out
      obtain ⟨z0v, z0⟩ := h3 0 (by omega)
      obtain ⟨z1v, z1⟩ := h3 1 (by omega)
      obtain ⟨z2v, z2⟩ := h3 2 (by omega)
      obtain ⟨z3v, z3⟩ := h3 3 (by omega)
      obtain ⟨z4v, z4⟩ := h3 4 (by omega)
      have g0 := h4 0 (by omega)
      have g1 := h4 1 (by omega)
      have g2 := h4 2 (by omega)
      have g3 := h4 3 (by omega)
      have g4 := h4 4 (by omega)
      have HQ : Hid _ := set5 (.string ⟨#[]⟩) .nilFunc (.int .i64 0) .nilFunc (.bool false) z0 z1 z2 z3 z4
      have HB5 : Hid _ := ((((h1.setCell (p := ⟨w.heap.size, 0, none⟩) (Nat.le_refl _) (.string ⟨#[]⟩)).setCell (p := ⟨w.heap.size, 1, none⟩) (Nat.le_refl _) .nilFunc).setCell (p := ⟨w.heap.size, 2, none⟩) (Nat.le_refl _) (.int .i64 0)).setCell (p := ⟨w.heap.size, 3, none⟩) (Nat.le_refl _) .nilFunc).setCell (p := ⟨w.heap.size, 4, none⟩) (Nat.le_refl _) (.bool false)
      clear h1 h3 h4 HR
      go_wp2
      have q0 := HQ.out.1; have q1 := HQ.out.2.1; have q2 := HQ.out.2.2.1; have q3 := HQ.out.2.2.2.1; have q4 := HQ.out.2.2.2.2
      have HV2 : Hid (fdV (fdK s) = zroV) := by show _ = _; rw [HN.out]; rfl
      have HB2 : Hid (fdB (fdK s) l = false) := by show _ = _; rw [HN.out]; rfl
      exact bodyPost_ret (v := .tuple #[zroV, .bool false]) (by unfold zroV; simp [results, Tryz.results22, go_sem, q0, q1, q2, q3, q4]) rfl ⟨by rw [HV2.out, HB2.out], HB5.out.out⟩
end Go.Proofs.YtjphmbgennadcaaGreatDoor
