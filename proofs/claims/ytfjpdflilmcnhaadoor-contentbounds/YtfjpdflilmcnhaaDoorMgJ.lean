/- Two runs merged (symMergeCmpFunc): the search, the turn, the two halves. -/
import Derived.Test.YtfjpdflilmcnhaaDoorSyl
namespace Go.Proofs.YtfjpdflilmcnhaaDoor
open Go.ChangeShapes Go.WideShapes Go.ChangeAt Go.RowKit

open Go.Proofs.YtfjpdflilmcnhaaDoor.Stb
set_option maxRecDepth 20000 in
set_option maxHeartbeats 32000000 in
theorem sym_gen (vb B g n a m b : Nat) (ov : Nat → Nat → Int) (f : Nat → Nat) (w : World) (_hn : n ≤ 4000000) (ham : a < m) (hmb : m < b) (hma : m ≠ a + 1) (hbm : b ≠ m + 1) (hT : Two (ltO ov) f a m b n) (hC : Stb.Cmp ov n) (hCA : CmpAt vb g n ov w) (hP : PR w B g n f)
    (IH : ∀ (a' m' b' : Nat) (f' : Nat → Nat) (w' : World), b' - a' < b - a → a' < m' → m' < b' → Two (ltO ov) f' a' m' b' n → CmpAt vb g n ov w' → PR w' B g n f' → Calls Tryd.prog 78 #[.slice (some ⟨g, 0, none⟩) n n, .int .i64 a', .int .i64 m', .int .i64 b', cvV vb] w' (MgPost B g n a' b' ov f' w')) :
    Calls Tryd.prog 78 #[.slice (some ⟨g, 0, none⟩) n n, .int .i64 a, .int .i64 m, .int .i64 b, cvV vb] w (MgPost B g n a b ov f w) := by
  have HC : Hid (CmpAt vb g n ov w) := hCA
  have HP : Hid (PR w B g n f) := hP
  have HL : Hid (Lin (ltO ov) n) := hC.lin
  have HTW : Hid (Two (ltO ov) f a m b n) := hT
  have hbn : b ≤ n := hT.bn
  have w0 : (((m : Int) - a) == 1) = false := by rw [beq_eq_false_iff_ne]; omega
  have w00 : (((b : Int) - m) == 1) = false := by rw [beq_eq_false_iff_ne]; omega
  have HIH : Hid (∀ (a' m' b' : Nat) (f' : Nat → Nat) (w' : World), b' - a' < b - a → a' < m' → m' < b' → Two (ltO ov) f' a' m' b' n → CmpAt vb g n ov w' → PR w' B g n f' → Calls Tryd.prog 78 #[.slice (some ⟨g, 0, none⟩) n n, .int .i64 a', .int .i64 m', .int .i64 b', cvV vb] w' (MgPost B g n a' b' ov f' w')) := IH
  clear hP hCA hC hT hma hbm IH
  obtain ⟨mid, hmid⟩ : ∃ mid, (a + b) / 2 = mid := ⟨_, rfl⟩
  have w1 : ((a : Int) + b) / 2 = (mid : Int) := by omega
  obtain ⟨p, hp⟩ : ∃ p, mid + m - 1 = p := ⟨_, rfl⟩
  have w2 : (mid : Int) + m - 1 = (p : Int) := by omega
  have HMID : Hid (mid = (a + b) / 2) := hmid.symm
  clear hmid
  obtain ⟨bb, hbb⟩ : ∃ bb, decide ((mid : Int) < m) = bb := ⟨_, rfl⟩
  have HBB : Hid (decide ((mid : Int) < m) = bb) := hbb
  unfold cvV
  go_enter Tryd.func78, Tryd.ntmps78
  go_upto_if 140 with (fail)
  go_cut [20, 21] from 141 to 146 (fun x y wx => ∃ s0 r0 : Nat, x = .int .i64 s0 ∧ y = .int .i64 r0 ∧ ((m > mid ∧ s0 = mid + m - b ∧ r0 = mid) ∨ (m ≤ mid ∧ s0 = a ∧ r0 = m)) ∧ wx = w)
  case first =>
    cases bb with
    | true =>
      have hlt : mid < m := by have := of_decide_eq_true HBB.out; omega
      obtain ⟨s0, hs0⟩ : ∃ s0, mid + m - b = s0 := ⟨_, rfl⟩
      have e2 : (mid : Int) + m - b = (s0 : Int) := by have := HMID.out; omega
      clear hbb
      go_wp2
      go_meet
      exact ⟨s0, mid, rfl, rfl, Or.inl ⟨hlt, hs0.symm, rfl⟩, rfl⟩
    | false =>
      have hge : m ≤ mid := by have := of_decide_eq_false HBB.out; omega
      clear hbb
      go_wp2
      go_meet
      exact ⟨a, m, rfl, rfl, Or.inr ⟨hge, rfl, rfl⟩, rfl⟩
  case rest =>
  obtain ⟨s0, r0, rfl, rfl, hsr, hw⟩ := hcut
  have hw2 := hw.symm
  subst hw2
  clear hw
  have HSR : Hid ((m > mid ∧ s0 = mid + m - b ∧ r0 = mid) ∨ (m ≤ mid ∧ s0 = a ∧ r0 = m)) := hsr
  have hsr0 : s0 ≤ r0 := by have := HMID.out; omega
  have hr0m : r0 ≤ m := by omega
  have hs0a : a ≤ s0 := by have := HMID.out; omega
  have hyb : ∀ x, s0 ≤ x → x < r0 → m ≤ p - x ∧ p - x < b ∧ x ≤ p := by have := HMID.out; intro x; omega
  have HYB : Hid (∀ x, s0 ≤ x → x < r0 → m ≤ p - x ∧ p - x < b ∧ x ≤ p) := hyb
  clear hsr hyb
  go_wp2
  go_loopw [20, 21] (fun x y wr => ∃ (s r : Nat), s0 ≤ s ∧ s ≤ r ∧ r ≤ r0 ∧ x = .int .i64 s ∧ y = .int .i64 r ∧ (s = s0 ∨ ltO ov (f (s - 1)) (f (p + 1 - s)) = true) ∧ (r = r0 ∨ ltO ov (f (p - r)) (f r) = true) ∧ PR wr B g n f ∧ Fr (fun k => k = g) w wr) (fun x y _ => (intOf y).toNat - (intOf x).toNat)
  case atStart => exact ⟨s0, r0, Nat.le_refl _, hsr0, Nat.le_refl _, rfl, rfl, Or.inl rfl, Or.inl rfl, HP.out, Fr.refl _ _⟩
  case round =>
    obtain ⟨s, r, hs0, hsr, hr0, rfl, rfl, hlo, hhi, hR, hF⟩ := hrel
    have HF : Hid (Fr (fun k => k = g) w wr) := hF
    have HR : Hid (PR wr B g n f) := hR
    clear hF
    rcases Nat.lt_or_ge s r with hlt | hge
    · obtain ⟨x, hx⟩ : ∃ x, (s + r) / 2 = x := ⟨_, rfl⟩
      obtain ⟨y, hy⟩ : ∃ y, p - x = y := ⟨_, rfl⟩
      obtain ⟨y1, y2, y3⟩ := HYB.out x (by omega) (by omega)
      rw [hy] at y1 y2
      have c1 := hR.cell (k := y) (by omega)
      have c2 := hR.cell (k := x) (by omega)
      have w3 : (x : Int) < n := by omega
      have w4 : (y : Int) < n := by omega
      have w5 : ((s : Int) + r) / 2 = (x : Int) := by omega
      have w6 : (p : Int) - x = (y : Int) := by omega
      have w7 : IntKind.i64.wrap (y : Int) = (y : Int) := by rw [IntKind.wrap_i64]; omega
      obtain ⟨X, hX⟩ : ∃ X, f y = X := ⟨_, rfl⟩
      obtain ⟨Y, hY⟩ : ∃ Y, f x = Y := ⟨_, rfl⟩
      have HX : Hid (X < n) := by show _ < _; rw [← hX]; exact HTW.out.lim y (by omega) (by omega)
      have HY : Hid (Y < n) := by show _ < _; rw [← hY]; exact HTW.out.lim x (by omega) (by omega)
      have hel : Y < X := by rw [← hX, ← hY]; exact HTW.out.old x y (by omega) (by omega) (by omega) (by omega)
      have HE : Hid (ltO ov X Y = decide (ov X Y < 0)) := ltO_elder hel
      rw [hX] at c1
      rw [hY] at c2
      clear hR
      obtain ⟨o, ho⟩ : ∃ o, ov X Y = o := ⟨_, rfl⟩
      by_cases hc : o < 0
      · have HT : Hid (ltO ov (f (p - x)) (f x) = true) := by rw [hy, hX, hY]; exact HE.out.trans (by simpa [ho] using hc)
        clear hel
        go_wp2
        refine wp_region_held_drew (S := (fun _ => True)) (by kernel_rfl) ?_ (fun hHeld => ?_)
        · exact trivial
        refine wpAnyH_take (i := 0) (oi := { dst := some 158, op := Op.move (Operand.tmp 4), type := 90, pos := "zsortanyfunc.go:441", after := #[], guard := none }) (v := ?_) rfl (by kernel_rfl) (by kernel_rfl) (by kernel_rfl) (fun _ _ _ h => h) (Or.inl ⟨by kernel_rfl, ?_⟩) (by assumption) ?_
        rotate_left
        · intro wS hSw; (try dsimp only at hSw); go_simp; (try with_reducible rfl)
        try simp only [Act.put, List.setIfInBounds_toArray, List.set_cons_zero, List.set_cons_succ]
        refine wpAnyH_take (i := 1) (oi := { dst := some 159, op := Op.move (Operand.tmp 0), type := 22, pos := "zsortanyfunc.go:441", after := #[], guard := none }) (v := ?_) rfl (by kernel_rfl) (by kernel_rfl) (by kernel_rfl) (fun _ _ _ h => h) (Or.inl ⟨by kernel_rfl, ?_⟩) (by assumption) ?_
        rotate_left
        · intro wS hSw; (try dsimp only at hSw); go_simp; (try with_reducible rfl)
        try simp only [Act.put, List.setIfInBounds_toArray, List.set_cons_zero, List.set_cons_succ]
        refine wpAnyH_take (i := 2) (oi := { dst := some 160, op := Op.move (Operand.tmp 22), type := 3, pos := "zsortanyfunc.go:441", after := #[], guard := none }) (v := ?_) rfl (by kernel_rfl) (by kernel_rfl) (by kernel_rfl) (fun _ _ _ h => h) (Or.inl ⟨by kernel_rfl, ?_⟩) (by assumption) ?_
        rotate_left
        · intro wS hSw; (try dsimp only at hSw); go_simp; (try with_reducible rfl)
        try simp only [Act.put, List.setIfInBounds_toArray, List.set_cons_zero, List.set_cons_succ]
        refine wpAnyH_take (i := 3) (oi := { dst := some 161, op := Op.move (Operand.tmp 23), type := 3, pos := "zsortanyfunc.go:441", after := #[], guard := none }) (v := ?_) rfl (by kernel_rfl) (by kernel_rfl) (by kernel_rfl) (fun _ _ _ h => h) (Or.inl ⟨by kernel_rfl, ?_⟩) (by assumption) ?_
        rotate_left
        · intro wS hSw; (try dsimp only at hSw); go_simp; (try with_reducible rfl)
        try simp only [Act.put, List.setIfInBounds_toArray, List.set_cons_zero, List.set_cons_succ]
        refine wpAnyH_take (i := 4) (oi := { dst := some 162, op := Op.binOp BinOp.sub 3 (Operand.tmp 160) (Operand.tmp 161) 3, type := 3, pos := "zsortanyfunc.go:441", after := #[{ on := 2, ground := Ground.data }, { on := 3, ground := Ground.data }], guard := none }) (v := ?_) rfl (by kernel_rfl) (by kernel_rfl) (by kernel_rfl) (fun _ _ _ h => h) (Or.inl ⟨by kernel_rfl, ?_⟩) (by assumption) ?_
        rotate_left
        · intro wS hSw; (try dsimp only at hSw); go_simp; (try with_reducible rfl)
        try simp only [Act.put, List.setIfInBounds_toArray, List.set_cons_zero, List.set_cons_succ]
        refine wpAnyH_take (i := 5) (oi := { dst := some 163, op := Op.indexAddr 22 (Operand.tmp 159) (Operand.tmp 162), type := 0, pos := "zsortanyfunc.go:441", after := #[{ on := 1, ground := Ground.data }, { on := 4, ground := Ground.data }], guard := none }) (v := ?_) rfl (by kernel_rfl) (by kernel_rfl) (by kernel_rfl) (fun _ _ _ h => h) (Or.inl ⟨by kernel_rfl, ?_⟩) (by assumption) ?_
        rotate_left
        · intro wS hSw; (try dsimp only at hSw); go_simp; (try with_reducible rfl)
        try simp only [Act.put, List.setIfInBounds_toArray, List.set_cons_zero, List.set_cons_succ]
        refine wpAnyH_take (i := 7) (oi := { dst := some 165, op := Op.move (Operand.tmp 0), type := 22, pos := "zsortanyfunc.go:441", after := #[], guard := none }) (v := ?_) rfl (by kernel_rfl) (by kernel_rfl) (by kernel_rfl) (fun _ _ _ h => h) (Or.inl ⟨by kernel_rfl, ?_⟩) (by assumption) ?_
        rotate_left
        · intro wS hSw; (try dsimp only at hSw); go_simp; (try with_reducible rfl)
        try simp only [Act.put, List.setIfInBounds_toArray, List.set_cons_zero, List.set_cons_succ]
        refine wpAnyH_take (i := 8) (oi := { dst := some 166, op := Op.move (Operand.tmp 23), type := 3, pos := "zsortanyfunc.go:441", after := #[], guard := none }) (v := ?_) rfl (by kernel_rfl) (by kernel_rfl) (by kernel_rfl) (fun _ _ _ h => h) (Or.inl ⟨by kernel_rfl, ?_⟩) (by assumption) ?_
        rotate_left
        · intro wS hSw; (try dsimp only at hSw); go_simp; (try with_reducible rfl)
        try simp only [Act.put, List.setIfInBounds_toArray, List.set_cons_zero, List.set_cons_succ]
        refine wpAnyH_take (i := 9) (oi := { dst := some 167, op := Op.indexAddr 22 (Operand.tmp 165) (Operand.tmp 166), type := 0, pos := "zsortanyfunc.go:441", after := #[{ on := 7, ground := Ground.data }, { on := 8, ground := Ground.data }], guard := none }) (v := ?_) rfl (by kernel_rfl) (by kernel_rfl) (by kernel_rfl) (fun _ _ _ h => h) (Or.inl ⟨by kernel_rfl, ?_⟩) (by assumption) ?_
        rotate_left
        · intro wS hSw; (try dsimp only at hSw); go_simp; (try with_reducible rfl)
        try simp only [Act.put, List.setIfInBounds_toArray, List.set_cons_zero, List.set_cons_succ]
        refine wpAnyH_ready (rs := [6, 10]) (by kernel_rfl) (by simp) ?_
        refine AllReadyH.cons (o := { dst := some 164, op := Op.load 3 (Operand.tmp 163), type := 3, pos := "zsortanyfunc.go:441", after := #[{ on := 5, ground := Ground.data }], guard := none }) rfl (fun K hK => ?_) (AllReadyH.cons (o := { dst := some 168, op := Op.load 3 (Operand.tmp 167), type := 3, pos := "zsortanyfunc.go:441", after := #[{ on := 9, ground := Ground.data }], guard := none }) rfl (fun K hK => ?_) AllReadyH.nil)
        · go_simp
          refine hK.out _ _ ?_ (fun hH6 => ?_)
          · exact trivial
          clear hK K
          try simp only [Act.put, List.setIfInBounds_toArray, List.set_cons_zero, List.set_cons_succ]
          refine wpAnyH_ready (rs := [10]) (by kernel_rfl) (by simp) ?_
          refine AllReadyH.cons (o := { dst := some 168, op := Op.load 3 (Operand.tmp 167), type := 3, pos := "zsortanyfunc.go:441", after := #[{ on := 9, ground := Ground.data }], guard := none }) rfl (fun K hK => ?_) AllReadyH.nil
          go_simp
          refine hK.out _ _ ?_ (fun hH10 => ?_)
          · exact trivial
          clear hK K
          try simp only [Act.put, List.setIfInBounds_toArray, List.set_cons_zero, List.set_cons_succ]
          refine wpAnyH_ready (rs := [11]) (by kernel_rfl) (by simp) ?_
          refine AllReadyH.cons (o := { dst := some 169, op := Op.call { callee := Callee.value (Operand.tmp 158), args := #[Operand.tmp 164, Operand.tmp 168], argTypes := #[3, 3] }, type := 3, pos := "zsortanyfunc.go:441", after := #[{ on := 0, ground := Ground.data }, { on := 6, ground := Ground.data }, { on := 10, ground := Ground.data }], guard := none }) rfl (fun K hK => ?_) AllReadyH.nil
          go_simp
          refine (HC.out _ (HF.out.drew) _ _ HX.out HY.out).mono ?_
          rintro e wy ⟨rfl, hb⟩
          try dsimp only
          rw [ho]
          refine hK.out _ _ ?_ (fun hH11 => ?_)
          · exact trivial
          clear hK K
          try simp only [Act.put, List.setIfInBounds_toArray, List.set_cons_zero, List.set_cons_succ]
          refine wpAnyH_take (i := 12) (oi := { dst := some 170, op := Op.binOp BinOp.lss 3 (Operand.tmp 169) (Operand.const (Value.int IntKind.i64 0)) 3, type := 4, pos := "zsortanyfunc.go:441", after := #[{ on := 11, ground := Ground.data }], guard := none }) (v := ?_) rfl (by kernel_rfl) (by kernel_rfl) (by kernel_rfl) (fun _ _ _ h => h) (Or.inl ⟨by kernel_rfl, ?_⟩) (by assumption) ?_
          rotate_left
          · intro wS hSw; (try dsimp only at hSw); go_simp; (try with_reducible rfl)
          try simp only [Act.put, List.setIfInBounds_toArray, List.set_cons_zero, List.set_cons_succ]
          refine wpAnyH_take (i := 13) (oi := { dst := some 171, op := Op.unOp UnOp.not 4 (Operand.tmp 170), type := 4, pos := "zsortanyfunc.go:441", after := #[{ on := 12, ground := Ground.data }], guard := none }) (v := ?_) rfl (by kernel_rfl) (by kernel_rfl) (by kernel_rfl) (fun _ _ _ h => h) (Or.inl ⟨by kernel_rfl, ?_⟩) (by assumption) ?_
          rotate_left
          · intro wS hSw; (try dsimp only at hSw); go_simp; (try with_reducible rfl)
          try simp only [Act.put, List.setIfInBounds_toArray, List.set_cons_zero, List.set_cons_succ]
          refine wpAnyH_done (by kernel_rfl) ?_ _
          go_wp2
          refine ⟨⟨s, x, hs0, by omega, by omega, rfl, by go_num, hlo, Or.inr HT.out, HR.out.drew.below hb, HF.out.drew.step hb⟩, by simp [intOf]; omega⟩
        · go_simp
          refine hK.out _ _ ?_ (fun hH10 => ?_)
          · exact trivial
          clear hK K
          try simp only [Act.put, List.setIfInBounds_toArray, List.set_cons_zero, List.set_cons_succ]
          refine wpAnyH_ready (rs := [6]) (by kernel_rfl) (by simp) ?_
          refine AllReadyH.cons (o := { dst := some 164, op := Op.load 3 (Operand.tmp 163), type := 3, pos := "zsortanyfunc.go:441", after := #[{ on := 5, ground := Ground.data }], guard := none }) rfl (fun K hK => ?_) AllReadyH.nil
          go_simp
          refine hK.out _ _ ?_ (fun hH6 => ?_)
          · exact trivial
          clear hK K
          try simp only [Act.put, List.setIfInBounds_toArray, List.set_cons_zero, List.set_cons_succ]
          refine wpAnyH_ready (rs := [11]) (by kernel_rfl) (by simp) ?_
          refine AllReadyH.cons (o := { dst := some 169, op := Op.call { callee := Callee.value (Operand.tmp 158), args := #[Operand.tmp 164, Operand.tmp 168], argTypes := #[3, 3] }, type := 3, pos := "zsortanyfunc.go:441", after := #[{ on := 0, ground := Ground.data }, { on := 6, ground := Ground.data }, { on := 10, ground := Ground.data }], guard := none }) rfl (fun K hK => ?_) AllReadyH.nil
          go_simp
          refine (HC.out _ (HF.out.drew) _ _ HX.out HY.out).mono ?_
          rintro e wy ⟨rfl, hb⟩
          try dsimp only
          rw [ho]
          refine hK.out _ _ ?_ (fun hH11 => ?_)
          · exact trivial
          clear hK K
          try simp only [Act.put, List.setIfInBounds_toArray, List.set_cons_zero, List.set_cons_succ]
          refine wpAnyH_take (i := 12) (oi := { dst := some 170, op := Op.binOp BinOp.lss 3 (Operand.tmp 169) (Operand.const (Value.int IntKind.i64 0)) 3, type := 4, pos := "zsortanyfunc.go:441", after := #[{ on := 11, ground := Ground.data }], guard := none }) (v := ?_) rfl (by kernel_rfl) (by kernel_rfl) (by kernel_rfl) (fun _ _ _ h => h) (Or.inl ⟨by kernel_rfl, ?_⟩) (by assumption) ?_
          rotate_left
          · intro wS hSw; (try dsimp only at hSw); go_simp; (try with_reducible rfl)
          try simp only [Act.put, List.setIfInBounds_toArray, List.set_cons_zero, List.set_cons_succ]
          refine wpAnyH_take (i := 13) (oi := { dst := some 171, op := Op.unOp UnOp.not 4 (Operand.tmp 170), type := 4, pos := "zsortanyfunc.go:441", after := #[{ on := 12, ground := Ground.data }], guard := none }) (v := ?_) rfl (by kernel_rfl) (by kernel_rfl) (by kernel_rfl) (fun _ _ _ h => h) (Or.inl ⟨by kernel_rfl, ?_⟩) (by assumption) ?_
          rotate_left
          · intro wS hSw; (try dsimp only at hSw); go_simp; (try with_reducible rfl)
          try simp only [Act.put, List.setIfInBounds_toArray, List.set_cons_zero, List.set_cons_succ]
          refine wpAnyH_done (by kernel_rfl) ?_ _
          go_wp2
          refine ⟨⟨s, x, hs0, by omega, by omega, rfl, by go_num, hlo, Or.inr HT.out, HR.out.drew.below hb, HF.out.drew.step hb⟩, by simp [intOf]; omega⟩

      · have HT : Hid (ltO ov (f (x + 1 - 1)) (f (p + 1 - (x + 1))) = true) := by
          show _ = _
          rw [show x + 1 - 1 = x by omega, show p + 1 - (x + 1) = y by omega, hX, hY]
          exact HL.out.ge HX.out HY.out (by omega) (HE.out.trans (by simpa [ho] using hc))
        clear hel
        go_wp2
        refine wp_region_held_drew (S := (fun _ => True)) (by kernel_rfl) ?_ (fun hHeld => ?_)
        · exact trivial
        refine wpAnyH_take (i := 0) (oi := { dst := some 158, op := Op.move (Operand.tmp 4), type := 90, pos := "zsortanyfunc.go:441", after := #[], guard := none }) (v := ?_) rfl (by kernel_rfl) (by kernel_rfl) (by kernel_rfl) (fun _ _ _ h => h) (Or.inl ⟨by kernel_rfl, ?_⟩) (by assumption) ?_
        rotate_left
        · intro wS hSw; (try dsimp only at hSw); go_simp; (try with_reducible rfl)
        try simp only [Act.put, List.setIfInBounds_toArray, List.set_cons_zero, List.set_cons_succ]
        refine wpAnyH_take (i := 1) (oi := { dst := some 159, op := Op.move (Operand.tmp 0), type := 22, pos := "zsortanyfunc.go:441", after := #[], guard := none }) (v := ?_) rfl (by kernel_rfl) (by kernel_rfl) (by kernel_rfl) (fun _ _ _ h => h) (Or.inl ⟨by kernel_rfl, ?_⟩) (by assumption) ?_
        rotate_left
        · intro wS hSw; (try dsimp only at hSw); go_simp; (try with_reducible rfl)
        try simp only [Act.put, List.setIfInBounds_toArray, List.set_cons_zero, List.set_cons_succ]
        refine wpAnyH_take (i := 2) (oi := { dst := some 160, op := Op.move (Operand.tmp 22), type := 3, pos := "zsortanyfunc.go:441", after := #[], guard := none }) (v := ?_) rfl (by kernel_rfl) (by kernel_rfl) (by kernel_rfl) (fun _ _ _ h => h) (Or.inl ⟨by kernel_rfl, ?_⟩) (by assumption) ?_
        rotate_left
        · intro wS hSw; (try dsimp only at hSw); go_simp; (try with_reducible rfl)
        try simp only [Act.put, List.setIfInBounds_toArray, List.set_cons_zero, List.set_cons_succ]
        refine wpAnyH_take (i := 3) (oi := { dst := some 161, op := Op.move (Operand.tmp 23), type := 3, pos := "zsortanyfunc.go:441", after := #[], guard := none }) (v := ?_) rfl (by kernel_rfl) (by kernel_rfl) (by kernel_rfl) (fun _ _ _ h => h) (Or.inl ⟨by kernel_rfl, ?_⟩) (by assumption) ?_
        rotate_left
        · intro wS hSw; (try dsimp only at hSw); go_simp; (try with_reducible rfl)
        try simp only [Act.put, List.setIfInBounds_toArray, List.set_cons_zero, List.set_cons_succ]
        refine wpAnyH_take (i := 4) (oi := { dst := some 162, op := Op.binOp BinOp.sub 3 (Operand.tmp 160) (Operand.tmp 161) 3, type := 3, pos := "zsortanyfunc.go:441", after := #[{ on := 2, ground := Ground.data }, { on := 3, ground := Ground.data }], guard := none }) (v := ?_) rfl (by kernel_rfl) (by kernel_rfl) (by kernel_rfl) (fun _ _ _ h => h) (Or.inl ⟨by kernel_rfl, ?_⟩) (by assumption) ?_
        rotate_left
        · intro wS hSw; (try dsimp only at hSw); go_simp; (try with_reducible rfl)
        try simp only [Act.put, List.setIfInBounds_toArray, List.set_cons_zero, List.set_cons_succ]
        refine wpAnyH_take (i := 5) (oi := { dst := some 163, op := Op.indexAddr 22 (Operand.tmp 159) (Operand.tmp 162), type := 0, pos := "zsortanyfunc.go:441", after := #[{ on := 1, ground := Ground.data }, { on := 4, ground := Ground.data }], guard := none }) (v := ?_) rfl (by kernel_rfl) (by kernel_rfl) (by kernel_rfl) (fun _ _ _ h => h) (Or.inl ⟨by kernel_rfl, ?_⟩) (by assumption) ?_
        rotate_left
        · intro wS hSw; (try dsimp only at hSw); go_simp; (try with_reducible rfl)
        try simp only [Act.put, List.setIfInBounds_toArray, List.set_cons_zero, List.set_cons_succ]
        refine wpAnyH_take (i := 7) (oi := { dst := some 165, op := Op.move (Operand.tmp 0), type := 22, pos := "zsortanyfunc.go:441", after := #[], guard := none }) (v := ?_) rfl (by kernel_rfl) (by kernel_rfl) (by kernel_rfl) (fun _ _ _ h => h) (Or.inl ⟨by kernel_rfl, ?_⟩) (by assumption) ?_
        rotate_left
        · intro wS hSw; (try dsimp only at hSw); go_simp; (try with_reducible rfl)
        try simp only [Act.put, List.setIfInBounds_toArray, List.set_cons_zero, List.set_cons_succ]
        refine wpAnyH_take (i := 8) (oi := { dst := some 166, op := Op.move (Operand.tmp 23), type := 3, pos := "zsortanyfunc.go:441", after := #[], guard := none }) (v := ?_) rfl (by kernel_rfl) (by kernel_rfl) (by kernel_rfl) (fun _ _ _ h => h) (Or.inl ⟨by kernel_rfl, ?_⟩) (by assumption) ?_
        rotate_left
        · intro wS hSw; (try dsimp only at hSw); go_simp; (try with_reducible rfl)
        try simp only [Act.put, List.setIfInBounds_toArray, List.set_cons_zero, List.set_cons_succ]
        refine wpAnyH_take (i := 9) (oi := { dst := some 167, op := Op.indexAddr 22 (Operand.tmp 165) (Operand.tmp 166), type := 0, pos := "zsortanyfunc.go:441", after := #[{ on := 7, ground := Ground.data }, { on := 8, ground := Ground.data }], guard := none }) (v := ?_) rfl (by kernel_rfl) (by kernel_rfl) (by kernel_rfl) (fun _ _ _ h => h) (Or.inl ⟨by kernel_rfl, ?_⟩) (by assumption) ?_
        rotate_left
        · intro wS hSw; (try dsimp only at hSw); go_simp; (try with_reducible rfl)
        try simp only [Act.put, List.setIfInBounds_toArray, List.set_cons_zero, List.set_cons_succ]
        refine wpAnyH_ready (rs := [6, 10]) (by kernel_rfl) (by simp) ?_
        refine AllReadyH.cons (o := { dst := some 164, op := Op.load 3 (Operand.tmp 163), type := 3, pos := "zsortanyfunc.go:441", after := #[{ on := 5, ground := Ground.data }], guard := none }) rfl (fun K hK => ?_) (AllReadyH.cons (o := { dst := some 168, op := Op.load 3 (Operand.tmp 167), type := 3, pos := "zsortanyfunc.go:441", after := #[{ on := 9, ground := Ground.data }], guard := none }) rfl (fun K hK => ?_) AllReadyH.nil)
        · go_simp
          refine hK.out _ _ ?_ (fun hH6 => ?_)
          · exact trivial
          clear hK K
          try simp only [Act.put, List.setIfInBounds_toArray, List.set_cons_zero, List.set_cons_succ]
          refine wpAnyH_ready (rs := [10]) (by kernel_rfl) (by simp) ?_
          refine AllReadyH.cons (o := { dst := some 168, op := Op.load 3 (Operand.tmp 167), type := 3, pos := "zsortanyfunc.go:441", after := #[{ on := 9, ground := Ground.data }], guard := none }) rfl (fun K hK => ?_) AllReadyH.nil
          go_simp
          refine hK.out _ _ ?_ (fun hH10 => ?_)
          · exact trivial
          clear hK K
          try simp only [Act.put, List.setIfInBounds_toArray, List.set_cons_zero, List.set_cons_succ]
          refine wpAnyH_ready (rs := [11]) (by kernel_rfl) (by simp) ?_
          refine AllReadyH.cons (o := { dst := some 169, op := Op.call { callee := Callee.value (Operand.tmp 158), args := #[Operand.tmp 164, Operand.tmp 168], argTypes := #[3, 3] }, type := 3, pos := "zsortanyfunc.go:441", after := #[{ on := 0, ground := Ground.data }, { on := 6, ground := Ground.data }, { on := 10, ground := Ground.data }], guard := none }) rfl (fun K hK => ?_) AllReadyH.nil
          go_simp
          refine (HC.out _ (HF.out.drew) _ _ HX.out HY.out).mono ?_
          rintro e wy ⟨rfl, hb⟩
          try dsimp only
          rw [ho]
          refine hK.out _ _ ?_ (fun hH11 => ?_)
          · exact trivial
          clear hK K
          try simp only [Act.put, List.setIfInBounds_toArray, List.set_cons_zero, List.set_cons_succ]
          refine wpAnyH_take (i := 12) (oi := { dst := some 170, op := Op.binOp BinOp.lss 3 (Operand.tmp 169) (Operand.const (Value.int IntKind.i64 0)) 3, type := 4, pos := "zsortanyfunc.go:441", after := #[{ on := 11, ground := Ground.data }], guard := none }) (v := ?_) rfl (by kernel_rfl) (by kernel_rfl) (by kernel_rfl) (fun _ _ _ h => h) (Or.inl ⟨by kernel_rfl, ?_⟩) (by assumption) ?_
          rotate_left
          · intro wS hSw; (try dsimp only at hSw); go_simp; (try with_reducible rfl)
          try simp only [Act.put, List.setIfInBounds_toArray, List.set_cons_zero, List.set_cons_succ]
          refine wpAnyH_take (i := 13) (oi := { dst := some 171, op := Op.unOp UnOp.not 4 (Operand.tmp 170), type := 4, pos := "zsortanyfunc.go:441", after := #[{ on := 12, ground := Ground.data }], guard := none }) (v := ?_) rfl (by kernel_rfl) (by kernel_rfl) (by kernel_rfl) (fun _ _ _ h => h) (Or.inl ⟨by kernel_rfl, ?_⟩) (by assumption) ?_
          rotate_left
          · intro wS hSw; (try dsimp only at hSw); go_simp; (try with_reducible rfl)
          try simp only [Act.put, List.setIfInBounds_toArray, List.set_cons_zero, List.set_cons_succ]
          refine wpAnyH_done (by kernel_rfl) ?_ _
          go_wp2
          all_goals try (rename_i hz; exfalso; simp at hz; omega)
          refine ⟨⟨x + 1, r, by omega, by omega, hr0, by go_num, rfl, Or.inr HT.out, hhi, HR.out.drew.below hb, HF.out.drew.step hb⟩, by simp [intOf]; omega⟩
        · go_simp
          refine hK.out _ _ ?_ (fun hH10 => ?_)
          · exact trivial
          clear hK K
          try simp only [Act.put, List.setIfInBounds_toArray, List.set_cons_zero, List.set_cons_succ]
          refine wpAnyH_ready (rs := [6]) (by kernel_rfl) (by simp) ?_
          refine AllReadyH.cons (o := { dst := some 164, op := Op.load 3 (Operand.tmp 163), type := 3, pos := "zsortanyfunc.go:441", after := #[{ on := 5, ground := Ground.data }], guard := none }) rfl (fun K hK => ?_) AllReadyH.nil
          go_simp
          refine hK.out _ _ ?_ (fun hH6 => ?_)
          · exact trivial
          clear hK K
          try simp only [Act.put, List.setIfInBounds_toArray, List.set_cons_zero, List.set_cons_succ]
          refine wpAnyH_ready (rs := [11]) (by kernel_rfl) (by simp) ?_
          refine AllReadyH.cons (o := { dst := some 169, op := Op.call { callee := Callee.value (Operand.tmp 158), args := #[Operand.tmp 164, Operand.tmp 168], argTypes := #[3, 3] }, type := 3, pos := "zsortanyfunc.go:441", after := #[{ on := 0, ground := Ground.data }, { on := 6, ground := Ground.data }, { on := 10, ground := Ground.data }], guard := none }) rfl (fun K hK => ?_) AllReadyH.nil
          go_simp
          refine (HC.out _ (HF.out.drew) _ _ HX.out HY.out).mono ?_
          rintro e wy ⟨rfl, hb⟩
          try dsimp only
          rw [ho]
          refine hK.out _ _ ?_ (fun hH11 => ?_)
          · exact trivial
          clear hK K
          try simp only [Act.put, List.setIfInBounds_toArray, List.set_cons_zero, List.set_cons_succ]
          refine wpAnyH_take (i := 12) (oi := { dst := some 170, op := Op.binOp BinOp.lss 3 (Operand.tmp 169) (Operand.const (Value.int IntKind.i64 0)) 3, type := 4, pos := "zsortanyfunc.go:441", after := #[{ on := 11, ground := Ground.data }], guard := none }) (v := ?_) rfl (by kernel_rfl) (by kernel_rfl) (by kernel_rfl) (fun _ _ _ h => h) (Or.inl ⟨by kernel_rfl, ?_⟩) (by assumption) ?_
          rotate_left
          · intro wS hSw; (try dsimp only at hSw); go_simp; (try with_reducible rfl)
          try simp only [Act.put, List.setIfInBounds_toArray, List.set_cons_zero, List.set_cons_succ]
          refine wpAnyH_take (i := 13) (oi := { dst := some 171, op := Op.unOp UnOp.not 4 (Operand.tmp 170), type := 4, pos := "zsortanyfunc.go:441", after := #[{ on := 12, ground := Ground.data }], guard := none }) (v := ?_) rfl (by kernel_rfl) (by kernel_rfl) (by kernel_rfl) (fun _ _ _ h => h) (Or.inl ⟨by kernel_rfl, ?_⟩) (by assumption) ?_
          rotate_left
          · intro wS hSw; (try dsimp only at hSw); go_simp; (try with_reducible rfl)
          try simp only [Act.put, List.setIfInBounds_toArray, List.set_cons_zero, List.set_cons_succ]
          refine wpAnyH_done (by kernel_rfl) ?_ _
          go_wp2
          all_goals try (rename_i hz; exfalso; simp at hz; omega)
          refine ⟨⟨x + 1, r, by omega, by omega, hr0, by go_num, rfl, Or.inr HT.out, hhi, HR.out.drew.below hb, HF.out.drew.step hb⟩, by simp [intOf]; omega⟩

    · obtain rfl : s = r := by omega
      have HK : Hid (Cut (ltO ov) f a m b s (mid + m - s)) := Srch.cut ham hmb HMID.out HSR.out (by rw [hp]; exact ⟨hs0, Nat.le_refl _, hr0, hlo, hhi⟩)
      clear hlo hhi hR
      obtain ⟨e, he⟩ : ∃ e, mid + m - s = e := ⟨_, rfl⟩
      rw [he] at HK
      have k1 := HK.out.as
      have k2 := HK.out.sm
      have k3 := HK.out.me
      have k4 := HK.out.eb
      have w8 : (mid : Int) + m - s = (e : Int) := by omega
      have HME : Hid (s + (e - m) = mid) := by show _ = _; omega
      have hmb2 : mid < b := by have := HMID.out; omega
      have ham2 : a ≤ mid := by have := HMID.out; omega
      clear he hp w2
      go_upto_region 39 with (fail)
      go_cut [185] from 178 to 184 (fun x wx => ∃ b1 : Bool, x = .bool b1 ∧ (b1 = true ↔ s < m ∧ m < e) ∧ wx = wr)
      case first =>
        by_cases h1 : s < m
        · have e1 : (s : Int) < m := by omega
          by_cases h2 : m < e
          · have e2 : (m : Int) < e := by omega
            go_wp2
            go_meet
            exact ⟨true, rfl, ⟨fun _ => ⟨h1, h2⟩, fun _ => rfl⟩, rfl⟩
          · have e2 : ¬ ((m : Int) < e) := by omega
            go_wp2
            go_meet
            exact ⟨false, rfl, ⟨fun h => (by cases h), fun h => (h2 h.2).elim⟩, rfl⟩
        · have e1 : ¬ ((s : Int) < m) := by omega
          go_wp2
          go_meet
          exact ⟨false, rfl, ⟨fun h => (by cases h), fun h => (h1 h.1).elim⟩, rfl⟩
      case rest =>
      obtain ⟨b1, rfl, hb1, hw⟩ := hcut
      have hw2 := hw.symm
      subst hw2
      clear hw
      have HB1 : Hid (b1 = true ↔ s < m ∧ m < e) := hb1
      clear hb1
      go_upto_if 185 with (fail)
      go_cut [186] from 187 to 191 (fun _ wx => PR wx B g n (rot f s (m - s) (e - m)) ∧ Fr (fun k => k = g) w wx)
      case first =>
        cases b1 with
        | true =>
          obtain ⟨h1, h2⟩ := HB1.out.1 rfl
          have hs := rot_any B g n s m e f (cvV vb) wr (by omega) h1 h2 (by omega) HR.out
          unfold cvV at hs
          go_wp2_with fail
          refine hs.mono ?_
          rintro e0 wz ⟨rfl, hp2, hf2⟩
          clear hs
          go_wp2
          go_meet
          exact ⟨hp2, HF.out.trans hf2⟩
        | false =>
          have hno : ¬ (s < m ∧ m < e) := fun h => by have := HB1.out.2 h; cases this
          have HE2 : Hid (rot f s (m - s) (e - m) = f) := by
            show _ = _
            by_cases h1 : s < m
            · rw [show e - m = 0 by omega, rot_zero1]
            · rw [show m - s = 0 by omega, rot_zero2]
          clear hno
          go_wp2
          go_meet
          exact ⟨by rw [HE2.out]; exact HR.out, HF.out⟩
      case rest =>
      obtain ⟨hR1, hF1⟩ := hcut
      obtain ⟨w2, hw2⟩ : ∃ w2, w2 = wc := ⟨_, rfl⟩
      subst hw2
      have HR1 : Hid (PR w2 B g n (rot f s (m - s) (e - m))) := hR1
      have HF1 : Hid (Fr (fun k => k = g) w w2) := hF1
      have HLF : Hid (Two (ltO ov) (rot f s (m - s) (e - m)) a s mid n) := by
        have hl := Cut.left HTW.out HK.out
        rw [HME.out] at hl
        exact hl
      clear hR1 hF1 HR HF
      go_upto_region 41 with (fail)
      go_cut [199] from 192 to 198 (fun x wx => ∃ b1 : Bool, x = .bool b1 ∧ (b1 = true ↔ a < s ∧ s < mid) ∧ wx = w2)
      case first =>
        by_cases h1 : a < s
        · have e1 : (a : Int) < s := by omega
          by_cases h2 : s < mid
          · have e2 : (s : Int) < mid := by omega
            go_wp2
            go_meet
            exact ⟨true, rfl, ⟨fun _ => ⟨h1, h2⟩, fun _ => rfl⟩, rfl⟩
          · have e2 : ¬ ((s : Int) < mid) := by omega
            go_wp2
            go_meet
            exact ⟨false, rfl, ⟨fun h => (by cases h), fun h => (h2 h.2).elim⟩, rfl⟩
        · have e1 : ¬ ((a : Int) < s) := by omega
          go_wp2
          go_meet
          exact ⟨false, rfl, ⟨fun h => (by cases h), fun h => (h1 h.1).elim⟩, rfl⟩
      case rest =>
      obtain ⟨b2, rfl, hb2, hw⟩ := hcut
      have hw2 := hw.symm
      subst hw2
      clear hw
      have HB2 : Hid (b2 = true ↔ a < s ∧ s < mid) := hb2
      clear hb2
      go_upto_if 199 with (fail)
      go_cut [200] from 201 to 205 (fun _ wx => ∃ f1, PR wx B g n f1 ∧ Mg (ltO ov) (rot f s (m - s) (e - m)) f1 a mid ∧ Fr (fun k => k = g) w wx)
      case first =>
        cases b2 with
        | true =>
          obtain ⟨h1, h2⟩ := HB2.out.1 rfl
          have hs := HIH.out a s mid _ w2 (by omega) h1 h2 HLF.out (HC.out.step HF1.out) HR1.out
          unfold cvV at hs
          go_wp2_with fail
          refine hs.mono ?_
          rintro e0 wz ⟨rfl, ⟨f1, hp1, hm1⟩, hf1⟩
          clear hs
          go_wp2
          go_meet
          exact ⟨f1, hp1, hm1, HF1.out.trans hf1⟩
        | false =>
          have hno : ¬ (a < s ∧ s < mid) := fun h => by have := HB2.out.2 h; cases this
          have HE2 : Hid (Mg (ltO ov) (rot f s (m - s) (e - m)) (rot f s (m - s) (e - m)) a mid) := Mg.refl (HLF.out.whole1 (by have := HME.out; omega))
          clear hno
          go_wp2
          go_meet
          exact ⟨_, HR1.out, HE2.out, HF1.out⟩
      case rest =>
      obtain ⟨f1, hR2, hM1, hF2⟩ := hcut
      obtain ⟨w3, hw3⟩ : ∃ w3, w3 = wc := ⟨_, rfl⟩
      subst hw3
      have HR2 : Hid (PR w3 B g n f1) := hR2
      have HF2 : Hid (Fr (fun k => k = g) w w3) := hF2
      have HM1 : Hid (Mg (ltO ov) (rot f s (m - s) (e - m)) f1 a mid) := hM1
      have HRT : Hid (Two (ltO ov) f1 mid e b n) := by
        have hl := Cut.right (g := f1) HTW.out HK.out (fun k hk => HM1.out.out k (Or.inr (by rw [← HME.out]; exact hk)))
        rw [HME.out] at hl
        exact hl
      have HALL : Hid (∀ f2, Mg (ltO ov) f1 f2 mid b → Mg (ltO ov) f f2 a b) := fun f2 hm2 => Cut.all HL.out HTW.out HK.out (by rw [HME.out]; exact HM1.out) (by rw [HME.out]; exact hm2)
      clear hR2 hF2 hM1 HR1 HF1 HLF
      by_cases h1 : mid < e
      · have e1 : (mid : Int) < e := by omega
        by_cases h2 : e < b
        · have e2 : (e : Int) < b := by omega
          have hs := HIH.out mid e b f1 w3 (by have := HME.out; omega) h1 h2 HRT.out (HC.out.step HF2.out) HR2.out
          unfold cvV at hs
          go_wp2_with fail
          refine hs.mono ?_
          rintro e0 wz ⟨rfl, ⟨f2, hp2, hm2⟩, hf2⟩
          clear hs
          go_wp2
          go_end0
          exact ⟨rfl, ⟨f2, hp2, HALL.out f2 hm2⟩, HF2.out.trans hf2⟩
        · have e2 : ¬ ((e : Int) < b) := by omega
          go_wp2
          go_end0
          exact ⟨rfl, ⟨f1, HR2.out, HALL.out f1 (Mg.refl (HRT.out.whole1 (Or.inr (by omega))))⟩, HF2.out⟩
      · have e1 : ¬ ((mid : Int) < e) := by omega
        go_wp2
        go_end0
        exact ⟨rfl, ⟨f1, HR2.out, HALL.out f1 (Mg.refl (HRT.out.whole1 (Or.inl (by have := HME.out; omega))))⟩, HF2.out⟩
end Go.Proofs.YtfjpdflilmcnhaaDoor

/- Places sorted stably (stableCmpFunc, SortStableFunc). -/
namespace Go.Proofs.YtfjpdflilmcnhaaDoor
open Go.ChangeShapes Go.WideShapes Go.ChangeAt Go.RowKit

open Go.Proofs.YtfjpdflilmcnhaaDoor.Stb
set_option maxRecDepth 20000 in
theorem sym_any (vb B g n : Nat) (ov : Nat → Nat → Int) (hn : n ≤ 4000000) (hC : Stb.Cmp ov n) : ∀ (d a m b : Nat) (f : Nat → Nat) (w : World), b - a ≤ d → a < m → m < b → Two (ltO ov) f a m b n → CmpAt vb g n ov w → PR w B g n f →
    Calls Tryd.prog 78 #[.slice (some ⟨g, 0, none⟩) n n, .int .i64 a, .int .i64 m, .int .i64 b, cvV vb] w (MgPost B g n a b ov f w) := by
  intro d
  induction d with
  | zero => intro a m b f w hd ham hmb; omega
  | succ d ih =>
    intro a m b f w hd ham hmb hT hCA hP
    by_cases h1 : m = a + 1
    · exact sym_one vb B g n a m b ov f w hn h1 hmb hT hC hCA hP
    · by_cases h2 : b = m + 1
      · exact sym_last vb B g n a m b ov f w hn ham h1 h2 hT hC hCA hP
      · exact sym_gen vb B g n a m b ov f w hn ham hmb h1 h2 hT hC hCA hP (fun a' m' b' f' w' hl h3 h4 h5 h6 h7 => ih a' m' b' f' w' (by omega) h3 h4 h5 h6 h7)
theorem seg_st {lt : Nat → Nat → Bool} {f : Nat → Nat} {bs n lo hi : Nat} (h : Seg lt f bs n lo hi) (k : Nat) {A E : Nat} (hA : k * bs = A) (h1 : lo ≤ A) (h2 : A < hi) (hE : E = min (A + bs) n) : St lt f A E := by
  subst hA; subst hE; exact h k h1 h2
/-- The blocks ahead of A are of bs places, those from A on of half as many. -/
structure Hlf (lt : Nat → Nat → Bool) (f : Nat → Nat) (bs n A : Nat) : Prop where
  k : ∃ k, A = k * (2 * bs)
  lo : Seg lt f (2 * bs) n 0 A
  hi : Seg lt f bs n A n
theorem Hlf.st1 {lt : Nat → Nat → Bool} {f : Nat → Nat} {bs n A E : Nat} (h : Hlf lt f bs n A) (hA : A < n) (hE : E = min (A + bs) n) : St lt f A E := by
  obtain ⟨k, hk⟩ := h.k
  exact seg_st h.hi (2 * k) (by rw [hk, Nat.mul_comm 2 k, Nat.mul_assoc]) (Nat.le_refl _) hA hE
theorem Hlf.st2 {lt : Nat → Nat → Bool} {f : Nat → Nat} {bs n A E : Nat} (h : Hlf lt f bs n A) (hA : A + bs < n) (hE : E = min (A + bs + bs) n) : St lt f (A + bs) E := by
  obtain ⟨k, hk⟩ := h.k
  exact seg_st h.hi (2 * k + 1) (by rw [Nat.succ_mul, hk, Nat.mul_comm 2 k, Nat.mul_assoc]) (by omega) hA hE
theorem Hlf.snoc {lt : Nat → Nat → Bool} {f f' : Nat → Nat} {bs n A E : Nat} (h : Hlf lt f bs n A) (he : ∀ x, x < A → f' x = f x) (hE : E = min (A + 2 * bs) n) (hS : St lt f' A E) : Seg lt f' (2 * bs) n 0 (A + 2 * bs) := by
  obtain ⟨k, hk⟩ := h.k
  subst hk; subst hE
  exact Seg.snoc h.lo he hS rfl
theorem Hlf.next {lt : Nat → Nat → Bool} {f f' : Nat → Nat} {bs n A : Nat} (h : Hlf lt f bs n A) (hb : A + 2 * bs ≤ n) (hM : Mg lt f f' A (A + 2 * bs)) (hbs : 0 < bs) : Hlf lt f' bs n (A + 2 * bs) := by
  have h1 := h.st1 (E := A + bs) (by omega) (by omega)
  have h2 := h.st2 (E := A + 2 * bs) (by omega) (by omega)
  obtain ⟨k, hk⟩ := h.k
  refine ⟨⟨k + 1, by rw [hk]; exact (Nat.succ_mul k (2 * bs)).symm⟩, h.snoc (fun x hx => hM.out x (Or.inl hx)) (E := A + 2 * bs) (by omega) (hM.st h1 h2 (by omega) (by omega)), ?_⟩
  exact (Seg.less h.hi (by omega) (Nat.le_refl _)).keep fun x hx _ => hM.out x (Or.inr hx)
theorem Hlf.first {lt : Nat → Nat → Bool} {f : Nat → Nat} {bs n : Nat} (h : Seg lt f bs n 0 n) : Hlf lt f bs n 0 := ⟨⟨0, by omega⟩, fun k _ h2 => by omega, h⟩
set_option maxRecDepth 20000 in
set_option maxHeartbeats 16000000 in
theorem stl_any (vb B g n : Nat) (ov : Nat → Nat → Int) (f : Nat → Nat) (w : World) (hn : n ≤ 1000000) (hC : Stb.Cmp ov n) (hCA : CmpAt vb g n ov w) (hid : ∀ k, k < n → f k = k) (hP : PR w B g n f) :
    Calls Tryd.prog 67 #[.slice (some ⟨g, 0, none⟩) n n, .int .i64 n, cvV vb] w fun e w' => e = .returned (.tuple #[]) ∧ (∃ f', PR w' B g n f' ∧ St (ltO ov) f' 0 n) ∧ Fr (fun k => k = g) w w' := by
  have HC : Hid (CmpAt vb g n ov w) := hCA
  have HP : Hid (PR w B g n f) := hP
  have HCM : Hid (Stb.Cmp ov n) := hC
  have HI : Hid (∀ k, k < n → f k = k) := hid
  clear hP hCA hC hid
  unfold cvV
  go_enter Tryd.func67, Tryd.ntmps67
  go_wp2
  go_loopw [7, 8] (fun x y wr => ∃ (A b : Nat) (h : Nat → Nat), A ≤ n ∧ b = A + 20 ∧ x = .int .i64 A ∧ y = .int .i64 b ∧ PR wr B g n h ∧ (∃ k, A = k * 20) ∧ Seg (ltO ov) h 20 n 0 A ∧ (∀ k, A ≤ k → k < n → h k = k) ∧ Fr (fun k => k = g) w wr) (fun x _ _ => n - (intOf x).toNat)
  case atStart => exact ⟨0, 20, f, Nat.zero_le _, rfl, rfl, rfl, HP.out, ⟨0, rfl⟩, fun k _ h2 => by omega, fun k _ hk => HI.out k hk, Fr.refl _ _⟩
  case round =>
    obtain ⟨A, b, h, hAn, hb, rfl, rfl, hR, hk, hS, hO, hF⟩ := hrel
    have HF : Hid (Fr (fun k => k = g) w wr) := hF
    have HK : Hid (∃ k, A = k * 20) := hk
    have HS : Hid (Seg (ltO ov) h 20 n 0 A) := hS
    have HB : Hid (b = A + 20) := hb
    have hA2 : A < b := by omega
    clear hF hk hS
    rcases Nat.lt_or_ge n b with hlt | hge
    · have e1 : ¬ ((b : Int) ≤ n) := by omega
      have hs := isr_any vb B g n A n ov h wr (by omega) hAn (Nat.le_refl _) HCM.out (HC.out.step HF.out) (fun k h1 h2 => hO k h1 h2) hR
      unfold cvV at hs
      clear hb hO hR
      go_wp2_with fail
      refine hs.mono ?_
      rintro e0 wy ⟨rfl, ⟨f1, hR, hS1, hO1⟩, hF1⟩
      have HSG : Hid (Seg (ltO ov) f1 20 n 0 n) := by
        obtain ⟨k, hk⟩ := HK.out
        have hb := HB.out
        have h20 : Seg (ltO ov) f1 20 n 0 (k * 20 + 20) := Seg.snoc (f := h) (by rw [← hk]; exact HS.out) (fun x hx => hO1 x (Or.inl (by omega))) (by rw [show min (k * 20 + 20) n = n by omega, ← hk]; exact hS1) rfl
        exact Seg.less h20 (Nat.le_refl _) (by omega)
      have HF1 : Hid (Fr (fun k => k = g) w wy) := HF.out.trans hF1
      have HR1 : Hid (PR wy B g n f1) := hR
      clear hs hS1 hO1 hF1 hR HF HK HS HB hA2 hlt e1
      go_wp2
      go_loopw [6] (fun x wr => ∃ (bs : Nat) (h : Nat → Nat), 0 < bs ∧ bs ≤ 4000000 ∧ x = .int .i64 bs ∧ PR wr B g n h ∧ Seg (ltO ov) h bs n 0 n ∧ Fr (fun k => k = g) w wr) (fun x _ => n - (intOf x).toNat)
      case atStart => exact ⟨20, f1, by omega, by omega, rfl, HR1.out, HSG.out, HF1.out⟩
      case round =>
        clear HR1 HSG HF1 f1
        obtain ⟨bs, h, hb0, hbm, rfl, hR, hS, hF⟩ := hrel
        have HF : Hid (Fr (fun k => k = g) w wr) := hF
        have HR : Hid (PR wr B g n h) := hR
        have HS : Hid (Seg (ltO ov) h bs n 0 n) := hS
        clear hF hR hS
        rcases Nat.lt_or_ge bs n with hlt | hge
        · have e1 : (bs : Int) < n := by omega
          obtain ⟨b2, hb2⟩ : ∃ b2, 2 * bs = b2 := ⟨_, rfl⟩
          have e2 : 2 * (bs : Int) = (b2 : Int) := by omega
          have HB2 : Hid (2 * bs = b2) := hb2
          clear hb2
          go_wp2
          go_loopw [7, 8] (fun x y ws => ∃ (A b : Nat) (h : Nat → Nat), A ≤ n ∧ A + b2 = b ∧ x = .int .i64 A ∧ y = .int .i64 b ∧ PR ws B g n h ∧ Hlf (ltO ov) h bs n A ∧ Fr (fun k => k = g) w ws) (fun x _ _ => n - (intOf x).toNat)
          case atStart => exact ⟨0, b2, h, Nat.zero_le _, by omega, rfl, rfl, HR.out, Hlf.first HS.out, HF.out⟩
          case round =>
            clear HF HR HS h
            obtain ⟨A, b, h, hAn, hAb, rfl, rfl, hR, hH, hF⟩ := hrel
            have HF : Hid (Fr (fun k => k = g) w wr) := hF
            have HR : Hid (PR wr B g n h) := hR
            have HH : Hid (Hlf (ltO ov) h bs n A) := hH
            have HAB : Hid (A + b2 = b) := hAb
            have hb3 : A + 2 * bs = b := by have := HB2.out; omega
            have HB3 : Hid (A + 2 * bs = b) := hb3
            obtain ⟨m, hm⟩ : ∃ m, A + bs = m := ⟨_, rfl⟩
            have HM : Hid (A + bs = m) := hm
            have e3 : (A : Int) + bs = (m : Int) := by omega
            have hmb : m < b := by omega
            have hAm : A < m := by omega
            have hmn : m ≤ 5000000 := by omega
            clear hF hR hH hAb hb3 hm
            rcases Nat.lt_or_ge n b with hlt2 | hge2
            · have e4 : ¬ ((b : Int) ≤ n) := by omega
              rcases Nat.lt_or_ge m n with hlt3 | hge3
              · have e5 : (m : Int) < n := by omega
                have h1 := HH.out.st1 (E := m) (by omega) (by have := HM.out; omega)
                have h2 := HH.out.st2 (E := n) (by have := HM.out; omega) (by have := HM.out; have := HB3.out; omega)
                rw [HM.out] at h2
                have hs := sym_any vb B g n ov (by omega) HCM.out _ A m n h wr (Nat.le_refl _) hAm hlt3 (Seg.two h1 h2 (by omega) (by omega) (Nat.le_refl _)) (HC.out.step HF.out) HR.out
                have HST : Hid (∀ f2, Mg (ltO ov) h f2 A n → Seg (ltO ov) f2 b2 n 0 n) := fun f2 hM => by
                  have := HH.out.snoc (f' := f2) (E := n) (fun x hx => hM.out x (Or.inl hx)) (by have := HB3.out; omega) (hM.st h1 h2 (by omega) (by omega))
                  rw [HB2.out] at this
                  exact Seg.less this (Nat.le_refl _) (by have := HAB.out; omega)
                unfold cvV at hs
                clear h1 h2
                go_wp2_with fail
                refine hs.mono ?_
                rintro e0 wy ⟨rfl, ⟨f2, hR2, hM2⟩, hF2⟩
                have HST2 := HST.out f2 hM2
                clear hs hM2
                go_wp2
                refine ⟨⟨b2, f2, by omega, by omega, by go_num, hR2, HST2, HF.out.trans hF2⟩, by simp [intOf]; omega⟩
              · have e5 : ¬ ((m : Int) < n) := by omega
                have HST : Hid (Seg (ltO ov) h b2 n 0 n) := by
                  show Seg _ _ _ _ _ _
                  by_cases hA0 : A < n
                  · have h1 := HH.out.st1 (E := n) hA0 (by have := HM.out; omega)
                    have := HH.out.snoc (f' := h) (E := n) (fun x _ => rfl) (by have := HB3.out; omega) h1
                    rw [HB2.out] at this
                    exact Seg.less this (Nat.le_refl _) (by have := HAB.out; omega)
                  · have := HH.out.lo
                    rw [HB2.out] at this
                    exact Seg.less this (Nat.le_refl _) (by omega)
                go_wp2
                refine ⟨⟨b2, h, by omega, by omega, by go_num, HR.out, HST.out, HF.out⟩, by simp [intOf]; omega⟩
            · have e4 : (b : Int) ≤ n := by omega
              have h1 := HH.out.st1 (E := m) (by omega) (by have := HM.out; omega)
              have h2 := HH.out.st2 (E := b) (by have := HM.out; omega) (by have := HM.out; have := HB3.out; omega)
              rw [HM.out] at h2
              have hs := sym_any vb B g n ov (by omega) HCM.out _ A m b h wr (Nat.le_refl _) hAm hmb (Seg.two h1 h2 (by omega) (by omega) hge2) (HC.out.step HF.out) HR.out
              have HST : Hid (∀ f2, Mg (ltO ov) h f2 A b → Hlf (ltO ov) f2 bs n b) := fun f2 hM => by
                have := HH.out.next (f' := f2) (by have := HB3.out; omega) (by rw [HB3.out]; exact hM) (by omega)
                rw [HB3.out] at this
                exact this
              unfold cvV at hs
              clear h1 h2
              go_wp2_with fail
              refine hs.mono ?_
              rintro e0 wy ⟨rfl, ⟨f2, hR2, hM2⟩, hF2⟩
              have HST2 := HST.out f2 hM2
              clear hs hM2
              go_wp2
              refine ⟨⟨b, b + b2, f2, hge2, rfl, rfl, by go_num, hR2, HST2, HF.out.trans hF2⟩, by simp [intOf]; omega⟩
        · have e1 : ¬ ((bs : Int) < n) := by omega
          go_wp2
          go_end0
          refine ⟨rfl, ⟨h, HR.out, ?_⟩, HF.out⟩
          by_cases hn0 : n = 0
          · subst hn0; exact St.none
          · exact seg_st HS.out 0 (by omega) (Nat.le_refl _) (by omega) (by omega)
    · have e1 : (b : Int) ≤ n := by omega
      have hs := isr_any vb B g n A b ov h wr (by omega) (by omega) hge HCM.out (HC.out.step HF.out) (fun k h1 h2 => hO k h1 (by omega)) hR
      have HO : Hid (∀ k, A ≤ k → k < n → h k = k) := hO
      unfold cvV at hs
      clear hb hO hR
      go_wp2_with fail
      refine hs.mono ?_
      rintro e0 wy ⟨rfl, ⟨f1, hR, hS1, hO1⟩, hF1⟩
      have HN : Hid ((∃ k, b = k * 20) ∧ Seg (ltO ov) f1 20 n 0 b ∧ ∀ k, b ≤ k → k < n → f1 k = k) := by
        obtain ⟨k, hk⟩ := HK.out
        have hb := HB.out
        refine ⟨⟨k + 1, by omega⟩, Seg.snoc (k := k) (f := h) (by rw [← hk]; exact HS.out) (fun x hx => hO1 x (Or.inl (by omega))) (by rw [show min (k * 20 + 20) n = b by omega, ← hk]; exact hS1) (by omega), fun k h1 h2 => ?_⟩
        rw [hO1 k (Or.inr h1)]; exact HO.out k (by omega) h2
      clear hs hS1 hO1
      go_wp2
      refine ⟨⟨b, b + 20, f1, hge, rfl, rfl, by go_num, hR, HN.out.1, HN.out.2.1, HN.out.2.2, HF.out.trans hF1⟩, by simp [intOf]; omega⟩
set_option maxRecDepth 20000 in
set_option maxHeartbeats 4000000 in
/-- slices.SortStableFunc of places that stand in their order. -/
theorem sortStable_any (vb B g n : Nat) (ov : Nat → Nat → Int) (f : Nat → Nat) (w : World) (hn : n ≤ 1000000) (hC : Stb.Cmp ov n) (hCA : CmpAt vb g n ov w) (hid : ∀ k, k < n → f k = k) (hP : PR w B g n f) :
    Calls Tryd.prog 58 #[.slice (some ⟨g, 0, none⟩) n n, cvV vb] w fun e w' => e = .returned (.tuple #[]) ∧ (∃ f', PR w' B g n f' ∧ St (ltO ov) f' 0 n) ∧ Fr (fun k => k = g) w w' := by
  have hs := stl_any vb B g n ov f w hn hC hCA hid hP
  clear hC hCA hid hP
  unfold cvV at hs ⊢
  go_enter Tryd.func58, Tryd.ntmps58
  go_wp2_with fail
  refine hs.mono ?_
  rintro e0 wy ⟨rfl, hx, hF⟩
  clear hs
  go_wp2
  go_end0
  exact ⟨rfl, hx, hF⟩
end Go.Proofs.YtfjpdflilmcnhaaDoor
