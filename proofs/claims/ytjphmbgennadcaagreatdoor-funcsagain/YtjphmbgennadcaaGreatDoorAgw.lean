/- FuncsAgain: the walk. -/
import Derived.Test.YtjphmbgennadcaaGreatDoorPiw
namespace Go.Proofs.YtjphmbgennadcaaGreatDoor
set_option maxHeartbeats 40000000
set_option maxRecDepth 20000
set_option linter.unusedSimpArgs false
open Go.ChangeShapes Go.WideShapes Go.ChangeAt Go.RowKit


theorem ne34 (k n : Int) (t : ByteArray) (w : World) : (binOp .neq 34 (.agg #[.int .i64 k, .int .i64 n, .string t]) (.agg #[.int .i64 k, .int .i64 n, .string t])).run Tryz.prog w = .ok (.bool false) w := by
  have h := eq34 k k n n t t w
  simp only [decide_true] at h
  simp only [binOp] at h ⊢
  cases hq : (Op.equal 34 (.agg #[.int .i64 k, .int .i64 n, .string t]) (.agg #[.int .i64 k, .int .i64 n, .string t])).run Tryz.prog w with
  | ok b w' =>
    simp only [Sem.run_bind, hq, Result.andThen_ok, Sem.run_pure, Result.ok.injEq, Value.bool.injEq] at h ⊢
    obtain ⟨rfl, rfl⟩ := h
    exact ⟨rfl, rfl⟩
  | _ => simp [Sem.run_bind, hq, Result.andThen] at h
theorem fld34 (k n : Int) (t : ByteArray) (w : World) : (Instr.field 34 (.agg #[.int .i64 k, .int .i64 n, .string t]) 1).run Tryz.prog w = .ok (.int .i64 n) w := by
  simp [Instr.field, Tryz.underlying34, go_sem, asAgg, Tryz.underlying3]
theorem abs_ok2 (n : Int) (hn : I64 n) (h : n ≠ -9223372036854775808) : ∃ a, calV ⟨#[97, 98, 115]⟩ [(3, n, ⟨#[]⟩)] = (3, a, ⟨#[]⟩) ∧ calV ⟨#[97, 98, 115]⟩ [(3, a, ⟨#[]⟩)] = (3, a, ⟨#[]⟩) ∧ (∃ g, calV ⟨#[115, 105, 103, 110]⟩ [(3, n, ⟨#[]⟩)] = (2, g, ⟨#[]⟩) ∧ g * a = n) ∧ 0 ≤ a ∧ I64 a := by
  unfold I64 at hn
  have hd : ∀ m : Int, -9223372036854775808 < m → m ≤ 9223372036854775807 → dsP 0 [(3, m, ⟨#[]⟩)] = ((3, if m < 0 then -m else m, ⟨#[]⟩), 0) := fun m h1 h2 => by
    show (((absP 3 m ⟨#[]⟩).1, (absP 3 m ⟨#[]⟩).2.1, (absP 3 m ⟨#[]⟩).2.2.1), (absP 3 m ⟨#[]⟩).2.2.2) = _
    unfold absP
    split
    · rename_i hneg
      have e : Ar.negS 3 m = (3, 0 - m, 0) := by
        unfold Ar.negS
        rw [st1_num (Or.inr rfl)]
        show Ar.fin 3 (0 - m) = _
        unfold Ar.fin
        rw [if_pos (by unfold Ar.fits; simp; omega)]
      rw [e]
      simp
    · rfl
  have hc : ∀ m : Int, -9223372036854775808 < m → m ≤ 9223372036854775807 → calV ⟨#[97, 98, 115]⟩ [(3, m, ⟨#[]⟩)] = (3, if m < 0 then -m else m, ⟨#[]⟩) := fun m h1 h2 =>
    (calV_at _ 0 _ (by kernel_rfl) (by kernel_rfl) (mayd m) (by kernel_rfl) (by rw [hd m h1 h2])).trans (by rw [hd m h1 h2])
  have ha : 0 ≤ (if n < 0 then -n else n) ∧ (if n < 0 then -n else n) ≤ 9223372036854775807 := by split <;> omega
  refine ⟨if n < 0 then -n else n, hc n (by omega) (by omega), ?_, ⟨Lib.compareInt n 0, (calV_at _ 11 _ (by kernel_rfl) (by kernel_rfl) (mayd n) (by kernel_rfl) rfl).trans rfl, ?_⟩, ha.1, by unfold I64; omega⟩
  · rw [hc _ (by omega) (by omega)]
    generalize (if n < 0 then -n else n) = y at ha
    rw [if_neg (by omega)]
  · unfold Lib.compareInt
    rcases Int.lt_trichotomy n 0 with h1 | h1 | h1
    · simp [h1]
    · subst h1; simp
    · have : ¬ n < 0 := by omega
      simp [this, h1]

theorem again_walk (s : ByteArray) (x : Int) (w : World) (hR : Ready w) (hx : I64 x) :
    Calls Tryz.prog 7 #[.string s, .int .i64 x] w fun e w' => e = .returned (.bool true) ∧ Below w.heap.size w w' := by
  have hMy := fun W => rMay_any runes_said 4 0 s W
  have HX : Hid (I64 x) := hx
  obtain ⟨f, c, r, i, hNu⟩ := nums_ok x hx
  have HNu : Hid (NuP x f c r i) := hNu
  clear hx hNu
  cases hm : mayS 4 0 s with
  | false =>
    rw [hm] at hMy
    go_enter Tryz.func7, Tryz.ntmps7
    go_wp2_with fail
    refine (txt10_any s _).mono ?_
    rintro e w1 ⟨rfl, hb1⟩
    have HB1 : Hid (Bel w.heap.size w w1) := Bel.step (Bel.refl w) hb1
    clear hb1
    go_wp2_with fail
    refine (dec10_any x _).mono ?_
    rintro e w2 ⟨rfl, hb2⟩
    have HB2 : Hid (Bel w.heap.size w w2) := HB1.out.step hb2
    clear hb2 HB1
    go_wp2_with fail
    refine (hMy _).mono ?_
    rintro e w3 ⟨rfl, hb3⟩
    have HV : Hid (Bxc w2.heap.size w2.heap.size [.int .i64 4, .int .i64 0, .string s] w3) := (((Bxc.new w2 (Nat.le_refl _) _ 34).below ((Below.refl _ _).alloc (Nat.le_refl _) _)).below hb3)
    have HD : Hid (Bxc w2.heap.size (w2.heap.size + 1) [.int .i64 3, .int .i64 x, .string ⟨#[]⟩] w3) := by
      have h := Bxc.new (w2.alloc (Obj.cells #[.int .i64 4, .int .i64 0, .string s] 34)) (n0 := w2.heap.size) (by simp) [.int .i64 3, .int .i64 x, .string ⟨#[]⟩] 34
      rw [World.size_alloc] at h
      exact h.below hb3
    have HBW : Hid (Bel w.heap.size w w3) := Bel.step ((HB2.out.alloc _).alloc _) hb3
    have HR : Hid (Ready w3) := hR.below HBW.out.out
    obtain ⟨b5, hb5⟩ : ∃ b, b = w2.heap.size := ⟨_, rfl⟩
    obtain ⟨b6, hb6⟩ : ∃ b, b = w2.heap.size + 1 := ⟨_, rfl⟩
    obtain ⟨nd, hnd⟩ : ∃ b, b = w2.heap.size := ⟨_, rfl⟩
    have HV : Hid (Bxc nd b5 [.int .i64 4, .int .i64 0, .string s] w3) := by rw [hnd, hb5]; exact HV.out
    have HD : Hid (Bxc nd b6 [.int .i64 3, .int .i64 x, .string ⟨#[]⟩] w3) := by rw [hnd, hb6]; exact HD.out
    rw [← hb6]
    rw [← hb5]
    clear hb3 hb5 hb6 hnd hMy HB2
    go_wp2
    refine wp_region_held_drew (S := (fun wS => Bel w3.heap.size w3 wS)) (by kernel_rfl) ?_ (fun hHeld => ?_)
    · exact (Bel.refl _).drew
    refine wpAnyH_take (i := 0) (oi := { dst := some 63, op := Op.load 34 (Operand.tmp 6), type := 34, pos := "law.go:97", after := #[], guard := none }) (v := ?_) rfl (by kernel_rfl) (by kernel_rfl) (by kernel_rfl) (fun _ _ _ h => h) (Or.inl ⟨by kernel_rfl, ?_⟩) (by assumption) ?_
    rotate_left
    · intro wS hSw; (try dsimp only at hSw); have d0 := cell_below hSw.out (HD.out.cs 0 _ rfl); have d1 := cell_below hSw.out (HD.out.cs 1 _ rfl); have d2 := cell_below hSw.out (HD.out.cs 2 _ rfl); go_simp; (try with_reducible rfl)
    try simp only [Act.put, List.setIfInBounds_toArray, List.set_cons_zero, List.set_cons_succ]
    refine wpAnyH_take (i := 3) (oi := { dst := some 66, op := Op.load 34 (Operand.tmp 6), type := 34, pos := "law.go:97", after := #[], guard := none }) (v := ?_) rfl (by kernel_rfl) (by kernel_rfl) (by kernel_rfl) (fun _ _ _ h => h) (Or.inl ⟨by kernel_rfl, ?_⟩) (by assumption) ?_
    rotate_left
    · intro wS hSw; (try dsimp only at hSw); have d0 := cell_below hSw.out (HD.out.cs 0 _ rfl); have d1 := cell_below hSw.out (HD.out.cs 1 _ rfl); have d2 := cell_below hSw.out (HD.out.cs 2 _ rfl); go_simp; (try with_reducible rfl)
    try simp only [Act.put, List.setIfInBounds_toArray, List.set_cons_zero, List.set_cons_succ]
    refine wpAnyH_take (i := 6) (oi := { dst := some 69, op := Op.load 34 (Operand.tmp 6), type := 34, pos := "law.go:97", after := #[], guard := none }) (v := ?_) rfl (by kernel_rfl) (by kernel_rfl) (by kernel_rfl) (fun _ _ _ h => h) (Or.inl ⟨by kernel_rfl, ?_⟩) (by assumption) ?_
    rotate_left
    · intro wS hSw; (try dsimp only at hSw); have d0 := cell_below hSw.out (HD.out.cs 0 _ rfl); have d1 := cell_below hSw.out (HD.out.cs 1 _ rfl); have d2 := cell_below hSw.out (HD.out.cs 2 _ rfl); go_simp; (try with_reducible rfl)
    try simp only [Act.put, List.setIfInBounds_toArray, List.set_cons_zero, List.set_cons_succ]
    refine wpAnyH_take (i := 9) (oi := { dst := some 72, op := Op.load 34 (Operand.tmp 6), type := 34, pos := "law.go:97", after := #[], guard := none }) (v := ?_) rfl (by kernel_rfl) (by kernel_rfl) (by kernel_rfl) (fun _ _ _ h => h) (Or.inl ⟨by kernel_rfl, ?_⟩) (by assumption) ?_
    rotate_left
    · intro wS hSw; (try dsimp only at hSw); have d0 := cell_below hSw.out (HD.out.cs 0 _ rfl); have d1 := cell_below hSw.out (HD.out.cs 1 _ rfl); have d2 := cell_below hSw.out (HD.out.cs 2 _ rfl); go_simp; (try with_reducible rfl)
    try simp only [Act.put, List.setIfInBounds_toArray, List.set_cons_zero, List.set_cons_succ]
    obtain ⟨E6, hE6⟩ : ∃ E : List OpE, E = [{ slot := 2000 }, { slot := 64, row := some (2, 1, [.int .i64 3, .int .i64 x, .string ⟨#[]⟩]) }, { slot := 65, cal := some (.agg #[.int .i64 2, .int .i64 f, .string ⟨#[]⟩]) }, { slot := 2003 }, { slot := 67, row := some (5, 1, [.int .i64 3, .int .i64 x, .string ⟨#[]⟩]) }, { slot := 68, cal := some (.agg #[.int .i64 2, .int .i64 c, .string ⟨#[]⟩]) }, { slot := 2006 }, { slot := 70, row := some (8, 1, [.int .i64 3, .int .i64 x, .string ⟨#[]⟩]) }, { slot := 71, cal := some (.agg #[.int .i64 2, .int .i64 r, .string ⟨#[]⟩]) }, { slot := 2009 }, { slot := 73, row := some (11, 1, [.int .i64 3, .int .i64 x, .string ⟨#[]⟩]) }, { slot := 74, cal := some (.agg #[.int .i64 2, .int .i64 i, .string ⟨#[]⟩]) }, { slot := 10, box := some (16, [.int .i64 0, .int .i64 0, .string ⟨#[]⟩], [.int .i64 2, .int .i64 f, .string ⟨#[]⟩]) }, { slot := 11, box := some (17, [.int .i64 0, .int .i64 0, .string ⟨#[]⟩], [.int .i64 2, .int .i64 c, .string ⟨#[]⟩]) }, { slot := 12, box := some (18, [.int .i64 0, .int .i64 0, .string ⟨#[]⟩], [.int .i64 2, .int .i64 r, .string ⟨#[]⟩]) }, { slot := 13, box := some (19, [.int .i64 0, .int .i64 0, .string ⟨#[]⟩], [.int .i64 2, .int .i64 i, .string ⟨#[]⟩]) }, { slot := 1016 }, { slot := 1017 }, { slot := 1018 }, { slot := 1019 }] := ⟨_, rfl⟩
    have hwf6 : Hid (wfE E6 = true) := by show _ = _; rw [hE6]; kernel_rfl
    have hE6_1 : Hid (E6[1]? = some { slot := 64, row := some (2, 1, [.int .i64 3, .int .i64 x, .string ⟨#[]⟩]) }) := by show _ = _; rw [hE6]; rfl
    have hE6_2 : Hid (E6[2]? = some { slot := 65, cal := some (.agg #[.int .i64 2, .int .i64 f, .string ⟨#[]⟩]) }) := by show _ = _; rw [hE6]; rfl
    have hE6_4 : Hid (E6[4]? = some { slot := 67, row := some (5, 1, [.int .i64 3, .int .i64 x, .string ⟨#[]⟩]) }) := by show _ = _; rw [hE6]; rfl
    have hE6_5 : Hid (E6[5]? = some { slot := 68, cal := some (.agg #[.int .i64 2, .int .i64 c, .string ⟨#[]⟩]) }) := by show _ = _; rw [hE6]; rfl
    have hE6_7 : Hid (E6[7]? = some { slot := 70, row := some (8, 1, [.int .i64 3, .int .i64 x, .string ⟨#[]⟩]) }) := by show _ = _; rw [hE6]; rfl
    have hE6_8 : Hid (E6[8]? = some { slot := 71, cal := some (.agg #[.int .i64 2, .int .i64 r, .string ⟨#[]⟩]) }) := by show _ = _; rw [hE6]; rfl
    have hE6_10 : Hid (E6[10]? = some { slot := 73, row := some (11, 1, [.int .i64 3, .int .i64 x, .string ⟨#[]⟩]) }) := by show _ = _; rw [hE6]; rfl
    have hE6_11 : Hid (E6[11]? = some { slot := 74, cal := some (.agg #[.int .i64 2, .int .i64 i, .string ⟨#[]⟩]) }) := by show _ = _; rw [hE6]; rfl
    have hE6_12 : Hid (E6[12]? = some { slot := 10, box := some (16, [.int .i64 0, .int .i64 0, .string ⟨#[]⟩], [.int .i64 2, .int .i64 f, .string ⟨#[]⟩]) }) := by show _ = _; rw [hE6]; rfl
    have hE6_13 : Hid (E6[13]? = some { slot := 11, box := some (17, [.int .i64 0, .int .i64 0, .string ⟨#[]⟩], [.int .i64 2, .int .i64 c, .string ⟨#[]⟩]) }) := by show _ = _; rw [hE6]; rfl
    have hE6_14 : Hid (E6[14]? = some { slot := 12, box := some (18, [.int .i64 0, .int .i64 0, .string ⟨#[]⟩], [.int .i64 2, .int .i64 r, .string ⟨#[]⟩]) }) := by show _ = _; rw [hE6]; rfl
    have hE6_15 : Hid (E6[15]? = some { slot := 13, box := some (19, [.int .i64 0, .int .i64 0, .string ⟨#[]⟩], [.int .i64 2, .int .i64 i, .string ⟨#[]⟩]) }) := by show _ = _; rw [hE6]; rfl
    have hE6_16 : Hid (E6[16]? = some { slot := 1016 }) := by show _ = _; rw [hE6]; rfl
    have hE6_17 : Hid (E6[17]? = some { slot := 1017 }) := by show _ = _; rw [hE6]; rfl
    have hE6_18 : Hid (E6[18]? = some { slot := 1018 }) := by show _ = _; rw [hE6]; rfl
    have hE6_19 : Hid (E6[19]? = some { slot := 1019 }) := by show _ = _; rw [hE6]; rfl
    have hst6 := fun lq (h : stB [{ slot := 2000 }, { slot := 64, row := some (2, 1, [.int .i64 3, .int .i64 x, .string ⟨#[]⟩]) }, { slot := 65, cal := some (.agg #[.int .i64 2, .int .i64 f, .string ⟨#[]⟩]) }, { slot := 2003 }, { slot := 67, row := some (5, 1, [.int .i64 3, .int .i64 x, .string ⟨#[]⟩]) }, { slot := 68, cal := some (.agg #[.int .i64 2, .int .i64 c, .string ⟨#[]⟩]) }, { slot := 2006 }, { slot := 70, row := some (8, 1, [.int .i64 3, .int .i64 x, .string ⟨#[]⟩]) }, { slot := 71, cal := some (.agg #[.int .i64 2, .int .i64 r, .string ⟨#[]⟩]) }, { slot := 2009 }, { slot := 73, row := some (11, 1, [.int .i64 3, .int .i64 x, .string ⟨#[]⟩]) }, { slot := 74, cal := some (.agg #[.int .i64 2, .int .i64 i, .string ⟨#[]⟩]) }, { slot := 10, box := some (16, [.int .i64 0, .int .i64 0, .string ⟨#[]⟩], [.int .i64 2, .int .i64 f, .string ⟨#[]⟩]) }, { slot := 11, box := some (17, [.int .i64 0, .int .i64 0, .string ⟨#[]⟩], [.int .i64 2, .int .i64 c, .string ⟨#[]⟩]) }, { slot := 12, box := some (18, [.int .i64 0, .int .i64 0, .string ⟨#[]⟩], [.int .i64 2, .int .i64 r, .string ⟨#[]⟩]) }, { slot := 13, box := some (19, [.int .i64 0, .int .i64 0, .string ⟨#[]⟩], [.int .i64 2, .int .i64 i, .string ⟨#[]⟩]) }, { slot := 1016 }, { slot := 1017 }, { slot := 1018 }, { slot := 1019 }] lq = true) => stB_spec (E := E6) (l := lq) (by rw [hE6]; exact h)
    clear hE6
    refine wpAnyH_by (I := fun L X w' => Rgc w3 E6 L X w') (ds := [64, 65, 67, 68, 70, 71, 73, 74, 10, 11, 12, 13]) [1, 2, 4, 5, 7, 8, 10, 11, 12, 13, 14, 15, 16, 17, 18, 19] (by kernel_rfl) rfl (by kernel_rfl) (by kernel_rfl) (fun _ _ _ h => h.bel) (Rgc.start (by assumption) (hst6 _ (by kernel_rfl))) ?_ ?_
    · clear hHeld
      refine AllI.consW 1 { dst := some 64, op := Op.buildSlice 32 1 #[(0, Operand.tmp 63)], type := 32, pos := "law.go:97", after := #[{ on := 0, ground := Ground.data }], guard := none } (by kernel_rfl) rfl ?_ (AllI.consW 2 { dst := some 65, op := Op.call { callee := Callee.value (Operand.func 18), args := #[Operand.const (Value.string { data := #[102, 108, 111, 111, 114] }), Operand.tmp 64], argTypes := #[9, 32] }, type := 34, pos := "law.go:97", after := #[{ on := 1, ground := Ground.data }], guard := none } (by kernel_rfl) rfl ?_ (AllI.consW 4 { dst := some 67, op := Op.buildSlice 32 1 #[(0, Operand.tmp 66)], type := 32, pos := "law.go:97", after := #[{ on := 3, ground := Ground.data }], guard := none } (by kernel_rfl) rfl ?_ (AllI.consW 5 { dst := some 68, op := Op.call { callee := Callee.value (Operand.func 18), args := #[Operand.const (Value.string { data := #[99, 101, 105, 108] }), Operand.tmp 67], argTypes := #[9, 32] }, type := 34, pos := "law.go:97", after := #[{ on := 4, ground := Ground.data }, { on := 2, ground := Ground.chain }], guard := none } (by kernel_rfl) rfl ?_ (AllI.consW 7 { dst := some 70, op := Op.buildSlice 32 1 #[(0, Operand.tmp 69)], type := 32, pos := "law.go:97", after := #[{ on := 6, ground := Ground.data }], guard := none } (by kernel_rfl) rfl ?_ (AllI.consW 8 { dst := some 71, op := Op.call { callee := Callee.value (Operand.func 18), args := #[Operand.const (Value.string { data := #[114, 111, 117, 110, 100] }), Operand.tmp 70], argTypes := #[9, 32] }, type := 34, pos := "law.go:97", after := #[{ on := 7, ground := Ground.data }, { on := 5, ground := Ground.chain }], guard := none } (by kernel_rfl) rfl ?_ (AllI.consW 10 { dst := some 73, op := Op.buildSlice 32 1 #[(0, Operand.tmp 72)], type := 32, pos := "law.go:97", after := #[{ on := 9, ground := Ground.data }], guard := none } (by kernel_rfl) rfl ?_ (AllI.consW 11 { dst := some 74, op := Op.call { callee := Callee.value (Operand.func 18), args := #[Operand.const (Value.string { data := #[116, 111, 105, 110, 116] }), Operand.tmp 73], argTypes := #[9, 32] }, type := 34, pos := "law.go:97", after := #[{ on := 10, ground := Ground.data }, { on := 8, ground := Ground.chain }], guard := none } (by kernel_rfl) rfl ?_ (AllI.consW 12 { dst := some 10, op := Op.alloc 34, type := 0, pos := "law.go:97", after := #[], guard := none } (by kernel_rfl) rfl ?_ (AllI.consW 13 { dst := some 11, op := Op.alloc 34, type := 0, pos := "law.go:97", after := #[], guard := none } (by kernel_rfl) rfl ?_ (AllI.consW 14 { dst := some 12, op := Op.alloc 34, type := 0, pos := "law.go:97", after := #[], guard := none } (by kernel_rfl) rfl ?_ (AllI.consW 15 { dst := some 13, op := Op.alloc 34, type := 0, pos := "law.go:97", after := #[], guard := none } (by kernel_rfl) rfl ?_ (AllI.consW 16 { dst := none, op := Op.store 34 (Operand.tmp 10) (Operand.tmp 65), type := 0, pos := "law.go:97", after := #[{ on := 12, ground := Ground.data }, { on := 2, ground := Ground.data }, { on := 11, ground := Ground.chain }, { on := 0, ground := Ground.phase }, { on := 1, ground := Ground.phase }, { on := 2, ground := Ground.phase }, { on := 3, ground := Ground.textOnly Departure.lateStores }, { on := 4, ground := Ground.textOnly Departure.lateStores }, { on := 5, ground := Ground.textOnly Departure.lateStoresUnsure }, { on := 6, ground := Ground.textOnly Departure.lateStores }, { on := 7, ground := Ground.textOnly Departure.lateStores }, { on := 8, ground := Ground.textOnly Departure.lateStoresUnsure }, { on := 9, ground := Ground.textOnly Departure.lateStores }, { on := 10, ground := Ground.textOnly Departure.lateStores }, { on := 11, ground := Ground.textOnly Departure.lateStoresUnsure }, { on := 12, ground := Ground.phase }, { on := 13, ground := Ground.phase }, { on := 14, ground := Ground.phase }, { on := 15, ground := Ground.phase }], guard := none } (by kernel_rfl) rfl ?_ (AllI.consW 17 { dst := none, op := Op.store 34 (Operand.tmp 11) (Operand.tmp 68), type := 0, pos := "law.go:97", after := #[{ on := 13, ground := Ground.data }, { on := 5, ground := Ground.data }, { on := 16, ground := Ground.chain }, { on := 0, ground := Ground.phase }, { on := 1, ground := Ground.phase }, { on := 2, ground := Ground.phase }, { on := 3, ground := Ground.phase }, { on := 4, ground := Ground.phase }, { on := 5, ground := Ground.phase }, { on := 6, ground := Ground.textOnly Departure.lateStores }, { on := 7, ground := Ground.textOnly Departure.lateStores }, { on := 8, ground := Ground.textOnly Departure.lateStoresUnsure }, { on := 9, ground := Ground.textOnly Departure.lateStores }, { on := 10, ground := Ground.textOnly Departure.lateStores }, { on := 11, ground := Ground.textOnly Departure.lateStoresUnsure }, { on := 12, ground := Ground.phase }, { on := 13, ground := Ground.phase }, { on := 14, ground := Ground.phase }, { on := 15, ground := Ground.phase }, { on := 16, ground := Ground.phase }], guard := none } (by kernel_rfl) rfl ?_ (AllI.consW 18 { dst := none, op := Op.store 34 (Operand.tmp 12) (Operand.tmp 71), type := 0, pos := "law.go:97", after := #[{ on := 14, ground := Ground.data }, { on := 8, ground := Ground.data }, { on := 17, ground := Ground.chain }, { on := 0, ground := Ground.phase }, { on := 1, ground := Ground.phase }, { on := 2, ground := Ground.phase }, { on := 3, ground := Ground.phase }, { on := 4, ground := Ground.phase }, { on := 5, ground := Ground.phase }, { on := 6, ground := Ground.phase }, { on := 7, ground := Ground.phase }, { on := 8, ground := Ground.phase }, { on := 9, ground := Ground.textOnly Departure.lateStores }, { on := 10, ground := Ground.textOnly Departure.lateStores }, { on := 11, ground := Ground.textOnly Departure.lateStoresUnsure }, { on := 12, ground := Ground.phase }, { on := 13, ground := Ground.phase }, { on := 14, ground := Ground.phase }, { on := 15, ground := Ground.phase }, { on := 16, ground := Ground.phase }, { on := 17, ground := Ground.phase }], guard := none } (by kernel_rfl) rfl ?_ (AllI.consW 19 { dst := none, op := Op.store 34 (Operand.tmp 13) (Operand.tmp 74), type := 0, pos := "law.go:97", after := #[{ on := 15, ground := Ground.data }, { on := 11, ground := Ground.data }, { on := 18, ground := Ground.chain }, { on := 0, ground := Ground.phase }, { on := 1, ground := Ground.phase }, { on := 2, ground := Ground.phase }, { on := 3, ground := Ground.phase }, { on := 4, ground := Ground.phase }, { on := 5, ground := Ground.phase }, { on := 6, ground := Ground.phase }, { on := 7, ground := Ground.phase }, { on := 8, ground := Ground.phase }, { on := 9, ground := Ground.phase }, { on := 10, ground := Ground.phase }, { on := 11, ground := Ground.phase }, { on := 12, ground := Ground.phase }, { on := 13, ground := Ground.phase }, { on := 14, ground := Ground.phase }, { on := 15, ground := Ground.phase }, { on := 16, ground := Ground.phase }, { on := 17, ground := Ground.phase }, { on := 18, ground := Ground.phase }], guard := none } (by kernel_rfl) rfl ?_ (AllI.nil))))))))))))))))
      · intro L X w1 hI hL hd K hK
        have HN : Hid _ := Rgc.stepR hI hwf6.out hE6_1.out rfl rfl rfl 34
        have HK : Hid _ := hK
        clear hK hI hd
        refine Wrap.mk ?_
        simp only [putL, Act.put, List.setIfInBounds_toArray, List.set_cons_zero, List.set_cons_succ, updV, Nat.reduceBEq, Bool.false_eq_true, if_false, if_true]
        go_simp
        exact Shut.use HK.out _ (by kernel_rfl) HN.out
      · intro L X w1 hI hL hd K hK
        obtain ⟨g1, x1, B1⟩ := hI.row 1 _ _ _ _ hE6_1.out rfl (hd 1 (by kernel_rfl)) hL
        obtain ⟨Y, rfl⟩ : ∃ Y, X = updV Y 64 (.slice (some ⟨g1, 0, none⟩) 1 1) := ⟨X, by rw [updV_self x1]⟩
        clear x1
        have HK : Hid _ := hK
        have HI : Hid _ := hI
        clear hK hI hd
        have hcc := lcall_is (row1 B1 (HR.out.below HI.out.bel.out) HX.out) HNu.out.f1
        refine Wrap.mk ?_
        simp only [putL, Act.put, List.setIfInBounds_toArray, List.set_cons_zero, List.set_cons_succ, updV, Nat.reduceBEq, Bool.false_eq_true, if_false, if_true]
        go_simp
        refine (hcc).mono ?_
        rintro e w2 ⟨rfl, hb1⟩
        (try dsimp only)
        try simp only [Act.put, List.setIfInBounds_toArray, List.set_cons_zero, List.set_cons_succ]
        exact Shut.use HK.out _ (by kernel_rfl) (Rgc.stepC (HI.out.below hb1) hwf6.out hE6_2.out rfl rfl rfl hL)
      · intro L X w1 hI hL hd K hK
        have HN : Hid _ := Rgc.stepR hI hwf6.out hE6_4.out rfl rfl rfl 34
        have HK : Hid _ := hK
        clear hK hI hd
        refine Wrap.mk ?_
        simp only [putL, Act.put, List.setIfInBounds_toArray, List.set_cons_zero, List.set_cons_succ, updV, Nat.reduceBEq, Bool.false_eq_true, if_false, if_true]
        go_simp
        exact Shut.use HK.out _ (by kernel_rfl) HN.out
      · intro L X w1 hI hL hd K hK
        obtain ⟨g4, x4, B4⟩ := hI.row 4 _ _ _ _ hE6_4.out rfl (hd 4 (by kernel_rfl)) hL
        obtain ⟨Y, rfl⟩ : ∃ Y, X = updV Y 67 (.slice (some ⟨g4, 0, none⟩) 1 1) := ⟨X, by rw [updV_self x4]⟩
        clear x4
        have HK : Hid _ := hK
        have HI : Hid _ := hI
        clear hK hI hd
        have hcc := lcall_is (row1 B4 (HR.out.below HI.out.bel.out) HX.out) HNu.out.c1
        refine Wrap.mk ?_
        simp only [putL, Act.put, List.setIfInBounds_toArray, List.set_cons_zero, List.set_cons_succ, updV, Nat.reduceBEq, Bool.false_eq_true, if_false, if_true]
        go_simp
        refine (hcc).mono ?_
        rintro e w2 ⟨rfl, hb1⟩
        (try dsimp only)
        try simp only [Act.put, List.setIfInBounds_toArray, List.set_cons_zero, List.set_cons_succ]
        exact Shut.use HK.out _ (by kernel_rfl) (Rgc.stepC (HI.out.below hb1) hwf6.out hE6_5.out rfl rfl rfl hL)
      · intro L X w1 hI hL hd K hK
        have HN : Hid _ := Rgc.stepR hI hwf6.out hE6_7.out rfl rfl rfl 34
        have HK : Hid _ := hK
        clear hK hI hd
        refine Wrap.mk ?_
        simp only [putL, Act.put, List.setIfInBounds_toArray, List.set_cons_zero, List.set_cons_succ, updV, Nat.reduceBEq, Bool.false_eq_true, if_false, if_true]
        go_simp
        exact Shut.use HK.out _ (by kernel_rfl) HN.out
      · intro L X w1 hI hL hd K hK
        obtain ⟨g7, x7, B7⟩ := hI.row 7 _ _ _ _ hE6_7.out rfl (hd 7 (by kernel_rfl)) hL
        obtain ⟨Y, rfl⟩ : ∃ Y, X = updV Y 70 (.slice (some ⟨g7, 0, none⟩) 1 1) := ⟨X, by rw [updV_self x7]⟩
        clear x7
        have HK : Hid _ := hK
        have HI : Hid _ := hI
        clear hK hI hd
        have hcc := lcall_is (row1 B7 (HR.out.below HI.out.bel.out) HX.out) HNu.out.r1
        refine Wrap.mk ?_
        simp only [putL, Act.put, List.setIfInBounds_toArray, List.set_cons_zero, List.set_cons_succ, updV, Nat.reduceBEq, Bool.false_eq_true, if_false, if_true]
        go_simp
        refine (hcc).mono ?_
        rintro e w2 ⟨rfl, hb1⟩
        (try dsimp only)
        try simp only [Act.put, List.setIfInBounds_toArray, List.set_cons_zero, List.set_cons_succ]
        exact Shut.use HK.out _ (by kernel_rfl) (Rgc.stepC (HI.out.below hb1) hwf6.out hE6_8.out rfl rfl rfl hL)
      · intro L X w1 hI hL hd K hK
        have HN : Hid _ := Rgc.stepR hI hwf6.out hE6_10.out rfl rfl rfl 34
        have HK : Hid _ := hK
        clear hK hI hd
        refine Wrap.mk ?_
        simp only [putL, Act.put, List.setIfInBounds_toArray, List.set_cons_zero, List.set_cons_succ, updV, Nat.reduceBEq, Bool.false_eq_true, if_false, if_true]
        go_simp
        exact Shut.use HK.out _ (by kernel_rfl) HN.out
      · intro L X w1 hI hL hd K hK
        obtain ⟨g10, x10, B10⟩ := hI.row 10 _ _ _ _ hE6_10.out rfl (hd 10 (by kernel_rfl)) hL
        obtain ⟨Y, rfl⟩ : ∃ Y, X = updV Y 73 (.slice (some ⟨g10, 0, none⟩) 1 1) := ⟨X, by rw [updV_self x10]⟩
        clear x10
        have HK : Hid _ := hK
        have HI : Hid _ := hI
        clear hK hI hd
        have hcc := lcall_is (row1 B10 (HR.out.below HI.out.bel.out) HX.out) HNu.out.i1
        refine Wrap.mk ?_
        simp only [putL, Act.put, List.setIfInBounds_toArray, List.set_cons_zero, List.set_cons_succ, updV, Nat.reduceBEq, Bool.false_eq_true, if_false, if_true]
        go_simp
        refine (hcc).mono ?_
        rintro e w2 ⟨rfl, hb1⟩
        (try dsimp only)
        try simp only [Act.put, List.setIfInBounds_toArray, List.set_cons_zero, List.set_cons_succ]
        exact Shut.use HK.out _ (by kernel_rfl) (Rgc.stepC (HI.out.below hb1) hwf6.out hE6_11.out rfl rfl rfl hL)
      · intro L X w1 hI hL hd K hK
        have HN : Hid _ := Rgc.stepB hI hwf6.out hE6_12.out rfl rfl rfl hL 34
        have HK : Hid _ := hK
        clear hK hI hd
        refine Wrap.mk ?_
        simp only [putL, Act.put, List.setIfInBounds_toArray, List.set_cons_zero, List.set_cons_succ, updV, Nat.reduceBEq, Bool.false_eq_true, if_false, if_true]
        go_simp
        exact Shut.use HK.out _ (by kernel_rfl) HN.out
      · intro L X w1 hI hL hd K hK
        have HN : Hid _ := Rgc.stepB hI hwf6.out hE6_13.out rfl rfl rfl hL 34
        have HK : Hid _ := hK
        clear hK hI hd
        refine Wrap.mk ?_
        simp only [putL, Act.put, List.setIfInBounds_toArray, List.set_cons_zero, List.set_cons_succ, updV, Nat.reduceBEq, Bool.false_eq_true, if_false, if_true]
        go_simp
        exact Shut.use HK.out _ (by kernel_rfl) HN.out
      · intro L X w1 hI hL hd K hK
        have HN : Hid _ := Rgc.stepB hI hwf6.out hE6_14.out rfl rfl rfl hL 34
        have HK : Hid _ := hK
        clear hK hI hd
        refine Wrap.mk ?_
        simp only [putL, Act.put, List.setIfInBounds_toArray, List.set_cons_zero, List.set_cons_succ, updV, Nat.reduceBEq, Bool.false_eq_true, if_false, if_true]
        go_simp
        exact Shut.use HK.out _ (by kernel_rfl) HN.out
      · intro L X w1 hI hL hd K hK
        have HN : Hid _ := Rgc.stepB hI hwf6.out hE6_15.out rfl rfl rfl hL 34
        have HK : Hid _ := hK
        clear hK hI hd
        refine Wrap.mk ?_
        simp only [putL, Act.put, List.setIfInBounds_toArray, List.set_cons_zero, List.set_cons_succ, updV, Nat.reduceBEq, Bool.false_eq_true, if_false, if_true]
        go_simp
        exact Shut.use HK.out _ (by kernel_rfl) HN.out
      · intro L X w1 hI hL hd K hK
        have x2 : X 65 = .agg #[.int .i64 2, .int .i64 f, .string ⟨#[]⟩] := hI.cal 2 _ _ hE6_2.out rfl (hd 2 (by kernel_rfl))
        have hd12 := hd 12 (by kernel_rfl)
        obtain ⟨g12, x12, B12⟩ := hI.box 12 { slot := 10, box := some (16, [.int .i64 0, .int .i64 0, .string ⟨#[]⟩], [.int .i64 2, .int .i64 f, .string ⟨#[]⟩]) } (16) ([.int .i64 0, .int .i64 0, .string ⟨#[]⟩]) ([.int .i64 2, .int .i64 f, .string ⟨#[]⟩]) hE6_12.out rfl hd12
        rw [hL] at B12
        obtain ⟨Y, rfl⟩ : ∃ Y, X = updV (updV Y 65 (.agg #[.int .i64 2, .int .i64 f, .string ⟨#[]⟩])) 10 (.pointer (some ⟨g12, 0, none⟩)) := ⟨X, by rw [updV_self x2, updV_self x12]⟩
        clear x2 x12
        have hN := Rgc.stepS hI hwf6.out hE6_12.out rfl hE6_16.out (hd 12 (by kernel_rfl)) (show (updV (updV Y 65 (.agg #[.int .i64 2, .int .i64 f, .string ⟨#[]⟩])) 10 (.pointer (some ⟨g12, 0, none⟩))) 10 = .pointer (some ⟨g12, 0, none⟩) by simp only [updV, Nat.reduceBEq, Bool.false_eq_true, if_false, if_true])
        have c0 := B12.cs 0 _ rfl
        have c1 := B12.cs 1 _ rfl
        have c2 := B12.cs 2 _ rfl
        have hfr := B12.fr
        have hlt := B12.lt
        have HN : Hid _ := hN
        have HK : Hid _ := hK
        clear hN hK hI hd B12
        refine Wrap.mk ?_
        simp only [putL, Act.put, List.setIfInBounds_toArray, List.set_cons_zero, List.set_cons_succ, updV, Nat.reduceBEq, Bool.false_eq_true, if_false, if_true]
        go_simp
        exact Shut.use HK.out (updV (updV Y 65 (.agg #[.int .i64 2, .int .i64 f, .string ⟨#[]⟩])) 10 (.pointer (some ⟨g12, 0, none⟩))) (by kernel_rfl) HN.out
      · intro L X w1 hI hL hd K hK
        have x5 : X 68 = .agg #[.int .i64 2, .int .i64 c, .string ⟨#[]⟩] := hI.cal 5 _ _ hE6_5.out rfl (hd 5 (by kernel_rfl))
        have hd13 := hd 13 (by kernel_rfl)
        obtain ⟨g13, x13, B13⟩ := hI.box 13 { slot := 11, box := some (17, [.int .i64 0, .int .i64 0, .string ⟨#[]⟩], [.int .i64 2, .int .i64 c, .string ⟨#[]⟩]) } (17) ([.int .i64 0, .int .i64 0, .string ⟨#[]⟩]) ([.int .i64 2, .int .i64 c, .string ⟨#[]⟩]) hE6_13.out rfl hd13
        rw [hL] at B13
        obtain ⟨Y, rfl⟩ : ∃ Y, X = updV (updV Y 68 (.agg #[.int .i64 2, .int .i64 c, .string ⟨#[]⟩])) 11 (.pointer (some ⟨g13, 0, none⟩)) := ⟨X, by rw [updV_self x5, updV_self x13]⟩
        clear x5 x13
        have hN := Rgc.stepS hI hwf6.out hE6_13.out rfl hE6_17.out (hd 13 (by kernel_rfl)) (show (updV (updV Y 68 (.agg #[.int .i64 2, .int .i64 c, .string ⟨#[]⟩])) 11 (.pointer (some ⟨g13, 0, none⟩))) 11 = .pointer (some ⟨g13, 0, none⟩) by simp only [updV, Nat.reduceBEq, Bool.false_eq_true, if_false, if_true])
        have c0 := B13.cs 0 _ rfl
        have c1 := B13.cs 1 _ rfl
        have c2 := B13.cs 2 _ rfl
        have hfr := B13.fr
        have hlt := B13.lt
        have HN : Hid _ := hN
        have HK : Hid _ := hK
        clear hN hK hI hd B13
        refine Wrap.mk ?_
        simp only [putL, Act.put, List.setIfInBounds_toArray, List.set_cons_zero, List.set_cons_succ, updV, Nat.reduceBEq, Bool.false_eq_true, if_false, if_true]
        go_simp
        exact Shut.use HK.out (updV (updV Y 68 (.agg #[.int .i64 2, .int .i64 c, .string ⟨#[]⟩])) 11 (.pointer (some ⟨g13, 0, none⟩))) (by kernel_rfl) HN.out
      · intro L X w1 hI hL hd K hK
        have x8 : X 71 = .agg #[.int .i64 2, .int .i64 r, .string ⟨#[]⟩] := hI.cal 8 _ _ hE6_8.out rfl (hd 8 (by kernel_rfl))
        have hd14 := hd 14 (by kernel_rfl)
        obtain ⟨g14, x14, B14⟩ := hI.box 14 { slot := 12, box := some (18, [.int .i64 0, .int .i64 0, .string ⟨#[]⟩], [.int .i64 2, .int .i64 r, .string ⟨#[]⟩]) } (18) ([.int .i64 0, .int .i64 0, .string ⟨#[]⟩]) ([.int .i64 2, .int .i64 r, .string ⟨#[]⟩]) hE6_14.out rfl hd14
        rw [hL] at B14
        obtain ⟨Y, rfl⟩ : ∃ Y, X = updV (updV Y 71 (.agg #[.int .i64 2, .int .i64 r, .string ⟨#[]⟩])) 12 (.pointer (some ⟨g14, 0, none⟩)) := ⟨X, by rw [updV_self x8, updV_self x14]⟩
        clear x8 x14
        have hN := Rgc.stepS hI hwf6.out hE6_14.out rfl hE6_18.out (hd 14 (by kernel_rfl)) (show (updV (updV Y 71 (.agg #[.int .i64 2, .int .i64 r, .string ⟨#[]⟩])) 12 (.pointer (some ⟨g14, 0, none⟩))) 12 = .pointer (some ⟨g14, 0, none⟩) by simp only [updV, Nat.reduceBEq, Bool.false_eq_true, if_false, if_true])
        have c0 := B14.cs 0 _ rfl
        have c1 := B14.cs 1 _ rfl
        have c2 := B14.cs 2 _ rfl
        have hfr := B14.fr
        have hlt := B14.lt
        have HN : Hid _ := hN
        have HK : Hid _ := hK
        clear hN hK hI hd B14
        refine Wrap.mk ?_
        simp only [putL, Act.put, List.setIfInBounds_toArray, List.set_cons_zero, List.set_cons_succ, updV, Nat.reduceBEq, Bool.false_eq_true, if_false, if_true]
        go_simp
        exact Shut.use HK.out (updV (updV Y 71 (.agg #[.int .i64 2, .int .i64 r, .string ⟨#[]⟩])) 12 (.pointer (some ⟨g14, 0, none⟩))) (by kernel_rfl) HN.out
      · intro L X w1 hI hL hd K hK
        have x11 : X 74 = .agg #[.int .i64 2, .int .i64 i, .string ⟨#[]⟩] := hI.cal 11 _ _ hE6_11.out rfl (hd 11 (by kernel_rfl))
        have hd15 := hd 15 (by kernel_rfl)
        obtain ⟨g15, x15, B15⟩ := hI.box 15 { slot := 13, box := some (19, [.int .i64 0, .int .i64 0, .string ⟨#[]⟩], [.int .i64 2, .int .i64 i, .string ⟨#[]⟩]) } (19) ([.int .i64 0, .int .i64 0, .string ⟨#[]⟩]) ([.int .i64 2, .int .i64 i, .string ⟨#[]⟩]) hE6_15.out rfl hd15
        rw [hL] at B15
        obtain ⟨Y, rfl⟩ : ∃ Y, X = updV (updV Y 74 (.agg #[.int .i64 2, .int .i64 i, .string ⟨#[]⟩])) 13 (.pointer (some ⟨g15, 0, none⟩)) := ⟨X, by rw [updV_self x11, updV_self x15]⟩
        clear x11 x15
        have hN := Rgc.stepS hI hwf6.out hE6_15.out rfl hE6_19.out (hd 15 (by kernel_rfl)) (show (updV (updV Y 74 (.agg #[.int .i64 2, .int .i64 i, .string ⟨#[]⟩])) 13 (.pointer (some ⟨g15, 0, none⟩))) 13 = .pointer (some ⟨g15, 0, none⟩) by simp only [updV, Nat.reduceBEq, Bool.false_eq_true, if_false, if_true])
        have c0 := B15.cs 0 _ rfl
        have c1 := B15.cs 1 _ rfl
        have c2 := B15.cs 2 _ rfl
        have hfr := B15.fr
        have hlt := B15.lt
        have HN : Hid _ := hN
        have HK : Hid _ := hK
        clear hN hK hI hd B15
        refine Wrap.mk ?_
        simp only [putL, Act.put, List.setIfInBounds_toArray, List.set_cons_zero, List.set_cons_succ, updV, Nat.reduceBEq, Bool.false_eq_true, if_false, if_true]
        go_simp
        exact Shut.use HK.out (updV (updV Y 74 (.agg #[.int .i64 2, .int .i64 i, .string ⟨#[]⟩])) 13 (.pointer (some ⟨g15, 0, none⟩))) (by kernel_rfl) HN.out
    · intro L X w1 hI hAll
      obtain ⟨g12, x12, B12⟩ := hI.box 12 _ _ _ _ hE6_12.out rfl (hAll 12 (of_decide_eq_true (by kernel_rfl)))
      rw [if_pos (hAll 16 (of_decide_eq_true (by kernel_rfl)))] at B12
      obtain ⟨g13, x13, B13⟩ := hI.box 13 _ _ _ _ hE6_13.out rfl (hAll 13 (of_decide_eq_true (by kernel_rfl)))
      rw [if_pos (hAll 17 (of_decide_eq_true (by kernel_rfl)))] at B13
      obtain ⟨g14, x14, B14⟩ := hI.box 14 _ _ _ _ hE6_14.out rfl (hAll 14 (of_decide_eq_true (by kernel_rfl)))
      rw [if_pos (hAll 18 (of_decide_eq_true (by kernel_rfl)))] at B14
      obtain ⟨g15, x15, B15⟩ := hI.box 15 _ _ _ _ hE6_15.out rfl (hAll 15 (of_decide_eq_true (by kernel_rfl)))
      rw [if_pos (hAll 19 (of_decide_eq_true (by kernel_rfl)))] at B15
      have hB := hI.bel
      clear hI hAll hst6 hwf6 hE6_1 hE6_2 hE6_4 hE6_5 hE6_7 hE6_8 hE6_10 hE6_11 hE6_12 hE6_13 hE6_14 hE6_15 hE6_16 hE6_17 hE6_18 hE6_19 hHeld
      simp only [putL, Act.put, List.setIfInBounds_toArray, List.set_cons_zero, List.set_cons_succ]
      rw [show X 10 = _ from x12]
      rw [show X 11 = _ from x13]
      rw [show X 12 = _ from x14]
      rw [show X 13 = _ from x15]
      generalize X 64 = y64
      generalize X 65 = y65
      generalize X 67 = y67
      generalize X 68 = y68
      generalize X 70 = y70
      generalize X 71 = y71
      generalize X 73 = y73
      generalize X 74 = y74
      clear x12 x13 x14 x15
      have HD : Hid (Bxc nd b6 [.int .i64 3, .int .i64 x, .string ⟨#[]⟩] w1) := HD.out.below hB.out
      have HR : Hid (Ready w1) := HR.out.below hB.out
      have HBW : Hid (Bel w.heap.size w w1) := HBW.out.step hB.out
      have HF : Hid _ := B12
      obtain ⟨b10, he⟩ : ∃ b, b = g12 := ⟨_, rfl⟩
      rw [← he] at HF ⊢
      clear he
      have HC : Hid _ := B13
      obtain ⟨b11, he⟩ : ∃ b, b = g13 := ⟨_, rfl⟩
      rw [← he] at HC ⊢
      clear he
      have HRn : Hid _ := B14
      obtain ⟨b12, he⟩ : ∃ b, b = g14 := ⟨_, rfl⟩
      rw [← he] at HRn ⊢
      clear he
      have HIn : Hid _ := B15
      obtain ⟨b13, he⟩ : ∃ b, b = g15 := ⟨_, rfl⟩
      rw [← he] at HIn ⊢
      clear he
      obtain ⟨w6, he⟩ : ∃ u, u = w1 := ⟨_, rfl⟩
      rw [← he] at HR HBW HD HF HC HRn HIn ⊢
      clear he hB B12 B13 B14 B15
      have z10 := HF.out.cs 1 _ rfl
      have z11 := HC.out.cs 1 _ rfl
      have z12 := HRn.out.cs 1 _ rfl
      have z13 := HIn.out.cs 1 _ rfl
      have n1 := HNu.out.fc
      have n2 := HNu.out.cf
      have n3 := HNu.out.rf
      have n4 := HNu.out.rc
      have n5 := HNu.out.fi
      have n6 := HNu.out.ic
      have n7 := HNu.out.bf
      have hfc : ((f == c) = true ∧ (x.tmod 10000 == 0) = true) ∨ ((f == c) = false ∧ (x.tmod 10000 == 0) = false) := by
        have h := HNu.out.eq
        by_cases e : f = c
        · exact Or.inl ⟨by simpa using e, by simpa using h.1 e⟩
        · exact Or.inr ⟨by simpa using e, by simpa using fun e2 => e (h.2 e2)⟩
      rcases hfc with ⟨q1, q2⟩ | ⟨q1, q2⟩
      · cases hmin : (x == -9223372036854775808) with
        | true =>
          go_wp2_with fail
          refine (sure_any _ HR.out).mono ?_
          rintro e wz ⟨rfl, hbz⟩
          go_wp2
          go_ret
          exact ⟨rfl, (HBW.out.step hbz).out⟩
        | false =>
          obtain ⟨a, ha1, ha2, ⟨g, hg1, hg2⟩, ha0, ha3⟩ := abs_ok2 x HX.out (by simpa using hmin)
          have HA1 : Hid _ := ha1
          have HA2 : Hid _ := ha2
          have HG1 : Hid _ := hg1
          have HG2 : Hid (g * a = x) := hg2
          have HA3 : Hid (I64 a) := ha3
          have y0 := HD.out.cs 0 _ rfl
          have y1 := HD.out.cs 1 _ rfl
          have y2 := HD.out.cs 2 _ rfl
          clear ha1 ha2 hg1 hg2 ha3
          go_wp2_with fail
          refine (lcall_is (row1 (Bxc.new (n0 := 0) _ (Nat.zero_le _) _ 34) (HR.out.below ((Below.refl _ _).alloc (Nat.le_refl _) _)) HX.out) HA1.out).mono ?_
          rintro e wa ⟨rfl, hba⟩
          have hba2 := ((Below.refl w6.heap.size w6).alloc (Nat.le_refl _) (Obj.cells #[.int .i64 3, .int .i64 x, .string ⟨#[]⟩] 34)).trans (hba.mono (by simp))
          have HRa : Hid (Ready wa) := HR.out.below hba2
          have HDa : Hid (Bxc nd b6 [.int .i64 3, .int .i64 x, .string ⟨#[]⟩] wa) := HD.out.below hba2
          have HBa : Hid (Bel w.heap.size w wa) := HBW.out.step hba2
          clear hba hba2 y0 y1 y2 z10 z11 z12 z13 n1 n2 n3 n4 n5 n6 n7 q1 q2 HNu
          go_upto_region 12 with (fail)
          have HAb : Hid (Bxc wa.heap.size wa.heap.size [.int .i64 3, .int .i64 a, .string ⟨#[]⟩] (wa.alloc (Obj.cells #[.int .i64 3, .int .i64 a, .string ⟨#[]⟩] 34))) := Bxc.new wa (Nat.le_refl _) _ 34
          have hbe : Below wa.heap.size wa (wa.alloc (Obj.cells #[.int .i64 3, .int .i64 a, .string ⟨#[]⟩] 34)) := (Below.refl _ _).alloc (Nat.le_refl _) _
          have HR : Hid (Ready (wa.alloc (Obj.cells #[.int .i64 3, .int .i64 a, .string ⟨#[]⟩] 34))) := HRa.out.below hbe
          have HDb : Hid (Bxc nd b6 [.int .i64 3, .int .i64 x, .string ⟨#[]⟩] (wa.alloc (Obj.cells #[.int .i64 3, .int .i64 a, .string ⟨#[]⟩] 34))) := HDa.out.below hbe
          have HBb : Hid (Bel w.heap.size w (wa.alloc (Obj.cells #[.int .i64 3, .int .i64 a, .string ⟨#[]⟩] 34))) := HBa.out.step hbe
          obtain ⟨b14, hb14⟩ : ∃ b, b = wa.heap.size := ⟨_, rfl⟩
          obtain ⟨n14, hn14⟩ : ∃ b, b = wa.heap.size := ⟨_, rfl⟩
          have HAb : Hid (Bxc n14 b14 [.int .i64 3, .int .i64 a, .string ⟨#[]⟩] (wa.alloc (Obj.cells #[.int .i64 3, .int .i64 a, .string ⟨#[]⟩] 34))) := by rw [hn14, hb14]; exact HAb.out
          rw [← hb14]
          clear hb14 hn14 hbe HRa HDa HBa HBW
          generalize (wa.alloc (Obj.cells #[.int .i64 3, .int .i64 a, .string ⟨#[]⟩] 34)) = w8 at *
          have m1 : IntKind.i64.wrap (g * a) = x := by rw [HG2.out, IntKind.wrap_i64]; have := HX.out; unfold I64 at this; omega
          have m2 : wrap64 (g * a) = x := by rw [HG2.out]; unfold wrap64; have := HX.out; unfold I64 at this; omega
          have hxx : (x == x) = true := by simp
          refine wp_region_held_drew (S := (fun wS => Bel w8.heap.size w8 wS)) (by kernel_rfl) ?_ (fun hHeld => ?_)
          · (try dsimp only); exact (Bel.refl _).drew
          refine wpAnyH_take (i := 0) (oi := { dst := some 133, op := Op.fieldAddr 34 (Operand.tmp 14) 1, type := 0, pos := "law.go:105", after := #[], guard := none }) (v := ?_) rfl (by kernel_rfl) (by kernel_rfl) (by kernel_rfl) (fun _ _ _ h => h) (Or.inl ⟨by kernel_rfl, ?_⟩) (by assumption) ?_
          rotate_left
          · intro wS hSw; (try dsimp only at hSw); go_simp; (try with_reducible rfl)
          try simp only [Act.put, List.setIfInBounds_toArray, List.set_cons_zero, List.set_cons_succ]
          refine wpAnyH_take (i := 1) (oi := { dst := some 134, op := Op.load 3 (Operand.tmp 133), type := 3, pos := "law.go:105", after := #[{ on := 0, ground := Ground.data }], guard := none }) (v := ?_) rfl (by kernel_rfl) (by kernel_rfl) (by kernel_rfl) (fun _ _ _ h => h) (Or.inl ⟨by kernel_rfl, ?_⟩) (by assumption) ?_
          rotate_left
          · intro wS hSw; (try dsimp only at hSw); have c1 := (cell_below hSw.out (HAb.out.cs 1 _ rfl)); go_simp; (try with_reducible rfl)
          try simp only [Act.put, List.setIfInBounds_toArray, List.set_cons_zero, List.set_cons_succ]
          refine wpAnyH_take (i := 2) (oi := { dst := some 135, op := Op.binOp BinOp.geq 3 (Operand.tmp 134) (Operand.const (Value.int IntKind.i64 0)) 3, type := 4, pos := "law.go:105", after := #[{ on := 1, ground := Ground.data }], guard := none }) (v := ?_) rfl (by kernel_rfl) (by kernel_rfl) (by kernel_rfl) (fun _ _ _ h => h) (Or.inl ⟨by kernel_rfl, ?_⟩) (by assumption) ?_
          rotate_left
          · intro wS hSw; (try dsimp only at hSw); go_simp; (try with_reducible rfl)
          try simp only [Act.put, List.setIfInBounds_toArray, List.set_cons_zero, List.set_cons_succ]
          refine wpAnyH_take (i := 3) (oi := { dst := some 136, op := Op.move (Operand.tmp 135), type := 4, pos := "law.go:105", after := #[{ on := 2, ground := Ground.data }], guard := none }) (v := ?_) rfl (by kernel_rfl) (by kernel_rfl) (by kernel_rfl) (fun _ _ _ h => h) (Or.inl ⟨by kernel_rfl, ?_⟩) (by assumption) ?_
          rotate_left
          · intro wS hSw; (try dsimp only at hSw); go_simp; (try with_reducible rfl)
          try simp only [Act.put, List.setIfInBounds_toArray, List.set_cons_zero, List.set_cons_succ]
          refine wpAnyH_take (i := 4) (oi := { dst := some 137, op := Op.load 34 (Operand.tmp 14), type := 34, pos := "law.go:105", after := #[{ on := 3, ground := Ground.guard }], guard := some (3, true) }) (v := ?_) rfl (by kernel_rfl) (by kernel_rfl) (by kernel_rfl) (fun _ _ _ h => h) (Or.inl ⟨by kernel_rfl, ?_⟩) (by assumption) ?_
          rotate_left
          · intro wS hSw; (try dsimp only at hSw); have c0 := (cell_below hSw.out (HAb.out.cs 0 _ rfl)); have c1 := (cell_below hSw.out (HAb.out.cs 1 _ rfl)); have c2 := (cell_below hSw.out (HAb.out.cs 2 _ rfl)); go_simp; (try with_reducible rfl)
          try simp only [Act.put, List.setIfInBounds_toArray, List.set_cons_zero, List.set_cons_succ]
          refine wpAnyH_take (i := 7) (oi := { dst := some 140, op := Op.load 34 (Operand.tmp 14), type := 34, pos := "law.go:105", after := #[{ on := 3, ground := Ground.guard }], guard := some (3, true) }) (v := ?_) rfl (by kernel_rfl) (by kernel_rfl) (by kernel_rfl) (fun _ _ _ h => h) (Or.inl ⟨by kernel_rfl, ?_⟩) (by assumption) ?_
          rotate_left
          · intro wS hSw; (try dsimp only at hSw); have c0 := (cell_below hSw.out (HAb.out.cs 0 _ rfl)); have c1 := (cell_below hSw.out (HAb.out.cs 1 _ rfl)); have c2 := (cell_below hSw.out (HAb.out.cs 2 _ rfl)); go_simp; (try with_reducible rfl)
          try simp only [Act.put, List.setIfInBounds_toArray, List.set_cons_zero, List.set_cons_succ]
          refine wpAnyH_ready (rs := [5]) (by kernel_rfl) (by simp) ?_
          refine AllReadyH.cons (o := { dst := some 138, op := Op.buildSlice 32 1 #[(0, Operand.tmp 137)], type := 32, pos := "law.go:105", after := #[{ on := 4, ground := Ground.data }, { on := 3, ground := Ground.guard }], guard := some (3, true) }) rfl (fun K hK => ?_) AllReadyH.nil
          go_simp
          refine hK.out _ _ ?_ (fun hH5 => ?_)
          · (try dsimp only); exact (by repeat (first | exact Bel.refl _ | assumption | refine Bel.drew ?_ | refine Bel.drewN ?_ _ | refine Bel.alloc ?_ _ | refine Bel.setCell ?_ (by simp <;> omega) _ | refine Bel.step ?_ (by assumption)))
          clear hK K
          try simp only [Act.put, List.setIfInBounds_toArray, List.set_cons_zero, List.set_cons_succ]
          refine wpAnyH_ready (rs := [6]) (by kernel_rfl) (by simp) ?_
          refine AllReadyH.cons (o := { dst := some 139, op := Op.call { callee := Callee.value (Operand.func 18), args := #[Operand.const (Value.string { data := #[97, 98, 115] }), Operand.tmp 138], argTypes := #[9, 32] }, type := 34, pos := "law.go:105", after := #[{ on := 5, ground := Ground.data }, { on := 3, ground := Ground.chain }, { on := 3, ground := Ground.guard }], guard := some (3, true) }) rfl (fun K hK => ?_) AllReadyH.nil
          go_simp
          have hcc := lcall_is (row1 ((Bxc.new (n0 := 0) _ (Nat.zero_le _) _ 34).below (Below.refl _ _).drew) (HR.out.below hH5.out) HA3.out) HA2.out
          refine hcc.mono ?_
          rintro e wc6 ⟨rfl, hbc6⟩
          (try dsimp only)
          refine hK.out _ _ ?_ (fun hH6 => ?_)
          · (try dsimp only); exact (by repeat (first | exact Bel.refl _ | assumption | refine Bel.drew ?_ | refine Bel.drewN ?_ _ | refine Bel.alloc ?_ _ | refine Bel.setCell ?_ (by simp <;> omega) _ | refine Bel.step ?_ (by assumption)))
          clear hK K
          try simp only [Act.put, List.setIfInBounds_toArray, List.set_cons_zero, List.set_cons_succ]
          refine wpAnyH_take (i := 8) (oi := { dst := some 141, op := Op.binOp BinOp.eql 34 (Operand.tmp 139) (Operand.tmp 140) 34, type := 4, pos := "law.go:105", after := #[{ on := 6, ground := Ground.data }, { on := 7, ground := Ground.data }, { on := 3, ground := Ground.guard }], guard := some (3, true) }) (v := ?_) rfl (by kernel_rfl) (by kernel_rfl) (by kernel_rfl) (fun _ _ _ h => h) (Or.inl ⟨by kernel_rfl, ?_⟩) (by assumption) ?_
          rotate_left
          · intro wS hSw; (try dsimp only at hSw); have hq := eq34 3 3 a a ⟨#[]⟩ ⟨#[]⟩ wS; simp only [decide_true] at hq; go_simp; (try with_reducible rfl)
          try simp only [Act.put, List.setIfInBounds_toArray, List.set_cons_zero, List.set_cons_succ]
          refine wpAnyH_take (i := 9) (oi := { dst := some 142, op := Op.pick (Operand.tmp 136) (Operand.tmp 141) (Operand.const (Value.bool false)), type := 4, pos := "law.go:105", after := #[{ on := 3, ground := Ground.data }, { on := 8, ground := Ground.data }], guard := none }) (v := ?_) rfl (by kernel_rfl) (by kernel_rfl) (by kernel_rfl) (fun _ _ _ h => h) (Or.inl ⟨by kernel_rfl, ?_⟩) (by assumption) ?_
          rotate_left
          · intro wS hSw; (try dsimp only at hSw); go_simp; (try with_reducible rfl)
          try simp only [Act.put, List.setIfInBounds_toArray, List.set_cons_zero, List.set_cons_succ]
          refine wpAnyH_take (i := 10) (oi := { dst := some 143, op := Op.move (Operand.tmp 142), type := 4, pos := "law.go:105", after := #[{ on := 9, ground := Ground.data }, { on := 6, ground := Ground.chain }], guard := none }) (v := ?_) rfl (by kernel_rfl) (by kernel_rfl) (by kernel_rfl) (fun _ _ _ h => h) (Or.inl ⟨by kernel_rfl, ?_⟩) (by assumption) ?_
          rotate_left
          · intro wS hSw; (try dsimp only at hSw); go_simp; (try with_reducible rfl)
          try simp only [Act.put, List.setIfInBounds_toArray, List.set_cons_zero, List.set_cons_succ]
          refine wpAnyH_take (i := 11) (oi := { dst := some 144, op := Op.load 34 (Operand.tmp 6), type := 34, pos := "law.go:105", after := #[{ on := 10, ground := Ground.guard }], guard := some (10, true) }) (v := ?_) rfl (by kernel_rfl) (by kernel_rfl) (by kernel_rfl) (fun _ _ _ h => h) (Or.inl ⟨by kernel_rfl, ?_⟩) (by assumption) ?_
          rotate_left
          · intro wS hSw; (try dsimp only at hSw); have c0 := (cell_below hSw.out (HDb.out.cs 0 _ rfl)); have c1 := (cell_below hSw.out (HDb.out.cs 1 _ rfl)); have c2 := (cell_below hSw.out (HDb.out.cs 2 _ rfl)); go_simp; (try with_reducible rfl)
          try simp only [Act.put, List.setIfInBounds_toArray, List.set_cons_zero, List.set_cons_succ]
          refine wpAnyH_take (i := 15) (oi := { dst := some 148, op := Op.fieldAddr 34 (Operand.tmp 14) 1, type := 0, pos := "law.go:105", after := #[{ on := 10, ground := Ground.guard }], guard := some (10, true) }) (v := ?_) rfl (by kernel_rfl) (by kernel_rfl) (by kernel_rfl) (fun _ _ _ h => h) (Or.inl ⟨by kernel_rfl, ?_⟩) (by assumption) ?_
          rotate_left
          · intro wS hSw; (try dsimp only at hSw); go_simp; (try with_reducible rfl)
          try simp only [Act.put, List.setIfInBounds_toArray, List.set_cons_zero, List.set_cons_succ]
          refine wpAnyH_take (i := 16) (oi := { dst := some 149, op := Op.load 3 (Operand.tmp 148), type := 3, pos := "law.go:105", after := #[{ on := 15, ground := Ground.data }, { on := 10, ground := Ground.guard }], guard := some (10, true) }) (v := ?_) rfl (by kernel_rfl) (by kernel_rfl) (by kernel_rfl) (fun _ _ _ h => h) (Or.inl ⟨by kernel_rfl, ?_⟩) (by assumption) ?_
          rotate_left
          · intro wS hSw; (try dsimp only at hSw); have c1 := (cell_below hSw.out (HAb.out.cs 1 _ rfl)); go_simp; (try with_reducible rfl)
          try simp only [Act.put, List.setIfInBounds_toArray, List.set_cons_zero, List.set_cons_succ]
          refine wpAnyH_take (i := 18) (oi := { dst := some 151, op := Op.move (Operand.tmp 1), type := 3, pos := "law.go:105", after := #[{ on := 10, ground := Ground.guard }], guard := some (10, true) }) (v := ?_) rfl (by kernel_rfl) (by kernel_rfl) (by kernel_rfl) (fun _ _ _ h => h) (Or.inl ⟨by kernel_rfl, ?_⟩) (by assumption) ?_
          rotate_left
          · intro wS hSw; (try dsimp only at hSw); go_simp; (try with_reducible rfl)
          try simp only [Act.put, List.setIfInBounds_toArray, List.set_cons_zero, List.set_cons_succ]
          refine wpAnyH_ready (rs := [12]) (by kernel_rfl) (by simp) ?_
          refine AllReadyH.cons (o := { dst := some 145, op := Op.buildSlice 32 1 #[(0, Operand.tmp 144)], type := 32, pos := "law.go:105", after := #[{ on := 11, ground := Ground.data }, { on := 10, ground := Ground.guard }], guard := some (10, true) }) rfl (fun K hK => ?_) AllReadyH.nil
          go_simp
          refine hK.out _ _ ?_ (fun hH12 => ?_)
          · (try dsimp only); exact (by repeat (first | exact Bel.refl _ | assumption | refine Bel.drew ?_ | refine Bel.drewN ?_ _ | refine Bel.alloc ?_ _ | refine Bel.setCell ?_ (by simp <;> omega) _ | refine Bel.step ?_ (by assumption)))
          clear hK K
          try simp only [Act.put, List.setIfInBounds_toArray, List.set_cons_zero, List.set_cons_succ]
          refine wpAnyH_ready (rs := [13]) (by kernel_rfl) (by simp) ?_
          refine AllReadyH.cons (o := { dst := some 146, op := Op.call { callee := Callee.value (Operand.func 18), args := #[Operand.const (Value.string { data := #[115, 105, 103, 110] }), Operand.tmp 145], argTypes := #[9, 32] }, type := 34, pos := "law.go:105", after := #[{ on := 12, ground := Ground.data }, { on := 10, ground := Ground.chain }, { on := 10, ground := Ground.guard }], guard := some (10, true) }) rfl (fun K hK => ?_) AllReadyH.nil
          go_simp
          have hcc := lcall_is (row1 (Bxc.new (n0 := 0) _ (Nat.zero_le _) _ 34) (HR.out.below hH12.out) HX.out) HG1.out
          refine hcc.mono ?_
          rintro e wc13 ⟨rfl, hbc13⟩
          (try dsimp only)
          refine hK.out _ _ ?_ (fun hH13 => ?_)
          · (try dsimp only); exact (by repeat (first | exact Bel.refl _ | assumption | refine Bel.drew ?_ | refine Bel.drewN ?_ _ | refine Bel.alloc ?_ _ | refine Bel.setCell ?_ (by simp <;> omega) _ | refine Bel.step ?_ (by assumption)))
          clear hK K
          try simp only [Act.put, List.setIfInBounds_toArray, List.set_cons_zero, List.set_cons_succ]
          refine wpAnyH_take (i := 14) (oi := { dst := some 147, op := Op.field 34 (Operand.tmp 146) 1, type := 3, pos := "law.go:105", after := #[{ on := 13, ground := Ground.data }, { on := 10, ground := Ground.guard }], guard := some (10, true) }) (v := ?_) rfl (by kernel_rfl) (by kernel_rfl) (by kernel_rfl) (fun _ _ _ h => h) (Or.inl ⟨by kernel_rfl, ?_⟩) (by assumption) ?_
          rotate_left
          · intro wS hSw; (try dsimp only at hSw); have hq := fld34 2 g ⟨#[]⟩ wS; go_simp; (try with_reducible rfl)
          try simp only [Act.put, List.setIfInBounds_toArray, List.set_cons_zero, List.set_cons_succ]
          refine wpAnyH_take (i := 17) (oi := { dst := some 150, op := Op.binOp BinOp.mul 3 (Operand.tmp 147) (Operand.tmp 149) 3, type := 3, pos := "law.go:105", after := #[{ on := 14, ground := Ground.data }, { on := 16, ground := Ground.data }, { on := 10, ground := Ground.guard }], guard := some (10, true) }) (v := ?_) rfl (by kernel_rfl) (by kernel_rfl) (by kernel_rfl) (fun _ _ _ h => h) (Or.inl ⟨by kernel_rfl, ?_⟩) (by assumption) ?_
          rotate_left
          · intro wS hSw; (try dsimp only at hSw); go_simp; (try with_reducible rfl)
          try simp only [Act.put, List.setIfInBounds_toArray, List.set_cons_zero, List.set_cons_succ]
          refine wpAnyH_take (i := 19) (oi := { dst := some 152, op := Op.binOp BinOp.eql 3 (Operand.tmp 150) (Operand.tmp 151) 3, type := 4, pos := "law.go:105", after := #[{ on := 17, ground := Ground.data }, { on := 18, ground := Ground.data }, { on := 10, ground := Ground.guard }], guard := some (10, true) }) (v := ?_) rfl (by kernel_rfl) (by kernel_rfl) (by kernel_rfl) (fun _ _ _ h => h) (Or.inl ⟨by kernel_rfl, ?_⟩) (by assumption) ?_
          rotate_left
          · intro wS hSw; (try dsimp only at hSw); go_simp; (try with_reducible rfl)
          try simp only [Act.put, List.setIfInBounds_toArray, List.set_cons_zero, List.set_cons_succ]
          refine wpAnyH_take (i := 20) (oi := { dst := some 153, op := Op.pick (Operand.tmp 143) (Operand.tmp 152) (Operand.const (Value.bool false)), type := 4, pos := "law.go:105", after := #[{ on := 10, ground := Ground.data }, { on := 19, ground := Ground.data }], guard := none }) (v := ?_) rfl (by kernel_rfl) (by kernel_rfl) (by kernel_rfl) (fun _ _ _ h => h) (Or.inl ⟨by kernel_rfl, ?_⟩) (by assumption) ?_
          rotate_left
          · intro wS hSw; (try dsimp only at hSw); go_simp; (try with_reducible rfl)
          try simp only [Act.put, List.setIfInBounds_toArray, List.set_cons_zero, List.set_cons_succ]
          refine wpAnyH_take (i := 21) (oi := { dst := some 154, op := Op.move (Operand.tmp 153), type := 4, pos := "law.go:105", after := #[{ on := 20, ground := Ground.data }, { on := 13, ground := Ground.chain }], guard := none }) (v := ?_) rfl (by kernel_rfl) (by kernel_rfl) (by kernel_rfl) (fun _ _ _ h => h) (Or.inl ⟨by kernel_rfl, ?_⟩) (by assumption) ?_
          rotate_left
          · intro wS hSw; (try dsimp only at hSw); go_simp; (try with_reducible rfl)
          try simp only [Act.put, List.setIfInBounds_toArray, List.set_cons_zero, List.set_cons_succ]
          refine wpAnyH_ready (rs := [22]) (by kernel_rfl) (by simp) ?_
          refine AllReadyH.cons (o := { dst := some 155, op := Op.call { callee := Callee.value (Operand.func 12), args := #[], argTypes := #[] }, type := 4, pos := "law.go:105", after := #[{ on := 21, ground := Ground.chain }, { on := 21, ground := Ground.guard }], guard := some (21, true) }) rfl (fun K hK => ?_) AllReadyH.nil
          go_simp
          refine (sure_any _ (HR.out.below hH13.out)).mono ?_
          rintro e wc22 ⟨rfl, hbc22⟩
          (try dsimp only)
          refine hK.out _ _ ?_ (fun hH22 => ?_)
          · (try dsimp only); exact (by repeat (first | exact Bel.refl _ | assumption | refine Bel.drew ?_ | refine Bel.drewN ?_ _ | refine Bel.alloc ?_ _ | refine Bel.setCell ?_ (by simp <;> omega) _ | refine Bel.step ?_ (by assumption)))
          clear hK K
          try simp only [Act.put, List.setIfInBounds_toArray, List.set_cons_zero, List.set_cons_succ]
          refine wpAnyH_take (i := 23) (oi := { dst := some 156, op := Op.pick (Operand.tmp 154) (Operand.tmp 155) (Operand.const (Value.bool false)), type := 4, pos := "law.go:105", after := #[{ on := 21, ground := Ground.data }, { on := 22, ground := Ground.data }], guard := none }) (v := ?_) rfl (by kernel_rfl) (by kernel_rfl) (by kernel_rfl) (fun _ _ _ h => h) (Or.inl ⟨by kernel_rfl, ?_⟩) (by assumption) ?_
          rotate_left
          · intro wS hSw; (try dsimp only at hSw); go_simp; (try with_reducible rfl)
          try simp only [Act.put, List.setIfInBounds_toArray, List.set_cons_zero, List.set_cons_succ]
          refine wpAnyH_take (i := 24) (oi := { dst := some 4, op := Op.assign (Operand.tmp 156), type := 4, pos := "law.go:105", after := #[{ on := 23, ground := Ground.data }, { on := 22, ground := Ground.chain }, { on := 0, ground := Ground.phase }, { on := 1, ground := Ground.phase }, { on := 2, ground := Ground.phase }, { on := 3, ground := Ground.phase }, { on := 4, ground := Ground.phase }, { on := 5, ground := Ground.phase }, { on := 6, ground := Ground.phase }, { on := 7, ground := Ground.phase }, { on := 8, ground := Ground.phase }, { on := 9, ground := Ground.phase }, { on := 10, ground := Ground.phase }, { on := 11, ground := Ground.phase }, { on := 12, ground := Ground.phase }, { on := 13, ground := Ground.phase }, { on := 14, ground := Ground.phase }, { on := 15, ground := Ground.phase }, { on := 16, ground := Ground.phase }, { on := 17, ground := Ground.phase }, { on := 18, ground := Ground.phase }, { on := 19, ground := Ground.phase }, { on := 20, ground := Ground.phase }, { on := 21, ground := Ground.phase }, { on := 22, ground := Ground.phase }, { on := 23, ground := Ground.phase }], guard := none }) (v := ?_) rfl (by kernel_rfl) (by kernel_rfl) (by kernel_rfl) (fun _ _ _ h => h) (Or.inl ⟨by kernel_rfl, ?_⟩) (by assumption) ?_
          rotate_left
          · intro wS hSw; (try dsimp only at hSw); go_simp; (try with_reducible rfl)
          try simp only [Act.put, List.setIfInBounds_toArray, List.set_cons_zero, List.set_cons_succ]
          refine wpAnyH_done (by kernel_rfl) ?_ _
          go_wp2
          go_ret
          exact ⟨rfl, (HBb.out.step hH22.out).out⟩
      · cases hmin : (x == -9223372036854775808) with
        | true =>
          go_wp2_with fail
          refine (sure_any _ HR.out).mono ?_
          rintro e wz ⟨rfl, hbz⟩
          go_wp2
          go_ret
          exact ⟨rfl, (HBW.out.step hbz).out⟩
        | false =>
          obtain ⟨a, ha1, ha2, ⟨g, hg1, hg2⟩, ha0, ha3⟩ := abs_ok2 x HX.out (by simpa using hmin)
          have HA1 : Hid _ := ha1
          have HA2 : Hid _ := ha2
          have HG1 : Hid _ := hg1
          have HG2 : Hid (g * a = x) := hg2
          have HA3 : Hid (I64 a) := ha3
          have y0 := HD.out.cs 0 _ rfl
          have y1 := HD.out.cs 1 _ rfl
          have y2 := HD.out.cs 2 _ rfl
          clear ha1 ha2 hg1 hg2 ha3
          go_wp2_with fail
          refine (lcall_is (row1 (Bxc.new (n0 := 0) _ (Nat.zero_le _) _ 34) (HR.out.below ((Below.refl _ _).alloc (Nat.le_refl _) _)) HX.out) HA1.out).mono ?_
          rintro e wa ⟨rfl, hba⟩
          have hba2 := ((Below.refl w6.heap.size w6).alloc (Nat.le_refl _) (Obj.cells #[.int .i64 3, .int .i64 x, .string ⟨#[]⟩] 34)).trans (hba.mono (by simp))
          have HRa : Hid (Ready wa) := HR.out.below hba2
          have HDa : Hid (Bxc nd b6 [.int .i64 3, .int .i64 x, .string ⟨#[]⟩] wa) := HD.out.below hba2
          have HBa : Hid (Bel w.heap.size w wa) := HBW.out.step hba2
          clear hba hba2 y0 y1 y2 z10 z11 z12 z13 n1 n2 n3 n4 n5 n6 n7 q1 q2 HNu
          go_upto_region 12 with (fail)
          have HAb : Hid (Bxc wa.heap.size wa.heap.size [.int .i64 3, .int .i64 a, .string ⟨#[]⟩] (wa.alloc (Obj.cells #[.int .i64 3, .int .i64 a, .string ⟨#[]⟩] 34))) := Bxc.new wa (Nat.le_refl _) _ 34
          have hbe : Below wa.heap.size wa (wa.alloc (Obj.cells #[.int .i64 3, .int .i64 a, .string ⟨#[]⟩] 34)) := (Below.refl _ _).alloc (Nat.le_refl _) _
          have HR : Hid (Ready (wa.alloc (Obj.cells #[.int .i64 3, .int .i64 a, .string ⟨#[]⟩] 34))) := HRa.out.below hbe
          have HDb : Hid (Bxc nd b6 [.int .i64 3, .int .i64 x, .string ⟨#[]⟩] (wa.alloc (Obj.cells #[.int .i64 3, .int .i64 a, .string ⟨#[]⟩] 34))) := HDa.out.below hbe
          have HBb : Hid (Bel w.heap.size w (wa.alloc (Obj.cells #[.int .i64 3, .int .i64 a, .string ⟨#[]⟩] 34))) := HBa.out.step hbe
          obtain ⟨b14, hb14⟩ : ∃ b, b = wa.heap.size := ⟨_, rfl⟩
          obtain ⟨n14, hn14⟩ : ∃ b, b = wa.heap.size := ⟨_, rfl⟩
          have HAb : Hid (Bxc n14 b14 [.int .i64 3, .int .i64 a, .string ⟨#[]⟩] (wa.alloc (Obj.cells #[.int .i64 3, .int .i64 a, .string ⟨#[]⟩] 34))) := by rw [hn14, hb14]; exact HAb.out
          rw [← hb14]
          clear hb14 hn14 hbe HRa HDa HBa HBW
          generalize (wa.alloc (Obj.cells #[.int .i64 3, .int .i64 a, .string ⟨#[]⟩] 34)) = w8 at *
          have m1 : IntKind.i64.wrap (g * a) = x := by rw [HG2.out, IntKind.wrap_i64]; have := HX.out; unfold I64 at this; omega
          have m2 : wrap64 (g * a) = x := by rw [HG2.out]; unfold wrap64; have := HX.out; unfold I64 at this; omega
          have hxx : (x == x) = true := by simp
          refine wp_region_held_drew (S := (fun wS => Bel w8.heap.size w8 wS)) (by kernel_rfl) ?_ (fun hHeld => ?_)
          · (try dsimp only); exact (Bel.refl _).drew
          refine wpAnyH_take (i := 0) (oi := { dst := some 133, op := Op.fieldAddr 34 (Operand.tmp 14) 1, type := 0, pos := "law.go:105", after := #[], guard := none }) (v := ?_) rfl (by kernel_rfl) (by kernel_rfl) (by kernel_rfl) (fun _ _ _ h => h) (Or.inl ⟨by kernel_rfl, ?_⟩) (by assumption) ?_
          rotate_left
          · intro wS hSw; (try dsimp only at hSw); go_simp; (try with_reducible rfl)
          try simp only [Act.put, List.setIfInBounds_toArray, List.set_cons_zero, List.set_cons_succ]
          refine wpAnyH_take (i := 1) (oi := { dst := some 134, op := Op.load 3 (Operand.tmp 133), type := 3, pos := "law.go:105", after := #[{ on := 0, ground := Ground.data }], guard := none }) (v := ?_) rfl (by kernel_rfl) (by kernel_rfl) (by kernel_rfl) (fun _ _ _ h => h) (Or.inl ⟨by kernel_rfl, ?_⟩) (by assumption) ?_
          rotate_left
          · intro wS hSw; (try dsimp only at hSw); have c1 := (cell_below hSw.out (HAb.out.cs 1 _ rfl)); go_simp; (try with_reducible rfl)
          try simp only [Act.put, List.setIfInBounds_toArray, List.set_cons_zero, List.set_cons_succ]
          refine wpAnyH_take (i := 2) (oi := { dst := some 135, op := Op.binOp BinOp.geq 3 (Operand.tmp 134) (Operand.const (Value.int IntKind.i64 0)) 3, type := 4, pos := "law.go:105", after := #[{ on := 1, ground := Ground.data }], guard := none }) (v := ?_) rfl (by kernel_rfl) (by kernel_rfl) (by kernel_rfl) (fun _ _ _ h => h) (Or.inl ⟨by kernel_rfl, ?_⟩) (by assumption) ?_
          rotate_left
          · intro wS hSw; (try dsimp only at hSw); go_simp; (try with_reducible rfl)
          try simp only [Act.put, List.setIfInBounds_toArray, List.set_cons_zero, List.set_cons_succ]
          refine wpAnyH_take (i := 3) (oi := { dst := some 136, op := Op.move (Operand.tmp 135), type := 4, pos := "law.go:105", after := #[{ on := 2, ground := Ground.data }], guard := none }) (v := ?_) rfl (by kernel_rfl) (by kernel_rfl) (by kernel_rfl) (fun _ _ _ h => h) (Or.inl ⟨by kernel_rfl, ?_⟩) (by assumption) ?_
          rotate_left
          · intro wS hSw; (try dsimp only at hSw); go_simp; (try with_reducible rfl)
          try simp only [Act.put, List.setIfInBounds_toArray, List.set_cons_zero, List.set_cons_succ]
          refine wpAnyH_take (i := 4) (oi := { dst := some 137, op := Op.load 34 (Operand.tmp 14), type := 34, pos := "law.go:105", after := #[{ on := 3, ground := Ground.guard }], guard := some (3, true) }) (v := ?_) rfl (by kernel_rfl) (by kernel_rfl) (by kernel_rfl) (fun _ _ _ h => h) (Or.inl ⟨by kernel_rfl, ?_⟩) (by assumption) ?_
          rotate_left
          · intro wS hSw; (try dsimp only at hSw); have c0 := (cell_below hSw.out (HAb.out.cs 0 _ rfl)); have c1 := (cell_below hSw.out (HAb.out.cs 1 _ rfl)); have c2 := (cell_below hSw.out (HAb.out.cs 2 _ rfl)); go_simp; (try with_reducible rfl)
          try simp only [Act.put, List.setIfInBounds_toArray, List.set_cons_zero, List.set_cons_succ]
          refine wpAnyH_take (i := 7) (oi := { dst := some 140, op := Op.load 34 (Operand.tmp 14), type := 34, pos := "law.go:105", after := #[{ on := 3, ground := Ground.guard }], guard := some (3, true) }) (v := ?_) rfl (by kernel_rfl) (by kernel_rfl) (by kernel_rfl) (fun _ _ _ h => h) (Or.inl ⟨by kernel_rfl, ?_⟩) (by assumption) ?_
          rotate_left
          · intro wS hSw; (try dsimp only at hSw); have c0 := (cell_below hSw.out (HAb.out.cs 0 _ rfl)); have c1 := (cell_below hSw.out (HAb.out.cs 1 _ rfl)); have c2 := (cell_below hSw.out (HAb.out.cs 2 _ rfl)); go_simp; (try with_reducible rfl)
          try simp only [Act.put, List.setIfInBounds_toArray, List.set_cons_zero, List.set_cons_succ]
          refine wpAnyH_ready (rs := [5]) (by kernel_rfl) (by simp) ?_
          refine AllReadyH.cons (o := { dst := some 138, op := Op.buildSlice 32 1 #[(0, Operand.tmp 137)], type := 32, pos := "law.go:105", after := #[{ on := 4, ground := Ground.data }, { on := 3, ground := Ground.guard }], guard := some (3, true) }) rfl (fun K hK => ?_) AllReadyH.nil
          go_simp
          refine hK.out _ _ ?_ (fun hH5 => ?_)
          · (try dsimp only); exact (by repeat (first | exact Bel.refl _ | assumption | refine Bel.drew ?_ | refine Bel.drewN ?_ _ | refine Bel.alloc ?_ _ | refine Bel.setCell ?_ (by simp <;> omega) _ | refine Bel.step ?_ (by assumption)))
          clear hK K
          try simp only [Act.put, List.setIfInBounds_toArray, List.set_cons_zero, List.set_cons_succ]
          refine wpAnyH_ready (rs := [6]) (by kernel_rfl) (by simp) ?_
          refine AllReadyH.cons (o := { dst := some 139, op := Op.call { callee := Callee.value (Operand.func 18), args := #[Operand.const (Value.string { data := #[97, 98, 115] }), Operand.tmp 138], argTypes := #[9, 32] }, type := 34, pos := "law.go:105", after := #[{ on := 5, ground := Ground.data }, { on := 3, ground := Ground.chain }, { on := 3, ground := Ground.guard }], guard := some (3, true) }) rfl (fun K hK => ?_) AllReadyH.nil
          go_simp
          have hcc := lcall_is (row1 ((Bxc.new (n0 := 0) _ (Nat.zero_le _) _ 34).below (Below.refl _ _).drew) (HR.out.below hH5.out) HA3.out) HA2.out
          refine hcc.mono ?_
          rintro e wc6 ⟨rfl, hbc6⟩
          (try dsimp only)
          refine hK.out _ _ ?_ (fun hH6 => ?_)
          · (try dsimp only); exact (by repeat (first | exact Bel.refl _ | assumption | refine Bel.drew ?_ | refine Bel.drewN ?_ _ | refine Bel.alloc ?_ _ | refine Bel.setCell ?_ (by simp <;> omega) _ | refine Bel.step ?_ (by assumption)))
          clear hK K
          try simp only [Act.put, List.setIfInBounds_toArray, List.set_cons_zero, List.set_cons_succ]
          refine wpAnyH_take (i := 8) (oi := { dst := some 141, op := Op.binOp BinOp.eql 34 (Operand.tmp 139) (Operand.tmp 140) 34, type := 4, pos := "law.go:105", after := #[{ on := 6, ground := Ground.data }, { on := 7, ground := Ground.data }, { on := 3, ground := Ground.guard }], guard := some (3, true) }) (v := ?_) rfl (by kernel_rfl) (by kernel_rfl) (by kernel_rfl) (fun _ _ _ h => h) (Or.inl ⟨by kernel_rfl, ?_⟩) (by assumption) ?_
          rotate_left
          · intro wS hSw; (try dsimp only at hSw); have hq := eq34 3 3 a a ⟨#[]⟩ ⟨#[]⟩ wS; simp only [decide_true] at hq; go_simp; (try with_reducible rfl)
          try simp only [Act.put, List.setIfInBounds_toArray, List.set_cons_zero, List.set_cons_succ]
          refine wpAnyH_take (i := 9) (oi := { dst := some 142, op := Op.pick (Operand.tmp 136) (Operand.tmp 141) (Operand.const (Value.bool false)), type := 4, pos := "law.go:105", after := #[{ on := 3, ground := Ground.data }, { on := 8, ground := Ground.data }], guard := none }) (v := ?_) rfl (by kernel_rfl) (by kernel_rfl) (by kernel_rfl) (fun _ _ _ h => h) (Or.inl ⟨by kernel_rfl, ?_⟩) (by assumption) ?_
          rotate_left
          · intro wS hSw; (try dsimp only at hSw); go_simp; (try with_reducible rfl)
          try simp only [Act.put, List.setIfInBounds_toArray, List.set_cons_zero, List.set_cons_succ]
          refine wpAnyH_take (i := 10) (oi := { dst := some 143, op := Op.move (Operand.tmp 142), type := 4, pos := "law.go:105", after := #[{ on := 9, ground := Ground.data }, { on := 6, ground := Ground.chain }], guard := none }) (v := ?_) rfl (by kernel_rfl) (by kernel_rfl) (by kernel_rfl) (fun _ _ _ h => h) (Or.inl ⟨by kernel_rfl, ?_⟩) (by assumption) ?_
          rotate_left
          · intro wS hSw; (try dsimp only at hSw); go_simp; (try with_reducible rfl)
          try simp only [Act.put, List.setIfInBounds_toArray, List.set_cons_zero, List.set_cons_succ]
          refine wpAnyH_take (i := 11) (oi := { dst := some 144, op := Op.load 34 (Operand.tmp 6), type := 34, pos := "law.go:105", after := #[{ on := 10, ground := Ground.guard }], guard := some (10, true) }) (v := ?_) rfl (by kernel_rfl) (by kernel_rfl) (by kernel_rfl) (fun _ _ _ h => h) (Or.inl ⟨by kernel_rfl, ?_⟩) (by assumption) ?_
          rotate_left
          · intro wS hSw; (try dsimp only at hSw); have c0 := (cell_below hSw.out (HDb.out.cs 0 _ rfl)); have c1 := (cell_below hSw.out (HDb.out.cs 1 _ rfl)); have c2 := (cell_below hSw.out (HDb.out.cs 2 _ rfl)); go_simp; (try with_reducible rfl)
          try simp only [Act.put, List.setIfInBounds_toArray, List.set_cons_zero, List.set_cons_succ]
          refine wpAnyH_take (i := 15) (oi := { dst := some 148, op := Op.fieldAddr 34 (Operand.tmp 14) 1, type := 0, pos := "law.go:105", after := #[{ on := 10, ground := Ground.guard }], guard := some (10, true) }) (v := ?_) rfl (by kernel_rfl) (by kernel_rfl) (by kernel_rfl) (fun _ _ _ h => h) (Or.inl ⟨by kernel_rfl, ?_⟩) (by assumption) ?_
          rotate_left
          · intro wS hSw; (try dsimp only at hSw); go_simp; (try with_reducible rfl)
          try simp only [Act.put, List.setIfInBounds_toArray, List.set_cons_zero, List.set_cons_succ]
          refine wpAnyH_take (i := 16) (oi := { dst := some 149, op := Op.load 3 (Operand.tmp 148), type := 3, pos := "law.go:105", after := #[{ on := 15, ground := Ground.data }, { on := 10, ground := Ground.guard }], guard := some (10, true) }) (v := ?_) rfl (by kernel_rfl) (by kernel_rfl) (by kernel_rfl) (fun _ _ _ h => h) (Or.inl ⟨by kernel_rfl, ?_⟩) (by assumption) ?_
          rotate_left
          · intro wS hSw; (try dsimp only at hSw); have c1 := (cell_below hSw.out (HAb.out.cs 1 _ rfl)); go_simp; (try with_reducible rfl)
          try simp only [Act.put, List.setIfInBounds_toArray, List.set_cons_zero, List.set_cons_succ]
          refine wpAnyH_take (i := 18) (oi := { dst := some 151, op := Op.move (Operand.tmp 1), type := 3, pos := "law.go:105", after := #[{ on := 10, ground := Ground.guard }], guard := some (10, true) }) (v := ?_) rfl (by kernel_rfl) (by kernel_rfl) (by kernel_rfl) (fun _ _ _ h => h) (Or.inl ⟨by kernel_rfl, ?_⟩) (by assumption) ?_
          rotate_left
          · intro wS hSw; (try dsimp only at hSw); go_simp; (try with_reducible rfl)
          try simp only [Act.put, List.setIfInBounds_toArray, List.set_cons_zero, List.set_cons_succ]
          refine wpAnyH_ready (rs := [12]) (by kernel_rfl) (by simp) ?_
          refine AllReadyH.cons (o := { dst := some 145, op := Op.buildSlice 32 1 #[(0, Operand.tmp 144)], type := 32, pos := "law.go:105", after := #[{ on := 11, ground := Ground.data }, { on := 10, ground := Ground.guard }], guard := some (10, true) }) rfl (fun K hK => ?_) AllReadyH.nil
          go_simp
          refine hK.out _ _ ?_ (fun hH12 => ?_)
          · (try dsimp only); exact (by repeat (first | exact Bel.refl _ | assumption | refine Bel.drew ?_ | refine Bel.drewN ?_ _ | refine Bel.alloc ?_ _ | refine Bel.setCell ?_ (by simp <;> omega) _ | refine Bel.step ?_ (by assumption)))
          clear hK K
          try simp only [Act.put, List.setIfInBounds_toArray, List.set_cons_zero, List.set_cons_succ]
          refine wpAnyH_ready (rs := [13]) (by kernel_rfl) (by simp) ?_
          refine AllReadyH.cons (o := { dst := some 146, op := Op.call { callee := Callee.value (Operand.func 18), args := #[Operand.const (Value.string { data := #[115, 105, 103, 110] }), Operand.tmp 145], argTypes := #[9, 32] }, type := 34, pos := "law.go:105", after := #[{ on := 12, ground := Ground.data }, { on := 10, ground := Ground.chain }, { on := 10, ground := Ground.guard }], guard := some (10, true) }) rfl (fun K hK => ?_) AllReadyH.nil
          go_simp
          have hcc := lcall_is (row1 (Bxc.new (n0 := 0) _ (Nat.zero_le _) _ 34) (HR.out.below hH12.out) HX.out) HG1.out
          refine hcc.mono ?_
          rintro e wc13 ⟨rfl, hbc13⟩
          (try dsimp only)
          refine hK.out _ _ ?_ (fun hH13 => ?_)
          · (try dsimp only); exact (by repeat (first | exact Bel.refl _ | assumption | refine Bel.drew ?_ | refine Bel.drewN ?_ _ | refine Bel.alloc ?_ _ | refine Bel.setCell ?_ (by simp <;> omega) _ | refine Bel.step ?_ (by assumption)))
          clear hK K
          try simp only [Act.put, List.setIfInBounds_toArray, List.set_cons_zero, List.set_cons_succ]
          refine wpAnyH_take (i := 14) (oi := { dst := some 147, op := Op.field 34 (Operand.tmp 146) 1, type := 3, pos := "law.go:105", after := #[{ on := 13, ground := Ground.data }, { on := 10, ground := Ground.guard }], guard := some (10, true) }) (v := ?_) rfl (by kernel_rfl) (by kernel_rfl) (by kernel_rfl) (fun _ _ _ h => h) (Or.inl ⟨by kernel_rfl, ?_⟩) (by assumption) ?_
          rotate_left
          · intro wS hSw; (try dsimp only at hSw); have hq := fld34 2 g ⟨#[]⟩ wS; go_simp; (try with_reducible rfl)
          try simp only [Act.put, List.setIfInBounds_toArray, List.set_cons_zero, List.set_cons_succ]
          refine wpAnyH_take (i := 17) (oi := { dst := some 150, op := Op.binOp BinOp.mul 3 (Operand.tmp 147) (Operand.tmp 149) 3, type := 3, pos := "law.go:105", after := #[{ on := 14, ground := Ground.data }, { on := 16, ground := Ground.data }, { on := 10, ground := Ground.guard }], guard := some (10, true) }) (v := ?_) rfl (by kernel_rfl) (by kernel_rfl) (by kernel_rfl) (fun _ _ _ h => h) (Or.inl ⟨by kernel_rfl, ?_⟩) (by assumption) ?_
          rotate_left
          · intro wS hSw; (try dsimp only at hSw); go_simp; (try with_reducible rfl)
          try simp only [Act.put, List.setIfInBounds_toArray, List.set_cons_zero, List.set_cons_succ]
          refine wpAnyH_take (i := 19) (oi := { dst := some 152, op := Op.binOp BinOp.eql 3 (Operand.tmp 150) (Operand.tmp 151) 3, type := 4, pos := "law.go:105", after := #[{ on := 17, ground := Ground.data }, { on := 18, ground := Ground.data }, { on := 10, ground := Ground.guard }], guard := some (10, true) }) (v := ?_) rfl (by kernel_rfl) (by kernel_rfl) (by kernel_rfl) (fun _ _ _ h => h) (Or.inl ⟨by kernel_rfl, ?_⟩) (by assumption) ?_
          rotate_left
          · intro wS hSw; (try dsimp only at hSw); go_simp; (try with_reducible rfl)
          try simp only [Act.put, List.setIfInBounds_toArray, List.set_cons_zero, List.set_cons_succ]
          refine wpAnyH_take (i := 20) (oi := { dst := some 153, op := Op.pick (Operand.tmp 143) (Operand.tmp 152) (Operand.const (Value.bool false)), type := 4, pos := "law.go:105", after := #[{ on := 10, ground := Ground.data }, { on := 19, ground := Ground.data }], guard := none }) (v := ?_) rfl (by kernel_rfl) (by kernel_rfl) (by kernel_rfl) (fun _ _ _ h => h) (Or.inl ⟨by kernel_rfl, ?_⟩) (by assumption) ?_
          rotate_left
          · intro wS hSw; (try dsimp only at hSw); go_simp; (try with_reducible rfl)
          try simp only [Act.put, List.setIfInBounds_toArray, List.set_cons_zero, List.set_cons_succ]
          refine wpAnyH_take (i := 21) (oi := { dst := some 154, op := Op.move (Operand.tmp 153), type := 4, pos := "law.go:105", after := #[{ on := 20, ground := Ground.data }, { on := 13, ground := Ground.chain }], guard := none }) (v := ?_) rfl (by kernel_rfl) (by kernel_rfl) (by kernel_rfl) (fun _ _ _ h => h) (Or.inl ⟨by kernel_rfl, ?_⟩) (by assumption) ?_
          rotate_left
          · intro wS hSw; (try dsimp only at hSw); go_simp; (try with_reducible rfl)
          try simp only [Act.put, List.setIfInBounds_toArray, List.set_cons_zero, List.set_cons_succ]
          refine wpAnyH_ready (rs := [22]) (by kernel_rfl) (by simp) ?_
          refine AllReadyH.cons (o := { dst := some 155, op := Op.call { callee := Callee.value (Operand.func 12), args := #[], argTypes := #[] }, type := 4, pos := "law.go:105", after := #[{ on := 21, ground := Ground.chain }, { on := 21, ground := Ground.guard }], guard := some (21, true) }) rfl (fun K hK => ?_) AllReadyH.nil
          go_simp
          refine (sure_any _ (HR.out.below hH13.out)).mono ?_
          rintro e wc22 ⟨rfl, hbc22⟩
          (try dsimp only)
          refine hK.out _ _ ?_ (fun hH22 => ?_)
          · (try dsimp only); exact (by repeat (first | exact Bel.refl _ | assumption | refine Bel.drew ?_ | refine Bel.drewN ?_ _ | refine Bel.alloc ?_ _ | refine Bel.setCell ?_ (by simp <;> omega) _ | refine Bel.step ?_ (by assumption)))
          clear hK K
          try simp only [Act.put, List.setIfInBounds_toArray, List.set_cons_zero, List.set_cons_succ]
          refine wpAnyH_take (i := 23) (oi := { dst := some 156, op := Op.pick (Operand.tmp 154) (Operand.tmp 155) (Operand.const (Value.bool false)), type := 4, pos := "law.go:105", after := #[{ on := 21, ground := Ground.data }, { on := 22, ground := Ground.data }], guard := none }) (v := ?_) rfl (by kernel_rfl) (by kernel_rfl) (by kernel_rfl) (fun _ _ _ h => h) (Or.inl ⟨by kernel_rfl, ?_⟩) (by assumption) ?_
          rotate_left
          · intro wS hSw; (try dsimp only at hSw); go_simp; (try with_reducible rfl)
          try simp only [Act.put, List.setIfInBounds_toArray, List.set_cons_zero, List.set_cons_succ]
          refine wpAnyH_take (i := 24) (oi := { dst := some 4, op := Op.assign (Operand.tmp 156), type := 4, pos := "law.go:105", after := #[{ on := 23, ground := Ground.data }, { on := 22, ground := Ground.chain }, { on := 0, ground := Ground.phase }, { on := 1, ground := Ground.phase }, { on := 2, ground := Ground.phase }, { on := 3, ground := Ground.phase }, { on := 4, ground := Ground.phase }, { on := 5, ground := Ground.phase }, { on := 6, ground := Ground.phase }, { on := 7, ground := Ground.phase }, { on := 8, ground := Ground.phase }, { on := 9, ground := Ground.phase }, { on := 10, ground := Ground.phase }, { on := 11, ground := Ground.phase }, { on := 12, ground := Ground.phase }, { on := 13, ground := Ground.phase }, { on := 14, ground := Ground.phase }, { on := 15, ground := Ground.phase }, { on := 16, ground := Ground.phase }, { on := 17, ground := Ground.phase }, { on := 18, ground := Ground.phase }, { on := 19, ground := Ground.phase }, { on := 20, ground := Ground.phase }, { on := 21, ground := Ground.phase }, { on := 22, ground := Ground.phase }, { on := 23, ground := Ground.phase }], guard := none }) (v := ?_) rfl (by kernel_rfl) (by kernel_rfl) (by kernel_rfl) (fun _ _ _ h => h) (Or.inl ⟨by kernel_rfl, ?_⟩) (by assumption) ?_
          rotate_left
          · intro wS hSw; (try dsimp only at hSw); go_simp; (try with_reducible rfl)
          try simp only [Act.put, List.setIfInBounds_toArray, List.set_cons_zero, List.set_cons_succ]
          refine wpAnyH_done (by kernel_rfl) ?_ _
          go_wp2
          go_ret
          exact ⟨rfl, (HBb.out.step hH22.out).out⟩
  | true =>
    rw [hm] at hMy
    obtain ⟨u, l, t, hAg⟩ := again_ok s hm
    have HAg : Hid (AgP s u l t) := hAg
    clear hAg
    go_enter Tryz.func7, Tryz.ntmps7
    go_wp2_with fail
    refine (txt10_any s _).mono ?_
    rintro e w1 ⟨rfl, hb1⟩
    have HB1 : Hid (Bel w.heap.size w w1) := Bel.step (Bel.refl w) hb1
    clear hb1
    go_wp2_with fail
    refine (dec10_any x _).mono ?_
    rintro e w2 ⟨rfl, hb2⟩
    have HB2 : Hid (Bel w.heap.size w w2) := HB1.out.step hb2
    clear hb2 HB1
    go_wp2_with fail
    refine (hMy _).mono ?_
    rintro e w3 ⟨rfl, hb3⟩
    have HV : Hid (Bxc w2.heap.size w2.heap.size [.int .i64 4, .int .i64 0, .string s] w3) := (((Bxc.new w2 (Nat.le_refl _) _ 34).below ((Below.refl _ _).alloc (Nat.le_refl _) _)).below hb3)
    have HD : Hid (Bxc w2.heap.size (w2.heap.size + 1) [.int .i64 3, .int .i64 x, .string ⟨#[]⟩] w3) := by
      have h := Bxc.new (w2.alloc (Obj.cells #[.int .i64 4, .int .i64 0, .string s] 34)) (n0 := w2.heap.size) (by simp) [.int .i64 3, .int .i64 x, .string ⟨#[]⟩] 34
      rw [World.size_alloc] at h
      exact h.below hb3
    have HBW : Hid (Bel w.heap.size w w3) := Bel.step ((HB2.out.alloc _).alloc _) hb3
    have HR : Hid (Ready w3) := hR.below HBW.out.out
    obtain ⟨b5, hb5⟩ : ∃ b, b = w2.heap.size := ⟨_, rfl⟩
    obtain ⟨b6, hb6⟩ : ∃ b, b = w2.heap.size + 1 := ⟨_, rfl⟩
    obtain ⟨nd, hnd⟩ : ∃ b, b = w2.heap.size := ⟨_, rfl⟩
    have HV : Hid (Bxc nd b5 [.int .i64 4, .int .i64 0, .string s] w3) := by rw [hnd, hb5]; exact HV.out
    have HD : Hid (Bxc nd b6 [.int .i64 3, .int .i64 x, .string ⟨#[]⟩] w3) := by rw [hnd, hb6]; exact HD.out
    rw [← hb6]
    rw [← hb5]
    clear hb3 hb5 hb6 hnd hMy HB2
    go_wp2
    refine wp_region_held_drew (S := (fun wS => Bel w3.heap.size w3 wS)) (by kernel_rfl) ?_ (fun hHeld => ?_)
    · exact (Bel.refl _).drew
    refine wpAnyH_take (i := 0) (oi := { dst := some 21, op := Op.load 34 (Operand.tmp 5), type := 34, pos := "law.go:92", after := #[], guard := none }) (v := ?_) rfl (by kernel_rfl) (by kernel_rfl) (by kernel_rfl) (fun _ _ _ h => h) (Or.inl ⟨by kernel_rfl, ?_⟩) (by assumption) ?_
    rotate_left
    · intro wS hSw; (try dsimp only at hSw); have d0 := cell_below hSw.out (HV.out.cs 0 _ rfl); have d1 := cell_below hSw.out (HV.out.cs 1 _ rfl); have d2 := cell_below hSw.out (HV.out.cs 2 _ rfl); go_simp; (try with_reducible rfl)
    try simp only [Act.put, List.setIfInBounds_toArray, List.set_cons_zero, List.set_cons_succ]
    refine wpAnyH_take (i := 3) (oi := { dst := some 24, op := Op.load 34 (Operand.tmp 5), type := 34, pos := "law.go:92", after := #[], guard := none }) (v := ?_) rfl (by kernel_rfl) (by kernel_rfl) (by kernel_rfl) (fun _ _ _ h => h) (Or.inl ⟨by kernel_rfl, ?_⟩) (by assumption) ?_
    rotate_left
    · intro wS hSw; (try dsimp only at hSw); have d0 := cell_below hSw.out (HV.out.cs 0 _ rfl); have d1 := cell_below hSw.out (HV.out.cs 1 _ rfl); have d2 := cell_below hSw.out (HV.out.cs 2 _ rfl); go_simp; (try with_reducible rfl)
    try simp only [Act.put, List.setIfInBounds_toArray, List.set_cons_zero, List.set_cons_succ]
    refine wpAnyH_take (i := 6) (oi := { dst := some 27, op := Op.load 34 (Operand.tmp 5), type := 34, pos := "law.go:92", after := #[], guard := none }) (v := ?_) rfl (by kernel_rfl) (by kernel_rfl) (by kernel_rfl) (fun _ _ _ h => h) (Or.inl ⟨by kernel_rfl, ?_⟩) (by assumption) ?_
    rotate_left
    · intro wS hSw; (try dsimp only at hSw); have d0 := cell_below hSw.out (HV.out.cs 0 _ rfl); have d1 := cell_below hSw.out (HV.out.cs 1 _ rfl); have d2 := cell_below hSw.out (HV.out.cs 2 _ rfl); go_simp; (try with_reducible rfl)
    try simp only [Act.put, List.setIfInBounds_toArray, List.set_cons_zero, List.set_cons_succ]
    obtain ⟨E3, hE3⟩ : ∃ E : List OpE, E = [{ slot := 2000 }, { slot := 22, row := some (2, 1, [.int .i64 4, .int .i64 0, .string s]) }, { slot := 23, cal := some (.agg #[.int .i64 4, .int .i64 0, .string u]) }, { slot := 2003 }, { slot := 25, row := some (5, 1, [.int .i64 4, .int .i64 0, .string s]) }, { slot := 26, cal := some (.agg #[.int .i64 4, .int .i64 0, .string l]) }, { slot := 2006 }, { slot := 28, row := some (8, 1, [.int .i64 4, .int .i64 0, .string s]) }, { slot := 29, cal := some (.agg #[.int .i64 4, .int .i64 0, .string t]) }, { slot := 7, box := some (12, [.int .i64 0, .int .i64 0, .string ⟨#[]⟩], [.int .i64 4, .int .i64 0, .string u]) }, { slot := 8, box := some (13, [.int .i64 0, .int .i64 0, .string ⟨#[]⟩], [.int .i64 4, .int .i64 0, .string l]) }, { slot := 9, box := some (14, [.int .i64 0, .int .i64 0, .string ⟨#[]⟩], [.int .i64 4, .int .i64 0, .string t]) }, { slot := 1012 }, { slot := 1013 }, { slot := 1014 }] := ⟨_, rfl⟩
    have hwf3 : Hid (wfE E3 = true) := by show _ = _; rw [hE3]; kernel_rfl
    have hE3_1 : Hid (E3[1]? = some { slot := 22, row := some (2, 1, [.int .i64 4, .int .i64 0, .string s]) }) := by show _ = _; rw [hE3]; rfl
    have hE3_2 : Hid (E3[2]? = some { slot := 23, cal := some (.agg #[.int .i64 4, .int .i64 0, .string u]) }) := by show _ = _; rw [hE3]; rfl
    have hE3_4 : Hid (E3[4]? = some { slot := 25, row := some (5, 1, [.int .i64 4, .int .i64 0, .string s]) }) := by show _ = _; rw [hE3]; rfl
    have hE3_5 : Hid (E3[5]? = some { slot := 26, cal := some (.agg #[.int .i64 4, .int .i64 0, .string l]) }) := by show _ = _; rw [hE3]; rfl
    have hE3_7 : Hid (E3[7]? = some { slot := 28, row := some (8, 1, [.int .i64 4, .int .i64 0, .string s]) }) := by show _ = _; rw [hE3]; rfl
    have hE3_8 : Hid (E3[8]? = some { slot := 29, cal := some (.agg #[.int .i64 4, .int .i64 0, .string t]) }) := by show _ = _; rw [hE3]; rfl
    have hE3_9 : Hid (E3[9]? = some { slot := 7, box := some (12, [.int .i64 0, .int .i64 0, .string ⟨#[]⟩], [.int .i64 4, .int .i64 0, .string u]) }) := by show _ = _; rw [hE3]; rfl
    have hE3_10 : Hid (E3[10]? = some { slot := 8, box := some (13, [.int .i64 0, .int .i64 0, .string ⟨#[]⟩], [.int .i64 4, .int .i64 0, .string l]) }) := by show _ = _; rw [hE3]; rfl
    have hE3_11 : Hid (E3[11]? = some { slot := 9, box := some (14, [.int .i64 0, .int .i64 0, .string ⟨#[]⟩], [.int .i64 4, .int .i64 0, .string t]) }) := by show _ = _; rw [hE3]; rfl
    have hE3_12 : Hid (E3[12]? = some { slot := 1012 }) := by show _ = _; rw [hE3]; rfl
    have hE3_13 : Hid (E3[13]? = some { slot := 1013 }) := by show _ = _; rw [hE3]; rfl
    have hE3_14 : Hid (E3[14]? = some { slot := 1014 }) := by show _ = _; rw [hE3]; rfl
    have hst3 := fun lq (h : stB [{ slot := 2000 }, { slot := 22, row := some (2, 1, [.int .i64 4, .int .i64 0, .string s]) }, { slot := 23, cal := some (.agg #[.int .i64 4, .int .i64 0, .string u]) }, { slot := 2003 }, { slot := 25, row := some (5, 1, [.int .i64 4, .int .i64 0, .string s]) }, { slot := 26, cal := some (.agg #[.int .i64 4, .int .i64 0, .string l]) }, { slot := 2006 }, { slot := 28, row := some (8, 1, [.int .i64 4, .int .i64 0, .string s]) }, { slot := 29, cal := some (.agg #[.int .i64 4, .int .i64 0, .string t]) }, { slot := 7, box := some (12, [.int .i64 0, .int .i64 0, .string ⟨#[]⟩], [.int .i64 4, .int .i64 0, .string u]) }, { slot := 8, box := some (13, [.int .i64 0, .int .i64 0, .string ⟨#[]⟩], [.int .i64 4, .int .i64 0, .string l]) }, { slot := 9, box := some (14, [.int .i64 0, .int .i64 0, .string ⟨#[]⟩], [.int .i64 4, .int .i64 0, .string t]) }, { slot := 1012 }, { slot := 1013 }, { slot := 1014 }] lq = true) => stB_spec (E := E3) (l := lq) (by rw [hE3]; exact h)
    clear hE3
    refine wpAnyH_by (I := fun L X w' => Rgc w3 E3 L X w') (ds := [22, 23, 25, 26, 28, 29, 7, 8, 9]) [1, 2, 4, 5, 7, 8, 9, 10, 11, 12, 13, 14] (by kernel_rfl) rfl (by kernel_rfl) (by kernel_rfl) (fun _ _ _ h => h.bel) (Rgc.start (by assumption) (hst3 _ (by kernel_rfl))) ?_ ?_
    · clear hHeld
      refine AllI.consW 1 { dst := some 22, op := Op.buildSlice 32 1 #[(0, Operand.tmp 21)], type := 32, pos := "law.go:92", after := #[{ on := 0, ground := Ground.data }], guard := none } (by kernel_rfl) rfl ?_ (AllI.consW 2 { dst := some 23, op := Op.call { callee := Callee.value (Operand.func 18), args := #[Operand.const (Value.string { data := #[117, 112, 112, 101, 114] }), Operand.tmp 22], argTypes := #[9, 32] }, type := 34, pos := "law.go:92", after := #[{ on := 1, ground := Ground.data }], guard := none } (by kernel_rfl) rfl ?_ (AllI.consW 4 { dst := some 25, op := Op.buildSlice 32 1 #[(0, Operand.tmp 24)], type := 32, pos := "law.go:92", after := #[{ on := 3, ground := Ground.data }], guard := none } (by kernel_rfl) rfl ?_ (AllI.consW 5 { dst := some 26, op := Op.call { callee := Callee.value (Operand.func 18), args := #[Operand.const (Value.string { data := #[108, 111, 119, 101, 114] }), Operand.tmp 25], argTypes := #[9, 32] }, type := 34, pos := "law.go:92", after := #[{ on := 4, ground := Ground.data }, { on := 2, ground := Ground.chain }], guard := none } (by kernel_rfl) rfl ?_ (AllI.consW 7 { dst := some 28, op := Op.buildSlice 32 1 #[(0, Operand.tmp 27)], type := 32, pos := "law.go:92", after := #[{ on := 6, ground := Ground.data }], guard := none } (by kernel_rfl) rfl ?_ (AllI.consW 8 { dst := some 29, op := Op.call { callee := Callee.value (Operand.func 18), args := #[Operand.const (Value.string { data := #[116, 114, 105, 109] }), Operand.tmp 28], argTypes := #[9, 32] }, type := 34, pos := "law.go:92", after := #[{ on := 7, ground := Ground.data }, { on := 5, ground := Ground.chain }], guard := none } (by kernel_rfl) rfl ?_ (AllI.consW 9 { dst := some 7, op := Op.alloc 34, type := 0, pos := "law.go:92", after := #[], guard := none } (by kernel_rfl) rfl ?_ (AllI.consW 10 { dst := some 8, op := Op.alloc 34, type := 0, pos := "law.go:92", after := #[], guard := none } (by kernel_rfl) rfl ?_ (AllI.consW 11 { dst := some 9, op := Op.alloc 34, type := 0, pos := "law.go:92", after := #[], guard := none } (by kernel_rfl) rfl ?_ (AllI.consW 12 { dst := none, op := Op.store 34 (Operand.tmp 7) (Operand.tmp 23), type := 0, pos := "law.go:92", after := #[{ on := 9, ground := Ground.data }, { on := 2, ground := Ground.data }, { on := 8, ground := Ground.chain }, { on := 0, ground := Ground.phase }, { on := 1, ground := Ground.phase }, { on := 2, ground := Ground.phase }, { on := 3, ground := Ground.textOnly Departure.lateStores }, { on := 4, ground := Ground.textOnly Departure.lateStores }, { on := 5, ground := Ground.textOnly Departure.lateStoresUnsure }, { on := 6, ground := Ground.textOnly Departure.lateStores }, { on := 7, ground := Ground.textOnly Departure.lateStores }, { on := 8, ground := Ground.textOnly Departure.lateStoresUnsure }, { on := 9, ground := Ground.phase }, { on := 10, ground := Ground.phase }, { on := 11, ground := Ground.phase }], guard := none } (by kernel_rfl) rfl ?_ (AllI.consW 13 { dst := none, op := Op.store 34 (Operand.tmp 8) (Operand.tmp 26), type := 0, pos := "law.go:92", after := #[{ on := 10, ground := Ground.data }, { on := 5, ground := Ground.data }, { on := 12, ground := Ground.chain }, { on := 0, ground := Ground.phase }, { on := 1, ground := Ground.phase }, { on := 2, ground := Ground.phase }, { on := 3, ground := Ground.phase }, { on := 4, ground := Ground.phase }, { on := 5, ground := Ground.phase }, { on := 6, ground := Ground.textOnly Departure.lateStores }, { on := 7, ground := Ground.textOnly Departure.lateStores }, { on := 8, ground := Ground.textOnly Departure.lateStoresUnsure }, { on := 9, ground := Ground.phase }, { on := 10, ground := Ground.phase }, { on := 11, ground := Ground.phase }, { on := 12, ground := Ground.phase }], guard := none } (by kernel_rfl) rfl ?_ (AllI.consW 14 { dst := none, op := Op.store 34 (Operand.tmp 9) (Operand.tmp 29), type := 0, pos := "law.go:92", after := #[{ on := 11, ground := Ground.data }, { on := 8, ground := Ground.data }, { on := 13, ground := Ground.chain }, { on := 0, ground := Ground.phase }, { on := 1, ground := Ground.phase }, { on := 2, ground := Ground.phase }, { on := 3, ground := Ground.phase }, { on := 4, ground := Ground.phase }, { on := 5, ground := Ground.phase }, { on := 6, ground := Ground.phase }, { on := 7, ground := Ground.phase }, { on := 8, ground := Ground.phase }, { on := 9, ground := Ground.phase }, { on := 10, ground := Ground.phase }, { on := 11, ground := Ground.phase }, { on := 12, ground := Ground.phase }, { on := 13, ground := Ground.phase }], guard := none } (by kernel_rfl) rfl ?_ (AllI.nil))))))))))))
      · intro L X w1 hI hL hd K hK
        have HN : Hid _ := Rgc.stepR hI hwf3.out hE3_1.out rfl rfl rfl 34
        have HK : Hid _ := hK
        clear hK hI hd
        refine Wrap.mk ?_
        simp only [putL, Act.put, List.setIfInBounds_toArray, List.set_cons_zero, List.set_cons_succ, updV, Nat.reduceBEq, Bool.false_eq_true, if_false, if_true]
        go_simp
        exact Shut.use HK.out _ (by kernel_rfl) HN.out
      · intro L X w1 hI hL hd K hK
        obtain ⟨g1, x1, B1⟩ := hI.row 1 _ _ _ _ hE3_1.out rfl (hd 1 (by kernel_rfl)) hL
        obtain ⟨Y, rfl⟩ : ∃ Y, X = updV Y 22 (.slice (some ⟨g1, 0, none⟩) 1 1) := ⟨X, by rw [updV_self x1]⟩
        clear x1
        have HK : Hid _ := hK
        have HI : Hid _ := hI
        clear hK hI hd
        have hcc := lcall_is (row1 B1 (HR.out.below HI.out.bel.out) I64_0) HAg.out.u1
        refine Wrap.mk ?_
        simp only [putL, Act.put, List.setIfInBounds_toArray, List.set_cons_zero, List.set_cons_succ, updV, Nat.reduceBEq, Bool.false_eq_true, if_false, if_true]
        go_simp
        refine (hcc).mono ?_
        rintro e w2 ⟨rfl, hb1⟩
        (try dsimp only)
        try simp only [Act.put, List.setIfInBounds_toArray, List.set_cons_zero, List.set_cons_succ]
        exact Shut.use HK.out _ (by kernel_rfl) (Rgc.stepC (HI.out.below hb1) hwf3.out hE3_2.out rfl rfl rfl hL)
      · intro L X w1 hI hL hd K hK
        have HN : Hid _ := Rgc.stepR hI hwf3.out hE3_4.out rfl rfl rfl 34
        have HK : Hid _ := hK
        clear hK hI hd
        refine Wrap.mk ?_
        simp only [putL, Act.put, List.setIfInBounds_toArray, List.set_cons_zero, List.set_cons_succ, updV, Nat.reduceBEq, Bool.false_eq_true, if_false, if_true]
        go_simp
        exact Shut.use HK.out _ (by kernel_rfl) HN.out
      · intro L X w1 hI hL hd K hK
        obtain ⟨g4, x4, B4⟩ := hI.row 4 _ _ _ _ hE3_4.out rfl (hd 4 (by kernel_rfl)) hL
        obtain ⟨Y, rfl⟩ : ∃ Y, X = updV Y 25 (.slice (some ⟨g4, 0, none⟩) 1 1) := ⟨X, by rw [updV_self x4]⟩
        clear x4
        have HK : Hid _ := hK
        have HI : Hid _ := hI
        clear hK hI hd
        have hcc := lcall_is (row1 B4 (HR.out.below HI.out.bel.out) I64_0) HAg.out.l1
        refine Wrap.mk ?_
        simp only [putL, Act.put, List.setIfInBounds_toArray, List.set_cons_zero, List.set_cons_succ, updV, Nat.reduceBEq, Bool.false_eq_true, if_false, if_true]
        go_simp
        refine (hcc).mono ?_
        rintro e w2 ⟨rfl, hb1⟩
        (try dsimp only)
        try simp only [Act.put, List.setIfInBounds_toArray, List.set_cons_zero, List.set_cons_succ]
        exact Shut.use HK.out _ (by kernel_rfl) (Rgc.stepC (HI.out.below hb1) hwf3.out hE3_5.out rfl rfl rfl hL)
      · intro L X w1 hI hL hd K hK
        have HN : Hid _ := Rgc.stepR hI hwf3.out hE3_7.out rfl rfl rfl 34
        have HK : Hid _ := hK
        clear hK hI hd
        refine Wrap.mk ?_
        simp only [putL, Act.put, List.setIfInBounds_toArray, List.set_cons_zero, List.set_cons_succ, updV, Nat.reduceBEq, Bool.false_eq_true, if_false, if_true]
        go_simp
        exact Shut.use HK.out _ (by kernel_rfl) HN.out
      · intro L X w1 hI hL hd K hK
        obtain ⟨g7, x7, B7⟩ := hI.row 7 _ _ _ _ hE3_7.out rfl (hd 7 (by kernel_rfl)) hL
        obtain ⟨Y, rfl⟩ : ∃ Y, X = updV Y 28 (.slice (some ⟨g7, 0, none⟩) 1 1) := ⟨X, by rw [updV_self x7]⟩
        clear x7
        have HK : Hid _ := hK
        have HI : Hid _ := hI
        clear hK hI hd
        have hcc := lcall_is (row1 B7 (HR.out.below HI.out.bel.out) I64_0) HAg.out.t1
        refine Wrap.mk ?_
        simp only [putL, Act.put, List.setIfInBounds_toArray, List.set_cons_zero, List.set_cons_succ, updV, Nat.reduceBEq, Bool.false_eq_true, if_false, if_true]
        go_simp
        refine (hcc).mono ?_
        rintro e w2 ⟨rfl, hb1⟩
        (try dsimp only)
        try simp only [Act.put, List.setIfInBounds_toArray, List.set_cons_zero, List.set_cons_succ]
        exact Shut.use HK.out _ (by kernel_rfl) (Rgc.stepC (HI.out.below hb1) hwf3.out hE3_8.out rfl rfl rfl hL)
      · intro L X w1 hI hL hd K hK
        have HN : Hid _ := Rgc.stepB hI hwf3.out hE3_9.out rfl rfl rfl hL 34
        have HK : Hid _ := hK
        clear hK hI hd
        refine Wrap.mk ?_
        simp only [putL, Act.put, List.setIfInBounds_toArray, List.set_cons_zero, List.set_cons_succ, updV, Nat.reduceBEq, Bool.false_eq_true, if_false, if_true]
        go_simp
        exact Shut.use HK.out _ (by kernel_rfl) HN.out
      · intro L X w1 hI hL hd K hK
        have HN : Hid _ := Rgc.stepB hI hwf3.out hE3_10.out rfl rfl rfl hL 34
        have HK : Hid _ := hK
        clear hK hI hd
        refine Wrap.mk ?_
        simp only [putL, Act.put, List.setIfInBounds_toArray, List.set_cons_zero, List.set_cons_succ, updV, Nat.reduceBEq, Bool.false_eq_true, if_false, if_true]
        go_simp
        exact Shut.use HK.out _ (by kernel_rfl) HN.out
      · intro L X w1 hI hL hd K hK
        have HN : Hid _ := Rgc.stepB hI hwf3.out hE3_11.out rfl rfl rfl hL 34
        have HK : Hid _ := hK
        clear hK hI hd
        refine Wrap.mk ?_
        simp only [putL, Act.put, List.setIfInBounds_toArray, List.set_cons_zero, List.set_cons_succ, updV, Nat.reduceBEq, Bool.false_eq_true, if_false, if_true]
        go_simp
        exact Shut.use HK.out _ (by kernel_rfl) HN.out
      · intro L X w1 hI hL hd K hK
        have x2 : X 23 = .agg #[.int .i64 4, .int .i64 0, .string u] := hI.cal 2 _ _ hE3_2.out rfl (hd 2 (by kernel_rfl))
        have hd9 := hd 9 (by kernel_rfl)
        obtain ⟨g9, x9, B9⟩ := hI.box 9 { slot := 7, box := some (12, [.int .i64 0, .int .i64 0, .string ⟨#[]⟩], [.int .i64 4, .int .i64 0, .string u]) } (12) ([.int .i64 0, .int .i64 0, .string ⟨#[]⟩]) ([.int .i64 4, .int .i64 0, .string u]) hE3_9.out rfl hd9
        rw [hL] at B9
        obtain ⟨Y, rfl⟩ : ∃ Y, X = updV (updV Y 23 (.agg #[.int .i64 4, .int .i64 0, .string u])) 7 (.pointer (some ⟨g9, 0, none⟩)) := ⟨X, by rw [updV_self x2, updV_self x9]⟩
        clear x2 x9
        have hN := Rgc.stepS hI hwf3.out hE3_9.out rfl hE3_12.out (hd 9 (by kernel_rfl)) (show (updV (updV Y 23 (.agg #[.int .i64 4, .int .i64 0, .string u])) 7 (.pointer (some ⟨g9, 0, none⟩))) 7 = .pointer (some ⟨g9, 0, none⟩) by simp only [updV, Nat.reduceBEq, Bool.false_eq_true, if_false, if_true])
        have c0 := B9.cs 0 _ rfl
        have c1 := B9.cs 1 _ rfl
        have c2 := B9.cs 2 _ rfl
        have hfr := B9.fr
        have hlt := B9.lt
        have HN : Hid _ := hN
        have HK : Hid _ := hK
        clear hN hK hI hd B9
        refine Wrap.mk ?_
        simp only [putL, Act.put, List.setIfInBounds_toArray, List.set_cons_zero, List.set_cons_succ, updV, Nat.reduceBEq, Bool.false_eq_true, if_false, if_true]
        go_simp
        exact Shut.use HK.out (updV (updV Y 23 (.agg #[.int .i64 4, .int .i64 0, .string u])) 7 (.pointer (some ⟨g9, 0, none⟩))) (by kernel_rfl) HN.out
      · intro L X w1 hI hL hd K hK
        have x5 : X 26 = .agg #[.int .i64 4, .int .i64 0, .string l] := hI.cal 5 _ _ hE3_5.out rfl (hd 5 (by kernel_rfl))
        have hd10 := hd 10 (by kernel_rfl)
        obtain ⟨g10, x10, B10⟩ := hI.box 10 { slot := 8, box := some (13, [.int .i64 0, .int .i64 0, .string ⟨#[]⟩], [.int .i64 4, .int .i64 0, .string l]) } (13) ([.int .i64 0, .int .i64 0, .string ⟨#[]⟩]) ([.int .i64 4, .int .i64 0, .string l]) hE3_10.out rfl hd10
        rw [hL] at B10
        obtain ⟨Y, rfl⟩ : ∃ Y, X = updV (updV Y 26 (.agg #[.int .i64 4, .int .i64 0, .string l])) 8 (.pointer (some ⟨g10, 0, none⟩)) := ⟨X, by rw [updV_self x5, updV_self x10]⟩
        clear x5 x10
        have hN := Rgc.stepS hI hwf3.out hE3_10.out rfl hE3_13.out (hd 10 (by kernel_rfl)) (show (updV (updV Y 26 (.agg #[.int .i64 4, .int .i64 0, .string l])) 8 (.pointer (some ⟨g10, 0, none⟩))) 8 = .pointer (some ⟨g10, 0, none⟩) by simp only [updV, Nat.reduceBEq, Bool.false_eq_true, if_false, if_true])
        have c0 := B10.cs 0 _ rfl
        have c1 := B10.cs 1 _ rfl
        have c2 := B10.cs 2 _ rfl
        have hfr := B10.fr
        have hlt := B10.lt
        have HN : Hid _ := hN
        have HK : Hid _ := hK
        clear hN hK hI hd B10
        refine Wrap.mk ?_
        simp only [putL, Act.put, List.setIfInBounds_toArray, List.set_cons_zero, List.set_cons_succ, updV, Nat.reduceBEq, Bool.false_eq_true, if_false, if_true]
        go_simp
        exact Shut.use HK.out (updV (updV Y 26 (.agg #[.int .i64 4, .int .i64 0, .string l])) 8 (.pointer (some ⟨g10, 0, none⟩))) (by kernel_rfl) HN.out
      · intro L X w1 hI hL hd K hK
        have x8 : X 29 = .agg #[.int .i64 4, .int .i64 0, .string t] := hI.cal 8 _ _ hE3_8.out rfl (hd 8 (by kernel_rfl))
        have hd11 := hd 11 (by kernel_rfl)
        obtain ⟨g11, x11, B11⟩ := hI.box 11 { slot := 9, box := some (14, [.int .i64 0, .int .i64 0, .string ⟨#[]⟩], [.int .i64 4, .int .i64 0, .string t]) } (14) ([.int .i64 0, .int .i64 0, .string ⟨#[]⟩]) ([.int .i64 4, .int .i64 0, .string t]) hE3_11.out rfl hd11
        rw [hL] at B11
        obtain ⟨Y, rfl⟩ : ∃ Y, X = updV (updV Y 29 (.agg #[.int .i64 4, .int .i64 0, .string t])) 9 (.pointer (some ⟨g11, 0, none⟩)) := ⟨X, by rw [updV_self x8, updV_self x11]⟩
        clear x8 x11
        have hN := Rgc.stepS hI hwf3.out hE3_11.out rfl hE3_14.out (hd 11 (by kernel_rfl)) (show (updV (updV Y 29 (.agg #[.int .i64 4, .int .i64 0, .string t])) 9 (.pointer (some ⟨g11, 0, none⟩))) 9 = .pointer (some ⟨g11, 0, none⟩) by simp only [updV, Nat.reduceBEq, Bool.false_eq_true, if_false, if_true])
        have c0 := B11.cs 0 _ rfl
        have c1 := B11.cs 1 _ rfl
        have c2 := B11.cs 2 _ rfl
        have hfr := B11.fr
        have hlt := B11.lt
        have HN : Hid _ := hN
        have HK : Hid _ := hK
        clear hN hK hI hd B11
        refine Wrap.mk ?_
        simp only [putL, Act.put, List.setIfInBounds_toArray, List.set_cons_zero, List.set_cons_succ, updV, Nat.reduceBEq, Bool.false_eq_true, if_false, if_true]
        go_simp
        exact Shut.use HK.out (updV (updV Y 29 (.agg #[.int .i64 4, .int .i64 0, .string t])) 9 (.pointer (some ⟨g11, 0, none⟩))) (by kernel_rfl) HN.out
    · intro L X w1 hI hAll
      obtain ⟨g9, x9, B9⟩ := hI.box 9 _ _ _ _ hE3_9.out rfl (hAll 9 (of_decide_eq_true (by kernel_rfl)))
      rw [if_pos (hAll 12 (of_decide_eq_true (by kernel_rfl)))] at B9
      obtain ⟨g10, x10, B10⟩ := hI.box 10 _ _ _ _ hE3_10.out rfl (hAll 10 (of_decide_eq_true (by kernel_rfl)))
      rw [if_pos (hAll 13 (of_decide_eq_true (by kernel_rfl)))] at B10
      obtain ⟨g11, x11, B11⟩ := hI.box 11 _ _ _ _ hE3_11.out rfl (hAll 11 (of_decide_eq_true (by kernel_rfl)))
      rw [if_pos (hAll 14 (of_decide_eq_true (by kernel_rfl)))] at B11
      have hB := hI.bel
      clear hI hAll hst3 hwf3 hE3_1 hE3_2 hE3_4 hE3_5 hE3_7 hE3_8 hE3_9 hE3_10 hE3_11 hE3_12 hE3_13 hE3_14 hHeld
      simp only [putL, Act.put, List.setIfInBounds_toArray, List.set_cons_zero, List.set_cons_succ]
      rw [show X 7 = _ from x9]
      rw [show X 8 = _ from x10]
      rw [show X 9 = _ from x11]
      generalize X 22 = y22
      generalize X 23 = y23
      generalize X 25 = y25
      generalize X 26 = y26
      generalize X 28 = y28
      generalize X 29 = y29
      clear x9 x10 x11
      have HD : Hid (Bxc nd b6 [.int .i64 3, .int .i64 x, .string ⟨#[]⟩] w1) := HD.out.below hB.out
      have HR : Hid (Ready w1) := HR.out.below hB.out
      have HBW : Hid (Bel w.heap.size w w1) := HBW.out.step hB.out
      have HU : Hid _ := B9
      obtain ⟨b7, he⟩ : ∃ b, b = g9 := ⟨_, rfl⟩
      rw [← he] at HU ⊢
      clear he
      have HL : Hid _ := B10
      obtain ⟨b8, he⟩ : ∃ b, b = g10 := ⟨_, rfl⟩
      rw [← he] at HL ⊢
      clear he
      have HT : Hid _ := B11
      obtain ⟨b9, he⟩ : ∃ b, b = g11 := ⟨_, rfl⟩
      rw [← he] at HT ⊢
      clear he
      obtain ⟨w4, he⟩ : ∃ u, u = w1 := ⟨_, rfl⟩
      rw [← he] at HR HBW HD HU HL HT ⊢
      clear he hB B9 B10 B11
      go_wp2
      refine wp_region_held_drew (S := (fun wS => Bel w4.heap.size w4 wS)) (by kernel_rfl) ?_ (fun hHeld => ?_)
      · (try dsimp only); exact (Bel.refl _).drew
      refine wpAnyH_take (i := 0) (oi := { dst := some 30, op := Op.load 34 (Operand.tmp 7), type := 34, pos := "law.go:93", after := #[], guard := none }) (v := ?_) rfl (by kernel_rfl) (by kernel_rfl) (by kernel_rfl) (fun _ _ _ h => h) (Or.inl ⟨by kernel_rfl, ?_⟩) (by assumption) ?_
      rotate_left
      · intro wS hSw; (try dsimp only at hSw); have c0 := (cell_below hSw.out (HU.out.cs 0 _ rfl)); have c1 := (cell_below hSw.out (HU.out.cs 1 _ rfl)); have c2 := (cell_below hSw.out (HU.out.cs 2 _ rfl)); go_simp; (try with_reducible rfl)
      try simp only [Act.put, List.setIfInBounds_toArray, List.set_cons_zero, List.set_cons_succ]
      refine wpAnyH_take (i := 3) (oi := { dst := some 33, op := Op.load 34 (Operand.tmp 7), type := 34, pos := "law.go:93", after := #[], guard := none }) (v := ?_) rfl (by kernel_rfl) (by kernel_rfl) (by kernel_rfl) (fun _ _ _ h => h) (Or.inl ⟨by kernel_rfl, ?_⟩) (by assumption) ?_
      rotate_left
      · intro wS hSw; (try dsimp only at hSw); have c0 := (cell_below hSw.out (HU.out.cs 0 _ rfl)); have c1 := (cell_below hSw.out (HU.out.cs 1 _ rfl)); have c2 := (cell_below hSw.out (HU.out.cs 2 _ rfl)); go_simp; (try with_reducible rfl)
      try simp only [Act.put, List.setIfInBounds_toArray, List.set_cons_zero, List.set_cons_succ]
      refine wpAnyH_ready (rs := [1]) (by kernel_rfl) (by simp) ?_
      refine AllReadyH.cons (o := { dst := some 31, op := Op.buildSlice 32 1 #[(0, Operand.tmp 30)], type := 32, pos := "law.go:93", after := #[{ on := 0, ground := Ground.data }], guard := none }) rfl (fun K hK => ?_) AllReadyH.nil
      go_simp
      refine hK.out _ _ ?_ (fun hH1 => ?_)
      · (try dsimp only); exact (by repeat (first | exact Bel.refl _ | assumption | refine Bel.drew ?_ | refine Bel.drewN ?_ _ | refine Bel.alloc ?_ _ | refine Bel.setCell ?_ (by simp <;> omega) _ | refine Bel.step ?_ (by assumption)))
      clear hK K
      try simp only [Act.put, List.setIfInBounds_toArray, List.set_cons_zero, List.set_cons_succ]
      refine wpAnyH_ready (rs := [2]) (by kernel_rfl) (by simp) ?_
      refine AllReadyH.cons (o := { dst := some 32, op := Op.call { callee := Callee.value (Operand.func 18), args := #[Operand.const (Value.string { data := #[117, 112, 112, 101, 114] }), Operand.tmp 31], argTypes := #[9, 32] }, type := 34, pos := "law.go:93", after := #[{ on := 1, ground := Ground.data }], guard := none }) rfl (fun K hK => ?_) AllReadyH.nil
      go_simp
      have hcc := lcall_is (row1 ((Bxc.new (n0 := 0) _ (Nat.zero_le _) _ 34).below (Below.refl _ _).drew) (HR.out.below hH1.out) I64_0) HAg.out.u2
      refine hcc.mono ?_
      rintro e wc2 ⟨rfl, hbc2⟩
      (try dsimp only)
      refine hK.out _ _ ?_ (fun hH2 => ?_)
      · (try dsimp only); exact (by repeat (first | exact Bel.refl _ | assumption | refine Bel.drew ?_ | refine Bel.drewN ?_ _ | refine Bel.alloc ?_ _ | refine Bel.setCell ?_ (by simp <;> omega) _ | refine Bel.step ?_ (by assumption)))
      clear hK K
      try simp only [Act.put, List.setIfInBounds_toArray, List.set_cons_zero, List.set_cons_succ]
      refine wpAnyH_take (i := 4) (oi := { dst := some 34, op := Op.binOp BinOp.neq 34 (Operand.tmp 32) (Operand.tmp 33) 34, type := 4, pos := "law.go:93", after := #[{ on := 2, ground := Ground.data }, { on := 3, ground := Ground.data }], guard := none }) (v := ?_) rfl (by kernel_rfl) (by kernel_rfl) (by kernel_rfl) (fun _ _ _ h => h) (Or.inl ⟨by kernel_rfl, ?_⟩) (by assumption) ?_
      rotate_left
      · intro wS hSw; (try dsimp only at hSw); have hq := ne34 4 0 u wS; go_simp; (try with_reducible rfl)
      try simp only [Act.put, List.setIfInBounds_toArray, List.set_cons_zero, List.set_cons_succ]
      refine wpAnyH_take (i := 5) (oi := { dst := some 35, op := Op.move (Operand.tmp 34), type := 4, pos := "law.go:93", after := #[{ on := 4, ground := Ground.data }, { on := 2, ground := Ground.chain }], guard := none }) (v := ?_) rfl (by kernel_rfl) (by kernel_rfl) (by kernel_rfl) (fun _ _ _ h => h) (Or.inl ⟨by kernel_rfl, ?_⟩) (by assumption) ?_
      rotate_left
      · intro wS hSw; (try dsimp only at hSw); go_simp; (try with_reducible rfl)
      try simp only [Act.put, List.setIfInBounds_toArray, List.set_cons_zero, List.set_cons_succ]
      refine wpAnyH_take (i := 6) (oi := { dst := some 36, op := Op.load 34 (Operand.tmp 8), type := 34, pos := "law.go:93", after := #[{ on := 5, ground := Ground.guard }], guard := some (5, false) }) (v := ?_) rfl (by kernel_rfl) (by kernel_rfl) (by kernel_rfl) (fun _ _ _ h => h) (Or.inl ⟨by kernel_rfl, ?_⟩) (by assumption) ?_
      rotate_left
      · intro wS hSw; (try dsimp only at hSw); have c0 := (cell_below hSw.out (HL.out.cs 0 _ rfl)); have c1 := (cell_below hSw.out (HL.out.cs 1 _ rfl)); have c2 := (cell_below hSw.out (HL.out.cs 2 _ rfl)); go_simp; (try with_reducible rfl)
      try simp only [Act.put, List.setIfInBounds_toArray, List.set_cons_zero, List.set_cons_succ]
      refine wpAnyH_take (i := 9) (oi := { dst := some 39, op := Op.load 34 (Operand.tmp 8), type := 34, pos := "law.go:93", after := #[{ on := 5, ground := Ground.guard }], guard := some (5, false) }) (v := ?_) rfl (by kernel_rfl) (by kernel_rfl) (by kernel_rfl) (fun _ _ _ h => h) (Or.inl ⟨by kernel_rfl, ?_⟩) (by assumption) ?_
      rotate_left
      · intro wS hSw; (try dsimp only at hSw); have c0 := (cell_below hSw.out (HL.out.cs 0 _ rfl)); have c1 := (cell_below hSw.out (HL.out.cs 1 _ rfl)); have c2 := (cell_below hSw.out (HL.out.cs 2 _ rfl)); go_simp; (try with_reducible rfl)
      try simp only [Act.put, List.setIfInBounds_toArray, List.set_cons_zero, List.set_cons_succ]
      refine wpAnyH_ready (rs := [7]) (by kernel_rfl) (by simp) ?_
      refine AllReadyH.cons (o := { dst := some 37, op := Op.buildSlice 32 1 #[(0, Operand.tmp 36)], type := 32, pos := "law.go:93", after := #[{ on := 6, ground := Ground.data }, { on := 5, ground := Ground.guard }], guard := some (5, false) }) rfl (fun K hK => ?_) AllReadyH.nil
      go_simp
      refine hK.out _ _ ?_ (fun hH7 => ?_)
      · (try dsimp only); exact (by repeat (first | exact Bel.refl _ | assumption | refine Bel.drew ?_ | refine Bel.drewN ?_ _ | refine Bel.alloc ?_ _ | refine Bel.setCell ?_ (by simp <;> omega) _ | refine Bel.step ?_ (by assumption)))
      clear hK K
      try simp only [Act.put, List.setIfInBounds_toArray, List.set_cons_zero, List.set_cons_succ]
      refine wpAnyH_ready (rs := [8]) (by kernel_rfl) (by simp) ?_
      refine AllReadyH.cons (o := { dst := some 38, op := Op.call { callee := Callee.value (Operand.func 18), args := #[Operand.const (Value.string { data := #[108, 111, 119, 101, 114] }), Operand.tmp 37], argTypes := #[9, 32] }, type := 34, pos := "law.go:93", after := #[{ on := 7, ground := Ground.data }, { on := 5, ground := Ground.chain }, { on := 5, ground := Ground.guard }], guard := some (5, false) }) rfl (fun K hK => ?_) AllReadyH.nil
      go_simp
      have hcc := lcall_is (row1 (Bxc.new (n0 := 0) _ (Nat.zero_le _) _ 34) (HR.out.below hH7.out) I64_0) HAg.out.l2
      refine hcc.mono ?_
      rintro e wc8 ⟨rfl, hbc8⟩
      (try dsimp only)
      refine hK.out _ _ ?_ (fun hH8 => ?_)
      · (try dsimp only); exact (by repeat (first | exact Bel.refl _ | assumption | refine Bel.drew ?_ | refine Bel.drewN ?_ _ | refine Bel.alloc ?_ _ | refine Bel.setCell ?_ (by simp <;> omega) _ | refine Bel.step ?_ (by assumption)))
      clear hK K
      try simp only [Act.put, List.setIfInBounds_toArray, List.set_cons_zero, List.set_cons_succ]
      refine wpAnyH_take (i := 10) (oi := { dst := some 40, op := Op.binOp BinOp.neq 34 (Operand.tmp 38) (Operand.tmp 39) 34, type := 4, pos := "law.go:93", after := #[{ on := 8, ground := Ground.data }, { on := 9, ground := Ground.data }, { on := 5, ground := Ground.guard }], guard := some (5, false) }) (v := ?_) rfl (by kernel_rfl) (by kernel_rfl) (by kernel_rfl) (fun _ _ _ h => h) (Or.inl ⟨by kernel_rfl, ?_⟩) (by assumption) ?_
      rotate_left
      · intro wS hSw; (try dsimp only at hSw); have hq := ne34 4 0 l wS; go_simp; (try with_reducible rfl)
      try simp only [Act.put, List.setIfInBounds_toArray, List.set_cons_zero, List.set_cons_succ]
      refine wpAnyH_take (i := 11) (oi := { dst := some 41, op := Op.pick (Operand.tmp 35) (Operand.const (Value.bool true)) (Operand.tmp 40), type := 4, pos := "law.go:93", after := #[{ on := 5, ground := Ground.data }, { on := 10, ground := Ground.data }], guard := none }) (v := ?_) rfl (by kernel_rfl) (by kernel_rfl) (by kernel_rfl) (fun _ _ _ h => h) (Or.inl ⟨by kernel_rfl, ?_⟩) (by assumption) ?_
      rotate_left
      · intro wS hSw; (try dsimp only at hSw); go_simp; (try with_reducible rfl)
      try simp only [Act.put, List.setIfInBounds_toArray, List.set_cons_zero, List.set_cons_succ]
      refine wpAnyH_take (i := 12) (oi := { dst := some 42, op := Op.move (Operand.tmp 41), type := 4, pos := "law.go:93", after := #[{ on := 11, ground := Ground.data }, { on := 8, ground := Ground.chain }], guard := none }) (v := ?_) rfl (by kernel_rfl) (by kernel_rfl) (by kernel_rfl) (fun _ _ _ h => h) (Or.inl ⟨by kernel_rfl, ?_⟩) (by assumption) ?_
      rotate_left
      · intro wS hSw; (try dsimp only at hSw); go_simp; (try with_reducible rfl)
      try simp only [Act.put, List.setIfInBounds_toArray, List.set_cons_zero, List.set_cons_succ]
      refine wpAnyH_take (i := 13) (oi := { dst := some 43, op := Op.load 34 (Operand.tmp 9), type := 34, pos := "law.go:93", after := #[{ on := 12, ground := Ground.guard }], guard := some (12, false) }) (v := ?_) rfl (by kernel_rfl) (by kernel_rfl) (by kernel_rfl) (fun _ _ _ h => h) (Or.inl ⟨by kernel_rfl, ?_⟩) (by assumption) ?_
      rotate_left
      · intro wS hSw; (try dsimp only at hSw); have c0 := (cell_below hSw.out (HT.out.cs 0 _ rfl)); have c1 := (cell_below hSw.out (HT.out.cs 1 _ rfl)); have c2 := (cell_below hSw.out (HT.out.cs 2 _ rfl)); go_simp; (try with_reducible rfl)
      try simp only [Act.put, List.setIfInBounds_toArray, List.set_cons_zero, List.set_cons_succ]
      refine wpAnyH_take (i := 16) (oi := { dst := some 46, op := Op.load 34 (Operand.tmp 9), type := 34, pos := "law.go:93", after := #[{ on := 12, ground := Ground.guard }], guard := some (12, false) }) (v := ?_) rfl (by kernel_rfl) (by kernel_rfl) (by kernel_rfl) (fun _ _ _ h => h) (Or.inl ⟨by kernel_rfl, ?_⟩) (by assumption) ?_
      rotate_left
      · intro wS hSw; (try dsimp only at hSw); have c0 := (cell_below hSw.out (HT.out.cs 0 _ rfl)); have c1 := (cell_below hSw.out (HT.out.cs 1 _ rfl)); have c2 := (cell_below hSw.out (HT.out.cs 2 _ rfl)); go_simp; (try with_reducible rfl)
      try simp only [Act.put, List.setIfInBounds_toArray, List.set_cons_zero, List.set_cons_succ]
      refine wpAnyH_ready (rs := [14]) (by kernel_rfl) (by simp) ?_
      refine AllReadyH.cons (o := { dst := some 44, op := Op.buildSlice 32 1 #[(0, Operand.tmp 43)], type := 32, pos := "law.go:93", after := #[{ on := 13, ground := Ground.data }, { on := 12, ground := Ground.guard }], guard := some (12, false) }) rfl (fun K hK => ?_) AllReadyH.nil
      go_simp
      refine hK.out _ _ ?_ (fun hH14 => ?_)
      · (try dsimp only); exact (by repeat (first | exact Bel.refl _ | assumption | refine Bel.drew ?_ | refine Bel.drewN ?_ _ | refine Bel.alloc ?_ _ | refine Bel.setCell ?_ (by simp <;> omega) _ | refine Bel.step ?_ (by assumption)))
      clear hK K
      try simp only [Act.put, List.setIfInBounds_toArray, List.set_cons_zero, List.set_cons_succ]
      refine wpAnyH_ready (rs := [15]) (by kernel_rfl) (by simp) ?_
      refine AllReadyH.cons (o := { dst := some 45, op := Op.call { callee := Callee.value (Operand.func 18), args := #[Operand.const (Value.string { data := #[116, 114, 105, 109] }), Operand.tmp 44], argTypes := #[9, 32] }, type := 34, pos := "law.go:93", after := #[{ on := 14, ground := Ground.data }, { on := 12, ground := Ground.chain }, { on := 12, ground := Ground.guard }], guard := some (12, false) }) rfl (fun K hK => ?_) AllReadyH.nil
      go_simp
      have hcc := lcall_is (row1 (Bxc.new (n0 := 0) _ (Nat.zero_le _) _ 34) (HR.out.below hH14.out) I64_0) HAg.out.t2
      refine hcc.mono ?_
      rintro e wc15 ⟨rfl, hbc15⟩
      (try dsimp only)
      refine hK.out _ _ ?_ (fun hH15 => ?_)
      · (try dsimp only); exact (by repeat (first | exact Bel.refl _ | assumption | refine Bel.drew ?_ | refine Bel.drewN ?_ _ | refine Bel.alloc ?_ _ | refine Bel.setCell ?_ (by simp <;> omega) _ | refine Bel.step ?_ (by assumption)))
      clear hK K
      try simp only [Act.put, List.setIfInBounds_toArray, List.set_cons_zero, List.set_cons_succ]
      refine wpAnyH_take (i := 17) (oi := { dst := some 47, op := Op.binOp BinOp.neq 34 (Operand.tmp 45) (Operand.tmp 46) 34, type := 4, pos := "law.go:93", after := #[{ on := 15, ground := Ground.data }, { on := 16, ground := Ground.data }, { on := 12, ground := Ground.guard }], guard := some (12, false) }) (v := ?_) rfl (by kernel_rfl) (by kernel_rfl) (by kernel_rfl) (fun _ _ _ h => h) (Or.inl ⟨by kernel_rfl, ?_⟩) (by assumption) ?_
      rotate_left
      · intro wS hSw; (try dsimp only at hSw); have hq := ne34 4 0 t wS; go_simp; (try with_reducible rfl)
      try simp only [Act.put, List.setIfInBounds_toArray, List.set_cons_zero, List.set_cons_succ]
      refine wpAnyH_take (i := 18) (oi := { dst := some 48, op := Op.pick (Operand.tmp 42) (Operand.const (Value.bool true)) (Operand.tmp 47), type := 4, pos := "law.go:93", after := #[{ on := 12, ground := Ground.data }, { on := 17, ground := Ground.data }], guard := none }) (v := ?_) rfl (by kernel_rfl) (by kernel_rfl) (by kernel_rfl) (fun _ _ _ h => h) (Or.inl ⟨by kernel_rfl, ?_⟩) (by assumption) ?_
      rotate_left
      · intro wS hSw; (try dsimp only at hSw); go_simp; (try with_reducible rfl)
      try simp only [Act.put, List.setIfInBounds_toArray, List.set_cons_zero, List.set_cons_succ]
      refine wpAnyH_take (i := 19) (oi := { dst := some 49, op := Op.move (Operand.tmp 48), type := 4, pos := "law.go:93", after := #[{ on := 18, ground := Ground.data }, { on := 15, ground := Ground.chain }], guard := none }) (v := ?_) rfl (by kernel_rfl) (by kernel_rfl) (by kernel_rfl) (fun _ _ _ h => h) (Or.inl ⟨by kernel_rfl, ?_⟩) (by assumption) ?_
      rotate_left
      · intro wS hSw; (try dsimp only at hSw); go_simp; (try with_reducible rfl)
      try simp only [Act.put, List.setIfInBounds_toArray, List.set_cons_zero, List.set_cons_succ]
      refine wpAnyH_take (i := 20) (oi := { dst := some 50, op := Op.load 34 (Operand.tmp 8), type := 34, pos := "law.go:93", after := #[{ on := 19, ground := Ground.guard }], guard := some (19, false) }) (v := ?_) rfl (by kernel_rfl) (by kernel_rfl) (by kernel_rfl) (fun _ _ _ h => h) (Or.inl ⟨by kernel_rfl, ?_⟩) (by assumption) ?_
      rotate_left
      · intro wS hSw; (try dsimp only at hSw); have c0 := (cell_below hSw.out (HL.out.cs 0 _ rfl)); have c1 := (cell_below hSw.out (HL.out.cs 1 _ rfl)); have c2 := (cell_below hSw.out (HL.out.cs 2 _ rfl)); go_simp; (try with_reducible rfl)
      try simp only [Act.put, List.setIfInBounds_toArray, List.set_cons_zero, List.set_cons_succ]
      refine wpAnyH_take (i := 23) (oi := { dst := some 53, op := Op.load 34 (Operand.tmp 7), type := 34, pos := "law.go:93", after := #[{ on := 19, ground := Ground.guard }], guard := some (19, false) }) (v := ?_) rfl (by kernel_rfl) (by kernel_rfl) (by kernel_rfl) (fun _ _ _ h => h) (Or.inl ⟨by kernel_rfl, ?_⟩) (by assumption) ?_
      rotate_left
      · intro wS hSw; (try dsimp only at hSw); have c0 := (cell_below hSw.out (HU.out.cs 0 _ rfl)); have c1 := (cell_below hSw.out (HU.out.cs 1 _ rfl)); have c2 := (cell_below hSw.out (HU.out.cs 2 _ rfl)); go_simp; (try with_reducible rfl)
      try simp only [Act.put, List.setIfInBounds_toArray, List.set_cons_zero, List.set_cons_succ]
      refine wpAnyH_ready (rs := [21]) (by kernel_rfl) (by simp) ?_
      refine AllReadyH.cons (o := { dst := some 51, op := Op.buildSlice 32 1 #[(0, Operand.tmp 50)], type := 32, pos := "law.go:93", after := #[{ on := 20, ground := Ground.data }, { on := 19, ground := Ground.guard }], guard := some (19, false) }) rfl (fun K hK => ?_) AllReadyH.nil
      go_simp
      refine hK.out _ _ ?_ (fun hH21 => ?_)
      · (try dsimp only); exact (by repeat (first | exact Bel.refl _ | assumption | refine Bel.drew ?_ | refine Bel.drewN ?_ _ | refine Bel.alloc ?_ _ | refine Bel.setCell ?_ (by simp <;> omega) _ | refine Bel.step ?_ (by assumption)))
      clear hK K
      try simp only [Act.put, List.setIfInBounds_toArray, List.set_cons_zero, List.set_cons_succ]
      refine wpAnyH_ready (rs := [22]) (by kernel_rfl) (by simp) ?_
      refine AllReadyH.cons (o := { dst := some 52, op := Op.call { callee := Callee.value (Operand.func 18), args := #[Operand.const (Value.string { data := #[117, 112, 112, 101, 114] }), Operand.tmp 51], argTypes := #[9, 32] }, type := 34, pos := "law.go:93", after := #[{ on := 21, ground := Ground.data }, { on := 19, ground := Ground.chain }, { on := 19, ground := Ground.guard }], guard := some (19, false) }) rfl (fun K hK => ?_) AllReadyH.nil
      go_simp
      have hcc := lcall_is (row1 (Bxc.new (n0 := 0) _ (Nat.zero_le _) _ 34) (HR.out.below hH21.out) I64_0) HAg.out.ul
      refine hcc.mono ?_
      rintro e wc22 ⟨rfl, hbc22⟩
      (try dsimp only)
      refine hK.out _ _ ?_ (fun hH22 => ?_)
      · (try dsimp only); exact (by repeat (first | exact Bel.refl _ | assumption | refine Bel.drew ?_ | refine Bel.drewN ?_ _ | refine Bel.alloc ?_ _ | refine Bel.setCell ?_ (by simp <;> omega) _ | refine Bel.step ?_ (by assumption)))
      clear hK K
      try simp only [Act.put, List.setIfInBounds_toArray, List.set_cons_zero, List.set_cons_succ]
      refine wpAnyH_take (i := 24) (oi := { dst := some 54, op := Op.binOp BinOp.neq 34 (Operand.tmp 52) (Operand.tmp 53) 34, type := 4, pos := "law.go:93", after := #[{ on := 22, ground := Ground.data }, { on := 23, ground := Ground.data }, { on := 19, ground := Ground.guard }], guard := some (19, false) }) (v := ?_) rfl (by kernel_rfl) (by kernel_rfl) (by kernel_rfl) (fun _ _ _ h => h) (Or.inl ⟨by kernel_rfl, ?_⟩) (by assumption) ?_
      rotate_left
      · intro wS hSw; (try dsimp only at hSw); have hq := ne34 4 0 u wS; go_simp; (try with_reducible rfl)
      try simp only [Act.put, List.setIfInBounds_toArray, List.set_cons_zero, List.set_cons_succ]
      refine wpAnyH_take (i := 25) (oi := { dst := some 55, op := Op.pick (Operand.tmp 49) (Operand.const (Value.bool true)) (Operand.tmp 54), type := 4, pos := "law.go:93", after := #[{ on := 19, ground := Ground.data }, { on := 24, ground := Ground.data }], guard := none }) (v := ?_) rfl (by kernel_rfl) (by kernel_rfl) (by kernel_rfl) (fun _ _ _ h => h) (Or.inl ⟨by kernel_rfl, ?_⟩) (by assumption) ?_
      rotate_left
      · intro wS hSw; (try dsimp only at hSw); go_simp; (try with_reducible rfl)
      try simp only [Act.put, List.setIfInBounds_toArray, List.set_cons_zero, List.set_cons_succ]
      refine wpAnyH_take (i := 26) (oi := { dst := some 56, op := Op.move (Operand.tmp 55), type := 4, pos := "law.go:93", after := #[{ on := 25, ground := Ground.data }, { on := 22, ground := Ground.chain }], guard := none }) (v := ?_) rfl (by kernel_rfl) (by kernel_rfl) (by kernel_rfl) (fun _ _ _ h => h) (Or.inl ⟨by kernel_rfl, ?_⟩) (by assumption) ?_
      rotate_left
      · intro wS hSw; (try dsimp only at hSw); go_simp; (try with_reducible rfl)
      try simp only [Act.put, List.setIfInBounds_toArray, List.set_cons_zero, List.set_cons_succ]
      refine wpAnyH_take (i := 27) (oi := { dst := some 57, op := Op.load 34 (Operand.tmp 7), type := 34, pos := "law.go:93", after := #[{ on := 26, ground := Ground.guard }], guard := some (26, false) }) (v := ?_) rfl (by kernel_rfl) (by kernel_rfl) (by kernel_rfl) (fun _ _ _ h => h) (Or.inl ⟨by kernel_rfl, ?_⟩) (by assumption) ?_
      rotate_left
      · intro wS hSw; (try dsimp only at hSw); have c0 := (cell_below hSw.out (HU.out.cs 0 _ rfl)); have c1 := (cell_below hSw.out (HU.out.cs 1 _ rfl)); have c2 := (cell_below hSw.out (HU.out.cs 2 _ rfl)); go_simp; (try with_reducible rfl)
      try simp only [Act.put, List.setIfInBounds_toArray, List.set_cons_zero, List.set_cons_succ]
      refine wpAnyH_take (i := 30) (oi := { dst := some 60, op := Op.load 34 (Operand.tmp 8), type := 34, pos := "law.go:93", after := #[{ on := 26, ground := Ground.guard }], guard := some (26, false) }) (v := ?_) rfl (by kernel_rfl) (by kernel_rfl) (by kernel_rfl) (fun _ _ _ h => h) (Or.inl ⟨by kernel_rfl, ?_⟩) (by assumption) ?_
      rotate_left
      · intro wS hSw; (try dsimp only at hSw); have c0 := (cell_below hSw.out (HL.out.cs 0 _ rfl)); have c1 := (cell_below hSw.out (HL.out.cs 1 _ rfl)); have c2 := (cell_below hSw.out (HL.out.cs 2 _ rfl)); go_simp; (try with_reducible rfl)
      try simp only [Act.put, List.setIfInBounds_toArray, List.set_cons_zero, List.set_cons_succ]
      refine wpAnyH_ready (rs := [28]) (by kernel_rfl) (by simp) ?_
      refine AllReadyH.cons (o := { dst := some 58, op := Op.buildSlice 32 1 #[(0, Operand.tmp 57)], type := 32, pos := "law.go:93", after := #[{ on := 27, ground := Ground.data }, { on := 26, ground := Ground.guard }], guard := some (26, false) }) rfl (fun K hK => ?_) AllReadyH.nil
      go_simp
      refine hK.out _ _ ?_ (fun hH28 => ?_)
      · (try dsimp only); exact (by repeat (first | exact Bel.refl _ | assumption | refine Bel.drew ?_ | refine Bel.drewN ?_ _ | refine Bel.alloc ?_ _ | refine Bel.setCell ?_ (by simp <;> omega) _ | refine Bel.step ?_ (by assumption)))
      clear hK K
      try simp only [Act.put, List.setIfInBounds_toArray, List.set_cons_zero, List.set_cons_succ]
      refine wpAnyH_ready (rs := [29]) (by kernel_rfl) (by simp) ?_
      refine AllReadyH.cons (o := { dst := some 59, op := Op.call { callee := Callee.value (Operand.func 18), args := #[Operand.const (Value.string { data := #[108, 111, 119, 101, 114] }), Operand.tmp 58], argTypes := #[9, 32] }, type := 34, pos := "law.go:93", after := #[{ on := 28, ground := Ground.data }, { on := 26, ground := Ground.chain }, { on := 26, ground := Ground.guard }], guard := some (26, false) }) rfl (fun K hK => ?_) AllReadyH.nil
      go_simp
      have hcc := lcall_is (row1 (Bxc.new (n0 := 0) _ (Nat.zero_le _) _ 34) (HR.out.below hH28.out) I64_0) HAg.out.lu
      refine hcc.mono ?_
      rintro e wc29 ⟨rfl, hbc29⟩
      (try dsimp only)
      refine hK.out _ _ ?_ (fun hH29 => ?_)
      · (try dsimp only); exact (by repeat (first | exact Bel.refl _ | assumption | refine Bel.drew ?_ | refine Bel.drewN ?_ _ | refine Bel.alloc ?_ _ | refine Bel.setCell ?_ (by simp <;> omega) _ | refine Bel.step ?_ (by assumption)))
      clear hK K
      try simp only [Act.put, List.setIfInBounds_toArray, List.set_cons_zero, List.set_cons_succ]
      refine wpAnyH_take (i := 31) (oi := { dst := some 61, op := Op.binOp BinOp.neq 34 (Operand.tmp 59) (Operand.tmp 60) 34, type := 4, pos := "law.go:93", after := #[{ on := 29, ground := Ground.data }, { on := 30, ground := Ground.data }, { on := 26, ground := Ground.guard }], guard := some (26, false) }) (v := ?_) rfl (by kernel_rfl) (by kernel_rfl) (by kernel_rfl) (fun _ _ _ h => h) (Or.inl ⟨by kernel_rfl, ?_⟩) (by assumption) ?_
      rotate_left
      · intro wS hSw; (try dsimp only at hSw); have hq := ne34 4 0 l wS; go_simp; (try with_reducible rfl)
      try simp only [Act.put, List.setIfInBounds_toArray, List.set_cons_zero, List.set_cons_succ]
      refine wpAnyH_take (i := 32) (oi := { dst := some 62, op := Op.pick (Operand.tmp 56) (Operand.const (Value.bool true)) (Operand.tmp 61), type := 4, pos := "law.go:93", after := #[{ on := 26, ground := Ground.data }, { on := 31, ground := Ground.data }], guard := none }) (v := ?_) rfl (by kernel_rfl) (by kernel_rfl) (by kernel_rfl) (fun _ _ _ h => h) (Or.inl ⟨by kernel_rfl, ?_⟩) (by assumption) ?_
      rotate_left
      · intro wS hSw; (try dsimp only at hSw); go_simp; (try with_reducible rfl)
      try simp only [Act.put, List.setIfInBounds_toArray, List.set_cons_zero, List.set_cons_succ]
      refine wpAnyH_done (by kernel_rfl) ?_ _
      have HD : Hid (Bxc nd b6 [.int .i64 3, .int .i64 x, .string ⟨#[]⟩] wc29) := HD.out.below hH29.out
      have HRn5 : Hid (Ready wc29) := HR.out.below hH29.out
      have HR : Hid (Ready wc29) := HRn5.out
      have HBW : Hid (Bel w.heap.size w wc29) := HBW.out.step hH29.out
      obtain ⟨w5, he⟩ : ∃ u, u = wc29 := ⟨_, rfl⟩
      rw [← he] at HR HBW HD ⊢
      clear he HRn5
      go_wp2
      refine wp_region_held_drew (S := (fun wS => Bel w5.heap.size w5 wS)) (by kernel_rfl) ?_ (fun hHeld => ?_)
      · exact (Bel.refl _).drew
      refine wpAnyH_take (i := 0) (oi := { dst := some 63, op := Op.load 34 (Operand.tmp 6), type := 34, pos := "law.go:97", after := #[], guard := none }) (v := ?_) rfl (by kernel_rfl) (by kernel_rfl) (by kernel_rfl) (fun _ _ _ h => h) (Or.inl ⟨by kernel_rfl, ?_⟩) (by assumption) ?_
      rotate_left
      · intro wS hSw; (try dsimp only at hSw); have d0 := cell_below hSw.out (HD.out.cs 0 _ rfl); have d1 := cell_below hSw.out (HD.out.cs 1 _ rfl); have d2 := cell_below hSw.out (HD.out.cs 2 _ rfl); go_simp; (try with_reducible rfl)
      try simp only [Act.put, List.setIfInBounds_toArray, List.set_cons_zero, List.set_cons_succ]
      refine wpAnyH_take (i := 3) (oi := { dst := some 66, op := Op.load 34 (Operand.tmp 6), type := 34, pos := "law.go:97", after := #[], guard := none }) (v := ?_) rfl (by kernel_rfl) (by kernel_rfl) (by kernel_rfl) (fun _ _ _ h => h) (Or.inl ⟨by kernel_rfl, ?_⟩) (by assumption) ?_
      rotate_left
      · intro wS hSw; (try dsimp only at hSw); have d0 := cell_below hSw.out (HD.out.cs 0 _ rfl); have d1 := cell_below hSw.out (HD.out.cs 1 _ rfl); have d2 := cell_below hSw.out (HD.out.cs 2 _ rfl); go_simp; (try with_reducible rfl)
      try simp only [Act.put, List.setIfInBounds_toArray, List.set_cons_zero, List.set_cons_succ]
      refine wpAnyH_take (i := 6) (oi := { dst := some 69, op := Op.load 34 (Operand.tmp 6), type := 34, pos := "law.go:97", after := #[], guard := none }) (v := ?_) rfl (by kernel_rfl) (by kernel_rfl) (by kernel_rfl) (fun _ _ _ h => h) (Or.inl ⟨by kernel_rfl, ?_⟩) (by assumption) ?_
      rotate_left
      · intro wS hSw; (try dsimp only at hSw); have d0 := cell_below hSw.out (HD.out.cs 0 _ rfl); have d1 := cell_below hSw.out (HD.out.cs 1 _ rfl); have d2 := cell_below hSw.out (HD.out.cs 2 _ rfl); go_simp; (try with_reducible rfl)
      try simp only [Act.put, List.setIfInBounds_toArray, List.set_cons_zero, List.set_cons_succ]
      refine wpAnyH_take (i := 9) (oi := { dst := some 72, op := Op.load 34 (Operand.tmp 6), type := 34, pos := "law.go:97", after := #[], guard := none }) (v := ?_) rfl (by kernel_rfl) (by kernel_rfl) (by kernel_rfl) (fun _ _ _ h => h) (Or.inl ⟨by kernel_rfl, ?_⟩) (by assumption) ?_
      rotate_left
      · intro wS hSw; (try dsimp only at hSw); have d0 := cell_below hSw.out (HD.out.cs 0 _ rfl); have d1 := cell_below hSw.out (HD.out.cs 1 _ rfl); have d2 := cell_below hSw.out (HD.out.cs 2 _ rfl); go_simp; (try with_reducible rfl)
      try simp only [Act.put, List.setIfInBounds_toArray, List.set_cons_zero, List.set_cons_succ]
      obtain ⟨E6, hE6⟩ : ∃ E : List OpE, E = [{ slot := 2000 }, { slot := 64, row := some (2, 1, [.int .i64 3, .int .i64 x, .string ⟨#[]⟩]) }, { slot := 65, cal := some (.agg #[.int .i64 2, .int .i64 f, .string ⟨#[]⟩]) }, { slot := 2003 }, { slot := 67, row := some (5, 1, [.int .i64 3, .int .i64 x, .string ⟨#[]⟩]) }, { slot := 68, cal := some (.agg #[.int .i64 2, .int .i64 c, .string ⟨#[]⟩]) }, { slot := 2006 }, { slot := 70, row := some (8, 1, [.int .i64 3, .int .i64 x, .string ⟨#[]⟩]) }, { slot := 71, cal := some (.agg #[.int .i64 2, .int .i64 r, .string ⟨#[]⟩]) }, { slot := 2009 }, { slot := 73, row := some (11, 1, [.int .i64 3, .int .i64 x, .string ⟨#[]⟩]) }, { slot := 74, cal := some (.agg #[.int .i64 2, .int .i64 i, .string ⟨#[]⟩]) }, { slot := 10, box := some (16, [.int .i64 0, .int .i64 0, .string ⟨#[]⟩], [.int .i64 2, .int .i64 f, .string ⟨#[]⟩]) }, { slot := 11, box := some (17, [.int .i64 0, .int .i64 0, .string ⟨#[]⟩], [.int .i64 2, .int .i64 c, .string ⟨#[]⟩]) }, { slot := 12, box := some (18, [.int .i64 0, .int .i64 0, .string ⟨#[]⟩], [.int .i64 2, .int .i64 r, .string ⟨#[]⟩]) }, { slot := 13, box := some (19, [.int .i64 0, .int .i64 0, .string ⟨#[]⟩], [.int .i64 2, .int .i64 i, .string ⟨#[]⟩]) }, { slot := 1016 }, { slot := 1017 }, { slot := 1018 }, { slot := 1019 }] := ⟨_, rfl⟩
      have hwf6 : Hid (wfE E6 = true) := by show _ = _; rw [hE6]; kernel_rfl
      have hE6_1 : Hid (E6[1]? = some { slot := 64, row := some (2, 1, [.int .i64 3, .int .i64 x, .string ⟨#[]⟩]) }) := by show _ = _; rw [hE6]; rfl
      have hE6_2 : Hid (E6[2]? = some { slot := 65, cal := some (.agg #[.int .i64 2, .int .i64 f, .string ⟨#[]⟩]) }) := by show _ = _; rw [hE6]; rfl
      have hE6_4 : Hid (E6[4]? = some { slot := 67, row := some (5, 1, [.int .i64 3, .int .i64 x, .string ⟨#[]⟩]) }) := by show _ = _; rw [hE6]; rfl
      have hE6_5 : Hid (E6[5]? = some { slot := 68, cal := some (.agg #[.int .i64 2, .int .i64 c, .string ⟨#[]⟩]) }) := by show _ = _; rw [hE6]; rfl
      have hE6_7 : Hid (E6[7]? = some { slot := 70, row := some (8, 1, [.int .i64 3, .int .i64 x, .string ⟨#[]⟩]) }) := by show _ = _; rw [hE6]; rfl
      have hE6_8 : Hid (E6[8]? = some { slot := 71, cal := some (.agg #[.int .i64 2, .int .i64 r, .string ⟨#[]⟩]) }) := by show _ = _; rw [hE6]; rfl
      have hE6_10 : Hid (E6[10]? = some { slot := 73, row := some (11, 1, [.int .i64 3, .int .i64 x, .string ⟨#[]⟩]) }) := by show _ = _; rw [hE6]; rfl
      have hE6_11 : Hid (E6[11]? = some { slot := 74, cal := some (.agg #[.int .i64 2, .int .i64 i, .string ⟨#[]⟩]) }) := by show _ = _; rw [hE6]; rfl
      have hE6_12 : Hid (E6[12]? = some { slot := 10, box := some (16, [.int .i64 0, .int .i64 0, .string ⟨#[]⟩], [.int .i64 2, .int .i64 f, .string ⟨#[]⟩]) }) := by show _ = _; rw [hE6]; rfl
      have hE6_13 : Hid (E6[13]? = some { slot := 11, box := some (17, [.int .i64 0, .int .i64 0, .string ⟨#[]⟩], [.int .i64 2, .int .i64 c, .string ⟨#[]⟩]) }) := by show _ = _; rw [hE6]; rfl
      have hE6_14 : Hid (E6[14]? = some { slot := 12, box := some (18, [.int .i64 0, .int .i64 0, .string ⟨#[]⟩], [.int .i64 2, .int .i64 r, .string ⟨#[]⟩]) }) := by show _ = _; rw [hE6]; rfl
      have hE6_15 : Hid (E6[15]? = some { slot := 13, box := some (19, [.int .i64 0, .int .i64 0, .string ⟨#[]⟩], [.int .i64 2, .int .i64 i, .string ⟨#[]⟩]) }) := by show _ = _; rw [hE6]; rfl
      have hE6_16 : Hid (E6[16]? = some { slot := 1016 }) := by show _ = _; rw [hE6]; rfl
      have hE6_17 : Hid (E6[17]? = some { slot := 1017 }) := by show _ = _; rw [hE6]; rfl
      have hE6_18 : Hid (E6[18]? = some { slot := 1018 }) := by show _ = _; rw [hE6]; rfl
      have hE6_19 : Hid (E6[19]? = some { slot := 1019 }) := by show _ = _; rw [hE6]; rfl
      have hst6 := fun lq (h : stB [{ slot := 2000 }, { slot := 64, row := some (2, 1, [.int .i64 3, .int .i64 x, .string ⟨#[]⟩]) }, { slot := 65, cal := some (.agg #[.int .i64 2, .int .i64 f, .string ⟨#[]⟩]) }, { slot := 2003 }, { slot := 67, row := some (5, 1, [.int .i64 3, .int .i64 x, .string ⟨#[]⟩]) }, { slot := 68, cal := some (.agg #[.int .i64 2, .int .i64 c, .string ⟨#[]⟩]) }, { slot := 2006 }, { slot := 70, row := some (8, 1, [.int .i64 3, .int .i64 x, .string ⟨#[]⟩]) }, { slot := 71, cal := some (.agg #[.int .i64 2, .int .i64 r, .string ⟨#[]⟩]) }, { slot := 2009 }, { slot := 73, row := some (11, 1, [.int .i64 3, .int .i64 x, .string ⟨#[]⟩]) }, { slot := 74, cal := some (.agg #[.int .i64 2, .int .i64 i, .string ⟨#[]⟩]) }, { slot := 10, box := some (16, [.int .i64 0, .int .i64 0, .string ⟨#[]⟩], [.int .i64 2, .int .i64 f, .string ⟨#[]⟩]) }, { slot := 11, box := some (17, [.int .i64 0, .int .i64 0, .string ⟨#[]⟩], [.int .i64 2, .int .i64 c, .string ⟨#[]⟩]) }, { slot := 12, box := some (18, [.int .i64 0, .int .i64 0, .string ⟨#[]⟩], [.int .i64 2, .int .i64 r, .string ⟨#[]⟩]) }, { slot := 13, box := some (19, [.int .i64 0, .int .i64 0, .string ⟨#[]⟩], [.int .i64 2, .int .i64 i, .string ⟨#[]⟩]) }, { slot := 1016 }, { slot := 1017 }, { slot := 1018 }, { slot := 1019 }] lq = true) => stB_spec (E := E6) (l := lq) (by rw [hE6]; exact h)
      clear hE6
      refine wpAnyH_by (I := fun L X w' => Rgc w5 E6 L X w') (ds := [64, 65, 67, 68, 70, 71, 73, 74, 10, 11, 12, 13]) [1, 2, 4, 5, 7, 8, 10, 11, 12, 13, 14, 15, 16, 17, 18, 19] (by kernel_rfl) rfl (by kernel_rfl) (by kernel_rfl) (fun _ _ _ h => h.bel) (Rgc.start (by assumption) (hst6 _ (by kernel_rfl))) ?_ ?_
      · clear hHeld
        refine AllI.consW 1 { dst := some 64, op := Op.buildSlice 32 1 #[(0, Operand.tmp 63)], type := 32, pos := "law.go:97", after := #[{ on := 0, ground := Ground.data }], guard := none } (by kernel_rfl) rfl ?_ (AllI.consW 2 { dst := some 65, op := Op.call { callee := Callee.value (Operand.func 18), args := #[Operand.const (Value.string { data := #[102, 108, 111, 111, 114] }), Operand.tmp 64], argTypes := #[9, 32] }, type := 34, pos := "law.go:97", after := #[{ on := 1, ground := Ground.data }], guard := none } (by kernel_rfl) rfl ?_ (AllI.consW 4 { dst := some 67, op := Op.buildSlice 32 1 #[(0, Operand.tmp 66)], type := 32, pos := "law.go:97", after := #[{ on := 3, ground := Ground.data }], guard := none } (by kernel_rfl) rfl ?_ (AllI.consW 5 { dst := some 68, op := Op.call { callee := Callee.value (Operand.func 18), args := #[Operand.const (Value.string { data := #[99, 101, 105, 108] }), Operand.tmp 67], argTypes := #[9, 32] }, type := 34, pos := "law.go:97", after := #[{ on := 4, ground := Ground.data }, { on := 2, ground := Ground.chain }], guard := none } (by kernel_rfl) rfl ?_ (AllI.consW 7 { dst := some 70, op := Op.buildSlice 32 1 #[(0, Operand.tmp 69)], type := 32, pos := "law.go:97", after := #[{ on := 6, ground := Ground.data }], guard := none } (by kernel_rfl) rfl ?_ (AllI.consW 8 { dst := some 71, op := Op.call { callee := Callee.value (Operand.func 18), args := #[Operand.const (Value.string { data := #[114, 111, 117, 110, 100] }), Operand.tmp 70], argTypes := #[9, 32] }, type := 34, pos := "law.go:97", after := #[{ on := 7, ground := Ground.data }, { on := 5, ground := Ground.chain }], guard := none } (by kernel_rfl) rfl ?_ (AllI.consW 10 { dst := some 73, op := Op.buildSlice 32 1 #[(0, Operand.tmp 72)], type := 32, pos := "law.go:97", after := #[{ on := 9, ground := Ground.data }], guard := none } (by kernel_rfl) rfl ?_ (AllI.consW 11 { dst := some 74, op := Op.call { callee := Callee.value (Operand.func 18), args := #[Operand.const (Value.string { data := #[116, 111, 105, 110, 116] }), Operand.tmp 73], argTypes := #[9, 32] }, type := 34, pos := "law.go:97", after := #[{ on := 10, ground := Ground.data }, { on := 8, ground := Ground.chain }], guard := none } (by kernel_rfl) rfl ?_ (AllI.consW 12 { dst := some 10, op := Op.alloc 34, type := 0, pos := "law.go:97", after := #[], guard := none } (by kernel_rfl) rfl ?_ (AllI.consW 13 { dst := some 11, op := Op.alloc 34, type := 0, pos := "law.go:97", after := #[], guard := none } (by kernel_rfl) rfl ?_ (AllI.consW 14 { dst := some 12, op := Op.alloc 34, type := 0, pos := "law.go:97", after := #[], guard := none } (by kernel_rfl) rfl ?_ (AllI.consW 15 { dst := some 13, op := Op.alloc 34, type := 0, pos := "law.go:97", after := #[], guard := none } (by kernel_rfl) rfl ?_ (AllI.consW 16 { dst := none, op := Op.store 34 (Operand.tmp 10) (Operand.tmp 65), type := 0, pos := "law.go:97", after := #[{ on := 12, ground := Ground.data }, { on := 2, ground := Ground.data }, { on := 11, ground := Ground.chain }, { on := 0, ground := Ground.phase }, { on := 1, ground := Ground.phase }, { on := 2, ground := Ground.phase }, { on := 3, ground := Ground.textOnly Departure.lateStores }, { on := 4, ground := Ground.textOnly Departure.lateStores }, { on := 5, ground := Ground.textOnly Departure.lateStoresUnsure }, { on := 6, ground := Ground.textOnly Departure.lateStores }, { on := 7, ground := Ground.textOnly Departure.lateStores }, { on := 8, ground := Ground.textOnly Departure.lateStoresUnsure }, { on := 9, ground := Ground.textOnly Departure.lateStores }, { on := 10, ground := Ground.textOnly Departure.lateStores }, { on := 11, ground := Ground.textOnly Departure.lateStoresUnsure }, { on := 12, ground := Ground.phase }, { on := 13, ground := Ground.phase }, { on := 14, ground := Ground.phase }, { on := 15, ground := Ground.phase }], guard := none } (by kernel_rfl) rfl ?_ (AllI.consW 17 { dst := none, op := Op.store 34 (Operand.tmp 11) (Operand.tmp 68), type := 0, pos := "law.go:97", after := #[{ on := 13, ground := Ground.data }, { on := 5, ground := Ground.data }, { on := 16, ground := Ground.chain }, { on := 0, ground := Ground.phase }, { on := 1, ground := Ground.phase }, { on := 2, ground := Ground.phase }, { on := 3, ground := Ground.phase }, { on := 4, ground := Ground.phase }, { on := 5, ground := Ground.phase }, { on := 6, ground := Ground.textOnly Departure.lateStores }, { on := 7, ground := Ground.textOnly Departure.lateStores }, { on := 8, ground := Ground.textOnly Departure.lateStoresUnsure }, { on := 9, ground := Ground.textOnly Departure.lateStores }, { on := 10, ground := Ground.textOnly Departure.lateStores }, { on := 11, ground := Ground.textOnly Departure.lateStoresUnsure }, { on := 12, ground := Ground.phase }, { on := 13, ground := Ground.phase }, { on := 14, ground := Ground.phase }, { on := 15, ground := Ground.phase }, { on := 16, ground := Ground.phase }], guard := none } (by kernel_rfl) rfl ?_ (AllI.consW 18 { dst := none, op := Op.store 34 (Operand.tmp 12) (Operand.tmp 71), type := 0, pos := "law.go:97", after := #[{ on := 14, ground := Ground.data }, { on := 8, ground := Ground.data }, { on := 17, ground := Ground.chain }, { on := 0, ground := Ground.phase }, { on := 1, ground := Ground.phase }, { on := 2, ground := Ground.phase }, { on := 3, ground := Ground.phase }, { on := 4, ground := Ground.phase }, { on := 5, ground := Ground.phase }, { on := 6, ground := Ground.phase }, { on := 7, ground := Ground.phase }, { on := 8, ground := Ground.phase }, { on := 9, ground := Ground.textOnly Departure.lateStores }, { on := 10, ground := Ground.textOnly Departure.lateStores }, { on := 11, ground := Ground.textOnly Departure.lateStoresUnsure }, { on := 12, ground := Ground.phase }, { on := 13, ground := Ground.phase }, { on := 14, ground := Ground.phase }, { on := 15, ground := Ground.phase }, { on := 16, ground := Ground.phase }, { on := 17, ground := Ground.phase }], guard := none } (by kernel_rfl) rfl ?_ (AllI.consW 19 { dst := none, op := Op.store 34 (Operand.tmp 13) (Operand.tmp 74), type := 0, pos := "law.go:97", after := #[{ on := 15, ground := Ground.data }, { on := 11, ground := Ground.data }, { on := 18, ground := Ground.chain }, { on := 0, ground := Ground.phase }, { on := 1, ground := Ground.phase }, { on := 2, ground := Ground.phase }, { on := 3, ground := Ground.phase }, { on := 4, ground := Ground.phase }, { on := 5, ground := Ground.phase }, { on := 6, ground := Ground.phase }, { on := 7, ground := Ground.phase }, { on := 8, ground := Ground.phase }, { on := 9, ground := Ground.phase }, { on := 10, ground := Ground.phase }, { on := 11, ground := Ground.phase }, { on := 12, ground := Ground.phase }, { on := 13, ground := Ground.phase }, { on := 14, ground := Ground.phase }, { on := 15, ground := Ground.phase }, { on := 16, ground := Ground.phase }, { on := 17, ground := Ground.phase }, { on := 18, ground := Ground.phase }], guard := none } (by kernel_rfl) rfl ?_ (AllI.nil))))))))))))))))
        · intro L X w1 hI hL hd K hK
          have HN : Hid _ := Rgc.stepR hI hwf6.out hE6_1.out rfl rfl rfl 34
          have HK : Hid _ := hK
          clear hK hI hd
          refine Wrap.mk ?_
          simp only [putL, Act.put, List.setIfInBounds_toArray, List.set_cons_zero, List.set_cons_succ, updV, Nat.reduceBEq, Bool.false_eq_true, if_false, if_true]
          go_simp
          exact Shut.use HK.out _ (by kernel_rfl) HN.out
        · intro L X w1 hI hL hd K hK
          obtain ⟨g1, x1, B1⟩ := hI.row 1 _ _ _ _ hE6_1.out rfl (hd 1 (by kernel_rfl)) hL
          obtain ⟨Y, rfl⟩ : ∃ Y, X = updV Y 64 (.slice (some ⟨g1, 0, none⟩) 1 1) := ⟨X, by rw [updV_self x1]⟩
          clear x1
          have HK : Hid _ := hK
          have HI : Hid _ := hI
          clear hK hI hd
          have hcc := lcall_is (row1 B1 (HR.out.below HI.out.bel.out) HX.out) HNu.out.f1
          refine Wrap.mk ?_
          simp only [putL, Act.put, List.setIfInBounds_toArray, List.set_cons_zero, List.set_cons_succ, updV, Nat.reduceBEq, Bool.false_eq_true, if_false, if_true]
          go_simp
          refine (hcc).mono ?_
          rintro e w2 ⟨rfl, hb1⟩
          (try dsimp only)
          try simp only [Act.put, List.setIfInBounds_toArray, List.set_cons_zero, List.set_cons_succ]
          exact Shut.use HK.out _ (by kernel_rfl) (Rgc.stepC (HI.out.below hb1) hwf6.out hE6_2.out rfl rfl rfl hL)
        · intro L X w1 hI hL hd K hK
          have HN : Hid _ := Rgc.stepR hI hwf6.out hE6_4.out rfl rfl rfl 34
          have HK : Hid _ := hK
          clear hK hI hd
          refine Wrap.mk ?_
          simp only [putL, Act.put, List.setIfInBounds_toArray, List.set_cons_zero, List.set_cons_succ, updV, Nat.reduceBEq, Bool.false_eq_true, if_false, if_true]
          go_simp
          exact Shut.use HK.out _ (by kernel_rfl) HN.out
        · intro L X w1 hI hL hd K hK
          obtain ⟨g4, x4, B4⟩ := hI.row 4 _ _ _ _ hE6_4.out rfl (hd 4 (by kernel_rfl)) hL
          obtain ⟨Y, rfl⟩ : ∃ Y, X = updV Y 67 (.slice (some ⟨g4, 0, none⟩) 1 1) := ⟨X, by rw [updV_self x4]⟩
          clear x4
          have HK : Hid _ := hK
          have HI : Hid _ := hI
          clear hK hI hd
          have hcc := lcall_is (row1 B4 (HR.out.below HI.out.bel.out) HX.out) HNu.out.c1
          refine Wrap.mk ?_
          simp only [putL, Act.put, List.setIfInBounds_toArray, List.set_cons_zero, List.set_cons_succ, updV, Nat.reduceBEq, Bool.false_eq_true, if_false, if_true]
          go_simp
          refine (hcc).mono ?_
          rintro e w2 ⟨rfl, hb1⟩
          (try dsimp only)
          try simp only [Act.put, List.setIfInBounds_toArray, List.set_cons_zero, List.set_cons_succ]
          exact Shut.use HK.out _ (by kernel_rfl) (Rgc.stepC (HI.out.below hb1) hwf6.out hE6_5.out rfl rfl rfl hL)
        · intro L X w1 hI hL hd K hK
          have HN : Hid _ := Rgc.stepR hI hwf6.out hE6_7.out rfl rfl rfl 34
          have HK : Hid _ := hK
          clear hK hI hd
          refine Wrap.mk ?_
          simp only [putL, Act.put, List.setIfInBounds_toArray, List.set_cons_zero, List.set_cons_succ, updV, Nat.reduceBEq, Bool.false_eq_true, if_false, if_true]
          go_simp
          exact Shut.use HK.out _ (by kernel_rfl) HN.out
        · intro L X w1 hI hL hd K hK
          obtain ⟨g7, x7, B7⟩ := hI.row 7 _ _ _ _ hE6_7.out rfl (hd 7 (by kernel_rfl)) hL
          obtain ⟨Y, rfl⟩ : ∃ Y, X = updV Y 70 (.slice (some ⟨g7, 0, none⟩) 1 1) := ⟨X, by rw [updV_self x7]⟩
          clear x7
          have HK : Hid _ := hK
          have HI : Hid _ := hI
          clear hK hI hd
          have hcc := lcall_is (row1 B7 (HR.out.below HI.out.bel.out) HX.out) HNu.out.r1
          refine Wrap.mk ?_
          simp only [putL, Act.put, List.setIfInBounds_toArray, List.set_cons_zero, List.set_cons_succ, updV, Nat.reduceBEq, Bool.false_eq_true, if_false, if_true]
          go_simp
          refine (hcc).mono ?_
          rintro e w2 ⟨rfl, hb1⟩
          (try dsimp only)
          try simp only [Act.put, List.setIfInBounds_toArray, List.set_cons_zero, List.set_cons_succ]
          exact Shut.use HK.out _ (by kernel_rfl) (Rgc.stepC (HI.out.below hb1) hwf6.out hE6_8.out rfl rfl rfl hL)
        · intro L X w1 hI hL hd K hK
          have HN : Hid _ := Rgc.stepR hI hwf6.out hE6_10.out rfl rfl rfl 34
          have HK : Hid _ := hK
          clear hK hI hd
          refine Wrap.mk ?_
          simp only [putL, Act.put, List.setIfInBounds_toArray, List.set_cons_zero, List.set_cons_succ, updV, Nat.reduceBEq, Bool.false_eq_true, if_false, if_true]
          go_simp
          exact Shut.use HK.out _ (by kernel_rfl) HN.out
        · intro L X w1 hI hL hd K hK
          obtain ⟨g10, x10, B10⟩ := hI.row 10 _ _ _ _ hE6_10.out rfl (hd 10 (by kernel_rfl)) hL
          obtain ⟨Y, rfl⟩ : ∃ Y, X = updV Y 73 (.slice (some ⟨g10, 0, none⟩) 1 1) := ⟨X, by rw [updV_self x10]⟩
          clear x10
          have HK : Hid _ := hK
          have HI : Hid _ := hI
          clear hK hI hd
          have hcc := lcall_is (row1 B10 (HR.out.below HI.out.bel.out) HX.out) HNu.out.i1
          refine Wrap.mk ?_
          simp only [putL, Act.put, List.setIfInBounds_toArray, List.set_cons_zero, List.set_cons_succ, updV, Nat.reduceBEq, Bool.false_eq_true, if_false, if_true]
          go_simp
          refine (hcc).mono ?_
          rintro e w2 ⟨rfl, hb1⟩
          (try dsimp only)
          try simp only [Act.put, List.setIfInBounds_toArray, List.set_cons_zero, List.set_cons_succ]
          exact Shut.use HK.out _ (by kernel_rfl) (Rgc.stepC (HI.out.below hb1) hwf6.out hE6_11.out rfl rfl rfl hL)
        · intro L X w1 hI hL hd K hK
          have HN : Hid _ := Rgc.stepB hI hwf6.out hE6_12.out rfl rfl rfl hL 34
          have HK : Hid _ := hK
          clear hK hI hd
          refine Wrap.mk ?_
          simp only [putL, Act.put, List.setIfInBounds_toArray, List.set_cons_zero, List.set_cons_succ, updV, Nat.reduceBEq, Bool.false_eq_true, if_false, if_true]
          go_simp
          exact Shut.use HK.out _ (by kernel_rfl) HN.out
        · intro L X w1 hI hL hd K hK
          have HN : Hid _ := Rgc.stepB hI hwf6.out hE6_13.out rfl rfl rfl hL 34
          have HK : Hid _ := hK
          clear hK hI hd
          refine Wrap.mk ?_
          simp only [putL, Act.put, List.setIfInBounds_toArray, List.set_cons_zero, List.set_cons_succ, updV, Nat.reduceBEq, Bool.false_eq_true, if_false, if_true]
          go_simp
          exact Shut.use HK.out _ (by kernel_rfl) HN.out
        · intro L X w1 hI hL hd K hK
          have HN : Hid _ := Rgc.stepB hI hwf6.out hE6_14.out rfl rfl rfl hL 34
          have HK : Hid _ := hK
          clear hK hI hd
          refine Wrap.mk ?_
          simp only [putL, Act.put, List.setIfInBounds_toArray, List.set_cons_zero, List.set_cons_succ, updV, Nat.reduceBEq, Bool.false_eq_true, if_false, if_true]
          go_simp
          exact Shut.use HK.out _ (by kernel_rfl) HN.out
        · intro L X w1 hI hL hd K hK
          have HN : Hid _ := Rgc.stepB hI hwf6.out hE6_15.out rfl rfl rfl hL 34
          have HK : Hid _ := hK
          clear hK hI hd
          refine Wrap.mk ?_
          simp only [putL, Act.put, List.setIfInBounds_toArray, List.set_cons_zero, List.set_cons_succ, updV, Nat.reduceBEq, Bool.false_eq_true, if_false, if_true]
          go_simp
          exact Shut.use HK.out _ (by kernel_rfl) HN.out
        · intro L X w1 hI hL hd K hK
          have x2 : X 65 = .agg #[.int .i64 2, .int .i64 f, .string ⟨#[]⟩] := hI.cal 2 _ _ hE6_2.out rfl (hd 2 (by kernel_rfl))
          have hd12 := hd 12 (by kernel_rfl)
          obtain ⟨g12, x12, B12⟩ := hI.box 12 { slot := 10, box := some (16, [.int .i64 0, .int .i64 0, .string ⟨#[]⟩], [.int .i64 2, .int .i64 f, .string ⟨#[]⟩]) } (16) ([.int .i64 0, .int .i64 0, .string ⟨#[]⟩]) ([.int .i64 2, .int .i64 f, .string ⟨#[]⟩]) hE6_12.out rfl hd12
          rw [hL] at B12
          obtain ⟨Y, rfl⟩ : ∃ Y, X = updV (updV Y 65 (.agg #[.int .i64 2, .int .i64 f, .string ⟨#[]⟩])) 10 (.pointer (some ⟨g12, 0, none⟩)) := ⟨X, by rw [updV_self x2, updV_self x12]⟩
          clear x2 x12
          have hN := Rgc.stepS hI hwf6.out hE6_12.out rfl hE6_16.out (hd 12 (by kernel_rfl)) (show (updV (updV Y 65 (.agg #[.int .i64 2, .int .i64 f, .string ⟨#[]⟩])) 10 (.pointer (some ⟨g12, 0, none⟩))) 10 = .pointer (some ⟨g12, 0, none⟩) by simp only [updV, Nat.reduceBEq, Bool.false_eq_true, if_false, if_true])
          have c0 := B12.cs 0 _ rfl
          have c1 := B12.cs 1 _ rfl
          have c2 := B12.cs 2 _ rfl
          have hfr := B12.fr
          have hlt := B12.lt
          have HN : Hid _ := hN
          have HK : Hid _ := hK
          clear hN hK hI hd B12
          refine Wrap.mk ?_
          simp only [putL, Act.put, List.setIfInBounds_toArray, List.set_cons_zero, List.set_cons_succ, updV, Nat.reduceBEq, Bool.false_eq_true, if_false, if_true]
          go_simp
          exact Shut.use HK.out (updV (updV Y 65 (.agg #[.int .i64 2, .int .i64 f, .string ⟨#[]⟩])) 10 (.pointer (some ⟨g12, 0, none⟩))) (by kernel_rfl) HN.out
        · intro L X w1 hI hL hd K hK
          have x5 : X 68 = .agg #[.int .i64 2, .int .i64 c, .string ⟨#[]⟩] := hI.cal 5 _ _ hE6_5.out rfl (hd 5 (by kernel_rfl))
          have hd13 := hd 13 (by kernel_rfl)
          obtain ⟨g13, x13, B13⟩ := hI.box 13 { slot := 11, box := some (17, [.int .i64 0, .int .i64 0, .string ⟨#[]⟩], [.int .i64 2, .int .i64 c, .string ⟨#[]⟩]) } (17) ([.int .i64 0, .int .i64 0, .string ⟨#[]⟩]) ([.int .i64 2, .int .i64 c, .string ⟨#[]⟩]) hE6_13.out rfl hd13
          rw [hL] at B13
          obtain ⟨Y, rfl⟩ : ∃ Y, X = updV (updV Y 68 (.agg #[.int .i64 2, .int .i64 c, .string ⟨#[]⟩])) 11 (.pointer (some ⟨g13, 0, none⟩)) := ⟨X, by rw [updV_self x5, updV_self x13]⟩
          clear x5 x13
          have hN := Rgc.stepS hI hwf6.out hE6_13.out rfl hE6_17.out (hd 13 (by kernel_rfl)) (show (updV (updV Y 68 (.agg #[.int .i64 2, .int .i64 c, .string ⟨#[]⟩])) 11 (.pointer (some ⟨g13, 0, none⟩))) 11 = .pointer (some ⟨g13, 0, none⟩) by simp only [updV, Nat.reduceBEq, Bool.false_eq_true, if_false, if_true])
          have c0 := B13.cs 0 _ rfl
          have c1 := B13.cs 1 _ rfl
          have c2 := B13.cs 2 _ rfl
          have hfr := B13.fr
          have hlt := B13.lt
          have HN : Hid _ := hN
          have HK : Hid _ := hK
          clear hN hK hI hd B13
          refine Wrap.mk ?_
          simp only [putL, Act.put, List.setIfInBounds_toArray, List.set_cons_zero, List.set_cons_succ, updV, Nat.reduceBEq, Bool.false_eq_true, if_false, if_true]
          go_simp
          exact Shut.use HK.out (updV (updV Y 68 (.agg #[.int .i64 2, .int .i64 c, .string ⟨#[]⟩])) 11 (.pointer (some ⟨g13, 0, none⟩))) (by kernel_rfl) HN.out
        · intro L X w1 hI hL hd K hK
          have x8 : X 71 = .agg #[.int .i64 2, .int .i64 r, .string ⟨#[]⟩] := hI.cal 8 _ _ hE6_8.out rfl (hd 8 (by kernel_rfl))
          have hd14 := hd 14 (by kernel_rfl)
          obtain ⟨g14, x14, B14⟩ := hI.box 14 { slot := 12, box := some (18, [.int .i64 0, .int .i64 0, .string ⟨#[]⟩], [.int .i64 2, .int .i64 r, .string ⟨#[]⟩]) } (18) ([.int .i64 0, .int .i64 0, .string ⟨#[]⟩]) ([.int .i64 2, .int .i64 r, .string ⟨#[]⟩]) hE6_14.out rfl hd14
          rw [hL] at B14
          obtain ⟨Y, rfl⟩ : ∃ Y, X = updV (updV Y 71 (.agg #[.int .i64 2, .int .i64 r, .string ⟨#[]⟩])) 12 (.pointer (some ⟨g14, 0, none⟩)) := ⟨X, by rw [updV_self x8, updV_self x14]⟩
          clear x8 x14
          have hN := Rgc.stepS hI hwf6.out hE6_14.out rfl hE6_18.out (hd 14 (by kernel_rfl)) (show (updV (updV Y 71 (.agg #[.int .i64 2, .int .i64 r, .string ⟨#[]⟩])) 12 (.pointer (some ⟨g14, 0, none⟩))) 12 = .pointer (some ⟨g14, 0, none⟩) by simp only [updV, Nat.reduceBEq, Bool.false_eq_true, if_false, if_true])
          have c0 := B14.cs 0 _ rfl
          have c1 := B14.cs 1 _ rfl
          have c2 := B14.cs 2 _ rfl
          have hfr := B14.fr
          have hlt := B14.lt
          have HN : Hid _ := hN
          have HK : Hid _ := hK
          clear hN hK hI hd B14
          refine Wrap.mk ?_
          simp only [putL, Act.put, List.setIfInBounds_toArray, List.set_cons_zero, List.set_cons_succ, updV, Nat.reduceBEq, Bool.false_eq_true, if_false, if_true]
          go_simp
          exact Shut.use HK.out (updV (updV Y 71 (.agg #[.int .i64 2, .int .i64 r, .string ⟨#[]⟩])) 12 (.pointer (some ⟨g14, 0, none⟩))) (by kernel_rfl) HN.out
        · intro L X w1 hI hL hd K hK
          have x11 : X 74 = .agg #[.int .i64 2, .int .i64 i, .string ⟨#[]⟩] := hI.cal 11 _ _ hE6_11.out rfl (hd 11 (by kernel_rfl))
          have hd15 := hd 15 (by kernel_rfl)
          obtain ⟨g15, x15, B15⟩ := hI.box 15 { slot := 13, box := some (19, [.int .i64 0, .int .i64 0, .string ⟨#[]⟩], [.int .i64 2, .int .i64 i, .string ⟨#[]⟩]) } (19) ([.int .i64 0, .int .i64 0, .string ⟨#[]⟩]) ([.int .i64 2, .int .i64 i, .string ⟨#[]⟩]) hE6_15.out rfl hd15
          rw [hL] at B15
          obtain ⟨Y, rfl⟩ : ∃ Y, X = updV (updV Y 74 (.agg #[.int .i64 2, .int .i64 i, .string ⟨#[]⟩])) 13 (.pointer (some ⟨g15, 0, none⟩)) := ⟨X, by rw [updV_self x11, updV_self x15]⟩
          clear x11 x15
          have hN := Rgc.stepS hI hwf6.out hE6_15.out rfl hE6_19.out (hd 15 (by kernel_rfl)) (show (updV (updV Y 74 (.agg #[.int .i64 2, .int .i64 i, .string ⟨#[]⟩])) 13 (.pointer (some ⟨g15, 0, none⟩))) 13 = .pointer (some ⟨g15, 0, none⟩) by simp only [updV, Nat.reduceBEq, Bool.false_eq_true, if_false, if_true])
          have c0 := B15.cs 0 _ rfl
          have c1 := B15.cs 1 _ rfl
          have c2 := B15.cs 2 _ rfl
          have hfr := B15.fr
          have hlt := B15.lt
          have HN : Hid _ := hN
          have HK : Hid _ := hK
          clear hN hK hI hd B15
          refine Wrap.mk ?_
          simp only [putL, Act.put, List.setIfInBounds_toArray, List.set_cons_zero, List.set_cons_succ, updV, Nat.reduceBEq, Bool.false_eq_true, if_false, if_true]
          go_simp
          exact Shut.use HK.out (updV (updV Y 74 (.agg #[.int .i64 2, .int .i64 i, .string ⟨#[]⟩])) 13 (.pointer (some ⟨g15, 0, none⟩))) (by kernel_rfl) HN.out
      · intro L X w1 hI hAll
        obtain ⟨g12, x12, B12⟩ := hI.box 12 _ _ _ _ hE6_12.out rfl (hAll 12 (of_decide_eq_true (by kernel_rfl)))
        rw [if_pos (hAll 16 (of_decide_eq_true (by kernel_rfl)))] at B12
        obtain ⟨g13, x13, B13⟩ := hI.box 13 _ _ _ _ hE6_13.out rfl (hAll 13 (of_decide_eq_true (by kernel_rfl)))
        rw [if_pos (hAll 17 (of_decide_eq_true (by kernel_rfl)))] at B13
        obtain ⟨g14, x14, B14⟩ := hI.box 14 _ _ _ _ hE6_14.out rfl (hAll 14 (of_decide_eq_true (by kernel_rfl)))
        rw [if_pos (hAll 18 (of_decide_eq_true (by kernel_rfl)))] at B14
        obtain ⟨g15, x15, B15⟩ := hI.box 15 _ _ _ _ hE6_15.out rfl (hAll 15 (of_decide_eq_true (by kernel_rfl)))
        rw [if_pos (hAll 19 (of_decide_eq_true (by kernel_rfl)))] at B15
        have hB := hI.bel
        clear hI hAll hst6 hwf6 hE6_1 hE6_2 hE6_4 hE6_5 hE6_7 hE6_8 hE6_10 hE6_11 hE6_12 hE6_13 hE6_14 hE6_15 hE6_16 hE6_17 hE6_18 hE6_19 hHeld
        simp only [putL, Act.put, List.setIfInBounds_toArray, List.set_cons_zero, List.set_cons_succ]
        rw [show X 10 = _ from x12]
        rw [show X 11 = _ from x13]
        rw [show X 12 = _ from x14]
        rw [show X 13 = _ from x15]
        generalize X 64 = y64
        generalize X 65 = y65
        generalize X 67 = y67
        generalize X 68 = y68
        generalize X 70 = y70
        generalize X 71 = y71
        generalize X 73 = y73
        generalize X 74 = y74
        clear x12 x13 x14 x15
        have HD : Hid (Bxc nd b6 [.int .i64 3, .int .i64 x, .string ⟨#[]⟩] w1) := HD.out.below hB.out
        have HR : Hid (Ready w1) := HR.out.below hB.out
        have HBW : Hid (Bel w.heap.size w w1) := HBW.out.step hB.out
        have HF : Hid _ := B12
        obtain ⟨b10, he⟩ : ∃ b, b = g12 := ⟨_, rfl⟩
        rw [← he] at HF ⊢
        clear he
        have HC : Hid _ := B13
        obtain ⟨b11, he⟩ : ∃ b, b = g13 := ⟨_, rfl⟩
        rw [← he] at HC ⊢
        clear he
        have HRn : Hid _ := B14
        obtain ⟨b12, he⟩ : ∃ b, b = g14 := ⟨_, rfl⟩
        rw [← he] at HRn ⊢
        clear he
        have HIn : Hid _ := B15
        obtain ⟨b13, he⟩ : ∃ b, b = g15 := ⟨_, rfl⟩
        rw [← he] at HIn ⊢
        clear he
        obtain ⟨w6, he⟩ : ∃ u, u = w1 := ⟨_, rfl⟩
        rw [← he] at HR HBW HD HF HC HRn HIn ⊢
        clear he hB B12 B13 B14 B15
        have z10 := HF.out.cs 1 _ rfl
        have z11 := HC.out.cs 1 _ rfl
        have z12 := HRn.out.cs 1 _ rfl
        have z13 := HIn.out.cs 1 _ rfl
        have n1 := HNu.out.fc
        have n2 := HNu.out.cf
        have n3 := HNu.out.rf
        have n4 := HNu.out.rc
        have n5 := HNu.out.fi
        have n6 := HNu.out.ic
        have n7 := HNu.out.bf
        have hfc : ((f == c) = true ∧ (x.tmod 10000 == 0) = true) ∨ ((f == c) = false ∧ (x.tmod 10000 == 0) = false) := by
          have h := HNu.out.eq
          by_cases e : f = c
          · exact Or.inl ⟨by simpa using e, by simpa using h.1 e⟩
          · exact Or.inr ⟨by simpa using e, by simpa using fun e2 => e (h.2 e2)⟩
        rcases hfc with ⟨q1, q2⟩ | ⟨q1, q2⟩
        · cases hmin : (x == -9223372036854775808) with
          | true =>
            go_wp2_with fail
            refine (sure_any _ HR.out).mono ?_
            rintro e wz ⟨rfl, hbz⟩
            go_wp2
            go_ret
            exact ⟨rfl, (HBW.out.step hbz).out⟩
          | false =>
            obtain ⟨a, ha1, ha2, ⟨g, hg1, hg2⟩, ha0, ha3⟩ := abs_ok2 x HX.out (by simpa using hmin)
            have HA1 : Hid _ := ha1
            have HA2 : Hid _ := ha2
            have HG1 : Hid _ := hg1
            have HG2 : Hid (g * a = x) := hg2
            have HA3 : Hid (I64 a) := ha3
            have y0 := HD.out.cs 0 _ rfl
            have y1 := HD.out.cs 1 _ rfl
            have y2 := HD.out.cs 2 _ rfl
            clear ha1 ha2 hg1 hg2 ha3
            go_wp2_with fail
            refine (lcall_is (row1 (Bxc.new (n0 := 0) _ (Nat.zero_le _) _ 34) (HR.out.below ((Below.refl _ _).alloc (Nat.le_refl _) _)) HX.out) HA1.out).mono ?_
            rintro e wa ⟨rfl, hba⟩
            have hba2 := ((Below.refl w6.heap.size w6).alloc (Nat.le_refl _) (Obj.cells #[.int .i64 3, .int .i64 x, .string ⟨#[]⟩] 34)).trans (hba.mono (by simp))
            have HRa : Hid (Ready wa) := HR.out.below hba2
            have HDa : Hid (Bxc nd b6 [.int .i64 3, .int .i64 x, .string ⟨#[]⟩] wa) := HD.out.below hba2
            have HBa : Hid (Bel w.heap.size w wa) := HBW.out.step hba2
            clear hba hba2 y0 y1 y2 z10 z11 z12 z13 n1 n2 n3 n4 n5 n6 n7 q1 q2 HNu
            go_upto_region 12 with (fail)
            have HAb : Hid (Bxc wa.heap.size wa.heap.size [.int .i64 3, .int .i64 a, .string ⟨#[]⟩] (wa.alloc (Obj.cells #[.int .i64 3, .int .i64 a, .string ⟨#[]⟩] 34))) := Bxc.new wa (Nat.le_refl _) _ 34
            have hbe : Below wa.heap.size wa (wa.alloc (Obj.cells #[.int .i64 3, .int .i64 a, .string ⟨#[]⟩] 34)) := (Below.refl _ _).alloc (Nat.le_refl _) _
            have HR : Hid (Ready (wa.alloc (Obj.cells #[.int .i64 3, .int .i64 a, .string ⟨#[]⟩] 34))) := HRa.out.below hbe
            have HDb : Hid (Bxc nd b6 [.int .i64 3, .int .i64 x, .string ⟨#[]⟩] (wa.alloc (Obj.cells #[.int .i64 3, .int .i64 a, .string ⟨#[]⟩] 34))) := HDa.out.below hbe
            have HBb : Hid (Bel w.heap.size w (wa.alloc (Obj.cells #[.int .i64 3, .int .i64 a, .string ⟨#[]⟩] 34))) := HBa.out.step hbe
            obtain ⟨b14, hb14⟩ : ∃ b, b = wa.heap.size := ⟨_, rfl⟩
            obtain ⟨n14, hn14⟩ : ∃ b, b = wa.heap.size := ⟨_, rfl⟩
            have HAb : Hid (Bxc n14 b14 [.int .i64 3, .int .i64 a, .string ⟨#[]⟩] (wa.alloc (Obj.cells #[.int .i64 3, .int .i64 a, .string ⟨#[]⟩] 34))) := by rw [hn14, hb14]; exact HAb.out
            rw [← hb14]
            clear hb14 hn14 hbe HRa HDa HBa HBW
            generalize (wa.alloc (Obj.cells #[.int .i64 3, .int .i64 a, .string ⟨#[]⟩] 34)) = w8 at *
            have m1 : IntKind.i64.wrap (g * a) = x := by rw [HG2.out, IntKind.wrap_i64]; have := HX.out; unfold I64 at this; omega
            have m2 : wrap64 (g * a) = x := by rw [HG2.out]; unfold wrap64; have := HX.out; unfold I64 at this; omega
            have hxx : (x == x) = true := by simp
            refine wp_region_held_drew (S := (fun wS => Bel w8.heap.size w8 wS)) (by kernel_rfl) ?_ (fun hHeld => ?_)
            · (try dsimp only); exact (Bel.refl _).drew
            refine wpAnyH_take (i := 0) (oi := { dst := some 133, op := Op.fieldAddr 34 (Operand.tmp 14) 1, type := 0, pos := "law.go:105", after := #[], guard := none }) (v := ?_) rfl (by kernel_rfl) (by kernel_rfl) (by kernel_rfl) (fun _ _ _ h => h) (Or.inl ⟨by kernel_rfl, ?_⟩) (by assumption) ?_
            rotate_left
            · intro wS hSw; (try dsimp only at hSw); go_simp; (try with_reducible rfl)
            try simp only [Act.put, List.setIfInBounds_toArray, List.set_cons_zero, List.set_cons_succ]
            refine wpAnyH_take (i := 1) (oi := { dst := some 134, op := Op.load 3 (Operand.tmp 133), type := 3, pos := "law.go:105", after := #[{ on := 0, ground := Ground.data }], guard := none }) (v := ?_) rfl (by kernel_rfl) (by kernel_rfl) (by kernel_rfl) (fun _ _ _ h => h) (Or.inl ⟨by kernel_rfl, ?_⟩) (by assumption) ?_
            rotate_left
            · intro wS hSw; (try dsimp only at hSw); have c1 := (cell_below hSw.out (HAb.out.cs 1 _ rfl)); go_simp; (try with_reducible rfl)
            try simp only [Act.put, List.setIfInBounds_toArray, List.set_cons_zero, List.set_cons_succ]
            refine wpAnyH_take (i := 2) (oi := { dst := some 135, op := Op.binOp BinOp.geq 3 (Operand.tmp 134) (Operand.const (Value.int IntKind.i64 0)) 3, type := 4, pos := "law.go:105", after := #[{ on := 1, ground := Ground.data }], guard := none }) (v := ?_) rfl (by kernel_rfl) (by kernel_rfl) (by kernel_rfl) (fun _ _ _ h => h) (Or.inl ⟨by kernel_rfl, ?_⟩) (by assumption) ?_
            rotate_left
            · intro wS hSw; (try dsimp only at hSw); go_simp; (try with_reducible rfl)
            try simp only [Act.put, List.setIfInBounds_toArray, List.set_cons_zero, List.set_cons_succ]
            refine wpAnyH_take (i := 3) (oi := { dst := some 136, op := Op.move (Operand.tmp 135), type := 4, pos := "law.go:105", after := #[{ on := 2, ground := Ground.data }], guard := none }) (v := ?_) rfl (by kernel_rfl) (by kernel_rfl) (by kernel_rfl) (fun _ _ _ h => h) (Or.inl ⟨by kernel_rfl, ?_⟩) (by assumption) ?_
            rotate_left
            · intro wS hSw; (try dsimp only at hSw); go_simp; (try with_reducible rfl)
            try simp only [Act.put, List.setIfInBounds_toArray, List.set_cons_zero, List.set_cons_succ]
            refine wpAnyH_take (i := 4) (oi := { dst := some 137, op := Op.load 34 (Operand.tmp 14), type := 34, pos := "law.go:105", after := #[{ on := 3, ground := Ground.guard }], guard := some (3, true) }) (v := ?_) rfl (by kernel_rfl) (by kernel_rfl) (by kernel_rfl) (fun _ _ _ h => h) (Or.inl ⟨by kernel_rfl, ?_⟩) (by assumption) ?_
            rotate_left
            · intro wS hSw; (try dsimp only at hSw); have c0 := (cell_below hSw.out (HAb.out.cs 0 _ rfl)); have c1 := (cell_below hSw.out (HAb.out.cs 1 _ rfl)); have c2 := (cell_below hSw.out (HAb.out.cs 2 _ rfl)); go_simp; (try with_reducible rfl)
            try simp only [Act.put, List.setIfInBounds_toArray, List.set_cons_zero, List.set_cons_succ]
            refine wpAnyH_take (i := 7) (oi := { dst := some 140, op := Op.load 34 (Operand.tmp 14), type := 34, pos := "law.go:105", after := #[{ on := 3, ground := Ground.guard }], guard := some (3, true) }) (v := ?_) rfl (by kernel_rfl) (by kernel_rfl) (by kernel_rfl) (fun _ _ _ h => h) (Or.inl ⟨by kernel_rfl, ?_⟩) (by assumption) ?_
            rotate_left
            · intro wS hSw; (try dsimp only at hSw); have c0 := (cell_below hSw.out (HAb.out.cs 0 _ rfl)); have c1 := (cell_below hSw.out (HAb.out.cs 1 _ rfl)); have c2 := (cell_below hSw.out (HAb.out.cs 2 _ rfl)); go_simp; (try with_reducible rfl)
            try simp only [Act.put, List.setIfInBounds_toArray, List.set_cons_zero, List.set_cons_succ]
            refine wpAnyH_ready (rs := [5]) (by kernel_rfl) (by simp) ?_
            refine AllReadyH.cons (o := { dst := some 138, op := Op.buildSlice 32 1 #[(0, Operand.tmp 137)], type := 32, pos := "law.go:105", after := #[{ on := 4, ground := Ground.data }, { on := 3, ground := Ground.guard }], guard := some (3, true) }) rfl (fun K hK => ?_) AllReadyH.nil
            go_simp
            refine hK.out _ _ ?_ (fun hH5 => ?_)
            · (try dsimp only); exact (by repeat (first | exact Bel.refl _ | assumption | refine Bel.drew ?_ | refine Bel.drewN ?_ _ | refine Bel.alloc ?_ _ | refine Bel.setCell ?_ (by simp <;> omega) _ | refine Bel.step ?_ (by assumption)))
            clear hK K
            try simp only [Act.put, List.setIfInBounds_toArray, List.set_cons_zero, List.set_cons_succ]
            refine wpAnyH_ready (rs := [6]) (by kernel_rfl) (by simp) ?_
            refine AllReadyH.cons (o := { dst := some 139, op := Op.call { callee := Callee.value (Operand.func 18), args := #[Operand.const (Value.string { data := #[97, 98, 115] }), Operand.tmp 138], argTypes := #[9, 32] }, type := 34, pos := "law.go:105", after := #[{ on := 5, ground := Ground.data }, { on := 3, ground := Ground.chain }, { on := 3, ground := Ground.guard }], guard := some (3, true) }) rfl (fun K hK => ?_) AllReadyH.nil
            go_simp
            have hcc := lcall_is (row1 ((Bxc.new (n0 := 0) _ (Nat.zero_le _) _ 34).below (Below.refl _ _).drew) (HR.out.below hH5.out) HA3.out) HA2.out
            refine hcc.mono ?_
            rintro e wc6 ⟨rfl, hbc6⟩
            (try dsimp only)
            refine hK.out _ _ ?_ (fun hH6 => ?_)
            · (try dsimp only); exact (by repeat (first | exact Bel.refl _ | assumption | refine Bel.drew ?_ | refine Bel.drewN ?_ _ | refine Bel.alloc ?_ _ | refine Bel.setCell ?_ (by simp <;> omega) _ | refine Bel.step ?_ (by assumption)))
            clear hK K
            try simp only [Act.put, List.setIfInBounds_toArray, List.set_cons_zero, List.set_cons_succ]
            refine wpAnyH_take (i := 8) (oi := { dst := some 141, op := Op.binOp BinOp.eql 34 (Operand.tmp 139) (Operand.tmp 140) 34, type := 4, pos := "law.go:105", after := #[{ on := 6, ground := Ground.data }, { on := 7, ground := Ground.data }, { on := 3, ground := Ground.guard }], guard := some (3, true) }) (v := ?_) rfl (by kernel_rfl) (by kernel_rfl) (by kernel_rfl) (fun _ _ _ h => h) (Or.inl ⟨by kernel_rfl, ?_⟩) (by assumption) ?_
            rotate_left
            · intro wS hSw; (try dsimp only at hSw); have hq := eq34 3 3 a a ⟨#[]⟩ ⟨#[]⟩ wS; simp only [decide_true] at hq; go_simp; (try with_reducible rfl)
            try simp only [Act.put, List.setIfInBounds_toArray, List.set_cons_zero, List.set_cons_succ]
            refine wpAnyH_take (i := 9) (oi := { dst := some 142, op := Op.pick (Operand.tmp 136) (Operand.tmp 141) (Operand.const (Value.bool false)), type := 4, pos := "law.go:105", after := #[{ on := 3, ground := Ground.data }, { on := 8, ground := Ground.data }], guard := none }) (v := ?_) rfl (by kernel_rfl) (by kernel_rfl) (by kernel_rfl) (fun _ _ _ h => h) (Or.inl ⟨by kernel_rfl, ?_⟩) (by assumption) ?_
            rotate_left
            · intro wS hSw; (try dsimp only at hSw); go_simp; (try with_reducible rfl)
            try simp only [Act.put, List.setIfInBounds_toArray, List.set_cons_zero, List.set_cons_succ]
            refine wpAnyH_take (i := 10) (oi := { dst := some 143, op := Op.move (Operand.tmp 142), type := 4, pos := "law.go:105", after := #[{ on := 9, ground := Ground.data }, { on := 6, ground := Ground.chain }], guard := none }) (v := ?_) rfl (by kernel_rfl) (by kernel_rfl) (by kernel_rfl) (fun _ _ _ h => h) (Or.inl ⟨by kernel_rfl, ?_⟩) (by assumption) ?_
            rotate_left
            · intro wS hSw; (try dsimp only at hSw); go_simp; (try with_reducible rfl)
            try simp only [Act.put, List.setIfInBounds_toArray, List.set_cons_zero, List.set_cons_succ]
            refine wpAnyH_take (i := 11) (oi := { dst := some 144, op := Op.load 34 (Operand.tmp 6), type := 34, pos := "law.go:105", after := #[{ on := 10, ground := Ground.guard }], guard := some (10, true) }) (v := ?_) rfl (by kernel_rfl) (by kernel_rfl) (by kernel_rfl) (fun _ _ _ h => h) (Or.inl ⟨by kernel_rfl, ?_⟩) (by assumption) ?_
            rotate_left
            · intro wS hSw; (try dsimp only at hSw); have c0 := (cell_below hSw.out (HDb.out.cs 0 _ rfl)); have c1 := (cell_below hSw.out (HDb.out.cs 1 _ rfl)); have c2 := (cell_below hSw.out (HDb.out.cs 2 _ rfl)); go_simp; (try with_reducible rfl)
            try simp only [Act.put, List.setIfInBounds_toArray, List.set_cons_zero, List.set_cons_succ]
            refine wpAnyH_take (i := 15) (oi := { dst := some 148, op := Op.fieldAddr 34 (Operand.tmp 14) 1, type := 0, pos := "law.go:105", after := #[{ on := 10, ground := Ground.guard }], guard := some (10, true) }) (v := ?_) rfl (by kernel_rfl) (by kernel_rfl) (by kernel_rfl) (fun _ _ _ h => h) (Or.inl ⟨by kernel_rfl, ?_⟩) (by assumption) ?_
            rotate_left
            · intro wS hSw; (try dsimp only at hSw); go_simp; (try with_reducible rfl)
            try simp only [Act.put, List.setIfInBounds_toArray, List.set_cons_zero, List.set_cons_succ]
            refine wpAnyH_take (i := 16) (oi := { dst := some 149, op := Op.load 3 (Operand.tmp 148), type := 3, pos := "law.go:105", after := #[{ on := 15, ground := Ground.data }, { on := 10, ground := Ground.guard }], guard := some (10, true) }) (v := ?_) rfl (by kernel_rfl) (by kernel_rfl) (by kernel_rfl) (fun _ _ _ h => h) (Or.inl ⟨by kernel_rfl, ?_⟩) (by assumption) ?_
            rotate_left
            · intro wS hSw; (try dsimp only at hSw); have c1 := (cell_below hSw.out (HAb.out.cs 1 _ rfl)); go_simp; (try with_reducible rfl)
            try simp only [Act.put, List.setIfInBounds_toArray, List.set_cons_zero, List.set_cons_succ]
            refine wpAnyH_take (i := 18) (oi := { dst := some 151, op := Op.move (Operand.tmp 1), type := 3, pos := "law.go:105", after := #[{ on := 10, ground := Ground.guard }], guard := some (10, true) }) (v := ?_) rfl (by kernel_rfl) (by kernel_rfl) (by kernel_rfl) (fun _ _ _ h => h) (Or.inl ⟨by kernel_rfl, ?_⟩) (by assumption) ?_
            rotate_left
            · intro wS hSw; (try dsimp only at hSw); go_simp; (try with_reducible rfl)
            try simp only [Act.put, List.setIfInBounds_toArray, List.set_cons_zero, List.set_cons_succ]
            refine wpAnyH_ready (rs := [12]) (by kernel_rfl) (by simp) ?_
            refine AllReadyH.cons (o := { dst := some 145, op := Op.buildSlice 32 1 #[(0, Operand.tmp 144)], type := 32, pos := "law.go:105", after := #[{ on := 11, ground := Ground.data }, { on := 10, ground := Ground.guard }], guard := some (10, true) }) rfl (fun K hK => ?_) AllReadyH.nil
            go_simp
            refine hK.out _ _ ?_ (fun hH12 => ?_)
            · (try dsimp only); exact (by repeat (first | exact Bel.refl _ | assumption | refine Bel.drew ?_ | refine Bel.drewN ?_ _ | refine Bel.alloc ?_ _ | refine Bel.setCell ?_ (by simp <;> omega) _ | refine Bel.step ?_ (by assumption)))
            clear hK K
            try simp only [Act.put, List.setIfInBounds_toArray, List.set_cons_zero, List.set_cons_succ]
            refine wpAnyH_ready (rs := [13]) (by kernel_rfl) (by simp) ?_
            refine AllReadyH.cons (o := { dst := some 146, op := Op.call { callee := Callee.value (Operand.func 18), args := #[Operand.const (Value.string { data := #[115, 105, 103, 110] }), Operand.tmp 145], argTypes := #[9, 32] }, type := 34, pos := "law.go:105", after := #[{ on := 12, ground := Ground.data }, { on := 10, ground := Ground.chain }, { on := 10, ground := Ground.guard }], guard := some (10, true) }) rfl (fun K hK => ?_) AllReadyH.nil
            go_simp
            have hcc := lcall_is (row1 (Bxc.new (n0 := 0) _ (Nat.zero_le _) _ 34) (HR.out.below hH12.out) HX.out) HG1.out
            refine hcc.mono ?_
            rintro e wc13 ⟨rfl, hbc13⟩
            (try dsimp only)
            refine hK.out _ _ ?_ (fun hH13 => ?_)
            · (try dsimp only); exact (by repeat (first | exact Bel.refl _ | assumption | refine Bel.drew ?_ | refine Bel.drewN ?_ _ | refine Bel.alloc ?_ _ | refine Bel.setCell ?_ (by simp <;> omega) _ | refine Bel.step ?_ (by assumption)))
            clear hK K
            try simp only [Act.put, List.setIfInBounds_toArray, List.set_cons_zero, List.set_cons_succ]
            refine wpAnyH_take (i := 14) (oi := { dst := some 147, op := Op.field 34 (Operand.tmp 146) 1, type := 3, pos := "law.go:105", after := #[{ on := 13, ground := Ground.data }, { on := 10, ground := Ground.guard }], guard := some (10, true) }) (v := ?_) rfl (by kernel_rfl) (by kernel_rfl) (by kernel_rfl) (fun _ _ _ h => h) (Or.inl ⟨by kernel_rfl, ?_⟩) (by assumption) ?_
            rotate_left
            · intro wS hSw; (try dsimp only at hSw); have hq := fld34 2 g ⟨#[]⟩ wS; go_simp; (try with_reducible rfl)
            try simp only [Act.put, List.setIfInBounds_toArray, List.set_cons_zero, List.set_cons_succ]
            refine wpAnyH_take (i := 17) (oi := { dst := some 150, op := Op.binOp BinOp.mul 3 (Operand.tmp 147) (Operand.tmp 149) 3, type := 3, pos := "law.go:105", after := #[{ on := 14, ground := Ground.data }, { on := 16, ground := Ground.data }, { on := 10, ground := Ground.guard }], guard := some (10, true) }) (v := ?_) rfl (by kernel_rfl) (by kernel_rfl) (by kernel_rfl) (fun _ _ _ h => h) (Or.inl ⟨by kernel_rfl, ?_⟩) (by assumption) ?_
            rotate_left
            · intro wS hSw; (try dsimp only at hSw); go_simp; (try with_reducible rfl)
            try simp only [Act.put, List.setIfInBounds_toArray, List.set_cons_zero, List.set_cons_succ]
            refine wpAnyH_take (i := 19) (oi := { dst := some 152, op := Op.binOp BinOp.eql 3 (Operand.tmp 150) (Operand.tmp 151) 3, type := 4, pos := "law.go:105", after := #[{ on := 17, ground := Ground.data }, { on := 18, ground := Ground.data }, { on := 10, ground := Ground.guard }], guard := some (10, true) }) (v := ?_) rfl (by kernel_rfl) (by kernel_rfl) (by kernel_rfl) (fun _ _ _ h => h) (Or.inl ⟨by kernel_rfl, ?_⟩) (by assumption) ?_
            rotate_left
            · intro wS hSw; (try dsimp only at hSw); go_simp; (try with_reducible rfl)
            try simp only [Act.put, List.setIfInBounds_toArray, List.set_cons_zero, List.set_cons_succ]
            refine wpAnyH_take (i := 20) (oi := { dst := some 153, op := Op.pick (Operand.tmp 143) (Operand.tmp 152) (Operand.const (Value.bool false)), type := 4, pos := "law.go:105", after := #[{ on := 10, ground := Ground.data }, { on := 19, ground := Ground.data }], guard := none }) (v := ?_) rfl (by kernel_rfl) (by kernel_rfl) (by kernel_rfl) (fun _ _ _ h => h) (Or.inl ⟨by kernel_rfl, ?_⟩) (by assumption) ?_
            rotate_left
            · intro wS hSw; (try dsimp only at hSw); go_simp; (try with_reducible rfl)
            try simp only [Act.put, List.setIfInBounds_toArray, List.set_cons_zero, List.set_cons_succ]
            refine wpAnyH_take (i := 21) (oi := { dst := some 154, op := Op.move (Operand.tmp 153), type := 4, pos := "law.go:105", after := #[{ on := 20, ground := Ground.data }, { on := 13, ground := Ground.chain }], guard := none }) (v := ?_) rfl (by kernel_rfl) (by kernel_rfl) (by kernel_rfl) (fun _ _ _ h => h) (Or.inl ⟨by kernel_rfl, ?_⟩) (by assumption) ?_
            rotate_left
            · intro wS hSw; (try dsimp only at hSw); go_simp; (try with_reducible rfl)
            try simp only [Act.put, List.setIfInBounds_toArray, List.set_cons_zero, List.set_cons_succ]
            refine wpAnyH_ready (rs := [22]) (by kernel_rfl) (by simp) ?_
            refine AllReadyH.cons (o := { dst := some 155, op := Op.call { callee := Callee.value (Operand.func 12), args := #[], argTypes := #[] }, type := 4, pos := "law.go:105", after := #[{ on := 21, ground := Ground.chain }, { on := 21, ground := Ground.guard }], guard := some (21, true) }) rfl (fun K hK => ?_) AllReadyH.nil
            go_simp
            refine (sure_any _ (HR.out.below hH13.out)).mono ?_
            rintro e wc22 ⟨rfl, hbc22⟩
            (try dsimp only)
            refine hK.out _ _ ?_ (fun hH22 => ?_)
            · (try dsimp only); exact (by repeat (first | exact Bel.refl _ | assumption | refine Bel.drew ?_ | refine Bel.drewN ?_ _ | refine Bel.alloc ?_ _ | refine Bel.setCell ?_ (by simp <;> omega) _ | refine Bel.step ?_ (by assumption)))
            clear hK K
            try simp only [Act.put, List.setIfInBounds_toArray, List.set_cons_zero, List.set_cons_succ]
            refine wpAnyH_take (i := 23) (oi := { dst := some 156, op := Op.pick (Operand.tmp 154) (Operand.tmp 155) (Operand.const (Value.bool false)), type := 4, pos := "law.go:105", after := #[{ on := 21, ground := Ground.data }, { on := 22, ground := Ground.data }], guard := none }) (v := ?_) rfl (by kernel_rfl) (by kernel_rfl) (by kernel_rfl) (fun _ _ _ h => h) (Or.inl ⟨by kernel_rfl, ?_⟩) (by assumption) ?_
            rotate_left
            · intro wS hSw; (try dsimp only at hSw); go_simp; (try with_reducible rfl)
            try simp only [Act.put, List.setIfInBounds_toArray, List.set_cons_zero, List.set_cons_succ]
            refine wpAnyH_take (i := 24) (oi := { dst := some 4, op := Op.assign (Operand.tmp 156), type := 4, pos := "law.go:105", after := #[{ on := 23, ground := Ground.data }, { on := 22, ground := Ground.chain }, { on := 0, ground := Ground.phase }, { on := 1, ground := Ground.phase }, { on := 2, ground := Ground.phase }, { on := 3, ground := Ground.phase }, { on := 4, ground := Ground.phase }, { on := 5, ground := Ground.phase }, { on := 6, ground := Ground.phase }, { on := 7, ground := Ground.phase }, { on := 8, ground := Ground.phase }, { on := 9, ground := Ground.phase }, { on := 10, ground := Ground.phase }, { on := 11, ground := Ground.phase }, { on := 12, ground := Ground.phase }, { on := 13, ground := Ground.phase }, { on := 14, ground := Ground.phase }, { on := 15, ground := Ground.phase }, { on := 16, ground := Ground.phase }, { on := 17, ground := Ground.phase }, { on := 18, ground := Ground.phase }, { on := 19, ground := Ground.phase }, { on := 20, ground := Ground.phase }, { on := 21, ground := Ground.phase }, { on := 22, ground := Ground.phase }, { on := 23, ground := Ground.phase }], guard := none }) (v := ?_) rfl (by kernel_rfl) (by kernel_rfl) (by kernel_rfl) (fun _ _ _ h => h) (Or.inl ⟨by kernel_rfl, ?_⟩) (by assumption) ?_
            rotate_left
            · intro wS hSw; (try dsimp only at hSw); go_simp; (try with_reducible rfl)
            try simp only [Act.put, List.setIfInBounds_toArray, List.set_cons_zero, List.set_cons_succ]
            refine wpAnyH_done (by kernel_rfl) ?_ _
            go_wp2
            go_ret
            exact ⟨rfl, (HBb.out.step hH22.out).out⟩
        · cases hmin : (x == -9223372036854775808) with
          | true =>
            go_wp2_with fail
            refine (sure_any _ HR.out).mono ?_
            rintro e wz ⟨rfl, hbz⟩
            go_wp2
            go_ret
            exact ⟨rfl, (HBW.out.step hbz).out⟩
          | false =>
            obtain ⟨a, ha1, ha2, ⟨g, hg1, hg2⟩, ha0, ha3⟩ := abs_ok2 x HX.out (by simpa using hmin)
            have HA1 : Hid _ := ha1
            have HA2 : Hid _ := ha2
            have HG1 : Hid _ := hg1
            have HG2 : Hid (g * a = x) := hg2
            have HA3 : Hid (I64 a) := ha3
            have y0 := HD.out.cs 0 _ rfl
            have y1 := HD.out.cs 1 _ rfl
            have y2 := HD.out.cs 2 _ rfl
            clear ha1 ha2 hg1 hg2 ha3
            go_wp2_with fail
            refine (lcall_is (row1 (Bxc.new (n0 := 0) _ (Nat.zero_le _) _ 34) (HR.out.below ((Below.refl _ _).alloc (Nat.le_refl _) _)) HX.out) HA1.out).mono ?_
            rintro e wa ⟨rfl, hba⟩
            have hba2 := ((Below.refl w6.heap.size w6).alloc (Nat.le_refl _) (Obj.cells #[.int .i64 3, .int .i64 x, .string ⟨#[]⟩] 34)).trans (hba.mono (by simp))
            have HRa : Hid (Ready wa) := HR.out.below hba2
            have HDa : Hid (Bxc nd b6 [.int .i64 3, .int .i64 x, .string ⟨#[]⟩] wa) := HD.out.below hba2
            have HBa : Hid (Bel w.heap.size w wa) := HBW.out.step hba2
            clear hba hba2 y0 y1 y2 z10 z11 z12 z13 n1 n2 n3 n4 n5 n6 n7 q1 q2 HNu
            go_upto_region 12 with (fail)
            have HAb : Hid (Bxc wa.heap.size wa.heap.size [.int .i64 3, .int .i64 a, .string ⟨#[]⟩] (wa.alloc (Obj.cells #[.int .i64 3, .int .i64 a, .string ⟨#[]⟩] 34))) := Bxc.new wa (Nat.le_refl _) _ 34
            have hbe : Below wa.heap.size wa (wa.alloc (Obj.cells #[.int .i64 3, .int .i64 a, .string ⟨#[]⟩] 34)) := (Below.refl _ _).alloc (Nat.le_refl _) _
            have HR : Hid (Ready (wa.alloc (Obj.cells #[.int .i64 3, .int .i64 a, .string ⟨#[]⟩] 34))) := HRa.out.below hbe
            have HDb : Hid (Bxc nd b6 [.int .i64 3, .int .i64 x, .string ⟨#[]⟩] (wa.alloc (Obj.cells #[.int .i64 3, .int .i64 a, .string ⟨#[]⟩] 34))) := HDa.out.below hbe
            have HBb : Hid (Bel w.heap.size w (wa.alloc (Obj.cells #[.int .i64 3, .int .i64 a, .string ⟨#[]⟩] 34))) := HBa.out.step hbe
            obtain ⟨b14, hb14⟩ : ∃ b, b = wa.heap.size := ⟨_, rfl⟩
            obtain ⟨n14, hn14⟩ : ∃ b, b = wa.heap.size := ⟨_, rfl⟩
            have HAb : Hid (Bxc n14 b14 [.int .i64 3, .int .i64 a, .string ⟨#[]⟩] (wa.alloc (Obj.cells #[.int .i64 3, .int .i64 a, .string ⟨#[]⟩] 34))) := by rw [hn14, hb14]; exact HAb.out
            rw [← hb14]
            clear hb14 hn14 hbe HRa HDa HBa HBW
            generalize (wa.alloc (Obj.cells #[.int .i64 3, .int .i64 a, .string ⟨#[]⟩] 34)) = w8 at *
            have m1 : IntKind.i64.wrap (g * a) = x := by rw [HG2.out, IntKind.wrap_i64]; have := HX.out; unfold I64 at this; omega
            have m2 : wrap64 (g * a) = x := by rw [HG2.out]; unfold wrap64; have := HX.out; unfold I64 at this; omega
            have hxx : (x == x) = true := by simp
            refine wp_region_held_drew (S := (fun wS => Bel w8.heap.size w8 wS)) (by kernel_rfl) ?_ (fun hHeld => ?_)
            · (try dsimp only); exact (Bel.refl _).drew
            refine wpAnyH_take (i := 0) (oi := { dst := some 133, op := Op.fieldAddr 34 (Operand.tmp 14) 1, type := 0, pos := "law.go:105", after := #[], guard := none }) (v := ?_) rfl (by kernel_rfl) (by kernel_rfl) (by kernel_rfl) (fun _ _ _ h => h) (Or.inl ⟨by kernel_rfl, ?_⟩) (by assumption) ?_
            rotate_left
            · intro wS hSw; (try dsimp only at hSw); go_simp; (try with_reducible rfl)
            try simp only [Act.put, List.setIfInBounds_toArray, List.set_cons_zero, List.set_cons_succ]
            refine wpAnyH_take (i := 1) (oi := { dst := some 134, op := Op.load 3 (Operand.tmp 133), type := 3, pos := "law.go:105", after := #[{ on := 0, ground := Ground.data }], guard := none }) (v := ?_) rfl (by kernel_rfl) (by kernel_rfl) (by kernel_rfl) (fun _ _ _ h => h) (Or.inl ⟨by kernel_rfl, ?_⟩) (by assumption) ?_
            rotate_left
            · intro wS hSw; (try dsimp only at hSw); have c1 := (cell_below hSw.out (HAb.out.cs 1 _ rfl)); go_simp; (try with_reducible rfl)
            try simp only [Act.put, List.setIfInBounds_toArray, List.set_cons_zero, List.set_cons_succ]
            refine wpAnyH_take (i := 2) (oi := { dst := some 135, op := Op.binOp BinOp.geq 3 (Operand.tmp 134) (Operand.const (Value.int IntKind.i64 0)) 3, type := 4, pos := "law.go:105", after := #[{ on := 1, ground := Ground.data }], guard := none }) (v := ?_) rfl (by kernel_rfl) (by kernel_rfl) (by kernel_rfl) (fun _ _ _ h => h) (Or.inl ⟨by kernel_rfl, ?_⟩) (by assumption) ?_
            rotate_left
            · intro wS hSw; (try dsimp only at hSw); go_simp; (try with_reducible rfl)
            try simp only [Act.put, List.setIfInBounds_toArray, List.set_cons_zero, List.set_cons_succ]
            refine wpAnyH_take (i := 3) (oi := { dst := some 136, op := Op.move (Operand.tmp 135), type := 4, pos := "law.go:105", after := #[{ on := 2, ground := Ground.data }], guard := none }) (v := ?_) rfl (by kernel_rfl) (by kernel_rfl) (by kernel_rfl) (fun _ _ _ h => h) (Or.inl ⟨by kernel_rfl, ?_⟩) (by assumption) ?_
            rotate_left
            · intro wS hSw; (try dsimp only at hSw); go_simp; (try with_reducible rfl)
            try simp only [Act.put, List.setIfInBounds_toArray, List.set_cons_zero, List.set_cons_succ]
            refine wpAnyH_take (i := 4) (oi := { dst := some 137, op := Op.load 34 (Operand.tmp 14), type := 34, pos := "law.go:105", after := #[{ on := 3, ground := Ground.guard }], guard := some (3, true) }) (v := ?_) rfl (by kernel_rfl) (by kernel_rfl) (by kernel_rfl) (fun _ _ _ h => h) (Or.inl ⟨by kernel_rfl, ?_⟩) (by assumption) ?_
            rotate_left
            · intro wS hSw; (try dsimp only at hSw); have c0 := (cell_below hSw.out (HAb.out.cs 0 _ rfl)); have c1 := (cell_below hSw.out (HAb.out.cs 1 _ rfl)); have c2 := (cell_below hSw.out (HAb.out.cs 2 _ rfl)); go_simp; (try with_reducible rfl)
            try simp only [Act.put, List.setIfInBounds_toArray, List.set_cons_zero, List.set_cons_succ]
            refine wpAnyH_take (i := 7) (oi := { dst := some 140, op := Op.load 34 (Operand.tmp 14), type := 34, pos := "law.go:105", after := #[{ on := 3, ground := Ground.guard }], guard := some (3, true) }) (v := ?_) rfl (by kernel_rfl) (by kernel_rfl) (by kernel_rfl) (fun _ _ _ h => h) (Or.inl ⟨by kernel_rfl, ?_⟩) (by assumption) ?_
            rotate_left
            · intro wS hSw; (try dsimp only at hSw); have c0 := (cell_below hSw.out (HAb.out.cs 0 _ rfl)); have c1 := (cell_below hSw.out (HAb.out.cs 1 _ rfl)); have c2 := (cell_below hSw.out (HAb.out.cs 2 _ rfl)); go_simp; (try with_reducible rfl)
            try simp only [Act.put, List.setIfInBounds_toArray, List.set_cons_zero, List.set_cons_succ]
            refine wpAnyH_ready (rs := [5]) (by kernel_rfl) (by simp) ?_
            refine AllReadyH.cons (o := { dst := some 138, op := Op.buildSlice 32 1 #[(0, Operand.tmp 137)], type := 32, pos := "law.go:105", after := #[{ on := 4, ground := Ground.data }, { on := 3, ground := Ground.guard }], guard := some (3, true) }) rfl (fun K hK => ?_) AllReadyH.nil
            go_simp
            refine hK.out _ _ ?_ (fun hH5 => ?_)
            · (try dsimp only); exact (by repeat (first | exact Bel.refl _ | assumption | refine Bel.drew ?_ | refine Bel.drewN ?_ _ | refine Bel.alloc ?_ _ | refine Bel.setCell ?_ (by simp <;> omega) _ | refine Bel.step ?_ (by assumption)))
            clear hK K
            try simp only [Act.put, List.setIfInBounds_toArray, List.set_cons_zero, List.set_cons_succ]
            refine wpAnyH_ready (rs := [6]) (by kernel_rfl) (by simp) ?_
            refine AllReadyH.cons (o := { dst := some 139, op := Op.call { callee := Callee.value (Operand.func 18), args := #[Operand.const (Value.string { data := #[97, 98, 115] }), Operand.tmp 138], argTypes := #[9, 32] }, type := 34, pos := "law.go:105", after := #[{ on := 5, ground := Ground.data }, { on := 3, ground := Ground.chain }, { on := 3, ground := Ground.guard }], guard := some (3, true) }) rfl (fun K hK => ?_) AllReadyH.nil
            go_simp
            have hcc := lcall_is (row1 ((Bxc.new (n0 := 0) _ (Nat.zero_le _) _ 34).below (Below.refl _ _).drew) (HR.out.below hH5.out) HA3.out) HA2.out
            refine hcc.mono ?_
            rintro e wc6 ⟨rfl, hbc6⟩
            (try dsimp only)
            refine hK.out _ _ ?_ (fun hH6 => ?_)
            · (try dsimp only); exact (by repeat (first | exact Bel.refl _ | assumption | refine Bel.drew ?_ | refine Bel.drewN ?_ _ | refine Bel.alloc ?_ _ | refine Bel.setCell ?_ (by simp <;> omega) _ | refine Bel.step ?_ (by assumption)))
            clear hK K
            try simp only [Act.put, List.setIfInBounds_toArray, List.set_cons_zero, List.set_cons_succ]
            refine wpAnyH_take (i := 8) (oi := { dst := some 141, op := Op.binOp BinOp.eql 34 (Operand.tmp 139) (Operand.tmp 140) 34, type := 4, pos := "law.go:105", after := #[{ on := 6, ground := Ground.data }, { on := 7, ground := Ground.data }, { on := 3, ground := Ground.guard }], guard := some (3, true) }) (v := ?_) rfl (by kernel_rfl) (by kernel_rfl) (by kernel_rfl) (fun _ _ _ h => h) (Or.inl ⟨by kernel_rfl, ?_⟩) (by assumption) ?_
            rotate_left
            · intro wS hSw; (try dsimp only at hSw); have hq := eq34 3 3 a a ⟨#[]⟩ ⟨#[]⟩ wS; simp only [decide_true] at hq; go_simp; (try with_reducible rfl)
            try simp only [Act.put, List.setIfInBounds_toArray, List.set_cons_zero, List.set_cons_succ]
            refine wpAnyH_take (i := 9) (oi := { dst := some 142, op := Op.pick (Operand.tmp 136) (Operand.tmp 141) (Operand.const (Value.bool false)), type := 4, pos := "law.go:105", after := #[{ on := 3, ground := Ground.data }, { on := 8, ground := Ground.data }], guard := none }) (v := ?_) rfl (by kernel_rfl) (by kernel_rfl) (by kernel_rfl) (fun _ _ _ h => h) (Or.inl ⟨by kernel_rfl, ?_⟩) (by assumption) ?_
            rotate_left
            · intro wS hSw; (try dsimp only at hSw); go_simp; (try with_reducible rfl)
            try simp only [Act.put, List.setIfInBounds_toArray, List.set_cons_zero, List.set_cons_succ]
            refine wpAnyH_take (i := 10) (oi := { dst := some 143, op := Op.move (Operand.tmp 142), type := 4, pos := "law.go:105", after := #[{ on := 9, ground := Ground.data }, { on := 6, ground := Ground.chain }], guard := none }) (v := ?_) rfl (by kernel_rfl) (by kernel_rfl) (by kernel_rfl) (fun _ _ _ h => h) (Or.inl ⟨by kernel_rfl, ?_⟩) (by assumption) ?_
            rotate_left
            · intro wS hSw; (try dsimp only at hSw); go_simp; (try with_reducible rfl)
            try simp only [Act.put, List.setIfInBounds_toArray, List.set_cons_zero, List.set_cons_succ]
            refine wpAnyH_take (i := 11) (oi := { dst := some 144, op := Op.load 34 (Operand.tmp 6), type := 34, pos := "law.go:105", after := #[{ on := 10, ground := Ground.guard }], guard := some (10, true) }) (v := ?_) rfl (by kernel_rfl) (by kernel_rfl) (by kernel_rfl) (fun _ _ _ h => h) (Or.inl ⟨by kernel_rfl, ?_⟩) (by assumption) ?_
            rotate_left
            · intro wS hSw; (try dsimp only at hSw); have c0 := (cell_below hSw.out (HDb.out.cs 0 _ rfl)); have c1 := (cell_below hSw.out (HDb.out.cs 1 _ rfl)); have c2 := (cell_below hSw.out (HDb.out.cs 2 _ rfl)); go_simp; (try with_reducible rfl)
            try simp only [Act.put, List.setIfInBounds_toArray, List.set_cons_zero, List.set_cons_succ]
            refine wpAnyH_take (i := 15) (oi := { dst := some 148, op := Op.fieldAddr 34 (Operand.tmp 14) 1, type := 0, pos := "law.go:105", after := #[{ on := 10, ground := Ground.guard }], guard := some (10, true) }) (v := ?_) rfl (by kernel_rfl) (by kernel_rfl) (by kernel_rfl) (fun _ _ _ h => h) (Or.inl ⟨by kernel_rfl, ?_⟩) (by assumption) ?_
            rotate_left
            · intro wS hSw; (try dsimp only at hSw); go_simp; (try with_reducible rfl)
            try simp only [Act.put, List.setIfInBounds_toArray, List.set_cons_zero, List.set_cons_succ]
            refine wpAnyH_take (i := 16) (oi := { dst := some 149, op := Op.load 3 (Operand.tmp 148), type := 3, pos := "law.go:105", after := #[{ on := 15, ground := Ground.data }, { on := 10, ground := Ground.guard }], guard := some (10, true) }) (v := ?_) rfl (by kernel_rfl) (by kernel_rfl) (by kernel_rfl) (fun _ _ _ h => h) (Or.inl ⟨by kernel_rfl, ?_⟩) (by assumption) ?_
            rotate_left
            · intro wS hSw; (try dsimp only at hSw); have c1 := (cell_below hSw.out (HAb.out.cs 1 _ rfl)); go_simp; (try with_reducible rfl)
            try simp only [Act.put, List.setIfInBounds_toArray, List.set_cons_zero, List.set_cons_succ]
            refine wpAnyH_take (i := 18) (oi := { dst := some 151, op := Op.move (Operand.tmp 1), type := 3, pos := "law.go:105", after := #[{ on := 10, ground := Ground.guard }], guard := some (10, true) }) (v := ?_) rfl (by kernel_rfl) (by kernel_rfl) (by kernel_rfl) (fun _ _ _ h => h) (Or.inl ⟨by kernel_rfl, ?_⟩) (by assumption) ?_
            rotate_left
            · intro wS hSw; (try dsimp only at hSw); go_simp; (try with_reducible rfl)
            try simp only [Act.put, List.setIfInBounds_toArray, List.set_cons_zero, List.set_cons_succ]
            refine wpAnyH_ready (rs := [12]) (by kernel_rfl) (by simp) ?_
            refine AllReadyH.cons (o := { dst := some 145, op := Op.buildSlice 32 1 #[(0, Operand.tmp 144)], type := 32, pos := "law.go:105", after := #[{ on := 11, ground := Ground.data }, { on := 10, ground := Ground.guard }], guard := some (10, true) }) rfl (fun K hK => ?_) AllReadyH.nil
            go_simp
            refine hK.out _ _ ?_ (fun hH12 => ?_)
            · (try dsimp only); exact (by repeat (first | exact Bel.refl _ | assumption | refine Bel.drew ?_ | refine Bel.drewN ?_ _ | refine Bel.alloc ?_ _ | refine Bel.setCell ?_ (by simp <;> omega) _ | refine Bel.step ?_ (by assumption)))
            clear hK K
            try simp only [Act.put, List.setIfInBounds_toArray, List.set_cons_zero, List.set_cons_succ]
            refine wpAnyH_ready (rs := [13]) (by kernel_rfl) (by simp) ?_
            refine AllReadyH.cons (o := { dst := some 146, op := Op.call { callee := Callee.value (Operand.func 18), args := #[Operand.const (Value.string { data := #[115, 105, 103, 110] }), Operand.tmp 145], argTypes := #[9, 32] }, type := 34, pos := "law.go:105", after := #[{ on := 12, ground := Ground.data }, { on := 10, ground := Ground.chain }, { on := 10, ground := Ground.guard }], guard := some (10, true) }) rfl (fun K hK => ?_) AllReadyH.nil
            go_simp
            have hcc := lcall_is (row1 (Bxc.new (n0 := 0) _ (Nat.zero_le _) _ 34) (HR.out.below hH12.out) HX.out) HG1.out
            refine hcc.mono ?_
            rintro e wc13 ⟨rfl, hbc13⟩
            (try dsimp only)
            refine hK.out _ _ ?_ (fun hH13 => ?_)
            · (try dsimp only); exact (by repeat (first | exact Bel.refl _ | assumption | refine Bel.drew ?_ | refine Bel.drewN ?_ _ | refine Bel.alloc ?_ _ | refine Bel.setCell ?_ (by simp <;> omega) _ | refine Bel.step ?_ (by assumption)))
            clear hK K
            try simp only [Act.put, List.setIfInBounds_toArray, List.set_cons_zero, List.set_cons_succ]
            refine wpAnyH_take (i := 14) (oi := { dst := some 147, op := Op.field 34 (Operand.tmp 146) 1, type := 3, pos := "law.go:105", after := #[{ on := 13, ground := Ground.data }, { on := 10, ground := Ground.guard }], guard := some (10, true) }) (v := ?_) rfl (by kernel_rfl) (by kernel_rfl) (by kernel_rfl) (fun _ _ _ h => h) (Or.inl ⟨by kernel_rfl, ?_⟩) (by assumption) ?_
            rotate_left
            · intro wS hSw; (try dsimp only at hSw); have hq := fld34 2 g ⟨#[]⟩ wS; go_simp; (try with_reducible rfl)
            try simp only [Act.put, List.setIfInBounds_toArray, List.set_cons_zero, List.set_cons_succ]
            refine wpAnyH_take (i := 17) (oi := { dst := some 150, op := Op.binOp BinOp.mul 3 (Operand.tmp 147) (Operand.tmp 149) 3, type := 3, pos := "law.go:105", after := #[{ on := 14, ground := Ground.data }, { on := 16, ground := Ground.data }, { on := 10, ground := Ground.guard }], guard := some (10, true) }) (v := ?_) rfl (by kernel_rfl) (by kernel_rfl) (by kernel_rfl) (fun _ _ _ h => h) (Or.inl ⟨by kernel_rfl, ?_⟩) (by assumption) ?_
            rotate_left
            · intro wS hSw; (try dsimp only at hSw); go_simp; (try with_reducible rfl)
            try simp only [Act.put, List.setIfInBounds_toArray, List.set_cons_zero, List.set_cons_succ]
            refine wpAnyH_take (i := 19) (oi := { dst := some 152, op := Op.binOp BinOp.eql 3 (Operand.tmp 150) (Operand.tmp 151) 3, type := 4, pos := "law.go:105", after := #[{ on := 17, ground := Ground.data }, { on := 18, ground := Ground.data }, { on := 10, ground := Ground.guard }], guard := some (10, true) }) (v := ?_) rfl (by kernel_rfl) (by kernel_rfl) (by kernel_rfl) (fun _ _ _ h => h) (Or.inl ⟨by kernel_rfl, ?_⟩) (by assumption) ?_
            rotate_left
            · intro wS hSw; (try dsimp only at hSw); go_simp; (try with_reducible rfl)
            try simp only [Act.put, List.setIfInBounds_toArray, List.set_cons_zero, List.set_cons_succ]
            refine wpAnyH_take (i := 20) (oi := { dst := some 153, op := Op.pick (Operand.tmp 143) (Operand.tmp 152) (Operand.const (Value.bool false)), type := 4, pos := "law.go:105", after := #[{ on := 10, ground := Ground.data }, { on := 19, ground := Ground.data }], guard := none }) (v := ?_) rfl (by kernel_rfl) (by kernel_rfl) (by kernel_rfl) (fun _ _ _ h => h) (Or.inl ⟨by kernel_rfl, ?_⟩) (by assumption) ?_
            rotate_left
            · intro wS hSw; (try dsimp only at hSw); go_simp; (try with_reducible rfl)
            try simp only [Act.put, List.setIfInBounds_toArray, List.set_cons_zero, List.set_cons_succ]
            refine wpAnyH_take (i := 21) (oi := { dst := some 154, op := Op.move (Operand.tmp 153), type := 4, pos := "law.go:105", after := #[{ on := 20, ground := Ground.data }, { on := 13, ground := Ground.chain }], guard := none }) (v := ?_) rfl (by kernel_rfl) (by kernel_rfl) (by kernel_rfl) (fun _ _ _ h => h) (Or.inl ⟨by kernel_rfl, ?_⟩) (by assumption) ?_
            rotate_left
            · intro wS hSw; (try dsimp only at hSw); go_simp; (try with_reducible rfl)
            try simp only [Act.put, List.setIfInBounds_toArray, List.set_cons_zero, List.set_cons_succ]
            refine wpAnyH_ready (rs := [22]) (by kernel_rfl) (by simp) ?_
            refine AllReadyH.cons (o := { dst := some 155, op := Op.call { callee := Callee.value (Operand.func 12), args := #[], argTypes := #[] }, type := 4, pos := "law.go:105", after := #[{ on := 21, ground := Ground.chain }, { on := 21, ground := Ground.guard }], guard := some (21, true) }) rfl (fun K hK => ?_) AllReadyH.nil
            go_simp
            refine (sure_any _ (HR.out.below hH13.out)).mono ?_
            rintro e wc22 ⟨rfl, hbc22⟩
            (try dsimp only)
            refine hK.out _ _ ?_ (fun hH22 => ?_)
            · (try dsimp only); exact (by repeat (first | exact Bel.refl _ | assumption | refine Bel.drew ?_ | refine Bel.drewN ?_ _ | refine Bel.alloc ?_ _ | refine Bel.setCell ?_ (by simp <;> omega) _ | refine Bel.step ?_ (by assumption)))
            clear hK K
            try simp only [Act.put, List.setIfInBounds_toArray, List.set_cons_zero, List.set_cons_succ]
            refine wpAnyH_take (i := 23) (oi := { dst := some 156, op := Op.pick (Operand.tmp 154) (Operand.tmp 155) (Operand.const (Value.bool false)), type := 4, pos := "law.go:105", after := #[{ on := 21, ground := Ground.data }, { on := 22, ground := Ground.data }], guard := none }) (v := ?_) rfl (by kernel_rfl) (by kernel_rfl) (by kernel_rfl) (fun _ _ _ h => h) (Or.inl ⟨by kernel_rfl, ?_⟩) (by assumption) ?_
            rotate_left
            · intro wS hSw; (try dsimp only at hSw); go_simp; (try with_reducible rfl)
            try simp only [Act.put, List.setIfInBounds_toArray, List.set_cons_zero, List.set_cons_succ]
            refine wpAnyH_take (i := 24) (oi := { dst := some 4, op := Op.assign (Operand.tmp 156), type := 4, pos := "law.go:105", after := #[{ on := 23, ground := Ground.data }, { on := 22, ground := Ground.chain }, { on := 0, ground := Ground.phase }, { on := 1, ground := Ground.phase }, { on := 2, ground := Ground.phase }, { on := 3, ground := Ground.phase }, { on := 4, ground := Ground.phase }, { on := 5, ground := Ground.phase }, { on := 6, ground := Ground.phase }, { on := 7, ground := Ground.phase }, { on := 8, ground := Ground.phase }, { on := 9, ground := Ground.phase }, { on := 10, ground := Ground.phase }, { on := 11, ground := Ground.phase }, { on := 12, ground := Ground.phase }, { on := 13, ground := Ground.phase }, { on := 14, ground := Ground.phase }, { on := 15, ground := Ground.phase }, { on := 16, ground := Ground.phase }, { on := 17, ground := Ground.phase }, { on := 18, ground := Ground.phase }, { on := 19, ground := Ground.phase }, { on := 20, ground := Ground.phase }, { on := 21, ground := Ground.phase }, { on := 22, ground := Ground.phase }, { on := 23, ground := Ground.phase }], guard := none }) (v := ?_) rfl (by kernel_rfl) (by kernel_rfl) (by kernel_rfl) (fun _ _ _ h => h) (Or.inl ⟨by kernel_rfl, ?_⟩) (by assumption) ?_
            rotate_left
            · intro wS hSw; (try dsimp only at hSw); go_simp; (try with_reducible rfl)
            try simp only [Act.put, List.setIfInBounds_toArray, List.set_cons_zero, List.set_cons_succ]
            refine wpAnyH_done (by kernel_rfl) ?_ _
            go_wp2
            go_ret
            exact ⟨rfl, (HBb.out.step hH22.out).out⟩
end Go.Proofs.YtjphmbgennadcaaGreatDoor
