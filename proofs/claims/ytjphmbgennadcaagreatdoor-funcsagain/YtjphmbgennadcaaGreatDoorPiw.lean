/- FuncsPieces: the walk. -/
import Derived.Test.YtjphmbgennadcaaGreatDoorPip
import Derived.Test.YtjphmbgennadcaaGreatDoorRgc
import Derived.Test.YtjphmbgennadcaaGreatDoorRMay
import Derived.Test.YtjphmbgennadcaaGreatDoorRunes
import Derived.Test.YtjphmbgennadcaaGreatDoorFiw
namespace Go.Proofs.YtjphmbgennadcaaGreatDoor
set_option maxHeartbeats 4000000
set_option maxRecDepth 20000
set_option linter.unusedSimpArgs false
open Go.ChangeShapes Go.WideShapes Go.ChangeAt Go.RowKit


structure Wrap (p : Prop) : Prop where
  out : p
theorem AllI.consW {P : Program} {md : Region.Mode} {ops : Array Oper} {Q : Exit → Act → World → Prop} {ds : List Nat} {a0 : Act} {I : (Nat → Bool) → (Nat → Value) → World → Prop} {rs : List Nat} (i : Nat) (o : Oper) (ho : ops[i]? = some o) (hg : o.guard = none)
    (h : ∀ L X w, I L X w → L i = false → (∀ j, depB md o j = true → L j = true) → ∀ K : Act → World → Prop, Shut (∀ X' w', I (updB L i) X' w' → K (putL a0 X' ds) w') → Wrap (Oper.wp P o (putL a0 X ds) w K Q)) (hs : AllI P md ops Q ds a0 I rs) : AllI P md ops Q ds a0 I (i :: rs) :=
  AllI.cons ho (fun L X w h1 h2 h3 K h4 => by
    have e : Region.wanted o (yielded ops (putL a0 X ds).tmps) = true := by unfold Region.wanted; rw [hg]
    rw [if_pos e]
    exact (h L X w h1 h2 h3 K h4).out) hs
theorem row1 {n0 g : Nat} {k n : Int} {t : ByteArray} {w : World} (h : Bxc n0 g [.int .i64 k, .int .i64 n, .string t] w) (hR : Ready w) (h0 : I64 n) : Arg w (some ⟨g, 0, none⟩) 1 [(k, n, t)] where
  rdy := hR
  len := by simp
  cap := Nat.le_refl _
  int := fun v hv => by
    simp only [List.mem_cons, List.not_mem_nil, or_false] at hv
    rcases hv with rfl
    exact h0
  row := Or.inr ⟨_, 0, rfl, fun i hi => by
    simp only [List.length_cons, List.length_nil] at hi
    rcases (show i = 0 by omega) with rfl
    · exact ⟨h.cs 0 _ rfl, h.cs 1 _ rfl, h.cs 2 _ rfl⟩⟩
theorem row2 {n0 g : Nat} {k n k' n' : Int} {t t' : ByteArray} {w : World} (h : Bxc n0 g [.int .i64 k, .int .i64 n, .string t, .int .i64 k', .int .i64 n', .string t'] w) (hR : Ready w) (h0 : I64 n) (h1 : I64 n') : Arg w (some ⟨g, 0, none⟩) 2 [(k, n, t), (k', n', t')] where
  rdy := hR
  len := by simp
  cap := Nat.le_refl _
  int := fun v hv => by
    simp only [List.mem_cons, List.not_mem_nil, or_false] at hv
    rcases hv with rfl | rfl
    · exact h0
    · exact h1
  row := Or.inr ⟨_, 0, rfl, fun i hi => by
    simp only [List.length_cons, List.length_nil] at hi
    rcases (show i = 0 ∨ i = 1 by omega) with rfl | rfl
    · exact ⟨h.cs 0 _ rfl, h.cs 1 _ rfl, h.cs 2 _ rfl⟩
    · exact ⟨h.cs 3 _ rfl, h.cs 4 _ rfl, h.cs 5 _ rfl⟩⟩
theorem row3 {n0 g : Nat} {k n k' n' k'' n'' : Int} {t t' t'' : ByteArray} {w : World} (h : Bxc n0 g [.int .i64 k, .int .i64 n, .string t, .int .i64 k', .int .i64 n', .string t', .int .i64 k'', .int .i64 n'', .string t''] w) (hR : Ready w) (h0 : I64 n) (h1 : I64 n') (h2 : I64 n'') : Arg w (some ⟨g, 0, none⟩) 3 [(k, n, t), (k', n', t'), (k'', n'', t'')] where
  rdy := hR
  len := by simp
  cap := Nat.le_refl _
  int := fun v hv => by
    simp only [List.mem_cons, List.not_mem_nil, or_false] at hv
    rcases hv with rfl | rfl | rfl
    · exact h0
    · exact h1
    · exact h2
  row := Or.inr ⟨_, 0, rfl, fun i hi => by
    simp only [List.length_cons, List.length_nil] at hi
    rcases (show i = 0 ∨ i = 1 ∨ i = 2 by omega) with rfl | rfl | rfl
    · exact ⟨h.cs 0 _ rfl, h.cs 1 _ rfl, h.cs 2 _ rfl⟩
    · exact ⟨h.cs 3 _ rfl, h.cs 4 _ rfl, h.cs 5 _ rfl⟩
    · exact ⟨h.cs 6 _ rfl, h.cs 7 _ rfl, h.cs 8 _ rfl⟩⟩
/-- The statements' own call, its answer known. -/
theorem lcall_is {s : ByteArray} {a : Option Addr} {cap : Nat} {r : List Val} {w : World} {k n : Int} {t : ByteArray} (H : Arg w a cap r) (e : calV s r = (k, n, t)) :
    Calls Tryz.prog 18 #[.string s, .slice a r.length cap] w fun e w' => e = .returned (.agg #[.int .i64 k, .int .i64 n, .string t]) ∧ Below w.heap.size w w' := by
  have h := lcall_any s a cap r w H
  rw [e] at h
  exact h
theorem I64_0 : I64 0 := by unfold I64; omega

theorem pieces_walk (s : ByteArray) (x : Int) (w : World) (hR : Ready w) (hx : I64 x) :
    Calls Tryz.prog 6 #[.string s, .int .i64 x] w fun e w' => e = .returned (.bool true) ∧ Below w.heap.size w w' := by
  have hMy := fun W => rMay_any runes_said 4 0 s W
  have HX : Hid (I64 x) := hx
  have HXM : Hid (I64 (max 0 x)) := by show I64 _; unfold I64 at hx ⊢; omega
  have HXB : Hid (I64 4611686018427387904) := by show I64 _; unfold I64; omega
  cases hm : mayS 4 0 s with
  | false =>
    rw [hm] at hMy
    have hbad := bad_len hm
    have hC : ∀ W a, Arg W a 1 [(4, 0, s)] → Calls Tryz.prog 13 #[.string ⟨#[108, 101, 110, 103, 116, 104]⟩, .slice a 1 1] W fun e w' => e = .returned (.tuple #[.agg #[.int .i64 0, .int .i64 0, .string ⟨#[]⟩], .int .i64 22]) ∧ Below W.heap.size W w' := fun W a H => by
      have h := Call_any ⟨#[108, 101, 110, 103, 116, 104]⟩ a 1 [(4, 0, s)] W H
      rw [hbad] at h
      exact h
    clear hx
    go_enter Tryz.func6, Tryz.ntmps6
    go_wp2_with fail
    refine (txt10_any s _).mono ?_
    rintro e w1 ⟨rfl, hb1⟩
    have HB1 : Hid (Bel w.heap.size w w1) := Bel.step (Bel.refl w) hb1
    clear hb1
    go_wp2_with fail
    refine (hMy _).mono ?_
    rintro e w2 ⟨rfl, hb2⟩
    have HB2 : Hid (Bel w.heap.size w w2) := Bel.step (HB1.out.alloc _) hb2
    obtain ⟨hc2, hf2⟩ := bcell hb2
    have hz2 : w1.heap.size < w2.heap.size := by have := hb2.size; simp at this; omega
    clear hb2
    go_wp2_with fail
    refine (hC _ _ (arg_1 4 0 s w2 (hR.below HB2.out.out) I64_0)).mono ?_
    rintro e w3 ⟨rfl, hb3⟩
    have HB3 : Hid (Bel w.heap.size w w3) := Bel.step (HB2.out.alloc _) hb3
    clear hb3
    go_wp2_with fail
    refine (sure_any _ (hR.below (HB3.out.alloc _).out)).mono ?_
    rintro e w4 ⟨rfl, hb4⟩
    have HB4 : Hid (Bel w.heap.size w w4) := Bel.step (HB3.out.alloc _) hb4
    go_wp2
    go_ret
    exact ⟨rfl, HB4.out.out⟩
  | true =>
    rw [hm] at hMy
    obtain ⟨a, b, n, m, l, hP⟩ := pieces_ok s x hm
    have HP : Hid _ := hP
    clear hP
    go_enter Tryz.func6, Tryz.ntmps6
    go_wp2_with fail
    refine (txt10_any s _).mono ?_
    rintro e w1 ⟨rfl, hb1⟩
    have HB1 : Hid (Bel w.heap.size w w1) := Bel.step (Bel.refl w) hb1
    clear hb1
    go_wp2_with fail
    refine (hMy _).mono ?_
    rintro e w2 ⟨rfl, hb2⟩
    have HB2 : Hid (Bel w.heap.size w w2) := Bel.step (HB1.out.alloc _) hb2
    have HV : Hid (Bxc w1.heap.size w1.heap.size [.int .i64 4, .int .i64 0, .string s] w2) := (Bxc.new w1 (Nat.le_refl _) _ 34).below hb2
    have HR : Hid (Ready w2) := hR.below HB2.out.out
    have HBW : Hid (Bel w.heap.size w w2) := HB2.out
    clear HB1 HB2
    obtain ⟨b5, hb5⟩ : ∃ b, b = w1.heap.size := ⟨_, rfl⟩
    rw [← hb5] at HV ⊢
    obtain ⟨n0, hn0⟩ : ∃ b, b = b5 := ⟨_, rfl⟩
    have HV : Hid (Bxc n0 b5 [.int .i64 4, .int .i64 0, .string s] w2) := by rw [hn0]; exact HV.out
    clear hb2 hb5 hn0 hMy hR hx
    go_wp2
    refine wp_region_held_drew (S := (fun wS => Bel w2.heap.size w2 wS)) (by kernel_rfl) ?_ (fun hHeld => ?_)
    · exact (Bel.refl _).drew
    refine wpAnyH_take (i := 0) (oi := { dst := some 29, op := Op.load 34 (Operand.tmp 5), type := 34, pos := "law.go:82", after := #[], guard := none }) (v := ?_) rfl (by kernel_rfl) (by kernel_rfl) (by kernel_rfl) (fun _ _ _ h => h) (Or.inl ⟨by kernel_rfl, ?_⟩) (by assumption) ?_
    rotate_left
    · intro wS hSw; (try dsimp only at hSw); have d0 := cell_below hSw.out (HV.out.cs 0 _ rfl); have d1 := cell_below hSw.out (HV.out.cs 1 _ rfl); have d2 := cell_below hSw.out (HV.out.cs 2 _ rfl); go_simp; (try with_reducible rfl)
    try simp only [Act.put, List.setIfInBounds_toArray, List.set_cons_zero, List.set_cons_succ]
    refine wpAnyH_take (i := 2) (oi := { dst := some 31, op := Op.move (Operand.tmp 1), type := 3, pos := "law.go:82", after := #[], guard := none }) (v := ?_) rfl (by kernel_rfl) (by kernel_rfl) (by kernel_rfl) (fun _ _ _ h => h) (Or.inl ⟨by kernel_rfl, ?_⟩) (by assumption) ?_
    rotate_left
    · intro wS hSw; (try dsimp only at hSw); go_simp; (try with_reducible rfl)
    try simp only [Act.put, List.setIfInBounds_toArray, List.set_cons_zero, List.set_cons_succ]
    obtain ⟨E5, hE5⟩ : ∃ E : List OpE, E = [{ slot := 2000 }, { slot := 30, cal := some (.agg #[.int .i64 2, .int .i64 0, .string ⟨#[]⟩]) }, { slot := 2002 }, { slot := 32, cal := some (.agg #[.int .i64 2, .int .i64 x, .string ⟨#[]⟩]) }, { slot := 33, row := some (5, 3, [.int .i64 4, .int .i64 0, .string s, .int .i64 2, .int .i64 0, .string ⟨#[]⟩, .int .i64 2, .int .i64 x, .string ⟨#[]⟩]) }, { slot := 34, cal := some (.agg #[.int .i64 4, .int .i64 0, .string a]) }, { slot := 8, box := some (7, [.int .i64 0, .int .i64 0, .string ⟨#[]⟩], [.int .i64 4, .int .i64 0, .string a]) }, { slot := 1007 }] := ⟨_, rfl⟩
    have hwf5 : Hid (wfE E5 = true) := by show _ = _; rw [hE5]; kernel_rfl
    have hE5_1 : Hid (E5[1]? = some { slot := 30, cal := some (.agg #[.int .i64 2, .int .i64 0, .string ⟨#[]⟩]) }) := by show _ = _; rw [hE5]; rfl
    have hE5_3 : Hid (E5[3]? = some { slot := 32, cal := some (.agg #[.int .i64 2, .int .i64 x, .string ⟨#[]⟩]) }) := by show _ = _; rw [hE5]; rfl
    have hE5_4 : Hid (E5[4]? = some { slot := 33, row := some (5, 3, [.int .i64 4, .int .i64 0, .string s, .int .i64 2, .int .i64 0, .string ⟨#[]⟩, .int .i64 2, .int .i64 x, .string ⟨#[]⟩]) }) := by show _ = _; rw [hE5]; rfl
    have hE5_5 : Hid (E5[5]? = some { slot := 34, cal := some (.agg #[.int .i64 4, .int .i64 0, .string a]) }) := by show _ = _; rw [hE5]; rfl
    have hE5_6 : Hid (E5[6]? = some { slot := 8, box := some (7, [.int .i64 0, .int .i64 0, .string ⟨#[]⟩], [.int .i64 4, .int .i64 0, .string a]) }) := by show _ = _; rw [hE5]; rfl
    have hE5_7 : Hid (E5[7]? = some { slot := 1007 }) := by show _ = _; rw [hE5]; rfl
    have hst5 := fun lq (h : stB [{ slot := 2000 }, { slot := 30, cal := some (.agg #[.int .i64 2, .int .i64 0, .string ⟨#[]⟩]) }, { slot := 2002 }, { slot := 32, cal := some (.agg #[.int .i64 2, .int .i64 x, .string ⟨#[]⟩]) }, { slot := 33, row := some (5, 3, [.int .i64 4, .int .i64 0, .string s, .int .i64 2, .int .i64 0, .string ⟨#[]⟩, .int .i64 2, .int .i64 x, .string ⟨#[]⟩]) }, { slot := 34, cal := some (.agg #[.int .i64 4, .int .i64 0, .string a]) }, { slot := 8, box := some (7, [.int .i64 0, .int .i64 0, .string ⟨#[]⟩], [.int .i64 4, .int .i64 0, .string a]) }, { slot := 1007 }] lq = true) => stB_spec (E := E5) (l := lq) (by rw [hE5]; exact h)
    clear hE5
    refine wpAnyH_by (I := fun L X w' => Rgc w2 E5 L X w') (ds := [30, 32, 33, 34, 8]) [1, 3, 4, 5, 6, 7] (by kernel_rfl) rfl (by kernel_rfl) (by kernel_rfl) (fun _ _ _ h => h.bel) (Rgc.start (by assumption) (hst5 _ (by kernel_rfl))) ?_ ?_
    · clear hHeld
      refine AllI.consW 1 { dst := some 30, op := Op.call { callee := Callee.value (Operand.func 19), args := #[Operand.const (Value.int IntKind.i64 0)], argTypes := #[3] }, type := 34, pos := "law.go:82", after := #[], guard := none } (by kernel_rfl) rfl ?_ (AllI.consW 3 { dst := some 32, op := Op.call { callee := Callee.value (Operand.func 19), args := #[Operand.tmp 31], argTypes := #[3] }, type := 34, pos := "law.go:82", after := #[{ on := 2, ground := Ground.data }, { on := 1, ground := Ground.chain }], guard := none } (by kernel_rfl) rfl ?_ (AllI.consW 4 { dst := some 33, op := Op.buildSlice 32 3 #[(0, Operand.tmp 29), (1, Operand.tmp 30), (2, Operand.tmp 32)], type := 32, pos := "law.go:82", after := #[{ on := 0, ground := Ground.data }, { on := 1, ground := Ground.data }, { on := 3, ground := Ground.data }], guard := none } (by kernel_rfl) rfl ?_ (AllI.consW 5 { dst := some 34, op := Op.call { callee := Callee.value (Operand.func 18), args := #[Operand.const (Value.string { data := #[115, 117, 98, 115, 116, 114] }), Operand.tmp 33], argTypes := #[9, 32] }, type := 34, pos := "law.go:82", after := #[{ on := 4, ground := Ground.data }, { on := 3, ground := Ground.chain }], guard := none } (by kernel_rfl) rfl ?_ (AllI.consW 6 { dst := some 8, op := Op.alloc 34, type := 0, pos := "law.go:82", after := #[], guard := none } (by kernel_rfl) rfl ?_ (AllI.consW 7 { dst := none, op := Op.store 34 (Operand.tmp 8) (Operand.tmp 34), type := 0, pos := "law.go:82", after := #[{ on := 6, ground := Ground.data }, { on := 5, ground := Ground.data }, { on := 5, ground := Ground.chain }, { on := 0, ground := Ground.phase }, { on := 1, ground := Ground.phase }, { on := 2, ground := Ground.phase }, { on := 3, ground := Ground.phase }, { on := 4, ground := Ground.phase }, { on := 5, ground := Ground.phase }, { on := 6, ground := Ground.phase }], guard := none } (by kernel_rfl) rfl ?_ (AllI.nil))))))
      · intro L X w1 hI hL hd K hK
        have HK : Hid _ := hK
        have HI : Hid _ := hI
        clear hK hI hd
        refine Wrap.mk ?_
        simp only [putL, Act.put, List.setIfInBounds_toArray, List.set_cons_zero, List.set_cons_succ, updV, Nat.reduceBEq, Bool.false_eq_true, if_false, if_true]
        go_simp
        refine (num10_any 0 _).mono ?_
        rintro e w2 ⟨rfl, hb1⟩
        (try dsimp only)
        try simp only [Act.put, List.setIfInBounds_toArray, List.set_cons_zero, List.set_cons_succ]
        exact Shut.use HK.out _ (by kernel_rfl) (Rgc.stepC (HI.out.below hb1) hwf5.out hE5_1.out rfl rfl rfl hL)
      · intro L X w1 hI hL hd K hK
        have HK : Hid _ := hK
        have HI : Hid _ := hI
        clear hK hI hd
        refine Wrap.mk ?_
        simp only [putL, Act.put, List.setIfInBounds_toArray, List.set_cons_zero, List.set_cons_succ, updV, Nat.reduceBEq, Bool.false_eq_true, if_false, if_true]
        go_simp
        refine (num10_any x _).mono ?_
        rintro e w2 ⟨rfl, hb1⟩
        (try dsimp only)
        try simp only [Act.put, List.setIfInBounds_toArray, List.set_cons_zero, List.set_cons_succ]
        exact Shut.use HK.out _ (by kernel_rfl) (Rgc.stepC (HI.out.below hb1) hwf5.out hE5_3.out rfl rfl rfl hL)
      · intro L X w1 hI hL hd K hK
        have x1 : X 30 = .agg #[.int .i64 2, .int .i64 0, .string ⟨#[]⟩] := hI.cal 1 _ _ hE5_1.out rfl (hd 1 (by kernel_rfl))
        have x3 : X 32 = .agg #[.int .i64 2, .int .i64 x, .string ⟨#[]⟩] := hI.cal 3 _ _ hE5_3.out rfl (hd 3 (by kernel_rfl))
        obtain ⟨Y, rfl⟩ : ∃ Y, X = updV (updV Y 30 (.agg #[.int .i64 2, .int .i64 0, .string ⟨#[]⟩])) 32 (.agg #[.int .i64 2, .int .i64 x, .string ⟨#[]⟩]) := ⟨X, by rw [updV_self x1, updV_self x3]⟩
        clear x1 x3
        have HN : Hid _ := Rgc.stepR hI hwf5.out hE5_4.out rfl rfl rfl 34
        have HK : Hid _ := hK
        clear hK hI hd
        refine Wrap.mk ?_
        simp only [putL, Act.put, List.setIfInBounds_toArray, List.set_cons_zero, List.set_cons_succ, updV, Nat.reduceBEq, Bool.false_eq_true, if_false, if_true]
        go_simp
        exact Shut.use HK.out _ (by kernel_rfl) HN.out
      · intro L X w1 hI hL hd K hK
        obtain ⟨g4, x4, B4⟩ := hI.row 4 _ _ _ _ hE5_4.out rfl (hd 4 (by kernel_rfl)) hL
        obtain ⟨Y, rfl⟩ : ∃ Y, X = updV Y 33 (.slice (some ⟨g4, 0, none⟩) 3 3) := ⟨X, by rw [updV_self x4]⟩
        clear x4
        have HK : Hid _ := hK
        have HI : Hid _ := hI
        clear hK hI hd
        have hcc := lcall_is (row3 B4 (HR.out.below HI.out.bel.out) I64_0 I64_0 HX.out) HP.out.sa
        refine Wrap.mk ?_
        simp only [putL, Act.put, List.setIfInBounds_toArray, List.set_cons_zero, List.set_cons_succ, updV, Nat.reduceBEq, Bool.false_eq_true, if_false, if_true]
        go_simp
        refine (hcc).mono ?_
        rintro e w2 ⟨rfl, hb1⟩
        (try dsimp only)
        try simp only [Act.put, List.setIfInBounds_toArray, List.set_cons_zero, List.set_cons_succ]
        exact Shut.use HK.out _ (by kernel_rfl) (Rgc.stepC (HI.out.below hb1) hwf5.out hE5_5.out rfl rfl rfl hL)
      · intro L X w1 hI hL hd K hK
        have HN : Hid _ := Rgc.stepB hI hwf5.out hE5_6.out rfl rfl rfl hL 34
        have HK : Hid _ := hK
        clear hK hI hd
        refine Wrap.mk ?_
        simp only [putL, Act.put, List.setIfInBounds_toArray, List.set_cons_zero, List.set_cons_succ, updV, Nat.reduceBEq, Bool.false_eq_true, if_false, if_true]
        go_simp
        exact Shut.use HK.out _ (by kernel_rfl) HN.out
      · intro L X w1 hI hL hd K hK
        have x5 : X 34 = .agg #[.int .i64 4, .int .i64 0, .string a] := hI.cal 5 _ _ hE5_5.out rfl (hd 5 (by kernel_rfl))
        have hd6 := hd 6 (by kernel_rfl)
        obtain ⟨g6, x6, B6⟩ := hI.box 6 { slot := 8, box := some (7, [.int .i64 0, .int .i64 0, .string ⟨#[]⟩], [.int .i64 4, .int .i64 0, .string a]) } (7) ([.int .i64 0, .int .i64 0, .string ⟨#[]⟩]) ([.int .i64 4, .int .i64 0, .string a]) hE5_6.out rfl hd6
        rw [hL] at B6
        obtain ⟨Y, rfl⟩ : ∃ Y, X = updV (updV Y 34 (.agg #[.int .i64 4, .int .i64 0, .string a])) 8 (.pointer (some ⟨g6, 0, none⟩)) := ⟨X, by rw [updV_self x5, updV_self x6]⟩
        clear x5 x6
        have hN := Rgc.stepS hI hwf5.out hE5_6.out rfl hE5_7.out (hd 6 (by kernel_rfl)) (show (updV (updV Y 34 (.agg #[.int .i64 4, .int .i64 0, .string a])) 8 (.pointer (some ⟨g6, 0, none⟩))) 8 = .pointer (some ⟨g6, 0, none⟩) by simp only [updV, Nat.reduceBEq, Bool.false_eq_true, if_false, if_true])
        have c0 := B6.cs 0 _ rfl
        have c1 := B6.cs 1 _ rfl
        have c2 := B6.cs 2 _ rfl
        have hfr := B6.fr
        have hlt := B6.lt
        have HN : Hid _ := hN
        have HK : Hid _ := hK
        clear hN hK hI hd B6
        refine Wrap.mk ?_
        simp only [putL, Act.put, List.setIfInBounds_toArray, List.set_cons_zero, List.set_cons_succ, updV, Nat.reduceBEq, Bool.false_eq_true, if_false, if_true]
        go_simp
        exact Shut.use HK.out (updV (updV Y 34 (.agg #[.int .i64 4, .int .i64 0, .string a])) 8 (.pointer (some ⟨g6, 0, none⟩))) (by kernel_rfl) HN.out
    · intro L X w1 hI hAll
      obtain ⟨g6, x6, B6⟩ := hI.box 6 _ _ _ _ hE5_6.out rfl (hAll 6 (of_decide_eq_true (by kernel_rfl)))
      rw [if_pos (hAll 7 (of_decide_eq_true (by kernel_rfl)))] at B6
      have hB := hI.bel
      clear hI hAll hst5 hwf5 hE5_1 hE5_3 hE5_4 hE5_5 hE5_6 hE5_7 hHeld
      simp only [putL, Act.put, List.setIfInBounds_toArray, List.set_cons_zero, List.set_cons_succ]
      rw [show X 8 = _ from x6]
      generalize X 30 = y30
      generalize X 32 = y32
      generalize X 33 = y33
      generalize X 34 = y34
      clear x6
      have HV : Hid (Bxc n0 b5 [.int .i64 4, .int .i64 0, .string s] w1) := HV.out.below hB.out
      have HR : Hid (Ready w1) := HR.out.below hB.out
      have HBW : Hid (Bel w.heap.size w w1) := HBW.out.step hB.out
      have HA : Hid _ := B6
      obtain ⟨b8, he⟩ : ∃ b, b = g6 := ⟨_, rfl⟩
      rw [← he] at HA ⊢
      clear he
      obtain ⟨w4, he⟩ : ∃ u, u = w1 := ⟨_, rfl⟩
      rw [← he] at HR HBW HV HA ⊢
      clear he hB B6
      go_wp2
      refine wp_region_held_drew (S := (fun wS => Bel w4.heap.size w4 wS)) (by kernel_rfl) ?_ (fun hHeld => ?_)
      · exact (Bel.refl _).drew
      refine wpAnyH_take (i := 0) (oi := { dst := some 35, op := Op.load 34 (Operand.tmp 5), type := 34, pos := "law.go:83", after := #[], guard := none }) (v := ?_) rfl (by kernel_rfl) (by kernel_rfl) (by kernel_rfl) (fun _ _ _ h => h) (Or.inl ⟨by kernel_rfl, ?_⟩) (by assumption) ?_
      rotate_left
      · intro wS hSw; (try dsimp only at hSw); have d0 := cell_below hSw.out (HV.out.cs 0 _ rfl); have d1 := cell_below hSw.out (HV.out.cs 1 _ rfl); have d2 := cell_below hSw.out (HV.out.cs 2 _ rfl); go_simp; (try with_reducible rfl)
      try simp only [Act.put, List.setIfInBounds_toArray, List.set_cons_zero, List.set_cons_succ]
      refine wpAnyH_take (i := 1) (oi := { dst := some 36, op := Op.move (Operand.tmp 1), type := 3, pos := "law.go:83", after := #[], guard := none }) (v := ?_) rfl (by kernel_rfl) (by kernel_rfl) (by kernel_rfl) (fun _ _ _ h => h) (Or.inl ⟨by kernel_rfl, ?_⟩) (by assumption) ?_
      rotate_left
      · intro wS hSw; (try dsimp only at hSw); go_simp; (try with_reducible rfl)
      try simp only [Act.put, List.setIfInBounds_toArray, List.set_cons_zero, List.set_cons_succ]
      refine wpAnyH_take (i := 2) (oi := { dst := some 37, op := Op.call { callee := Callee.builtin Builtin.max, args := #[Operand.const (Value.int IntKind.i64 0), Operand.tmp 36], argTypes := #[3, 3] }, type := 3, pos := "law.go:83", after := #[{ on := 1, ground := Ground.data }], guard := none }) (v := ?_) rfl (by kernel_rfl) (by kernel_rfl) (by kernel_rfl) (fun _ _ _ h => h) (Or.inl ⟨by kernel_rfl, ?_⟩) (by assumption) ?_
      rotate_left
      · intro wS hSw; (try dsimp only at hSw); go_simp; (try with_reducible rfl)
      try simp only [Act.put, List.setIfInBounds_toArray, List.set_cons_zero, List.set_cons_succ]
      obtain ⟨E6, hE6⟩ : ∃ E : List OpE, E = [{ slot := 2000 }, { slot := 2001 }, { slot := 2002 }, { slot := 38, cal := some (.agg #[.int .i64 2, .int .i64 (max 0 x), .string ⟨#[]⟩]) }, { slot := 39, cal := some (.agg #[.int .i64 2, .int .i64 4611686018427387904, .string ⟨#[]⟩]) }, { slot := 40, row := some (6, 3, [.int .i64 4, .int .i64 0, .string s, .int .i64 2, .int .i64 (max 0 x), .string ⟨#[]⟩, .int .i64 2, .int .i64 4611686018427387904, .string ⟨#[]⟩]) }, { slot := 41, cal := some (.agg #[.int .i64 4, .int .i64 0, .string b]) }, { slot := 9, box := some (8, [.int .i64 0, .int .i64 0, .string ⟨#[]⟩], [.int .i64 4, .int .i64 0, .string b]) }, { slot := 1008 }] := ⟨_, rfl⟩
      have hwf6 : Hid (wfE E6 = true) := by show _ = _; rw [hE6]; kernel_rfl
      have hE6_3 : Hid (E6[3]? = some { slot := 38, cal := some (.agg #[.int .i64 2, .int .i64 (max 0 x), .string ⟨#[]⟩]) }) := by show _ = _; rw [hE6]; rfl
      have hE6_4 : Hid (E6[4]? = some { slot := 39, cal := some (.agg #[.int .i64 2, .int .i64 4611686018427387904, .string ⟨#[]⟩]) }) := by show _ = _; rw [hE6]; rfl
      have hE6_5 : Hid (E6[5]? = some { slot := 40, row := some (6, 3, [.int .i64 4, .int .i64 0, .string s, .int .i64 2, .int .i64 (max 0 x), .string ⟨#[]⟩, .int .i64 2, .int .i64 4611686018427387904, .string ⟨#[]⟩]) }) := by show _ = _; rw [hE6]; rfl
      have hE6_6 : Hid (E6[6]? = some { slot := 41, cal := some (.agg #[.int .i64 4, .int .i64 0, .string b]) }) := by show _ = _; rw [hE6]; rfl
      have hE6_7 : Hid (E6[7]? = some { slot := 9, box := some (8, [.int .i64 0, .int .i64 0, .string ⟨#[]⟩], [.int .i64 4, .int .i64 0, .string b]) }) := by show _ = _; rw [hE6]; rfl
      have hE6_8 : Hid (E6[8]? = some { slot := 1008 }) := by show _ = _; rw [hE6]; rfl
      have hst6 := fun lq (h : stB [{ slot := 2000 }, { slot := 2001 }, { slot := 2002 }, { slot := 38, cal := some (.agg #[.int .i64 2, .int .i64 (max 0 x), .string ⟨#[]⟩]) }, { slot := 39, cal := some (.agg #[.int .i64 2, .int .i64 4611686018427387904, .string ⟨#[]⟩]) }, { slot := 40, row := some (6, 3, [.int .i64 4, .int .i64 0, .string s, .int .i64 2, .int .i64 (max 0 x), .string ⟨#[]⟩, .int .i64 2, .int .i64 4611686018427387904, .string ⟨#[]⟩]) }, { slot := 41, cal := some (.agg #[.int .i64 4, .int .i64 0, .string b]) }, { slot := 9, box := some (8, [.int .i64 0, .int .i64 0, .string ⟨#[]⟩], [.int .i64 4, .int .i64 0, .string b]) }, { slot := 1008 }] lq = true) => stB_spec (E := E6) (l := lq) (by rw [hE6]; exact h)
      clear hE6
      refine wpAnyH_by (I := fun L X w' => Rgc w4 E6 L X w') (ds := [38, 39, 40, 41, 9]) [3, 4, 5, 6, 7, 8] (by kernel_rfl) rfl (by kernel_rfl) (by kernel_rfl) (fun _ _ _ h => h.bel) (Rgc.start (by assumption) (hst6 _ (by kernel_rfl))) ?_ ?_
      · clear hHeld
        refine AllI.consW 3 { dst := some 38, op := Op.call { callee := Callee.value (Operand.func 19), args := #[Operand.tmp 37], argTypes := #[3] }, type := 34, pos := "law.go:83", after := #[{ on := 2, ground := Ground.data }], guard := none } (by kernel_rfl) rfl ?_ (AllI.consW 4 { dst := some 39, op := Op.call { callee := Callee.value (Operand.func 19), args := #[Operand.const (Value.int IntKind.i64 4611686018427387904)], argTypes := #[3] }, type := 34, pos := "law.go:83", after := #[{ on := 3, ground := Ground.chain }], guard := none } (by kernel_rfl) rfl ?_ (AllI.consW 5 { dst := some 40, op := Op.buildSlice 32 3 #[(0, Operand.tmp 35), (1, Operand.tmp 38), (2, Operand.tmp 39)], type := 32, pos := "law.go:83", after := #[{ on := 0, ground := Ground.data }, { on := 3, ground := Ground.data }, { on := 4, ground := Ground.data }], guard := none } (by kernel_rfl) rfl ?_ (AllI.consW 6 { dst := some 41, op := Op.call { callee := Callee.value (Operand.func 18), args := #[Operand.const (Value.string { data := #[115, 117, 98, 115, 116, 114] }), Operand.tmp 40], argTypes := #[9, 32] }, type := 34, pos := "law.go:83", after := #[{ on := 5, ground := Ground.data }, { on := 4, ground := Ground.chain }], guard := none } (by kernel_rfl) rfl ?_ (AllI.consW 7 { dst := some 9, op := Op.alloc 34, type := 0, pos := "law.go:83", after := #[], guard := none } (by kernel_rfl) rfl ?_ (AllI.consW 8 { dst := none, op := Op.store 34 (Operand.tmp 9) (Operand.tmp 41), type := 0, pos := "law.go:83", after := #[{ on := 7, ground := Ground.data }, { on := 6, ground := Ground.data }, { on := 6, ground := Ground.chain }, { on := 0, ground := Ground.phase }, { on := 1, ground := Ground.phase }, { on := 2, ground := Ground.phase }, { on := 3, ground := Ground.phase }, { on := 4, ground := Ground.phase }, { on := 5, ground := Ground.phase }, { on := 6, ground := Ground.phase }, { on := 7, ground := Ground.phase }], guard := none } (by kernel_rfl) rfl ?_ (AllI.nil))))))
        · intro L X w1 hI hL hd K hK
          have HK : Hid _ := hK
          have HI : Hid _ := hI
          clear hK hI hd
          refine Wrap.mk ?_
          simp only [putL, Act.put, List.setIfInBounds_toArray, List.set_cons_zero, List.set_cons_succ, updV, Nat.reduceBEq, Bool.false_eq_true, if_false, if_true]
          go_simp
          refine (num10_any (max 0 x) _).mono ?_
          rintro e w2 ⟨rfl, hb1⟩
          (try dsimp only)
          try simp only [Act.put, List.setIfInBounds_toArray, List.set_cons_zero, List.set_cons_succ]
          exact Shut.use HK.out _ (by kernel_rfl) (Rgc.stepC (HI.out.below hb1) hwf6.out hE6_3.out rfl rfl rfl hL)
        · intro L X w1 hI hL hd K hK
          have HK : Hid _ := hK
          have HI : Hid _ := hI
          clear hK hI hd
          refine Wrap.mk ?_
          simp only [putL, Act.put, List.setIfInBounds_toArray, List.set_cons_zero, List.set_cons_succ, updV, Nat.reduceBEq, Bool.false_eq_true, if_false, if_true]
          go_simp
          refine (num10_any 4611686018427387904 _).mono ?_
          rintro e w2 ⟨rfl, hb1⟩
          (try dsimp only)
          try simp only [Act.put, List.setIfInBounds_toArray, List.set_cons_zero, List.set_cons_succ]
          exact Shut.use HK.out _ (by kernel_rfl) (Rgc.stepC (HI.out.below hb1) hwf6.out hE6_4.out rfl rfl rfl hL)
        · intro L X w1 hI hL hd K hK
          have x3 : X 38 = .agg #[.int .i64 2, .int .i64 (max 0 x), .string ⟨#[]⟩] := hI.cal 3 _ _ hE6_3.out rfl (hd 3 (by kernel_rfl))
          have x4 : X 39 = .agg #[.int .i64 2, .int .i64 4611686018427387904, .string ⟨#[]⟩] := hI.cal 4 _ _ hE6_4.out rfl (hd 4 (by kernel_rfl))
          obtain ⟨Y, rfl⟩ : ∃ Y, X = updV (updV Y 38 (.agg #[.int .i64 2, .int .i64 (max 0 x), .string ⟨#[]⟩])) 39 (.agg #[.int .i64 2, .int .i64 4611686018427387904, .string ⟨#[]⟩]) := ⟨X, by rw [updV_self x3, updV_self x4]⟩
          clear x3 x4
          have HN : Hid _ := Rgc.stepR hI hwf6.out hE6_5.out rfl rfl rfl 34
          have HK : Hid _ := hK
          clear hK hI hd
          refine Wrap.mk ?_
          simp only [putL, Act.put, List.setIfInBounds_toArray, List.set_cons_zero, List.set_cons_succ, updV, Nat.reduceBEq, Bool.false_eq_true, if_false, if_true]
          go_simp
          exact Shut.use HK.out _ (by kernel_rfl) HN.out
        · intro L X w1 hI hL hd K hK
          obtain ⟨g5, x5, B5⟩ := hI.row 5 _ _ _ _ hE6_5.out rfl (hd 5 (by kernel_rfl)) hL
          obtain ⟨Y, rfl⟩ : ∃ Y, X = updV Y 40 (.slice (some ⟨g5, 0, none⟩) 3 3) := ⟨X, by rw [updV_self x5]⟩
          clear x5
          have HK : Hid _ := hK
          have HI : Hid _ := hI
          clear hK hI hd
          have hcc := lcall_is (row3 B5 (HR.out.below HI.out.bel.out) I64_0 HXM.out HXB.out) HP.out.sb
          refine Wrap.mk ?_
          simp only [putL, Act.put, List.setIfInBounds_toArray, List.set_cons_zero, List.set_cons_succ, updV, Nat.reduceBEq, Bool.false_eq_true, if_false, if_true]
          go_simp
          refine (hcc).mono ?_
          rintro e w2 ⟨rfl, hb1⟩
          (try dsimp only)
          try simp only [Act.put, List.setIfInBounds_toArray, List.set_cons_zero, List.set_cons_succ]
          exact Shut.use HK.out _ (by kernel_rfl) (Rgc.stepC (HI.out.below hb1) hwf6.out hE6_6.out rfl rfl rfl hL)
        · intro L X w1 hI hL hd K hK
          have HN : Hid _ := Rgc.stepB hI hwf6.out hE6_7.out rfl rfl rfl hL 34
          have HK : Hid _ := hK
          clear hK hI hd
          refine Wrap.mk ?_
          simp only [putL, Act.put, List.setIfInBounds_toArray, List.set_cons_zero, List.set_cons_succ, updV, Nat.reduceBEq, Bool.false_eq_true, if_false, if_true]
          go_simp
          exact Shut.use HK.out _ (by kernel_rfl) HN.out
        · intro L X w1 hI hL hd K hK
          have x6 : X 41 = .agg #[.int .i64 4, .int .i64 0, .string b] := hI.cal 6 _ _ hE6_6.out rfl (hd 6 (by kernel_rfl))
          have hd7 := hd 7 (by kernel_rfl)
          obtain ⟨g7, x7, B7⟩ := hI.box 7 { slot := 9, box := some (8, [.int .i64 0, .int .i64 0, .string ⟨#[]⟩], [.int .i64 4, .int .i64 0, .string b]) } (8) ([.int .i64 0, .int .i64 0, .string ⟨#[]⟩]) ([.int .i64 4, .int .i64 0, .string b]) hE6_7.out rfl hd7
          rw [hL] at B7
          obtain ⟨Y, rfl⟩ : ∃ Y, X = updV (updV Y 41 (.agg #[.int .i64 4, .int .i64 0, .string b])) 9 (.pointer (some ⟨g7, 0, none⟩)) := ⟨X, by rw [updV_self x6, updV_self x7]⟩
          clear x6 x7
          have hN := Rgc.stepS hI hwf6.out hE6_7.out rfl hE6_8.out (hd 7 (by kernel_rfl)) (show (updV (updV Y 41 (.agg #[.int .i64 4, .int .i64 0, .string b])) 9 (.pointer (some ⟨g7, 0, none⟩))) 9 = .pointer (some ⟨g7, 0, none⟩) by simp only [updV, Nat.reduceBEq, Bool.false_eq_true, if_false, if_true])
          have c0 := B7.cs 0 _ rfl
          have c1 := B7.cs 1 _ rfl
          have c2 := B7.cs 2 _ rfl
          have hfr := B7.fr
          have hlt := B7.lt
          have HN : Hid _ := hN
          have HK : Hid _ := hK
          clear hN hK hI hd B7
          refine Wrap.mk ?_
          simp only [putL, Act.put, List.setIfInBounds_toArray, List.set_cons_zero, List.set_cons_succ, updV, Nat.reduceBEq, Bool.false_eq_true, if_false, if_true]
          go_simp
          exact Shut.use HK.out (updV (updV Y 41 (.agg #[.int .i64 4, .int .i64 0, .string b])) 9 (.pointer (some ⟨g7, 0, none⟩))) (by kernel_rfl) HN.out
      · intro L X w1 hI hAll
        obtain ⟨g7, x7, B7⟩ := hI.box 7 _ _ _ _ hE6_7.out rfl (hAll 7 (of_decide_eq_true (by kernel_rfl)))
        rw [if_pos (hAll 8 (of_decide_eq_true (by kernel_rfl)))] at B7
        have hB := hI.bel
        clear hI hAll hst6 hwf6 hE6_3 hE6_4 hE6_5 hE6_6 hE6_7 hE6_8 hHeld
        simp only [putL, Act.put, List.setIfInBounds_toArray, List.set_cons_zero, List.set_cons_succ]
        rw [show X 9 = _ from x7]
        generalize X 38 = y38
        generalize X 39 = y39
        generalize X 40 = y40
        generalize X 41 = y41
        clear x7
        have HV : Hid (Bxc n0 b5 [.int .i64 4, .int .i64 0, .string s] w1) := HV.out.below hB.out
        have HA : Hid (Bxc w2.heap.size b8 [.int .i64 4, .int .i64 0, .string a] w1) := HA.out.below hB.out
        have HR : Hid (Ready w1) := HR.out.below hB.out
        have HBW : Hid (Bel w.heap.size w w1) := HBW.out.step hB.out
        have HBb : Hid _ := B7
        obtain ⟨b9, he⟩ : ∃ b, b = g7 := ⟨_, rfl⟩
        rw [← he] at HBb ⊢
        clear he
        obtain ⟨w5, he⟩ : ∃ u, u = w1 := ⟨_, rfl⟩
        rw [← he] at HR HBW HV HA HBb ⊢
        clear he hB B7
        go_wp2
        refine wp_region_held_drew (S := (fun wS => Bel w5.heap.size w5 wS)) (by kernel_rfl) ?_ (fun hHeld => ?_)
        · exact (Bel.refl _).drew
        refine wpAnyH_take (i := 0) (oi := { dst := some 42, op := Op.load 34 (Operand.tmp 8), type := 34, pos := "law.go:84", after := #[], guard := none }) (v := ?_) rfl (by kernel_rfl) (by kernel_rfl) (by kernel_rfl) (fun _ _ _ h => h) (Or.inl ⟨by kernel_rfl, ?_⟩) (by assumption) ?_
        rotate_left
        · intro wS hSw; (try dsimp only at hSw); have d0 := cell_below hSw.out (HA.out.cs 0 _ rfl); have d1 := cell_below hSw.out (HA.out.cs 1 _ rfl); have d2 := cell_below hSw.out (HA.out.cs 2 _ rfl); go_simp; (try with_reducible rfl)
        try simp only [Act.put, List.setIfInBounds_toArray, List.set_cons_zero, List.set_cons_succ]
        refine wpAnyH_take (i := 3) (oi := { dst := some 45, op := Op.load 34 (Operand.tmp 9), type := 34, pos := "law.go:84", after := #[], guard := none }) (v := ?_) rfl (by kernel_rfl) (by kernel_rfl) (by kernel_rfl) (fun _ _ _ h => h) (Or.inl ⟨by kernel_rfl, ?_⟩) (by assumption) ?_
        rotate_left
        · intro wS hSw; (try dsimp only at hSw); have d0 := cell_below hSw.out (HBb.out.cs 0 _ rfl); have d1 := cell_below hSw.out (HBb.out.cs 1 _ rfl); have d2 := cell_below hSw.out (HBb.out.cs 2 _ rfl); go_simp; (try with_reducible rfl)
        try simp only [Act.put, List.setIfInBounds_toArray, List.set_cons_zero, List.set_cons_succ]
        refine wpAnyH_take (i := 6) (oi := { dst := some 48, op := Op.load 34 (Operand.tmp 5), type := 34, pos := "law.go:84", after := #[], guard := none }) (v := ?_) rfl (by kernel_rfl) (by kernel_rfl) (by kernel_rfl) (fun _ _ _ h => h) (Or.inl ⟨by kernel_rfl, ?_⟩) (by assumption) ?_
        rotate_left
        · intro wS hSw; (try dsimp only at hSw); have d0 := cell_below hSw.out (HV.out.cs 0 _ rfl); have d1 := cell_below hSw.out (HV.out.cs 1 _ rfl); have d2 := cell_below hSw.out (HV.out.cs 2 _ rfl); go_simp; (try with_reducible rfl)
        try simp only [Act.put, List.setIfInBounds_toArray, List.set_cons_zero, List.set_cons_succ]
        obtain ⟨E7, hE7⟩ : ∃ E : List OpE, E = [{ slot := 2000 }, { slot := 43, row := some (2, 1, [.int .i64 4, .int .i64 0, .string a]) }, { slot := 44, cal := some (.agg #[.int .i64 2, .int .i64 n, .string ⟨#[]⟩]) }, { slot := 2003 }, { slot := 46, row := some (5, 1, [.int .i64 4, .int .i64 0, .string b]) }, { slot := 47, cal := some (.agg #[.int .i64 2, .int .i64 m, .string ⟨#[]⟩]) }, { slot := 2006 }, { slot := 49, row := some (8, 1, [.int .i64 4, .int .i64 0, .string s]) }, { slot := 50, cal := some (.agg #[.int .i64 2, .int .i64 l, .string ⟨#[]⟩]) }, { slot := 10, box := some (12, [.int .i64 0, .int .i64 0, .string ⟨#[]⟩], [.int .i64 2, .int .i64 n, .string ⟨#[]⟩]) }, { slot := 11, box := some (13, [.int .i64 0, .int .i64 0, .string ⟨#[]⟩], [.int .i64 2, .int .i64 m, .string ⟨#[]⟩]) }, { slot := 12, box := some (14, [.int .i64 0, .int .i64 0, .string ⟨#[]⟩], [.int .i64 2, .int .i64 l, .string ⟨#[]⟩]) }, { slot := 1012 }, { slot := 1013 }, { slot := 1014 }] := ⟨_, rfl⟩
        have hwf7 : Hid (wfE E7 = true) := by show _ = _; rw [hE7]; kernel_rfl
        have hE7_1 : Hid (E7[1]? = some { slot := 43, row := some (2, 1, [.int .i64 4, .int .i64 0, .string a]) }) := by show _ = _; rw [hE7]; rfl
        have hE7_2 : Hid (E7[2]? = some { slot := 44, cal := some (.agg #[.int .i64 2, .int .i64 n, .string ⟨#[]⟩]) }) := by show _ = _; rw [hE7]; rfl
        have hE7_4 : Hid (E7[4]? = some { slot := 46, row := some (5, 1, [.int .i64 4, .int .i64 0, .string b]) }) := by show _ = _; rw [hE7]; rfl
        have hE7_5 : Hid (E7[5]? = some { slot := 47, cal := some (.agg #[.int .i64 2, .int .i64 m, .string ⟨#[]⟩]) }) := by show _ = _; rw [hE7]; rfl
        have hE7_7 : Hid (E7[7]? = some { slot := 49, row := some (8, 1, [.int .i64 4, .int .i64 0, .string s]) }) := by show _ = _; rw [hE7]; rfl
        have hE7_8 : Hid (E7[8]? = some { slot := 50, cal := some (.agg #[.int .i64 2, .int .i64 l, .string ⟨#[]⟩]) }) := by show _ = _; rw [hE7]; rfl
        have hE7_9 : Hid (E7[9]? = some { slot := 10, box := some (12, [.int .i64 0, .int .i64 0, .string ⟨#[]⟩], [.int .i64 2, .int .i64 n, .string ⟨#[]⟩]) }) := by show _ = _; rw [hE7]; rfl
        have hE7_10 : Hid (E7[10]? = some { slot := 11, box := some (13, [.int .i64 0, .int .i64 0, .string ⟨#[]⟩], [.int .i64 2, .int .i64 m, .string ⟨#[]⟩]) }) := by show _ = _; rw [hE7]; rfl
        have hE7_11 : Hid (E7[11]? = some { slot := 12, box := some (14, [.int .i64 0, .int .i64 0, .string ⟨#[]⟩], [.int .i64 2, .int .i64 l, .string ⟨#[]⟩]) }) := by show _ = _; rw [hE7]; rfl
        have hE7_12 : Hid (E7[12]? = some { slot := 1012 }) := by show _ = _; rw [hE7]; rfl
        have hE7_13 : Hid (E7[13]? = some { slot := 1013 }) := by show _ = _; rw [hE7]; rfl
        have hE7_14 : Hid (E7[14]? = some { slot := 1014 }) := by show _ = _; rw [hE7]; rfl
        have hst7 := fun lq (h : stB [{ slot := 2000 }, { slot := 43, row := some (2, 1, [.int .i64 4, .int .i64 0, .string a]) }, { slot := 44, cal := some (.agg #[.int .i64 2, .int .i64 n, .string ⟨#[]⟩]) }, { slot := 2003 }, { slot := 46, row := some (5, 1, [.int .i64 4, .int .i64 0, .string b]) }, { slot := 47, cal := some (.agg #[.int .i64 2, .int .i64 m, .string ⟨#[]⟩]) }, { slot := 2006 }, { slot := 49, row := some (8, 1, [.int .i64 4, .int .i64 0, .string s]) }, { slot := 50, cal := some (.agg #[.int .i64 2, .int .i64 l, .string ⟨#[]⟩]) }, { slot := 10, box := some (12, [.int .i64 0, .int .i64 0, .string ⟨#[]⟩], [.int .i64 2, .int .i64 n, .string ⟨#[]⟩]) }, { slot := 11, box := some (13, [.int .i64 0, .int .i64 0, .string ⟨#[]⟩], [.int .i64 2, .int .i64 m, .string ⟨#[]⟩]) }, { slot := 12, box := some (14, [.int .i64 0, .int .i64 0, .string ⟨#[]⟩], [.int .i64 2, .int .i64 l, .string ⟨#[]⟩]) }, { slot := 1012 }, { slot := 1013 }, { slot := 1014 }] lq = true) => stB_spec (E := E7) (l := lq) (by rw [hE7]; exact h)
        clear hE7
        refine wpAnyH_by (I := fun L X w' => Rgc w5 E7 L X w') (ds := [43, 44, 46, 47, 49, 50, 10, 11, 12]) [1, 2, 4, 5, 7, 8, 9, 10, 11, 12, 13, 14] (by kernel_rfl) rfl (by kernel_rfl) (by kernel_rfl) (fun _ _ _ h => h.bel) (Rgc.start (by assumption) (hst7 _ (by kernel_rfl))) ?_ ?_
        · clear hHeld
          refine AllI.consW 1 { dst := some 43, op := Op.buildSlice 32 1 #[(0, Operand.tmp 42)], type := 32, pos := "law.go:84", after := #[{ on := 0, ground := Ground.data }], guard := none } (by kernel_rfl) rfl ?_ (AllI.consW 2 { dst := some 44, op := Op.call { callee := Callee.value (Operand.func 18), args := #[Operand.const (Value.string { data := #[108, 101, 110, 103, 116, 104] }), Operand.tmp 43], argTypes := #[9, 32] }, type := 34, pos := "law.go:84", after := #[{ on := 1, ground := Ground.data }], guard := none } (by kernel_rfl) rfl ?_ (AllI.consW 4 { dst := some 46, op := Op.buildSlice 32 1 #[(0, Operand.tmp 45)], type := 32, pos := "law.go:84", after := #[{ on := 3, ground := Ground.data }], guard := none } (by kernel_rfl) rfl ?_ (AllI.consW 5 { dst := some 47, op := Op.call { callee := Callee.value (Operand.func 18), args := #[Operand.const (Value.string { data := #[108, 101, 110, 103, 116, 104] }), Operand.tmp 46], argTypes := #[9, 32] }, type := 34, pos := "law.go:84", after := #[{ on := 4, ground := Ground.data }, { on := 2, ground := Ground.chain }], guard := none } (by kernel_rfl) rfl ?_ (AllI.consW 7 { dst := some 49, op := Op.buildSlice 32 1 #[(0, Operand.tmp 48)], type := 32, pos := "law.go:84", after := #[{ on := 6, ground := Ground.data }], guard := none } (by kernel_rfl) rfl ?_ (AllI.consW 8 { dst := some 50, op := Op.call { callee := Callee.value (Operand.func 18), args := #[Operand.const (Value.string { data := #[108, 101, 110, 103, 116, 104] }), Operand.tmp 49], argTypes := #[9, 32] }, type := 34, pos := "law.go:84", after := #[{ on := 7, ground := Ground.data }, { on := 5, ground := Ground.chain }], guard := none } (by kernel_rfl) rfl ?_ (AllI.consW 9 { dst := some 10, op := Op.alloc 34, type := 0, pos := "law.go:84", after := #[], guard := none } (by kernel_rfl) rfl ?_ (AllI.consW 10 { dst := some 11, op := Op.alloc 34, type := 0, pos := "law.go:84", after := #[], guard := none } (by kernel_rfl) rfl ?_ (AllI.consW 11 { dst := some 12, op := Op.alloc 34, type := 0, pos := "law.go:84", after := #[], guard := none } (by kernel_rfl) rfl ?_ (AllI.consW 12 { dst := none, op := Op.store 34 (Operand.tmp 10) (Operand.tmp 44), type := 0, pos := "law.go:84", after := #[{ on := 9, ground := Ground.data }, { on := 2, ground := Ground.data }, { on := 8, ground := Ground.chain }, { on := 0, ground := Ground.phase }, { on := 1, ground := Ground.phase }, { on := 2, ground := Ground.phase }, { on := 3, ground := Ground.textOnly Departure.lateStores }, { on := 4, ground := Ground.textOnly Departure.lateStores }, { on := 5, ground := Ground.textOnly Departure.lateStoresUnsure }, { on := 6, ground := Ground.textOnly Departure.lateStores }, { on := 7, ground := Ground.textOnly Departure.lateStores }, { on := 8, ground := Ground.textOnly Departure.lateStoresUnsure }, { on := 9, ground := Ground.phase }, { on := 10, ground := Ground.phase }, { on := 11, ground := Ground.phase }], guard := none } (by kernel_rfl) rfl ?_ (AllI.consW 13 { dst := none, op := Op.store 34 (Operand.tmp 11) (Operand.tmp 47), type := 0, pos := "law.go:84", after := #[{ on := 10, ground := Ground.data }, { on := 5, ground := Ground.data }, { on := 12, ground := Ground.chain }, { on := 0, ground := Ground.phase }, { on := 1, ground := Ground.phase }, { on := 2, ground := Ground.phase }, { on := 3, ground := Ground.phase }, { on := 4, ground := Ground.phase }, { on := 5, ground := Ground.phase }, { on := 6, ground := Ground.textOnly Departure.lateStores }, { on := 7, ground := Ground.textOnly Departure.lateStores }, { on := 8, ground := Ground.textOnly Departure.lateStoresUnsure }, { on := 9, ground := Ground.phase }, { on := 10, ground := Ground.phase }, { on := 11, ground := Ground.phase }, { on := 12, ground := Ground.phase }], guard := none } (by kernel_rfl) rfl ?_ (AllI.consW 14 { dst := none, op := Op.store 34 (Operand.tmp 12) (Operand.tmp 50), type := 0, pos := "law.go:84", after := #[{ on := 11, ground := Ground.data }, { on := 8, ground := Ground.data }, { on := 13, ground := Ground.chain }, { on := 0, ground := Ground.phase }, { on := 1, ground := Ground.phase }, { on := 2, ground := Ground.phase }, { on := 3, ground := Ground.phase }, { on := 4, ground := Ground.phase }, { on := 5, ground := Ground.phase }, { on := 6, ground := Ground.phase }, { on := 7, ground := Ground.phase }, { on := 8, ground := Ground.phase }, { on := 9, ground := Ground.phase }, { on := 10, ground := Ground.phase }, { on := 11, ground := Ground.phase }, { on := 12, ground := Ground.phase }, { on := 13, ground := Ground.phase }], guard := none } (by kernel_rfl) rfl ?_ (AllI.nil))))))))))))
          · intro L X w1 hI hL hd K hK
            have HN : Hid _ := Rgc.stepR hI hwf7.out hE7_1.out rfl rfl rfl 34
            have HK : Hid _ := hK
            clear hK hI hd
            refine Wrap.mk ?_
            simp only [putL, Act.put, List.setIfInBounds_toArray, List.set_cons_zero, List.set_cons_succ, updV, Nat.reduceBEq, Bool.false_eq_true, if_false, if_true]
            go_simp
            exact Shut.use HK.out _ (by kernel_rfl) HN.out
          · intro L X w1 hI hL hd K hK
            obtain ⟨g1, x1, B1⟩ := hI.row 1 _ _ _ _ hE7_1.out rfl (hd 1 (by kernel_rfl)) hL
            obtain ⟨Y, rfl⟩ : ∃ Y, X = updV Y 43 (.slice (some ⟨g1, 0, none⟩) 1 1) := ⟨X, by rw [updV_self x1]⟩
            clear x1
            have HK : Hid _ := hK
            have HI : Hid _ := hI
            clear hK hI hd
            have hcc := lcall_is (row1 B1 (HR.out.below HI.out.bel.out) I64_0) HP.out.ln
            refine Wrap.mk ?_
            simp only [putL, Act.put, List.setIfInBounds_toArray, List.set_cons_zero, List.set_cons_succ, updV, Nat.reduceBEq, Bool.false_eq_true, if_false, if_true]
            go_simp
            refine (hcc).mono ?_
            rintro e w2 ⟨rfl, hb1⟩
            (try dsimp only)
            try simp only [Act.put, List.setIfInBounds_toArray, List.set_cons_zero, List.set_cons_succ]
            exact Shut.use HK.out _ (by kernel_rfl) (Rgc.stepC (HI.out.below hb1) hwf7.out hE7_2.out rfl rfl rfl hL)
          · intro L X w1 hI hL hd K hK
            have HN : Hid _ := Rgc.stepR hI hwf7.out hE7_4.out rfl rfl rfl 34
            have HK : Hid _ := hK
            clear hK hI hd
            refine Wrap.mk ?_
            simp only [putL, Act.put, List.setIfInBounds_toArray, List.set_cons_zero, List.set_cons_succ, updV, Nat.reduceBEq, Bool.false_eq_true, if_false, if_true]
            go_simp
            exact Shut.use HK.out _ (by kernel_rfl) HN.out
          · intro L X w1 hI hL hd K hK
            obtain ⟨g4, x4, B4⟩ := hI.row 4 _ _ _ _ hE7_4.out rfl (hd 4 (by kernel_rfl)) hL
            obtain ⟨Y, rfl⟩ : ∃ Y, X = updV Y 46 (.slice (some ⟨g4, 0, none⟩) 1 1) := ⟨X, by rw [updV_self x4]⟩
            clear x4
            have HK : Hid _ := hK
            have HI : Hid _ := hI
            clear hK hI hd
            have hcc := lcall_is (row1 B4 (HR.out.below HI.out.bel.out) I64_0) HP.out.lm
            refine Wrap.mk ?_
            simp only [putL, Act.put, List.setIfInBounds_toArray, List.set_cons_zero, List.set_cons_succ, updV, Nat.reduceBEq, Bool.false_eq_true, if_false, if_true]
            go_simp
            refine (hcc).mono ?_
            rintro e w2 ⟨rfl, hb1⟩
            (try dsimp only)
            try simp only [Act.put, List.setIfInBounds_toArray, List.set_cons_zero, List.set_cons_succ]
            exact Shut.use HK.out _ (by kernel_rfl) (Rgc.stepC (HI.out.below hb1) hwf7.out hE7_5.out rfl rfl rfl hL)
          · intro L X w1 hI hL hd K hK
            have HN : Hid _ := Rgc.stepR hI hwf7.out hE7_7.out rfl rfl rfl 34
            have HK : Hid _ := hK
            clear hK hI hd
            refine Wrap.mk ?_
            simp only [putL, Act.put, List.setIfInBounds_toArray, List.set_cons_zero, List.set_cons_succ, updV, Nat.reduceBEq, Bool.false_eq_true, if_false, if_true]
            go_simp
            exact Shut.use HK.out _ (by kernel_rfl) HN.out
          · intro L X w1 hI hL hd K hK
            obtain ⟨g7, x7, B7⟩ := hI.row 7 _ _ _ _ hE7_7.out rfl (hd 7 (by kernel_rfl)) hL
            obtain ⟨Y, rfl⟩ : ∃ Y, X = updV Y 49 (.slice (some ⟨g7, 0, none⟩) 1 1) := ⟨X, by rw [updV_self x7]⟩
            clear x7
            have HK : Hid _ := hK
            have HI : Hid _ := hI
            clear hK hI hd
            have hcc := lcall_is (row1 B7 (HR.out.below HI.out.bel.out) I64_0) HP.out.ll
            refine Wrap.mk ?_
            simp only [putL, Act.put, List.setIfInBounds_toArray, List.set_cons_zero, List.set_cons_succ, updV, Nat.reduceBEq, Bool.false_eq_true, if_false, if_true]
            go_simp
            refine (hcc).mono ?_
            rintro e w2 ⟨rfl, hb1⟩
            (try dsimp only)
            try simp only [Act.put, List.setIfInBounds_toArray, List.set_cons_zero, List.set_cons_succ]
            exact Shut.use HK.out _ (by kernel_rfl) (Rgc.stepC (HI.out.below hb1) hwf7.out hE7_8.out rfl rfl rfl hL)
          · intro L X w1 hI hL hd K hK
            have HN : Hid _ := Rgc.stepB hI hwf7.out hE7_9.out rfl rfl rfl hL 34
            have HK : Hid _ := hK
            clear hK hI hd
            refine Wrap.mk ?_
            simp only [putL, Act.put, List.setIfInBounds_toArray, List.set_cons_zero, List.set_cons_succ, updV, Nat.reduceBEq, Bool.false_eq_true, if_false, if_true]
            go_simp
            exact Shut.use HK.out _ (by kernel_rfl) HN.out
          · intro L X w1 hI hL hd K hK
            have HN : Hid _ := Rgc.stepB hI hwf7.out hE7_10.out rfl rfl rfl hL 34
            have HK : Hid _ := hK
            clear hK hI hd
            refine Wrap.mk ?_
            simp only [putL, Act.put, List.setIfInBounds_toArray, List.set_cons_zero, List.set_cons_succ, updV, Nat.reduceBEq, Bool.false_eq_true, if_false, if_true]
            go_simp
            exact Shut.use HK.out _ (by kernel_rfl) HN.out
          · intro L X w1 hI hL hd K hK
            have HN : Hid _ := Rgc.stepB hI hwf7.out hE7_11.out rfl rfl rfl hL 34
            have HK : Hid _ := hK
            clear hK hI hd
            refine Wrap.mk ?_
            simp only [putL, Act.put, List.setIfInBounds_toArray, List.set_cons_zero, List.set_cons_succ, updV, Nat.reduceBEq, Bool.false_eq_true, if_false, if_true]
            go_simp
            exact Shut.use HK.out _ (by kernel_rfl) HN.out
          · intro L X w1 hI hL hd K hK
            have x2 : X 44 = .agg #[.int .i64 2, .int .i64 n, .string ⟨#[]⟩] := hI.cal 2 _ _ hE7_2.out rfl (hd 2 (by kernel_rfl))
            have hd9 := hd 9 (by kernel_rfl)
            obtain ⟨g9, x9, B9⟩ := hI.box 9 { slot := 10, box := some (12, [.int .i64 0, .int .i64 0, .string ⟨#[]⟩], [.int .i64 2, .int .i64 n, .string ⟨#[]⟩]) } (12) ([.int .i64 0, .int .i64 0, .string ⟨#[]⟩]) ([.int .i64 2, .int .i64 n, .string ⟨#[]⟩]) hE7_9.out rfl hd9
            rw [hL] at B9
            obtain ⟨Y, rfl⟩ : ∃ Y, X = updV (updV Y 44 (.agg #[.int .i64 2, .int .i64 n, .string ⟨#[]⟩])) 10 (.pointer (some ⟨g9, 0, none⟩)) := ⟨X, by rw [updV_self x2, updV_self x9]⟩
            clear x2 x9
            have hN := Rgc.stepS hI hwf7.out hE7_9.out rfl hE7_12.out (hd 9 (by kernel_rfl)) (show (updV (updV Y 44 (.agg #[.int .i64 2, .int .i64 n, .string ⟨#[]⟩])) 10 (.pointer (some ⟨g9, 0, none⟩))) 10 = .pointer (some ⟨g9, 0, none⟩) by simp only [updV, Nat.reduceBEq, Bool.false_eq_true, if_false, if_true])
            have c0 := B9.cs 0 _ rfl
            have c1 := B9.cs 1 _ rfl
            have c2 := B9.cs 2 _ rfl
            have hfr := B9.fr
            have hlt := B9.lt
            have HN : Hid _ := hN
            have HK : Hid _ := hK
            clear hN hK hI hd B9
            refine Wrap.mk ?_
            simp only [putL, Act.put, List.setIfInBounds_toArray, List.set_cons_zero, List.set_cons_succ, updV, Nat.reduceBEq, Bool.false_eq_true, if_false, if_true]
            go_simp
            exact Shut.use HK.out (updV (updV Y 44 (.agg #[.int .i64 2, .int .i64 n, .string ⟨#[]⟩])) 10 (.pointer (some ⟨g9, 0, none⟩))) (by kernel_rfl) HN.out
          · intro L X w1 hI hL hd K hK
            have x5 : X 47 = .agg #[.int .i64 2, .int .i64 m, .string ⟨#[]⟩] := hI.cal 5 _ _ hE7_5.out rfl (hd 5 (by kernel_rfl))
            have hd10 := hd 10 (by kernel_rfl)
            obtain ⟨g10, x10, B10⟩ := hI.box 10 { slot := 11, box := some (13, [.int .i64 0, .int .i64 0, .string ⟨#[]⟩], [.int .i64 2, .int .i64 m, .string ⟨#[]⟩]) } (13) ([.int .i64 0, .int .i64 0, .string ⟨#[]⟩]) ([.int .i64 2, .int .i64 m, .string ⟨#[]⟩]) hE7_10.out rfl hd10
            rw [hL] at B10
            obtain ⟨Y, rfl⟩ : ∃ Y, X = updV (updV Y 47 (.agg #[.int .i64 2, .int .i64 m, .string ⟨#[]⟩])) 11 (.pointer (some ⟨g10, 0, none⟩)) := ⟨X, by rw [updV_self x5, updV_self x10]⟩
            clear x5 x10
            have hN := Rgc.stepS hI hwf7.out hE7_10.out rfl hE7_13.out (hd 10 (by kernel_rfl)) (show (updV (updV Y 47 (.agg #[.int .i64 2, .int .i64 m, .string ⟨#[]⟩])) 11 (.pointer (some ⟨g10, 0, none⟩))) 11 = .pointer (some ⟨g10, 0, none⟩) by simp only [updV, Nat.reduceBEq, Bool.false_eq_true, if_false, if_true])
            have c0 := B10.cs 0 _ rfl
            have c1 := B10.cs 1 _ rfl
            have c2 := B10.cs 2 _ rfl
            have hfr := B10.fr
            have hlt := B10.lt
            have HN : Hid _ := hN
            have HK : Hid _ := hK
            clear hN hK hI hd B10
            refine Wrap.mk ?_
            simp only [putL, Act.put, List.setIfInBounds_toArray, List.set_cons_zero, List.set_cons_succ, updV, Nat.reduceBEq, Bool.false_eq_true, if_false, if_true]
            go_simp
            exact Shut.use HK.out (updV (updV Y 47 (.agg #[.int .i64 2, .int .i64 m, .string ⟨#[]⟩])) 11 (.pointer (some ⟨g10, 0, none⟩))) (by kernel_rfl) HN.out
          · intro L X w1 hI hL hd K hK
            have x8 : X 50 = .agg #[.int .i64 2, .int .i64 l, .string ⟨#[]⟩] := hI.cal 8 _ _ hE7_8.out rfl (hd 8 (by kernel_rfl))
            have hd11 := hd 11 (by kernel_rfl)
            obtain ⟨g11, x11, B11⟩ := hI.box 11 { slot := 12, box := some (14, [.int .i64 0, .int .i64 0, .string ⟨#[]⟩], [.int .i64 2, .int .i64 l, .string ⟨#[]⟩]) } (14) ([.int .i64 0, .int .i64 0, .string ⟨#[]⟩]) ([.int .i64 2, .int .i64 l, .string ⟨#[]⟩]) hE7_11.out rfl hd11
            rw [hL] at B11
            obtain ⟨Y, rfl⟩ : ∃ Y, X = updV (updV Y 50 (.agg #[.int .i64 2, .int .i64 l, .string ⟨#[]⟩])) 12 (.pointer (some ⟨g11, 0, none⟩)) := ⟨X, by rw [updV_self x8, updV_self x11]⟩
            clear x8 x11
            have hN := Rgc.stepS hI hwf7.out hE7_11.out rfl hE7_14.out (hd 11 (by kernel_rfl)) (show (updV (updV Y 50 (.agg #[.int .i64 2, .int .i64 l, .string ⟨#[]⟩])) 12 (.pointer (some ⟨g11, 0, none⟩))) 12 = .pointer (some ⟨g11, 0, none⟩) by simp only [updV, Nat.reduceBEq, Bool.false_eq_true, if_false, if_true])
            have c0 := B11.cs 0 _ rfl
            have c1 := B11.cs 1 _ rfl
            have c2 := B11.cs 2 _ rfl
            have hfr := B11.fr
            have hlt := B11.lt
            have HN : Hid _ := hN
            have HK : Hid _ := hK
            clear hN hK hI hd B11
            refine Wrap.mk ?_
            simp only [putL, Act.put, List.setIfInBounds_toArray, List.set_cons_zero, List.set_cons_succ, updV, Nat.reduceBEq, Bool.false_eq_true, if_false, if_true]
            go_simp
            exact Shut.use HK.out (updV (updV Y 50 (.agg #[.int .i64 2, .int .i64 l, .string ⟨#[]⟩])) 12 (.pointer (some ⟨g11, 0, none⟩))) (by kernel_rfl) HN.out
        · intro L X w1 hI hAll
          obtain ⟨g9, x9, B9⟩ := hI.box 9 _ _ _ _ hE7_9.out rfl (hAll 9 (of_decide_eq_true (by kernel_rfl)))
          rw [if_pos (hAll 12 (of_decide_eq_true (by kernel_rfl)))] at B9
          obtain ⟨g10, x10, B10⟩ := hI.box 10 _ _ _ _ hE7_10.out rfl (hAll 10 (of_decide_eq_true (by kernel_rfl)))
          rw [if_pos (hAll 13 (of_decide_eq_true (by kernel_rfl)))] at B10
          obtain ⟨g11, x11, B11⟩ := hI.box 11 _ _ _ _ hE7_11.out rfl (hAll 11 (of_decide_eq_true (by kernel_rfl)))
          rw [if_pos (hAll 14 (of_decide_eq_true (by kernel_rfl)))] at B11
          have hB := hI.bel
          clear hI hAll hst7 hwf7 hE7_1 hE7_2 hE7_4 hE7_5 hE7_7 hE7_8 hE7_9 hE7_10 hE7_11 hE7_12 hE7_13 hE7_14 hHeld
          simp only [putL, Act.put, List.setIfInBounds_toArray, List.set_cons_zero, List.set_cons_succ]
          rw [show X 10 = _ from x9]
          rw [show X 11 = _ from x10]
          rw [show X 12 = _ from x11]
          generalize X 43 = y43
          generalize X 44 = y44
          generalize X 46 = y46
          generalize X 47 = y47
          generalize X 49 = y49
          generalize X 50 = y50
          clear x9 x10 x11
          have HV : Hid (Bxc n0 b5 [.int .i64 4, .int .i64 0, .string s] w1) := HV.out.below hB.out
          have HA : Hid (Bxc w2.heap.size b8 [.int .i64 4, .int .i64 0, .string a] w1) := HA.out.below hB.out
          have HBb : Hid (Bxc w4.heap.size b9 [.int .i64 4, .int .i64 0, .string b] w1) := HBb.out.below hB.out
          have HR : Hid (Ready w1) := HR.out.below hB.out
          have HBW : Hid (Bel w.heap.size w w1) := HBW.out.step hB.out
          have HN : Hid _ := B9
          obtain ⟨b10, he⟩ : ∃ b, b = g9 := ⟨_, rfl⟩
          rw [← he] at HN ⊢
          clear he
          have HM : Hid _ := B10
          obtain ⟨b11, he⟩ : ∃ b, b = g10 := ⟨_, rfl⟩
          rw [← he] at HM ⊢
          clear he
          have HL : Hid _ := B11
          obtain ⟨b12, he⟩ : ∃ b, b = g11 := ⟨_, rfl⟩
          rw [← he] at HL ⊢
          clear he
          obtain ⟨w7, he⟩ : ∃ u, u = w1 := ⟨_, rfl⟩
          rw [← he] at HR HBW HV HA HBb HN HM HL ⊢
          clear he hB B9 B10 B11
          go_wp2
          have q1 : wrap64 (n + m) = l := by
            have h1 := HP.out.sum
            have h2 := HP.out.bd
            rw [h1]
            unfold wrap64
            omega
          have q1' : IntKind.i64.wrap (n + m) = l := by
            have h1 := HP.out.sum
            have h2 := HP.out.bd
            rw [h1]
            unfold IntKind.wrap IntKind.signed IntKind.bits
            simp
            omega
          have q2 : (n == max 0 (min x l)) = true := by
            have := HP.out.nn
            simpa using this
          refine wp_region_held_drew (S := (fun wS => Bel w7.heap.size w7 wS)) (by kernel_rfl) ?_ (fun hHeld => ?_)
          · (try dsimp only); exact (Bel.refl _).drew
          refine wpAnyH_take (i := 0) (oi := { dst := some 51, op := Op.load 34 (Operand.tmp 8), type := 34, pos := "law.go:85", after := #[], guard := none }) (v := ?_) rfl (by kernel_rfl) (by kernel_rfl) (by kernel_rfl) (fun _ _ _ h => h) (Or.inl ⟨by kernel_rfl, ?_⟩) (by assumption) ?_
          rotate_left
          · intro wS hSw; (try dsimp only at hSw); have c0 := (cell_below hSw.out (HA.out.cs 0 _ rfl)); have c1 := (cell_below hSw.out (HA.out.cs 1 _ rfl)); have c2 := (cell_below hSw.out (HA.out.cs 2 _ rfl)); go_simp; (try with_reducible rfl)
          try simp only [Act.put, List.setIfInBounds_toArray, List.set_cons_zero, List.set_cons_succ]
          refine wpAnyH_take (i := 1) (oi := { dst := some 52, op := Op.load 34 (Operand.tmp 9), type := 34, pos := "law.go:85", after := #[], guard := none }) (v := ?_) rfl (by kernel_rfl) (by kernel_rfl) (by kernel_rfl) (fun _ _ _ h => h) (Or.inl ⟨by kernel_rfl, ?_⟩) (by assumption) ?_
          rotate_left
          · intro wS hSw; (try dsimp only at hSw); have c0 := (cell_below hSw.out (HBb.out.cs 0 _ rfl)); have c1 := (cell_below hSw.out (HBb.out.cs 1 _ rfl)); have c2 := (cell_below hSw.out (HBb.out.cs 2 _ rfl)); go_simp; (try with_reducible rfl)
          try simp only [Act.put, List.setIfInBounds_toArray, List.set_cons_zero, List.set_cons_succ]
          refine wpAnyH_take (i := 4) (oi := { dst := some 55, op := Op.load 34 (Operand.tmp 5), type := 34, pos := "law.go:85", after := #[], guard := none }) (v := ?_) rfl (by kernel_rfl) (by kernel_rfl) (by kernel_rfl) (fun _ _ _ h => h) (Or.inl ⟨by kernel_rfl, ?_⟩) (by assumption) ?_
          rotate_left
          · intro wS hSw; (try dsimp only at hSw); have c0 := (cell_below hSw.out (HV.out.cs 0 _ rfl)); have c1 := (cell_below hSw.out (HV.out.cs 1 _ rfl)); have c2 := (cell_below hSw.out (HV.out.cs 2 _ rfl)); go_simp; (try with_reducible rfl)
          try simp only [Act.put, List.setIfInBounds_toArray, List.set_cons_zero, List.set_cons_succ]
          refine wpAnyH_ready (rs := [2]) (by kernel_rfl) (by simp) ?_
          refine AllReadyH.cons (o := { dst := some 53, op := Op.buildSlice 32 2 #[(0, Operand.tmp 51), (1, Operand.tmp 52)], type := 32, pos := "law.go:85", after := #[{ on := 0, ground := Ground.data }, { on := 1, ground := Ground.data }], guard := none }) rfl (fun K hK => ?_) AllReadyH.nil
          go_simp
          refine hK.out _ _ ?_ (fun hH2 => ?_)
          · (try dsimp only); exact (by repeat (first | exact Bel.refl _ | assumption | refine Bel.drew ?_ | refine Bel.drewN ?_ _ | refine Bel.alloc ?_ _ | refine Bel.setCell ?_ (by simp <;> omega) _ | refine Bel.step ?_ (by assumption)))
          clear hK K
          try simp only [Act.put, List.setIfInBounds_toArray, List.set_cons_zero, List.set_cons_succ]
          refine wpAnyH_ready (rs := [3]) (by kernel_rfl) (by simp) ?_
          refine AllReadyH.cons (o := { dst := some 54, op := Op.call { callee := Callee.value (Operand.func 18), args := #[Operand.const (Value.string { data := #[99, 111, 110, 99, 97, 116] }), Operand.tmp 53], argTypes := #[9, 32] }, type := 34, pos := "law.go:85", after := #[{ on := 2, ground := Ground.data }], guard := none }) rfl (fun K hK => ?_) AllReadyH.nil
          go_simp
          have hcc := lcall_is (row2 ((Bxc.new (n0 := 0) _ (Nat.zero_le _) _ 34).below (Below.refl _ _).drew) (HR.out.below hH2.out) I64_0 I64_0) HP.out.cc
          refine hcc.mono ?_
          rintro e w9 ⟨rfl, hb9⟩
          (try dsimp only)
          refine hK.out _ _ ?_ (fun hH3 => ?_)
          · (try dsimp only); exact (by repeat (first | exact Bel.refl _ | assumption | refine Bel.drew ?_ | refine Bel.drewN ?_ _ | refine Bel.alloc ?_ _ | refine Bel.setCell ?_ (by simp <;> omega) _ | refine Bel.step ?_ (by assumption)))
          clear hK K
          try simp only [Act.put, List.setIfInBounds_toArray, List.set_cons_zero, List.set_cons_succ]
          refine wpAnyH_take (i := 5) (oi := { dst := some 56, op := Op.binOp BinOp.eql 34 (Operand.tmp 54) (Operand.tmp 55) 34, type := 4, pos := "law.go:85", after := #[{ on := 3, ground := Ground.data }, { on := 4, ground := Ground.data }], guard := none }) (v := ?_) rfl (by kernel_rfl) (by kernel_rfl) (by kernel_rfl) (fun _ _ _ h => h) (Or.inl ⟨by kernel_rfl, ?_⟩) (by assumption) ?_
          rotate_left
          · intro wS hSw; (try dsimp only at hSw); have hq := eq34 4 4 0 0 s s wS; simp only [decide_true] at hq; go_simp; (try with_reducible rfl)
          try simp only [Act.put, List.setIfInBounds_toArray, List.set_cons_zero, List.set_cons_succ]
          refine wpAnyH_take (i := 6) (oi := { dst := some 57, op := Op.move (Operand.tmp 56), type := 4, pos := "law.go:85", after := #[{ on := 5, ground := Ground.data }, { on := 3, ground := Ground.chain }], guard := none }) (v := ?_) rfl (by kernel_rfl) (by kernel_rfl) (by kernel_rfl) (fun _ _ _ h => h) (Or.inl ⟨by kernel_rfl, ?_⟩) (by assumption) ?_
          rotate_left
          · intro wS hSw; (try dsimp only at hSw); go_simp; (try with_reducible rfl)
          try simp only [Act.put, List.setIfInBounds_toArray, List.set_cons_zero, List.set_cons_succ]
          refine wpAnyH_take (i := 7) (oi := { dst := some 58, op := Op.fieldAddr 34 (Operand.tmp 10) 1, type := 0, pos := "law.go:85", after := #[{ on := 6, ground := Ground.guard }], guard := some (6, true) }) (v := ?_) rfl (by kernel_rfl) (by kernel_rfl) (by kernel_rfl) (fun _ _ _ h => h) (Or.inl ⟨by kernel_rfl, ?_⟩) (by assumption) ?_
          rotate_left
          · intro wS hSw; (try dsimp only at hSw); go_simp; (try with_reducible rfl)
          try simp only [Act.put, List.setIfInBounds_toArray, List.set_cons_zero, List.set_cons_succ]
          refine wpAnyH_take (i := 8) (oi := { dst := some 59, op := Op.load 3 (Operand.tmp 58), type := 3, pos := "law.go:85", after := #[{ on := 7, ground := Ground.data }, { on := 6, ground := Ground.guard }], guard := some (6, true) }) (v := ?_) rfl (by kernel_rfl) (by kernel_rfl) (by kernel_rfl) (fun _ _ _ h => h) (Or.inl ⟨by kernel_rfl, ?_⟩) (by assumption) ?_
          rotate_left
          · intro wS hSw; (try dsimp only at hSw); have c1 := (cell_below hSw.out (HN.out.cs 1 _ rfl)); go_simp; (try with_reducible rfl)
          try simp only [Act.put, List.setIfInBounds_toArray, List.set_cons_zero, List.set_cons_succ]
          refine wpAnyH_take (i := 9) (oi := { dst := some 60, op := Op.fieldAddr 34 (Operand.tmp 11) 1, type := 0, pos := "law.go:85", after := #[{ on := 6, ground := Ground.guard }], guard := some (6, true) }) (v := ?_) rfl (by kernel_rfl) (by kernel_rfl) (by kernel_rfl) (fun _ _ _ h => h) (Or.inl ⟨by kernel_rfl, ?_⟩) (by assumption) ?_
          rotate_left
          · intro wS hSw; (try dsimp only at hSw); go_simp; (try with_reducible rfl)
          try simp only [Act.put, List.setIfInBounds_toArray, List.set_cons_zero, List.set_cons_succ]
          refine wpAnyH_take (i := 10) (oi := { dst := some 61, op := Op.load 3 (Operand.tmp 60), type := 3, pos := "law.go:85", after := #[{ on := 9, ground := Ground.data }, { on := 6, ground := Ground.guard }], guard := some (6, true) }) (v := ?_) rfl (by kernel_rfl) (by kernel_rfl) (by kernel_rfl) (fun _ _ _ h => h) (Or.inl ⟨by kernel_rfl, ?_⟩) (by assumption) ?_
          rotate_left
          · intro wS hSw; (try dsimp only at hSw); have c1 := (cell_below hSw.out (HM.out.cs 1 _ rfl)); go_simp; (try with_reducible rfl)
          try simp only [Act.put, List.setIfInBounds_toArray, List.set_cons_zero, List.set_cons_succ]
          refine wpAnyH_take (i := 11) (oi := { dst := some 62, op := Op.binOp BinOp.add 3 (Operand.tmp 59) (Operand.tmp 61) 3, type := 3, pos := "law.go:85", after := #[{ on := 8, ground := Ground.data }, { on := 10, ground := Ground.data }, { on := 6, ground := Ground.guard }], guard := some (6, true) }) (v := ?_) rfl (by kernel_rfl) (by kernel_rfl) (by kernel_rfl) (fun _ _ _ h => h) (Or.inl ⟨by kernel_rfl, ?_⟩) (by assumption) ?_
          rotate_left
          · intro wS hSw; (try dsimp only at hSw); go_simp; (try with_reducible rfl)
          try simp only [Act.put, List.setIfInBounds_toArray, List.set_cons_zero, List.set_cons_succ]
          refine wpAnyH_take (i := 12) (oi := { dst := some 63, op := Op.fieldAddr 34 (Operand.tmp 12) 1, type := 0, pos := "law.go:85", after := #[{ on := 6, ground := Ground.guard }], guard := some (6, true) }) (v := ?_) rfl (by kernel_rfl) (by kernel_rfl) (by kernel_rfl) (fun _ _ _ h => h) (Or.inl ⟨by kernel_rfl, ?_⟩) (by assumption) ?_
          rotate_left
          · intro wS hSw; (try dsimp only at hSw); go_simp; (try with_reducible rfl)
          try simp only [Act.put, List.setIfInBounds_toArray, List.set_cons_zero, List.set_cons_succ]
          refine wpAnyH_take (i := 13) (oi := { dst := some 64, op := Op.load 3 (Operand.tmp 63), type := 3, pos := "law.go:85", after := #[{ on := 12, ground := Ground.data }, { on := 6, ground := Ground.guard }], guard := some (6, true) }) (v := ?_) rfl (by kernel_rfl) (by kernel_rfl) (by kernel_rfl) (fun _ _ _ h => h) (Or.inl ⟨by kernel_rfl, ?_⟩) (by assumption) ?_
          rotate_left
          · intro wS hSw; (try dsimp only at hSw); have c1 := (cell_below hSw.out (HL.out.cs 1 _ rfl)); go_simp; (try with_reducible rfl)
          try simp only [Act.put, List.setIfInBounds_toArray, List.set_cons_zero, List.set_cons_succ]
          refine wpAnyH_take (i := 14) (oi := { dst := some 65, op := Op.binOp BinOp.eql 3 (Operand.tmp 62) (Operand.tmp 64) 3, type := 4, pos := "law.go:85", after := #[{ on := 11, ground := Ground.data }, { on := 13, ground := Ground.data }, { on := 6, ground := Ground.guard }], guard := some (6, true) }) (v := ?_) rfl (by kernel_rfl) (by kernel_rfl) (by kernel_rfl) (fun _ _ _ h => h) (Or.inl ⟨by kernel_rfl, ?_⟩) (by assumption) ?_
          rotate_left
          · intro wS hSw; (try dsimp only at hSw); go_simp; (try with_reducible rfl)
          try simp only [Act.put, List.setIfInBounds_toArray, List.set_cons_zero, List.set_cons_succ]
          refine wpAnyH_take (i := 15) (oi := { dst := some 66, op := Op.pick (Operand.tmp 57) (Operand.tmp 65) (Operand.const (Value.bool false)), type := 4, pos := "law.go:85", after := #[{ on := 6, ground := Ground.data }, { on := 14, ground := Ground.data }], guard := none }) (v := ?_) rfl (by kernel_rfl) (by kernel_rfl) (by kernel_rfl) (fun _ _ _ h => h) (Or.inl ⟨by kernel_rfl, ?_⟩) (by assumption) ?_
          rotate_left
          · intro wS hSw; (try dsimp only at hSw); go_simp; (try with_reducible rfl)
          try simp only [Act.put, List.setIfInBounds_toArray, List.set_cons_zero, List.set_cons_succ]
          refine wpAnyH_take (i := 16) (oi := { dst := some 67, op := Op.move (Operand.tmp 66), type := 4, pos := "law.go:85", after := #[{ on := 15, ground := Ground.data }, { on := 6, ground := Ground.chain }], guard := none }) (v := ?_) rfl (by kernel_rfl) (by kernel_rfl) (by kernel_rfl) (fun _ _ _ h => h) (Or.inl ⟨by kernel_rfl, ?_⟩) (by assumption) ?_
          rotate_left
          · intro wS hSw; (try dsimp only at hSw); go_simp; (try with_reducible rfl)
          try simp only [Act.put, List.setIfInBounds_toArray, List.set_cons_zero, List.set_cons_succ]
          refine wpAnyH_take (i := 17) (oi := { dst := some 68, op := Op.fieldAddr 34 (Operand.tmp 10) 1, type := 0, pos := "law.go:85", after := #[{ on := 16, ground := Ground.guard }], guard := some (16, true) }) (v := ?_) rfl (by kernel_rfl) (by kernel_rfl) (by kernel_rfl) (fun _ _ _ h => h) (Or.inl ⟨by kernel_rfl, ?_⟩) (by assumption) ?_
          rotate_left
          · intro wS hSw; (try dsimp only at hSw); go_simp; (try with_reducible rfl)
          try simp only [Act.put, List.setIfInBounds_toArray, List.set_cons_zero, List.set_cons_succ]
          refine wpAnyH_take (i := 18) (oi := { dst := some 69, op := Op.load 3 (Operand.tmp 68), type := 3, pos := "law.go:85", after := #[{ on := 17, ground := Ground.data }, { on := 16, ground := Ground.guard }], guard := some (16, true) }) (v := ?_) rfl (by kernel_rfl) (by kernel_rfl) (by kernel_rfl) (fun _ _ _ h => h) (Or.inl ⟨by kernel_rfl, ?_⟩) (by assumption) ?_
          rotate_left
          · intro wS hSw; (try dsimp only at hSw); have c1 := (cell_below hSw.out (HN.out.cs 1 _ rfl)); go_simp; (try with_reducible rfl)
          try simp only [Act.put, List.setIfInBounds_toArray, List.set_cons_zero, List.set_cons_succ]
          refine wpAnyH_take (i := 19) (oi := { dst := some 70, op := Op.move (Operand.tmp 1), type := 3, pos := "law.go:85", after := #[{ on := 16, ground := Ground.guard }], guard := some (16, true) }) (v := ?_) rfl (by kernel_rfl) (by kernel_rfl) (by kernel_rfl) (fun _ _ _ h => h) (Or.inl ⟨by kernel_rfl, ?_⟩) (by assumption) ?_
          rotate_left
          · intro wS hSw; (try dsimp only at hSw); go_simp; (try with_reducible rfl)
          try simp only [Act.put, List.setIfInBounds_toArray, List.set_cons_zero, List.set_cons_succ]
          refine wpAnyH_take (i := 20) (oi := { dst := some 71, op := Op.fieldAddr 34 (Operand.tmp 12) 1, type := 0, pos := "law.go:85", after := #[{ on := 16, ground := Ground.guard }], guard := some (16, true) }) (v := ?_) rfl (by kernel_rfl) (by kernel_rfl) (by kernel_rfl) (fun _ _ _ h => h) (Or.inl ⟨by kernel_rfl, ?_⟩) (by assumption) ?_
          rotate_left
          · intro wS hSw; (try dsimp only at hSw); go_simp; (try with_reducible rfl)
          try simp only [Act.put, List.setIfInBounds_toArray, List.set_cons_zero, List.set_cons_succ]
          refine wpAnyH_take (i := 21) (oi := { dst := some 72, op := Op.load 3 (Operand.tmp 71), type := 3, pos := "law.go:85", after := #[{ on := 20, ground := Ground.data }, { on := 16, ground := Ground.guard }], guard := some (16, true) }) (v := ?_) rfl (by kernel_rfl) (by kernel_rfl) (by kernel_rfl) (fun _ _ _ h => h) (Or.inl ⟨by kernel_rfl, ?_⟩) (by assumption) ?_
          rotate_left
          · intro wS hSw; (try dsimp only at hSw); have c1 := (cell_below hSw.out (HL.out.cs 1 _ rfl)); go_simp; (try with_reducible rfl)
          try simp only [Act.put, List.setIfInBounds_toArray, List.set_cons_zero, List.set_cons_succ]
          refine wpAnyH_take (i := 22) (oi := { dst := some 73, op := Op.call { callee := Callee.builtin Builtin.min, args := #[Operand.tmp 70, Operand.tmp 72], argTypes := #[3, 3] }, type := 3, pos := "law.go:85", after := #[{ on := 19, ground := Ground.data }, { on := 21, ground := Ground.data }, { on := 16, ground := Ground.guard }], guard := some (16, true) }) (v := ?_) rfl (by kernel_rfl) (by kernel_rfl) (by kernel_rfl) (fun _ _ _ h => h) (Or.inl ⟨by kernel_rfl, ?_⟩) (by assumption) ?_
          rotate_left
          · intro wS hSw; (try dsimp only at hSw); go_simp; (try with_reducible rfl)
          try simp only [Act.put, List.setIfInBounds_toArray, List.set_cons_zero, List.set_cons_succ]
          refine wpAnyH_take (i := 23) (oi := { dst := some 74, op := Op.call { callee := Callee.builtin Builtin.max, args := #[Operand.const (Value.int IntKind.i64 0), Operand.tmp 73], argTypes := #[3, 3] }, type := 3, pos := "law.go:85", after := #[{ on := 22, ground := Ground.data }, { on := 16, ground := Ground.guard }], guard := some (16, true) }) (v := ?_) rfl (by kernel_rfl) (by kernel_rfl) (by kernel_rfl) (fun _ _ _ h => h) (Or.inl ⟨by kernel_rfl, ?_⟩) (by assumption) ?_
          rotate_left
          · intro wS hSw; (try dsimp only at hSw); go_simp; (try with_reducible rfl)
          try simp only [Act.put, List.setIfInBounds_toArray, List.set_cons_zero, List.set_cons_succ]
          refine wpAnyH_take (i := 24) (oi := { dst := some 75, op := Op.binOp BinOp.eql 3 (Operand.tmp 69) (Operand.tmp 74) 3, type := 4, pos := "law.go:85", after := #[{ on := 18, ground := Ground.data }, { on := 23, ground := Ground.data }, { on := 16, ground := Ground.guard }], guard := some (16, true) }) (v := ?_) rfl (by kernel_rfl) (by kernel_rfl) (by kernel_rfl) (fun _ _ _ h => h) (Or.inl ⟨by kernel_rfl, ?_⟩) (by assumption) ?_
          rotate_left
          · intro wS hSw; (try dsimp only at hSw); go_simp; (try with_reducible rfl)
          try simp only [Act.put, List.setIfInBounds_toArray, List.set_cons_zero, List.set_cons_succ]
          refine wpAnyH_take (i := 25) (oi := { dst := some 76, op := Op.pick (Operand.tmp 67) (Operand.tmp 75) (Operand.const (Value.bool false)), type := 4, pos := "law.go:85", after := #[{ on := 16, ground := Ground.data }, { on := 24, ground := Ground.data }], guard := none }) (v := ?_) rfl (by kernel_rfl) (by kernel_rfl) (by kernel_rfl) (fun _ _ _ h => h) (Or.inl ⟨by kernel_rfl, ?_⟩) (by assumption) ?_
          rotate_left
          · intro wS hSw; (try dsimp only at hSw); go_simp; (try with_reducible rfl)
          try simp only [Act.put, List.setIfInBounds_toArray, List.set_cons_zero, List.set_cons_succ]
          refine wpAnyH_take (i := 26) (oi := { dst := some 77, op := Op.move (Operand.tmp 76), type := 4, pos := "law.go:85", after := #[{ on := 25, ground := Ground.data }, { on := 16, ground := Ground.chain }], guard := none }) (v := ?_) rfl (by kernel_rfl) (by kernel_rfl) (by kernel_rfl) (fun _ _ _ h => h) (Or.inl ⟨by kernel_rfl, ?_⟩) (by assumption) ?_
          rotate_left
          · intro wS hSw; (try dsimp only at hSw); go_simp; (try with_reducible rfl)
          try simp only [Act.put, List.setIfInBounds_toArray, List.set_cons_zero, List.set_cons_succ]
          refine wpAnyH_ready (rs := [27]) (by kernel_rfl) (by simp) ?_
          refine AllReadyH.cons (o := { dst := some 78, op := Op.call { callee := Callee.value (Operand.func 12), args := #[], argTypes := #[] }, type := 4, pos := "law.go:85", after := #[{ on := 26, ground := Ground.chain }, { on := 26, ground := Ground.guard }], guard := some (26, true) }) rfl (fun K hK => ?_) AllReadyH.nil
          go_simp
          refine (sure_any _ (HR.out.below hH3.out)).mono ?_
          rintro e w9 ⟨rfl, hb9⟩
          (try dsimp only)
          refine hK.out _ _ ?_ (fun hH27 => ?_)
          · (try dsimp only); exact (by repeat (first | exact Bel.refl _ | assumption | refine Bel.drew ?_ | refine Bel.drewN ?_ _ | refine Bel.alloc ?_ _ | refine Bel.setCell ?_ (by simp <;> omega) _ | refine Bel.step ?_ (by assumption)))
          clear hK K
          try simp only [Act.put, List.setIfInBounds_toArray, List.set_cons_zero, List.set_cons_succ]
          refine wpAnyH_take (i := 28) (oi := { dst := some 79, op := Op.pick (Operand.tmp 77) (Operand.tmp 78) (Operand.const (Value.bool false)), type := 4, pos := "law.go:85", after := #[{ on := 26, ground := Ground.data }, { on := 27, ground := Ground.data }], guard := none }) (v := ?_) rfl (by kernel_rfl) (by kernel_rfl) (by kernel_rfl) (fun _ _ _ h => h) (Or.inl ⟨by kernel_rfl, ?_⟩) (by assumption) ?_
          rotate_left
          · intro wS hSw; (try dsimp only at hSw); go_simp; (try with_reducible rfl)
          try simp only [Act.put, List.setIfInBounds_toArray, List.set_cons_zero, List.set_cons_succ]
          refine wpAnyH_take (i := 29) (oi := { dst := some 4, op := Op.assign (Operand.tmp 79), type := 4, pos := "law.go:85", after := #[{ on := 28, ground := Ground.data }, { on := 27, ground := Ground.chain }, { on := 0, ground := Ground.phase }, { on := 1, ground := Ground.phase }, { on := 2, ground := Ground.phase }, { on := 3, ground := Ground.phase }, { on := 4, ground := Ground.phase }, { on := 5, ground := Ground.phase }, { on := 6, ground := Ground.phase }, { on := 7, ground := Ground.phase }, { on := 8, ground := Ground.phase }, { on := 9, ground := Ground.phase }, { on := 10, ground := Ground.phase }, { on := 11, ground := Ground.phase }, { on := 12, ground := Ground.phase }, { on := 13, ground := Ground.phase }, { on := 14, ground := Ground.phase }, { on := 15, ground := Ground.phase }, { on := 16, ground := Ground.phase }, { on := 17, ground := Ground.phase }, { on := 18, ground := Ground.phase }, { on := 19, ground := Ground.phase }, { on := 20, ground := Ground.phase }, { on := 21, ground := Ground.phase }, { on := 22, ground := Ground.phase }, { on := 23, ground := Ground.phase }, { on := 24, ground := Ground.phase }, { on := 25, ground := Ground.phase }, { on := 26, ground := Ground.phase }, { on := 27, ground := Ground.phase }, { on := 28, ground := Ground.phase }], guard := none }) (v := ?_) rfl (by kernel_rfl) (by kernel_rfl) (by kernel_rfl) (fun _ _ _ h => h) (Or.inl ⟨by kernel_rfl, ?_⟩) (by assumption) ?_
          rotate_left
          · intro wS hSw; (try dsimp only at hSw); go_simp; (try with_reducible rfl)
          try simp only [Act.put, List.setIfInBounds_toArray, List.set_cons_zero, List.set_cons_succ]
          refine wpAnyH_done (by kernel_rfl) ?_ _
          go_wp2
          go_ret
          exact ⟨rfl, (HBW.out.step hH27.out).out⟩
end Go.Proofs.YtjphmbgennadcaaGreatDoor
