/- What must come whatever the input is: the trees that are made for it. -/
import Derived.Test.YtcemogaacicnfaaGreatDoorAgw
import Derived.Test.YtcemogaacicnfaaGreatDoorFrs
namespace Go.Proofs.YtcemogaacicnfaaGreatDoor
set_option linter.unusedSimpArgs false
set_option maxRecDepth 20000
set_option maxHeartbeats 4000000
open Go.ChangeShapes Go.WideShapes Go.ChangeAt Go.RowKit

/-- What lies in a block from its beginning. -/
def At (w : World) (g : Nat) (vs : List Value) : Prop := ∀ j u, vs[j]? = some u → w.cell? ⟨g, j, none⟩ = some u
theorem At.below {w w' : World} {g : Nat} {vs : List Value} (h : At w g vs) (hb : Below w.heap.size w w') : At w' g vs := fun j u hj => cell_below hb (h j u hj)
theorem At.set5 {w : World} {g : Nat} {vs : List Value} (h : At w g vs) (b o : Nat) (v0 v1 v2 v3 v4 : Value) (hb : b ≠ g) : At (set5 w b o v0 v1 v2 v3 v4) g vs := fun j u hj => by rw [set5_far _ _ _ _ _ _ _ _ _ _ hb]; exact h j u hj
theorem At.new (w : World) (vs : Array Value) (T : TypeId) : At (w.alloc (.cells vs T)) w.heap.size vs.toList := fun j u hj => by
  have h := World.alloc_heap_new w (.cells vs T)
  unfold World.cell?
  simp only [h]
  rw [← Array.getElem?_toList]
  exact hj
theorem agg_any (t : ByteArray) (s : Option Addr) (l c : Nat) (w : World) : Calls Tryz.prog 32 #[.string t, .slice s l c] w fun e w' => e = .returned (.agg #[.int .i64 14, .string t, .int .i64 0, .int .i64 0, .slice s l c]) ∧ Below w.heap.size w w' := by
  go_enter Tryz.func32, Tryz.ntmps32
  go_wp2
  refine bodyPost_ret (v := .agg #[.int .i64 14, .string t, .int .i64 0, .int .i64 0, .slice s l c]) (by simp [results, Tryz.results32, go_sem]) rfl ⟨rfl, Bel.out (by repeat (first | exact Bel.refl _ | assumption | refine Bel.drew ?_ | refine Bel.drewN ?_ _ | refine Bel.alloc ?_ _ | refine Bel.setCell ?_ (by simp <;> omega) _ | refine Bel.step ?_ (by assumption)))⟩
theorem num_any (n : Int) (w : World) : Calls Tryz.prog 34 #[.int .i64 n] w fun e w' => e = .returned (.agg #[.int .i64 3, .string ⟨#[]⟩, .int .i64 n, .int .i64 0, .slice none 0 0]) ∧ Below w.heap.size w w' := by
  go_enter Tryz.func34, Tryz.ntmps34
  go_wp2
  refine bodyPost_ret (v := .agg #[.int .i64 3, .string ⟨#[]⟩, .int .i64 n, .int .i64 0, .slice none 0 0]) (by simp [results, Tryz.results34, go_sem]) rfl ⟨rfl, Bel.out (by repeat (first | exact Bel.refl _ | assumption | refine Bel.drew ?_ | refine Bel.drewN ?_ _ | refine Bel.alloc ?_ _ | refine Bel.setCell ?_ (by simp <;> omega) _ | refine Bel.step ?_ (by assumption)))⟩
theorem sum_any (k k' n n' a a' : Int) (t t' : ByteArray) (s s' : Option Addr) (l l' c c' : Nat) (w : World) : Calls Tryz.prog 33 #[.agg #[.int .i64 k, .string t, .int .i64 n, .int .i64 a, .slice s l c], .agg #[.int .i64 k', .string t', .int .i64 n', .int .i64 a', .slice s' l' c']] w fun e w' => (∃ g, e = .returned (Value.agg #[.int .i64 8, .string ⟨#[43]⟩, .int .i64 0, .int .i64 0, .slice (some ⟨g, 0, none⟩) 2 2]) ∧ w.heap.size ≤ g ∧ g < w'.heap.size ∧ At w' g [.int .i64 k, .string t, .int .i64 n, .int .i64 a, .slice s l c, .int .i64 k', .string t', .int .i64 n', .int .i64 a', .slice s' l' c']) ∧ Below w.heap.size w w' := by
  have hat := At.new (((w.alloc (Obj.cells #[Value.int IntKind.i64 k, Value.string t, Value.int IntKind.i64 n, Value.int IntKind.i64 a, Value.slice s l c] 24)).alloc (Obj.cells #[Value.int IntKind.i64 k', Value.string t', Value.int IntKind.i64 n', Value.int IntKind.i64 a', Value.slice s' l' c'] 24)).alloc (Obj.cells #[Value.int IntKind.i64 8, Value.string { data := #[43] }, Value.int IntKind.i64 0, Value.int IntKind.i64 0, Value.slice (some { block := w.heap.size + 1 + 1 + 1, off := 0 }) 2 2] 24)) #[.int .i64 k, .string t, .int .i64 n, .int .i64 a, .slice s l c, .int .i64 k', .string t', .int .i64 n', .int .i64 a', .slice s' l' c'] 24
  simp only [World.size_alloc] at hat
  go_enter Tryz.func33, Tryz.ntmps33
  go_wp2
  refine bodyPost_ret (v := Value.agg #[.int .i64 8, .string ⟨#[43]⟩, .int .i64 0, .int .i64 0, .slice (some ⟨(w.heap.size + 1 + 1 + 1), 0, none⟩) 2 2]) (by simp [results, Tryz.results33, go_sem]) rfl ⟨⟨w.heap.size + 1 + 1 + 1, rfl, by omega, by simp, hat⟩, Bel.out (by repeat (first | exact Bel.refl _ | assumption | refine Bel.drew ?_ | refine Bel.drewN ?_ _ | refine Bel.alloc ?_ _ | refine Bel.setCell ?_ (by simp <;> omega) _ | refine Bel.step ?_ (by assumption)))⟩
theorem box5_set {w : World} {b : Nat} {z0 z1 z2 z3 z4 : Value} (v0 v1 v2 v3 v4 : Value) (h : Box5 w b z0 z1 z2 z3 z4) : Box5 (set5 w b 0 v0 v1 v2 v3 v4) b v0 v1 v2 v3 v4 := by
  have hh := set5_at w b 0 v0 v1 v2 v3 v4 h.c0 h.c1 h.c2 h.c3 h.c4
  obtain ⟨c0, c1, c2, c3, c4⟩ := hh
  exact ⟨c0, c1, c2, c3, c4, by rw [set5_frozen]; exact h.f0, by rw [set5_frozen]; exact h.f1, by rw [set5_frozen]; exact h.f2, by rw [set5_frozen]; exact h.f3, by rw [set5_frozen]; exact h.f4⟩
theorem sureR2 (Q : Exit → Act → World → Prop) (W : World) (Ba b0 : Nat) (p0 p4 p5 p6 : Value) (hP : ∀ c (a : Act) (d : Tmp) v w, Q (.panic c) (a.put (some d) v) w → Q (.panic c) a w) (hA : Box5 W Ba (.int .i64 14) (.string ⟨#[115, 117, 109]⟩) (.int .i64 0) (.int .i64 0) (.slice (some ⟨b0, 0, none⟩) 1 1))
    (hQ : ∀ (B2 g1 g2 : Nat) (Wf : World), Below W.heap.size W Wf → W.heap.size ≤ B2 → Box5 Wf B2 (.int .i64 8) (.string ⟨#[43]⟩) (.int .i64 0) (.int .i64 0) (.slice (some ⟨g2, 0, none⟩) 2 2) → At Wf g1 ([Value.int .i64 14, .string ⟨#[115, 117, 109]⟩, .int .i64 0, .int .i64 0, .slice (some ⟨b0, 0, none⟩) 1 1, .int .i64 14, .string ⟨#[99, 111, 117, 110, 116]⟩, .int .i64 0, .int .i64 0, .slice none 0 0]) → At Wf g2 ([Value.int .i64 14, .string ⟨#[115, 117, 109]⟩, .int .i64 0, .int .i64 0, .slice (some ⟨b0, 0, none⟩) 1 1, .int .i64 8, .string ⟨#[43]⟩, .int .i64 0, .int .i64 0, .slice (some ⟨g1, 0, none⟩) 2 2]) → Q .normal { tmps := #[p0, .pointer (some ⟨Ba, 0, none⟩), .pointer (some ⟨B2, 0, none⟩), undef, p4, p5, p6, Value.agg #[.int .i64 14, .string ⟨#[115, 117, 109]⟩, .int .i64 0, .int .i64 0, .slice (some ⟨b0, 0, none⟩) 1 1], Value.agg #[.int .i64 14, .string ⟨#[115, 117, 109]⟩, .int .i64 0, .int .i64 0, .slice (some ⟨b0, 0, none⟩) 1 1], Value.agg #[.int .i64 14, .string ⟨#[99, 111, 117, 110, 116]⟩, .int .i64 0, .int .i64 0, .slice none 0 0], Value.agg #[.int .i64 8, .string ⟨#[43]⟩, .int .i64 0, .int .i64 0, .slice (some ⟨g1, 0, none⟩) 2 2], Value.agg #[.int .i64 8, .string ⟨#[43]⟩, .int .i64 0, .int .i64 0, .slice (some ⟨g2, 0, none⟩) 2 2], undef, undef, undef, undef, undef, undef, undef, undef, undef, undef, undef, undef, undef, undef, undef, undef, undef, undef, undef, undef, undef, undef, undef, undef, undef, undef, undef, undef, undef, undef, undef, undef, undef, undef, undef, undef, undef, undef, undef, undef, undef, undef, undef, undef, undef, undef, undef, undef, undef, undef, undef, undef, undef], defers := [] } Wf) :
    (Code.region 2 #[{ dst := some 7, op := Op.load 24 (Operand.tmp 1), type := 24, pos := "law.go:21", after := #[], guard := none }, { dst := some 8, op := Op.load 24 (Operand.tmp 1), type := 24, pos := "law.go:21", after := #[], guard := none }, { dst := some 9, op := Op.call { callee := Callee.value (Operand.func 32), args := #[Operand.const (Value.string { data := #[99, 111, 117, 110, 116] }), Operand.const (Value.slice none 0 0)], argTypes := #[9, 22] }, type := 24, pos := "law.go:21", after := #[], guard := none }, { dst := some 10, op := Op.call { callee := Callee.value (Operand.func 33), args := #[Operand.tmp 8, Operand.tmp 9], argTypes := #[24, 24] }, type := 24, pos := "law.go:21", after := #[{ on := 1, ground := Ground.data }, { on := 2, ground := Ground.data }, { on := 2, ground := Ground.chain }], guard := none }, { dst := some 11, op := Op.call { callee := Callee.value (Operand.func 33), args := #[Operand.tmp 7, Operand.tmp 10], argTypes := #[24, 24] }, type := 24, pos := "law.go:21", after := #[{ on := 0, ground := Ground.data }, { on := 3, ground := Ground.data }, { on := 3, ground := Ground.chain }], guard := none }, { dst := some 2, op := Op.alloc 24, type := 0, pos := "law.go:21", after := #[], guard := none }, { dst := none, op := Op.store 24 (Operand.tmp 2) (Operand.tmp 11), type := 0, pos := "law.go:21", after := #[{ on := 5, ground := Ground.data }, { on := 4, ground := Ground.data }, { on := 4, ground := Ground.chain }, { on := 0, ground := Ground.phase }, { on := 1, ground := Ground.phase }, { on := 2, ground := Ground.phase }, { on := 3, ground := Ground.phase }, { on := 4, ground := Ground.phase }, { on := 5, ground := Ground.phase }], guard := none }] true).wp Tryz.prog Q { tmps := #[p0, .pointer (some ⟨Ba, 0, none⟩), undef, undef, p4, p5, p6, undef, undef, undef, undef, undef, undef, undef, undef, undef, undef, undef, undef, undef, undef, undef, undef, undef, undef, undef, undef, undef, undef, undef, undef, undef, undef, undef, undef, undef, undef, undef, undef, undef, undef, undef, undef, undef, undef, undef, undef, undef, undef, undef, undef, undef, undef, undef, undef, undef, undef, undef, undef, undef, undef, undef, undef, undef, undef], defers := [] } W := by
  have HQ : Hid _ := hQ
  have HA : Hid (Box5 W.drew Ba (.int .i64 14) (.string ⟨#[115, 117, 109]⟩) (.int .i64 0) (.int .i64 0) (.slice (some ⟨b0, 0, none⟩) 1 1)) := hA.drew
  have hX : Below W.heap.size W W.drew := (Below.refl _ W).drew
  have hBa : Ba < W.heap.size := cell_lt hA.c0
  clear hQ
  refine wp_region_held_drew (S := fun wS => Box5 wS Ba (.int .i64 14) (.string ⟨#[115, 117, 109]⟩) (.int .i64 0) (.int .i64 0) (.slice (some ⟨b0, 0, none⟩) 1 1)) (by kernel_rfl) ?_ (fun hHeld => ?_)
  · (try dsimp only); exact hA.drew
  refine wpAnyH_take (i := 0) (oi := { dst := some 7, op := Op.load 24 (Operand.tmp 1), type := 24, pos := "law.go:21", after := #[], guard := none }) (v := ?_) rfl (by kernel_rfl) (by kernel_rfl) (by kernel_rfl) (fun _ _ _ h => hP _ _ _ _ _ h) (Or.inl ⟨by kernel_rfl, ?_⟩) (by assumption) ?_
  rotate_left
  · intro wS hSw; (try dsimp only at hSw); have q0 := hSw.c0; have q1 := hSw.c1; have q2 := hSw.c2; have q3 := hSw.c3; have q4 := hSw.c4; go_simp; (try with_reducible rfl)
  try simp only [Act.put, List.setIfInBounds_toArray, List.set_cons_zero, List.set_cons_succ]
  refine wpAnyH_take (i := 1) (oi := { dst := some 8, op := Op.load 24 (Operand.tmp 1), type := 24, pos := "law.go:21", after := #[], guard := none }) (v := ?_) rfl (by kernel_rfl) (by kernel_rfl) (by kernel_rfl) (fun _ _ _ h => hP _ _ _ _ _ h) (Or.inl ⟨by kernel_rfl, ?_⟩) (by assumption) ?_
  rotate_left
  · intro wS hSw; (try dsimp only at hSw); have q0 := hSw.c0; have q1 := hSw.c1; have q2 := hSw.c2; have q3 := hSw.c3; have q4 := hSw.c4; go_simp; (try with_reducible rfl)
  try simp only [Act.put, List.setIfInBounds_toArray, List.set_cons_zero, List.set_cons_succ]
  refine wpAnyH_ready (rs := [2, 5]) (by kernel_rfl) (by simp) ?_
  refine AllReadyH.cons rfl (fun K hK => ?_) ?_
  · go_simp
    go_at_call 32
    refine (agg_any ⟨#[99, 111, 117, 110, 116]⟩ none 0 0 _).mono ?_
    rintro e w1 ⟨rfl, hb1⟩
    refine hK.out _ _ ?_ (fun hH2 => ?_)
    · (try dsimp only); exact HA.out.below hb1
    clear hK K
    try simp only [Act.put, List.setIfInBounds_toArray, List.set_cons_zero, List.set_cons_succ]
    have HA : Hid _ := HA.out.below hb1
    have hs1 := hb1.size
    have hX := hX.trans (hb1.mono hX.size)
    refine wpAnyH_ready (rs := [3, 5]) (by kernel_rfl) (by simp) ?_
    refine AllReadyH.cons rfl (fun K hK => ?_) ?_
    · go_simp
      go_at_call 33
      refine (sum_any 14 14 0 0 0 0 ⟨#[115, 117, 109]⟩ ⟨#[99, 111, 117, 110, 116]⟩ (some ⟨b0, 0, none⟩) none 1 0 1 0 _).mono ?_
      rintro e w2 ⟨⟨g1, rfl, hga1, hgb1, hat1⟩, hb2⟩
      refine hK.out _ _ ?_ (fun hH3 => ?_)
      · (try dsimp only); exact HA.out.below hb2
      clear hK K
      try simp only [Act.put, List.setIfInBounds_toArray, List.set_cons_zero, List.set_cons_succ]
      have HA : Hid _ := HA.out.below hb2
      have hs2 := hb2.size
      have hX := hX.trans (hb2.mono hX.size)
      refine wpAnyH_ready (rs := [4, 5]) (by kernel_rfl) (by simp) ?_
      refine AllReadyH.cons rfl (fun K hK => ?_) ?_
      · go_simp
        go_at_call 33
        refine (sum_any 14 8 0 0 0 0 ⟨#[115, 117, 109]⟩ ⟨#[43]⟩ (some ⟨b0, 0, none⟩) (some ⟨g1, 0, none⟩) 1 2 1 2 _).mono ?_
        rintro e w3 ⟨⟨g2, rfl, hga2, hgb2, hat2⟩, hb3⟩
        refine hK.out _ _ ?_ (fun hH4 => ?_)
        · (try dsimp only); exact HA.out.below hb3
        clear hK K
        try simp only [Act.put, List.setIfInBounds_toArray, List.set_cons_zero, List.set_cons_succ]
        have HA : Hid _ := HA.out.below hb3
        have hs3 := hb3.size
        have hX := hX.trans (hb3.mono hX.size)
        have hat1 := hat1.below hb3
        refine wpAnyH_ready (rs := [5]) (by kernel_rfl) (by simp) ?_
        refine AllReadyH.cons rfl (fun K hK => ?_) AllReadyH.nil
        go_simp
        refine hK.out _ _ ?_ (fun hH5 => ?_)
        · (try dsimp only); exact HA.out.below ((Below.refl _ _).alloc (Nat.le_refl _) _)
        clear hK K
        try simp only [Act.put, List.setIfInBounds_toArray, List.set_cons_zero, List.set_cons_succ]
        have HAo : Hid _ := HA.out
        have hXo := hX
        have hato1 := hat1
        have hato2 := hat2
        have hB2 : W.heap.size ≤ w3.heap.size := hX.size
        have HZ : Hid _ := Box5.new w3 (.int .i64 0) (.string ⟨#[]⟩) (.int .i64 0) (.int .i64 0) (.slice none 0 0) 24
        have HA : Hid _ := HA.out.below ((Below.refl _ w3).alloc (Nat.le_refl _) (Obj.cells #[Value.int IntKind.i64 0, Value.string { data := #[] }, Value.int IntKind.i64 0, Value.int IntKind.i64 0, Value.slice none 0 0] 24))
        have hX := hX.trans (((Below.refl _ w3).alloc (Nat.le_refl _) (Obj.cells #[Value.int IntKind.i64 0, Value.string { data := #[] }, Value.int IntKind.i64 0, Value.int IntKind.i64 0, Value.slice none 0 0] 24)).mono hX.size)
        have hat1 := hat1.below ((Below.refl _ w3).alloc (Nat.le_refl _) (Obj.cells #[Value.int IntKind.i64 0, Value.string { data := #[] }, Value.int IntKind.i64 0, Value.int IntKind.i64 0, Value.slice none 0 0] 24))
        have hat2 := hat2.below ((Below.refl _ w3).alloc (Nat.le_refl _) (Obj.cells #[Value.int IntKind.i64 0, Value.string { data := #[] }, Value.int IntKind.i64 0, Value.int IntKind.i64 0, Value.slice none 0 0] 24))
        refine wpAnyH_ready (rs := [6]) (by kernel_rfl) (by simp) ?_
        refine AllReadyH.cons rfl (fun K hK => ?_) AllReadyH.nil
        go_simp
        refine hK.out _ _ ?_ (fun hH6 => ?_)
        · (try dsimp only); exact HAo.out.below ((Below.refl _ _).alloc (Nat.le_refl _) _)
        clear hK K
        try simp only [Act.put, List.setIfInBounds_toArray, List.set_cons_zero, List.set_cons_succ]
        refine wpAnyH_done (by kernel_rfl) ?_ _
        exact HQ.out w3.heap.size g1 g2 _ (hXo.alloc hXo.size _) hXo.size (Box5.new w3 _ _ _ _ _ 24) (hato1.below ((Below.refl _ _).alloc (Nat.le_refl _) _)) (hato2.below ((Below.refl _ _).alloc (Nat.le_refl _) _))
      refine AllReadyH.cons rfl (fun K hK => ?_) AllReadyH.nil
      go_simp
      refine hK.out _ _ ?_ (fun hH5 => ?_)
      · (try dsimp only); exact HA.out.below ((Below.refl _ _).alloc (Nat.le_refl _) _)
      clear hK K
      try simp only [Act.put, List.setIfInBounds_toArray, List.set_cons_zero, List.set_cons_succ]
      have hB2 : W.heap.size ≤ w2.heap.size := hX.size
      have HZ : Hid _ := Box5.new w2 (.int .i64 0) (.string ⟨#[]⟩) (.int .i64 0) (.int .i64 0) (.slice none 0 0) 24
      have HA : Hid _ := HA.out.below ((Below.refl _ w2).alloc (Nat.le_refl _) (Obj.cells #[Value.int IntKind.i64 0, Value.string { data := #[] }, Value.int IntKind.i64 0, Value.int IntKind.i64 0, Value.slice none 0 0] 24))
      have hX := hX.trans (((Below.refl _ w2).alloc (Nat.le_refl _) (Obj.cells #[Value.int IntKind.i64 0, Value.string { data := #[] }, Value.int IntKind.i64 0, Value.int IntKind.i64 0, Value.slice none 0 0] 24)).mono hX.size)
      have hat1 := hat1.below ((Below.refl _ w2).alloc (Nat.le_refl _) (Obj.cells #[Value.int IntKind.i64 0, Value.string { data := #[] }, Value.int IntKind.i64 0, Value.int IntKind.i64 0, Value.slice none 0 0] 24))
      refine wpAnyH_ready (rs := [4]) (by kernel_rfl) (by simp) ?_
      refine AllReadyH.cons rfl (fun K hK => ?_) AllReadyH.nil
      go_simp
      go_at_call 33
      refine (sum_any 14 8 0 0 0 0 ⟨#[115, 117, 109]⟩ ⟨#[43]⟩ (some ⟨b0, 0, none⟩) (some ⟨g1, 0, none⟩) 1 2 1 2 _).mono ?_
      rintro e w3 ⟨⟨g2, rfl, hga2, hgb2, hat2⟩, hb3⟩
      refine hK.out _ _ ?_ (fun hH4 => ?_)
      · (try dsimp only); exact HA.out.below hb3
      clear hK K
      try simp only [Act.put, List.setIfInBounds_toArray, List.set_cons_zero, List.set_cons_succ]
      have HA : Hid _ := HA.out.below hb3
      have hs3 := hb3.size
      have hX := hX.trans (hb3.mono hX.size)
      have HZ : Hid _ := HZ.out.below hb3
      (try simp at hs3)
      (try simp at hga2)
      have hat1 := hat1.below hb3
      obtain ⟨z0, z1, z2, z3, z4, f0, f1, f2, f3, f4⟩ := HZ.out
      refine wpAnyH_ready (rs := [6]) (by kernel_rfl) (by simp) ?_
      refine AllReadyH.cons rfl (fun K hK => ?_) AllReadyH.nil
      go_simp
      refine hK.out _ _ ?_ (fun hH6 => ?_)
      · (try dsimp only); exact HA.out.set5 _ _ _ _ _ _ _ (by have := hX.size; omega)
      clear hK K
      try simp only [Act.put, List.setIfInBounds_toArray, List.set_cons_zero, List.set_cons_succ]
      refine wpAnyH_done (by kernel_rfl) ?_ _
      exact HQ.out (w2.heap.size) g1 g2 _ (set5_below hX (w2.heap.size) 0 _ _ _ _ _ hB2) hB2 (box5_set _ _ _ _ _ HZ.out) (hat1.set5 _ _ _ _ _ _ _ (by omega)) (hat2.set5 _ _ _ _ _ _ _ (by omega))
    refine AllReadyH.cons rfl (fun K hK => ?_) AllReadyH.nil
    go_simp
    refine hK.out _ _ ?_ (fun hH5 => ?_)
    · (try dsimp only); exact HA.out.below ((Below.refl _ _).alloc (Nat.le_refl _) _)
    clear hK K
    try simp only [Act.put, List.setIfInBounds_toArray, List.set_cons_zero, List.set_cons_succ]
    have hB2 : W.heap.size ≤ w1.heap.size := hX.size
    have HZ : Hid _ := Box5.new w1 (.int .i64 0) (.string ⟨#[]⟩) (.int .i64 0) (.int .i64 0) (.slice none 0 0) 24
    have HA : Hid _ := HA.out.below ((Below.refl _ w1).alloc (Nat.le_refl _) (Obj.cells #[Value.int IntKind.i64 0, Value.string { data := #[] }, Value.int IntKind.i64 0, Value.int IntKind.i64 0, Value.slice none 0 0] 24))
    have hX := hX.trans (((Below.refl _ w1).alloc (Nat.le_refl _) (Obj.cells #[Value.int IntKind.i64 0, Value.string { data := #[] }, Value.int IntKind.i64 0, Value.int IntKind.i64 0, Value.slice none 0 0] 24)).mono hX.size)
    refine wpAnyH_ready (rs := [3]) (by kernel_rfl) (by simp) ?_
    refine AllReadyH.cons rfl (fun K hK => ?_) AllReadyH.nil
    go_simp
    go_at_call 33
    refine (sum_any 14 14 0 0 0 0 ⟨#[115, 117, 109]⟩ ⟨#[99, 111, 117, 110, 116]⟩ (some ⟨b0, 0, none⟩) none 1 0 1 0 _).mono ?_
    rintro e w2 ⟨⟨g1, rfl, hga1, hgb1, hat1⟩, hb2⟩
    refine hK.out _ _ ?_ (fun hH3 => ?_)
    · (try dsimp only); exact HA.out.below hb2
    clear hK K
    try simp only [Act.put, List.setIfInBounds_toArray, List.set_cons_zero, List.set_cons_succ]
    have HA : Hid _ := HA.out.below hb2
    have hs2 := hb2.size
    have hX := hX.trans (hb2.mono hX.size)
    have HZ : Hid _ := HZ.out.below hb2
    (try simp at hs2)
    (try simp at hga1)
    refine wpAnyH_ready (rs := [4]) (by kernel_rfl) (by simp) ?_
    refine AllReadyH.cons rfl (fun K hK => ?_) AllReadyH.nil
    go_simp
    go_at_call 33
    refine (sum_any 14 8 0 0 0 0 ⟨#[115, 117, 109]⟩ ⟨#[43]⟩ (some ⟨b0, 0, none⟩) (some ⟨g1, 0, none⟩) 1 2 1 2 _).mono ?_
    rintro e w3 ⟨⟨g2, rfl, hga2, hgb2, hat2⟩, hb3⟩
    refine hK.out _ _ ?_ (fun hH4 => ?_)
    · (try dsimp only); exact HA.out.below hb3
    clear hK K
    try simp only [Act.put, List.setIfInBounds_toArray, List.set_cons_zero, List.set_cons_succ]
    have HA : Hid _ := HA.out.below hb3
    have hs3 := hb3.size
    have hX := hX.trans (hb3.mono hX.size)
    have HZ : Hid _ := HZ.out.below hb3
    (try simp at hs3)
    (try simp at hga2)
    have hat1 := hat1.below hb3
    obtain ⟨z0, z1, z2, z3, z4, f0, f1, f2, f3, f4⟩ := HZ.out
    refine wpAnyH_ready (rs := [6]) (by kernel_rfl) (by simp) ?_
    refine AllReadyH.cons rfl (fun K hK => ?_) AllReadyH.nil
    go_simp
    refine hK.out _ _ ?_ (fun hH6 => ?_)
    · (try dsimp only); exact HA.out.set5 _ _ _ _ _ _ _ (by have := hX.size; omega)
    clear hK K
    try simp only [Act.put, List.setIfInBounds_toArray, List.set_cons_zero, List.set_cons_succ]
    refine wpAnyH_done (by kernel_rfl) ?_ _
    exact HQ.out (w1.heap.size) g1 g2 _ (set5_below hX (w1.heap.size) 0 _ _ _ _ _ hB2) hB2 (box5_set _ _ _ _ _ HZ.out) (hat1.set5 _ _ _ _ _ _ _ (by omega)) (hat2.set5 _ _ _ _ _ _ _ (by omega))
  refine AllReadyH.cons rfl (fun K hK => ?_) AllReadyH.nil
  go_simp
  refine hK.out _ _ ?_ (fun hH5 => ?_)
  · (try dsimp only); exact HA.out.below ((Below.refl _ _).alloc (Nat.le_refl _) _)
  clear hK K
  try simp only [Act.put, List.setIfInBounds_toArray, List.set_cons_zero, List.set_cons_succ]
  have hB2 : W.heap.size ≤ W.heap.size := Nat.le_refl _
  have HZ : Hid _ := (Box5.new W (.int .i64 0) (.string ⟨#[]⟩) (.int .i64 0) (.int .i64 0) (.slice none 0 0) 24).drew
  have HA : Hid _ := hA.below (((Below.refl _ W).alloc (Nat.le_refl _) (Obj.cells #[Value.int IntKind.i64 0, Value.string { data := #[] }, Value.int IntKind.i64 0, Value.int IntKind.i64 0, Value.slice none 0 0] 24)).drew)
  have hX := (((Below.refl _ W).alloc (Nat.le_refl _) (Obj.cells #[Value.int IntKind.i64 0, Value.string { data := #[] }, Value.int IntKind.i64 0, Value.int IntKind.i64 0, Value.slice none 0 0] 24)).drew)
  refine wpAnyH_ready (rs := [2]) (by kernel_rfl) (by simp) ?_
  refine AllReadyH.cons rfl (fun K hK => ?_) AllReadyH.nil
  go_simp
  go_at_call 32
  refine (agg_any ⟨#[99, 111, 117, 110, 116]⟩ none 0 0 _).mono ?_
  rintro e w1 ⟨rfl, hb1⟩
  refine hK.out _ _ ?_ (fun hH2 => ?_)
  · (try dsimp only); exact HA.out.below hb1
  clear hK K
  try simp only [Act.put, List.setIfInBounds_toArray, List.set_cons_zero, List.set_cons_succ]
  have HA : Hid _ := HA.out.below hb1
  have hs1 := hb1.size
  have hX := hX.trans (hb1.mono hX.size)
  have HZ : Hid _ := HZ.out.below hb1
  (try simp at hs1)
  refine wpAnyH_ready (rs := [3]) (by kernel_rfl) (by simp) ?_
  refine AllReadyH.cons rfl (fun K hK => ?_) AllReadyH.nil
  go_simp
  go_at_call 33
  refine (sum_any 14 14 0 0 0 0 ⟨#[115, 117, 109]⟩ ⟨#[99, 111, 117, 110, 116]⟩ (some ⟨b0, 0, none⟩) none 1 0 1 0 _).mono ?_
  rintro e w2 ⟨⟨g1, rfl, hga1, hgb1, hat1⟩, hb2⟩
  refine hK.out _ _ ?_ (fun hH3 => ?_)
  · (try dsimp only); exact HA.out.below hb2
  clear hK K
  try simp only [Act.put, List.setIfInBounds_toArray, List.set_cons_zero, List.set_cons_succ]
  have HA : Hid _ := HA.out.below hb2
  have hs2 := hb2.size
  have hX := hX.trans (hb2.mono hX.size)
  have HZ : Hid _ := HZ.out.below hb2
  (try simp at hs2)
  (try simp at hga1)
  refine wpAnyH_ready (rs := [4]) (by kernel_rfl) (by simp) ?_
  refine AllReadyH.cons rfl (fun K hK => ?_) AllReadyH.nil
  go_simp
  go_at_call 33
  refine (sum_any 14 8 0 0 0 0 ⟨#[115, 117, 109]⟩ ⟨#[43]⟩ (some ⟨b0, 0, none⟩) (some ⟨g1, 0, none⟩) 1 2 1 2 _).mono ?_
  rintro e w3 ⟨⟨g2, rfl, hga2, hgb2, hat2⟩, hb3⟩
  refine hK.out _ _ ?_ (fun hH4 => ?_)
  · (try dsimp only); exact HA.out.below hb3
  clear hK K
  try simp only [Act.put, List.setIfInBounds_toArray, List.set_cons_zero, List.set_cons_succ]
  have HA : Hid _ := HA.out.below hb3
  have hs3 := hb3.size
  have hX := hX.trans (hb3.mono hX.size)
  have HZ : Hid _ := HZ.out.below hb3
  (try simp at hs3)
  (try simp at hga2)
  have hat1 := hat1.below hb3
  obtain ⟨z0, z1, z2, z3, z4, f0, f1, f2, f3, f4⟩ := HZ.out
  refine wpAnyH_ready (rs := [6]) (by kernel_rfl) (by simp) ?_
  refine AllReadyH.cons rfl (fun K hK => ?_) AllReadyH.nil
  go_simp
  refine hK.out _ _ ?_ (fun hH6 => ?_)
  · (try dsimp only); exact HA.out.set5 _ _ _ _ _ _ _ (by have := hX.size; omega)
  clear hK K
  try simp only [Act.put, List.setIfInBounds_toArray, List.set_cons_zero, List.set_cons_succ]
  refine wpAnyH_done (by kernel_rfl) ?_ _
  exact HQ.out (W.heap.size) g1 g2 _ (set5_below hX (W.heap.size) 0 _ _ _ _ _ hB2) hB2 (box5_set _ _ _ _ _ HZ.out) (hat1.set5 _ _ _ _ _ _ _ (by omega)) (hat2.set5 _ _ _ _ _ _ _ (by omega))
end Go.Proofs.YtcemogaacicnfaaGreatDoor
