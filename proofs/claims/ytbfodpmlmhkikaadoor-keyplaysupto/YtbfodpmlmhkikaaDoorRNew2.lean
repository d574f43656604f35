/- The document's map: a row that is new is added. -/
import Derived.Test.YtbfodpmlmhkikaaDoorRNew
import Derived.Deep.AppendSrc
namespace Go.Proofs.YtbfodpmlmhkikaaDoor
open Go.ChangeShapes Go.WideShapes Go.ChangeAt Go.RowKit

theorem wp_append_run {o : Oper} {a : Act} {K : Act → World → Prop} {Q : Exit → Act → World → Prop} {w w' : World} {v' : Value} (s x : Operand) (t : TypeId)
    (ho : o.op = .call { callee := .builtin .append, args := #[s, x], argTypes := #[t, t] }) (v vx : Value) (hs : a.eval s = v) (hx : a.eval x = vx)
    (hr : (Builtin.append_ #[t, t] o.type #[v, vx]).run Tryd.prog w = .ok v' w') (h : K (a.put o.dst v') w') : o.wp Tryd.prog a w K Q := by
  unfold Oper.wp execOp
  simp only [ho, resolve, invoke, builtin, Sem.run_bind, Sem.run_pure, Result.andThen_ok, List.map_toArray, List.map_cons, List.map_nil, hs, hx, hr]
  exact h
theorem app_row (a : Option Addr) (cap : Nat) (r : List Val) (w2 : World) (hlen : r.length ≤ 4000000) (hr : RowAt w2 a r) :
    ∃ a' cap' w3, (Builtin.append_ #[22, 22] 22 #[.slice none 0 0, .slice a r.length cap]).run Tryd.prog w2 = .ok (.slice a' r.length cap') w3 ∧ Below w2.heap.size w2 w3 ∧ RowAt w3 a' r ∧ ∀ g o, a' = some ⟨g, o, none⟩ → w2.heap.size ≤ g ∧ g < w3.heap.size ∧ o = 0 ∧ ∀ j, w3.frozen? ⟨g, j, none⟩ = false := by
  obtain ⟨i0, hi, hz0⟩ := Option.map_eq_some_iff.1 info53
  simp only [Prod.mk.injEq] at hz0
  obtain ⟨hz, hs, hb3⟩ := hz0
  cases a with
  | none =>
    obtain rfl := hr.none
    have hsr := Src.ofNil (P := Tryd.prog) w2 (size := i0.size) Tryd.underlying22 cap
    refine ⟨none, 0, w2, ?_, Below.refl _ _, Or.inl rfl, fun _ _ e => by cases e⟩
    simp [Builtin.append_, run_underlying Tryd.underlying22, sizeOf, typeInfo, hi, hsr.len, hsr.cells]
  | some ad =>
    have hown0 : w2.ownsRow w2.heap.size 53 3 (.slice none 0 0) 0 [] := World.ownsRow_nil _ _ _ _
    obtain ⟨v3, w3, hr3, hown3, hgrow3, _⟩ := run_append_own (P := Tryd.prog) w2 w2.heap.size 22 22 53 i0 (.agg #[.int .i64 0, .int .i64 0, .string ⟨#[]⟩]) 3 32 Tryd.underlying22 hi hz hs hb3 rfl (by decide) (.slice none 0 0) 0 [] hown0 ad r.length cap (rwC r) (rwC_len r) (rwC_cells hr) (rowC_one r.length (kAt r) (nAt r) (tAt r)) (by unfold maxLen; omega) (by omega) (Nat.le_refl _)
    obtain ⟨a', cap', hv, hcc, hgg⟩ := row_of_owns (r := r) (by simpa using hown3)
    subst hv
    exact ⟨a', cap', w3, hr3, (Below.refl _ _).grown hgrow3 (Nat.le_refl _) (fun kk hk => by cases hk), hcc, hgg⟩
set_option maxRecDepth 20000 in
set_option maxHeartbeats 8000000 in
theorem RAdd_new_any (hRu : RunesSaid) (X B : Nat) (v : Value) (P : List Ent) (a : Option Addr) (cap : Nat) (r : List Val) (n : Int) (w : World) (hM : RfAt w X B v P) (hBw : B ≤ w.heap.size) (hL : P.length ≤ 4000000) (hl : ∀ i, (pAt P i).row.length ≤ 9223372036854775807) (hlen : r.length ≤ 4000000) (hr : RowAt w a r) (hI : IntR r) (hm : mayR r = true) (hf : fnI P r = -1) :
    Calls Tryd.prog 16 #[.pointer (some ⟨X, 0, none⟩), .slice a r.length cap, .int .i64 n] w fun e w' => e = .returned (.tuple #[.int .i64 n, .int .i64 0]) ∧ ∃ v' a' cap', RfAt w' X B v' (P ++ [⟨a', cap', r, n, 0⟩]) ∧ Fr (fun k => k = X ∨ v.ownBlock = some k) w w' ∧ (∀ g o, a' = some ⟨g, o, none⟩ → w.heap.size ≤ g) ∧ ∀ k, v'.ownBlock = some k → v.ownBlock = some k ∨ w.heap.size ≤ k := by
  have h1 := REncode_any hRu a cap r w hlen hr hI
  rw [hm] at h1
  simp only [erI, if_true] at h1
  have h2 := fun w1 (hb : Below w.heap.size w w1) => rfind_any X v P a cap r w1 (hM.below hb).c (hM.below hb).view (by omega) hl (hr.below hb)
  rw [hf] at h2
  generalize enS r = sr at h1
  obtain ⟨j0, ji, jz0, jz1, jz2⟩ := info_parts info82
  have HM : Hid (RfAt w X B v P) := hM
  have HR : Hid (RowAt w a r) := hr
  have hX := hM.c
  clear hM hl hr hI hm hf
  go_enter Tryd.func16, Tryd.ntmps16
  go_wp2_with fail
  refine h1.mono ?_
  rintro e w1 ⟨rfl, hb1⟩
  have h3 := h2 w1 hb1
  clear h1 h2
  go_wp2_with fail
  refine h3.mono ?_
  rintro e w2 ⟨rfl, hb2⟩
  have hB2 : Below w.heap.size w w2 := hb1.trans (hb2.mono hb1.size)
  have dX := cell_below hB2 hX
  clear h3 hb1 hb2 hX
  obtain ⟨a', cap', w3, hr3, hB3', hcc, hgg⟩ := app_row a cap r w2.drew hlen ((HR.out.below hB2).below (Below.refl w2.heap.size w2).drew)
  have hB3 : Below w2.heap.size w2 w3 := (Below.refl w2.heap.size w2).drew.trans hB3'
  have hBw3 : Below w.heap.size w w3 := hB2.trans (hB3.mono hB2.size)
  have HC : Hid (RowAt w3 a' r) := hcc
  have HG : Hid _ := hgg
  have HM3 : Hid (RfAt w3 X B v P) := HM.out.below hBw3
  have dX3 := cell_below hB3 dX
  clear hB3' hcc hgg
  have hnl : P.length + 1 ≤ maxLen := by unfold maxLen; omega
  have hby : (P.length + 1) * 32 ≤ 140737488355328 := by omega
  have hone : Hid (∀ u ∈ [Value.slice a' r.length cap', .int .i64 n], u.oneCell' = true) := by intro u hu; simp only [List.mem_cons, List.not_mem_nil, or_false] at hu; rcases hu with rfl | rfl <;> rfl
  have hcel : Hid _ := cell_two_new w3 (.slice a' r.length cap') (.int .i64 n) 82
  have hrow : Hid ((w3.alloc (.cells #[.slice a' r.length cap', .int .i64 n] 82)).ownsRow B 82 2 v P.length (prC P)) := HM3.out.own.alloc _
  have hbw : B ≤ (w3.alloc (.cells #[.slice a' r.length cap', .int .i64 n] 82)).heap.size := by rw [World.size_alloc]; have := hBw3.size; omega
  obtain ⟨v4, w4, hr4, hown4, hgrow4, _, hloc4⟩ := run_append_own_at (P := Tryd.prog) (w3.alloc (.cells #[.slice a' r.length cap', .int .i64 n] 82)) B 40 40 82 j0 (.agg #[.slice none 0 0, .int .i64 0]) 2 32 Tryd.underlying40 ji jz0 jz1 jz2 rfl (by decide) v P.length (prC P) hrow.out ⟨w3.heap.size, 0, none⟩ 1 1 [.slice a' r.length cap', .int .i64 n] rfl hcel.out hone.out hnl hby hbw
  rw [World.size_alloc] at hloc4
  obtain ⟨a4, l4, c4, rfl⟩ : ∃ a4 l4 c4, v4 = .slice a4 l4 c4 := by
    obtain ⟨_, ⟨rfl, _⟩ | ⟨g5, cap5, cur5, rfl, _⟩⟩ := hown4
    · exact ⟨_, _, _, rfl⟩
    · exact ⟨_, _, _, rfl⟩
  obtain ⟨av, lv, cv, hvv⟩ : ∃ av lv cv, v = .slice av lv cv := by
    obtain ⟨_, ⟨hq, _⟩ | ⟨g5, cap5, cur5, hq, _⟩⟩ := HM.out.own
    · exact ⟨_, _, _, hq⟩
    · exact ⟨_, _, _, hq⟩
  have hM4 := HM3.out.more (w := w) HC.out (fun g o e => ⟨Nat.le_trans hB2.size (HG.out g o e).1, (HG.out g o e).2.1⟩) (fun k hk => (HM.out.own.lt k hk).2) (cell_lt HM.out.c) hBw hown4 hgrow4 hloc4
  have HM4 : Hid _ := hM4
  have HL4 : Hid _ := hloc4
  have hsz4 : w3.heap.size + 1 ≤ w4.heap.size := by have := hgrow4.size; simpa using this
  have hF4 : Fr (fun k => k = X ∨ v.ownBlock = some k) w w4 := (Fr.of hBw3).trans ⟨hgrow4.os, hgrow4.tape, hgrow4.output, by omega, fun k hk hS => (hgrow4.block k (by simp; omega) (fun e => hS (Or.inr e.symm))).trans (Below.heap_alloc _ _ _ hk)⟩
  have hXc : w4.cell? ⟨X, 0, none⟩ = some v := (World.cell?_of_block (a := ⟨X, 0, none⟩) ((hgrow4.block X (by have := cell_lt dX3; simp; omega) (fun e => HM3.out.nX e.symm)).trans (Below.heap_alloc _ _ _ (cell_lt dX3)))).trans dX3
  have hXf : w4.frozen? ⟨X, 0, none⟩ = false := by
    have := hM4.f
    rwa [World.frozen?_setCell] at this
  have dX4 := cell_below ((Below.refl w3.heap.size w3).alloc (Nat.le_refl _) (.cells #[.slice a' r.length cap', .int .i64 n] 82)) dX3
  subst hvv
  clear hown4 hgrow4 hloc4 hone hcel hrow hM4
  have HR3 : Hid _ := hr3
  go_wp2_with fail
  refine wp_region_held_drew (S := (fun _ => True)) (by kernel_rfl) ?_ (fun hHeld => ?_)
  · trivial
  refine wpAnyH_take (i := 0) (oi := { dst := some 26, op := Op.move (Operand.tmp 0), type := 39, pos := "ref.go:116", after := #[], guard := none }) (v := ?_) rfl (by kernel_rfl) (by kernel_rfl) (by kernel_rfl) (fun _ _ _ h => h) (Or.inl ⟨by kernel_rfl, ?_⟩) (by assumption) ?_
  rotate_left
  · intro wS hSw; (try dsimp only at hSw); go_simp; (try with_reducible rfl)
  try simp only [Act.put, List.setIfInBounds_toArray, List.set_cons_zero, List.set_cons_succ]
  refine wpAnyH_take (i := 1) (oi := { dst := some 27, op := Op.move (Operand.tmp 0), type := 39, pos := "ref.go:116", after := #[], guard := none }) (v := ?_) rfl (by kernel_rfl) (by kernel_rfl) (by kernel_rfl) (fun _ _ _ h => h) (Or.inl ⟨by kernel_rfl, ?_⟩) (by assumption) ?_
  rotate_left
  · intro wS hSw; (try dsimp only at hSw); go_simp; (try with_reducible rfl)
  try simp only [Act.put, List.setIfInBounds_toArray, List.set_cons_zero, List.set_cons_succ]
  refine wpAnyH_take (i := 2) (oi := { dst := some 28, op := Op.nilCheck (Operand.tmp 27), type := 0, pos := "ref.go:116", after := #[{ on := 1, ground := Ground.data }], guard := none }) (v := ?_) rfl (by kernel_rfl) (by kernel_rfl) (by kernel_rfl) (fun _ _ _ h => h) (Or.inl ⟨by kernel_rfl, ?_⟩) (by assumption) ?_
  rotate_left
  · intro wS hSw; (try dsimp only at hSw); go_simp; (try with_reducible rfl)
  try simp only [Act.put, List.setIfInBounds_toArray, List.set_cons_zero, List.set_cons_succ]
  refine wpAnyH_take (i := 3) (oi := { dst := some 29, op := Op.fieldAddr 42 (Operand.tmp 28) 0, type := 0, pos := "ref.go:116", after := #[{ on := 2, ground := Ground.data }], guard := none }) (v := ?_) rfl (by kernel_rfl) (by kernel_rfl) (by kernel_rfl) (fun _ _ _ h => h) (Or.inl ⟨by kernel_rfl, ?_⟩) (by assumption) ?_
  rotate_left
  · intro wS hSw; (try dsimp only at hSw); go_simp; (try with_reducible rfl)
  try simp only [Act.put, List.setIfInBounds_toArray, List.set_cons_zero, List.set_cons_succ]
  refine wpAnyH_take (i := 5) (oi := { dst := some 31, op := Op.move (Operand.tmp 11), type := 22, pos := "ref.go:116", after := #[], guard := none }) (v := ?_) rfl (by kernel_rfl) (by kernel_rfl) (by kernel_rfl) (fun _ _ _ h => h) (Or.inl ⟨by kernel_rfl, ?_⟩) (by assumption) ?_
  rotate_left
  · intro wS hSw; (try dsimp only at hSw); go_simp; (try with_reducible rfl)
  try simp only [Act.put, List.setIfInBounds_toArray, List.set_cons_zero, List.set_cons_succ]
  refine wpAnyH_take (i := 6) (oi := { dst := some 32, op := Op.move (Operand.tmp 1), type := 22, pos := "ref.go:116", after := #[], guard := none }) (v := ?_) rfl (by kernel_rfl) (by kernel_rfl) (by kernel_rfl) (fun _ _ _ h => h) (Or.inl ⟨by kernel_rfl, ?_⟩) (by assumption) ?_
  rotate_left
  · intro wS hSw; (try dsimp only at hSw); go_simp; (try with_reducible rfl)
  try simp only [Act.put, List.setIfInBounds_toArray, List.set_cons_zero, List.set_cons_succ]
  refine wpAnyH_take (i := 8) (oi := { dst := some 34, op := Op.move (Operand.tmp 2), type := 3, pos := "ref.go:116", after := #[], guard := none }) (v := ?_) rfl (by kernel_rfl) (by kernel_rfl) (by kernel_rfl) (fun _ _ _ h => h) (Or.inl ⟨by kernel_rfl, ?_⟩) (by assumption) ?_
  rotate_left
  · intro wS hSw; (try dsimp only at hSw); go_simp; (try with_reducible rfl)
  try simp only [Act.put, List.setIfInBounds_toArray, List.set_cons_zero, List.set_cons_succ]
  refine wpAnyH_ready (rs := [4, 7]) (by kernel_rfl) (by simp) ?_
  refine AllReadyH.cons (o := { dst := some 30, op := Op.load 40 (Operand.tmp 29), type := 40, pos := "ref.go:116", after := #[{ on := 3, ground := Ground.data }], guard := none }) rfl (fun K hK => ?_) (AllReadyH.cons (o := { dst := some 33, op := Op.call { callee := Callee.builtin Builtin.append, args := #[Operand.tmp 31, Operand.tmp 32], argTypes := #[22, 22] }, type := 22, pos := "ref.go:116", after := #[{ on := 5, ground := Ground.data }, { on := 6, ground := Ground.data }], guard := none }) rfl (fun K hK => ?_) AllReadyH.nil)
  · go_simp
    refine hK.out _ _ trivial (fun hH4 => ?_)
    clear hK K
    try simp only [Act.put, List.setIfInBounds_toArray, List.set_cons_zero, List.set_cons_succ]
    refine wpAnyH_ready (rs := [7]) (by kernel_rfl) (by simp) ?_
    refine AllReadyH.cons (o := { dst := some 33, op := Op.call { callee := Callee.builtin Builtin.append, args := #[Operand.tmp 31, Operand.tmp 32], argTypes := #[22, 22] }, type := 22, pos := "ref.go:116", after := #[{ on := 5, ground := Ground.data }, { on := 6, ground := Ground.data }], guard := none }) rfl (fun K hK => ?_) AllReadyH.nil
    refine wp_append_run _ _ 22 rfl _ _ rfl rfl hr3 ?_
    refine hK.out _ _ trivial (fun hH7 => ?_)
    clear hK K
    try simp only [Act.put, List.setIfInBounds_toArray, List.set_cons_zero, List.set_cons_succ]
    refine wpAnyH_take (i := 9) (oi := { dst := some 35, op := Op.build 82 #[(0, Operand.tmp 33), (1, Operand.tmp 34)], type := 82, pos := "ref.go:116", after := #[{ on := 7, ground := Ground.data }, { on := 8, ground := Ground.data }], guard := none }) (v := ?_) rfl (by kernel_rfl) (by kernel_rfl) (by kernel_rfl) (fun _ _ _ h => h) (Or.inl ⟨by kernel_rfl, ?_⟩) (by assumption) ?_
    rotate_left
    · intro wS hSw; (try dsimp only at hSw); go_simp; (try with_reducible rfl)
    try simp only [Act.put, List.setIfInBounds_toArray, List.set_cons_zero, List.set_cons_succ]
    refine wpAnyH_ready (rs := [10]) (by kernel_rfl) (by simp) ?_
    refine AllReadyH.cons (o := { dst := some 36, op := Op.buildSlice 40 1 #[(0, Operand.tmp 35)], type := 40, pos := "ref.go:116", after := #[{ on := 9, ground := Ground.data }], guard := none }) rfl (fun K hK => ?_) AllReadyH.nil
    go_simp
    refine hK.out _ _ trivial (fun hH10 => ?_)
    clear hK K
    try simp only [Act.put, List.setIfInBounds_toArray, List.set_cons_zero, List.set_cons_succ]
    refine wpAnyH_ready (rs := [11]) (by kernel_rfl) (by simp) ?_
    refine AllReadyH.cons (o := { dst := some 37, op := Op.call { callee := Callee.builtin Builtin.append, args := #[Operand.tmp 30, Operand.tmp 36], argTypes := #[40, 40] }, type := 40, pos := "ref.go:116", after := #[{ on := 4, ground := Ground.data }, { on := 10, ground := Ground.data }, { on := 7, ground := Ground.chain }], guard := none }) rfl (fun K hK => ?_) AllReadyH.nil
    refine wp_append_run _ _ 40 rfl _ _ rfl rfl hr4 ?_
    refine hK.out _ _ trivial (fun hH11 => ?_)
    clear hK K
    try simp only [Act.put, List.setIfInBounds_toArray, List.set_cons_zero, List.set_cons_succ]
    refine wpAnyH_take (i := 12) (oi := { dst := some 38, op := Op.nilCheck (Operand.tmp 26), type := 0, pos := "ref.go:116", after := #[{ on := 0, ground := Ground.data }, { on := 0, ground := Ground.phase }, { on := 1, ground := Ground.phase }, { on := 2, ground := Ground.phase }, { on := 3, ground := Ground.phase }, { on := 4, ground := Ground.phase }, { on := 5, ground := Ground.phase }, { on := 6, ground := Ground.phase }, { on := 7, ground := Ground.phase }, { on := 8, ground := Ground.phase }, { on := 9, ground := Ground.phase }, { on := 10, ground := Ground.phase }, { on := 11, ground := Ground.phase }], guard := none }) (v := ?_) rfl (by kernel_rfl) (by kernel_rfl) (by kernel_rfl) (fun _ _ _ h => h) (Or.inl ⟨by kernel_rfl, ?_⟩) (by assumption) ?_
    rotate_left
    · intro wS hSw; (try dsimp only at hSw); go_simp; (try with_reducible rfl)
    try simp only [Act.put, List.setIfInBounds_toArray, List.set_cons_zero, List.set_cons_succ]
    refine wpAnyH_take (i := 13) (oi := { dst := some 39, op := Op.fieldAddr 42 (Operand.tmp 38) 0, type := 0, pos := "ref.go:116", after := #[{ on := 12, ground := Ground.data }, { on := 0, ground := Ground.phase }, { on := 1, ground := Ground.phase }, { on := 2, ground := Ground.phase }, { on := 3, ground := Ground.phase }, { on := 4, ground := Ground.phase }, { on := 5, ground := Ground.phase }, { on := 6, ground := Ground.phase }, { on := 7, ground := Ground.phase }, { on := 8, ground := Ground.phase }, { on := 9, ground := Ground.phase }, { on := 10, ground := Ground.phase }, { on := 11, ground := Ground.phase }], guard := none }) (v := ?_) rfl (by kernel_rfl) (by kernel_rfl) (by kernel_rfl) (fun _ _ _ h => h) (Or.inl ⟨by kernel_rfl, ?_⟩) (by assumption) ?_
    rotate_left
    · intro wS hSw; (try dsimp only at hSw); go_simp; (try with_reducible rfl)
    try simp only [Act.put, List.setIfInBounds_toArray, List.set_cons_zero, List.set_cons_succ]
    refine wpAnyH_ready (rs := [14]) (by kernel_rfl) (by simp) ?_
    refine AllReadyH.cons (o := { dst := none, op := Op.store 40 (Operand.tmp 39) (Operand.tmp 37), type := 0, pos := "ref.go:116", after := #[{ on := 13, ground := Ground.data }, { on := 11, ground := Ground.data }, { on := 11, ground := Ground.chain }, { on := 0, ground := Ground.phase }, { on := 1, ground := Ground.phase }, { on := 2, ground := Ground.phase }, { on := 3, ground := Ground.phase }, { on := 4, ground := Ground.phase }, { on := 5, ground := Ground.phase }, { on := 6, ground := Ground.phase }, { on := 7, ground := Ground.phase }, { on := 8, ground := Ground.phase }, { on := 9, ground := Ground.phase }, { on := 10, ground := Ground.phase }, { on := 11, ground := Ground.phase }], guard := none }) rfl (fun K hK => ?_) AllReadyH.nil
    go_simp
    refine hK.out _ _ trivial (fun hH14 => ?_)
    clear hK K
    try simp only [Act.put, List.setIfInBounds_toArray, List.set_cons_zero, List.set_cons_succ]
    refine wpAnyH_done (by kernel_rfl) ?_ _
    go_wp2
    go_ret2
    refine ⟨rfl, _, a', cap', HM4.out, ?_, fun g o e => Nat.le_trans hB2.size (HG.out g o e).1, fun k hk => ?_⟩
    · exact Fr.setCell (p := ⟨X, 0, none⟩) hF4 (Or.inl (Or.inl rfl)) _
    · rcases HL4.out with e | e
      · exact Or.inl (e ▸ hk)
      · rw [e] at hk; injection hk with hk; have := hBw3.size; right; omega
  · refine wp_append_run _ _ 22 rfl _ _ rfl rfl hr3 ?_
    refine hK.out _ _ trivial (fun hH7 => ?_)
    clear hK K
    try simp only [Act.put, List.setIfInBounds_toArray, List.set_cons_zero, List.set_cons_succ]
    refine wpAnyH_take (i := 9) (oi := { dst := some 35, op := Op.build 82 #[(0, Operand.tmp 33), (1, Operand.tmp 34)], type := 82, pos := "ref.go:116", after := #[{ on := 7, ground := Ground.data }, { on := 8, ground := Ground.data }], guard := none }) (v := ?_) rfl (by kernel_rfl) (by kernel_rfl) (by kernel_rfl) (fun _ _ _ h => h) (Or.inl ⟨by kernel_rfl, ?_⟩) (by assumption) ?_
    rotate_left
    · intro wS hSw; (try dsimp only at hSw); go_simp; (try with_reducible rfl)
    try simp only [Act.put, List.setIfInBounds_toArray, List.set_cons_zero, List.set_cons_succ]
    refine wpAnyH_ready (rs := [4, 10]) (by kernel_rfl) (by simp) ?_
    refine AllReadyH.cons (o := { dst := some 30, op := Op.load 40 (Operand.tmp 29), type := 40, pos := "ref.go:116", after := #[{ on := 3, ground := Ground.data }], guard := none }) rfl (fun K hK => ?_) (AllReadyH.cons (o := { dst := some 36, op := Op.buildSlice 40 1 #[(0, Operand.tmp 35)], type := 40, pos := "ref.go:116", after := #[{ on := 9, ground := Ground.data }], guard := none }) rfl (fun K hK => ?_) AllReadyH.nil)
    · go_simp
      refine hK.out _ _ trivial (fun hH4 => ?_)
      clear hK K
      try simp only [Act.put, List.setIfInBounds_toArray, List.set_cons_zero, List.set_cons_succ]
      refine wpAnyH_ready (rs := [10]) (by kernel_rfl) (by simp) ?_
      refine AllReadyH.cons (o := { dst := some 36, op := Op.buildSlice 40 1 #[(0, Operand.tmp 35)], type := 40, pos := "ref.go:116", after := #[{ on := 9, ground := Ground.data }], guard := none }) rfl (fun K hK => ?_) AllReadyH.nil
      go_simp
      refine hK.out _ _ trivial (fun hH10 => ?_)
      clear hK K
      try simp only [Act.put, List.setIfInBounds_toArray, List.set_cons_zero, List.set_cons_succ]
      refine wpAnyH_ready (rs := [11]) (by kernel_rfl) (by simp) ?_
      refine AllReadyH.cons (o := { dst := some 37, op := Op.call { callee := Callee.builtin Builtin.append, args := #[Operand.tmp 30, Operand.tmp 36], argTypes := #[40, 40] }, type := 40, pos := "ref.go:116", after := #[{ on := 4, ground := Ground.data }, { on := 10, ground := Ground.data }, { on := 7, ground := Ground.chain }], guard := none }) rfl (fun K hK => ?_) AllReadyH.nil
      refine wp_append_run _ _ 40 rfl _ _ rfl rfl hr4 ?_
      refine hK.out _ _ trivial (fun hH11 => ?_)
      clear hK K
      try simp only [Act.put, List.setIfInBounds_toArray, List.set_cons_zero, List.set_cons_succ]
      refine wpAnyH_take (i := 12) (oi := { dst := some 38, op := Op.nilCheck (Operand.tmp 26), type := 0, pos := "ref.go:116", after := #[{ on := 0, ground := Ground.data }, { on := 0, ground := Ground.phase }, { on := 1, ground := Ground.phase }, { on := 2, ground := Ground.phase }, { on := 3, ground := Ground.phase }, { on := 4, ground := Ground.phase }, { on := 5, ground := Ground.phase }, { on := 6, ground := Ground.phase }, { on := 7, ground := Ground.phase }, { on := 8, ground := Ground.phase }, { on := 9, ground := Ground.phase }, { on := 10, ground := Ground.phase }, { on := 11, ground := Ground.phase }], guard := none }) (v := ?_) rfl (by kernel_rfl) (by kernel_rfl) (by kernel_rfl) (fun _ _ _ h => h) (Or.inl ⟨by kernel_rfl, ?_⟩) (by assumption) ?_
      rotate_left
      · intro wS hSw; (try dsimp only at hSw); go_simp; (try with_reducible rfl)
      try simp only [Act.put, List.setIfInBounds_toArray, List.set_cons_zero, List.set_cons_succ]
      refine wpAnyH_take (i := 13) (oi := { dst := some 39, op := Op.fieldAddr 42 (Operand.tmp 38) 0, type := 0, pos := "ref.go:116", after := #[{ on := 12, ground := Ground.data }, { on := 0, ground := Ground.phase }, { on := 1, ground := Ground.phase }, { on := 2, ground := Ground.phase }, { on := 3, ground := Ground.phase }, { on := 4, ground := Ground.phase }, { on := 5, ground := Ground.phase }, { on := 6, ground := Ground.phase }, { on := 7, ground := Ground.phase }, { on := 8, ground := Ground.phase }, { on := 9, ground := Ground.phase }, { on := 10, ground := Ground.phase }, { on := 11, ground := Ground.phase }], guard := none }) (v := ?_) rfl (by kernel_rfl) (by kernel_rfl) (by kernel_rfl) (fun _ _ _ h => h) (Or.inl ⟨by kernel_rfl, ?_⟩) (by assumption) ?_
      rotate_left
      · intro wS hSw; (try dsimp only at hSw); go_simp; (try with_reducible rfl)
      try simp only [Act.put, List.setIfInBounds_toArray, List.set_cons_zero, List.set_cons_succ]
      refine wpAnyH_ready (rs := [14]) (by kernel_rfl) (by simp) ?_
      refine AllReadyH.cons (o := { dst := none, op := Op.store 40 (Operand.tmp 39) (Operand.tmp 37), type := 0, pos := "ref.go:116", after := #[{ on := 13, ground := Ground.data }, { on := 11, ground := Ground.data }, { on := 11, ground := Ground.chain }, { on := 0, ground := Ground.phase }, { on := 1, ground := Ground.phase }, { on := 2, ground := Ground.phase }, { on := 3, ground := Ground.phase }, { on := 4, ground := Ground.phase }, { on := 5, ground := Ground.phase }, { on := 6, ground := Ground.phase }, { on := 7, ground := Ground.phase }, { on := 8, ground := Ground.phase }, { on := 9, ground := Ground.phase }, { on := 10, ground := Ground.phase }, { on := 11, ground := Ground.phase }], guard := none }) rfl (fun K hK => ?_) AllReadyH.nil
      go_simp
      refine hK.out _ _ trivial (fun hH14 => ?_)
      clear hK K
      try simp only [Act.put, List.setIfInBounds_toArray, List.set_cons_zero, List.set_cons_succ]
      refine wpAnyH_done (by kernel_rfl) ?_ _
      go_wp2
      go_ret2
      refine ⟨rfl, _, a', cap', HM4.out, ?_, fun g o e => Nat.le_trans hB2.size (HG.out g o e).1, fun k hk => ?_⟩
      · exact Fr.setCell (p := ⟨X, 0, none⟩) hF4 (Or.inl (Or.inl rfl)) _
      · rcases HL4.out with e | e
        · exact Or.inl (e ▸ hk)
        · rw [e] at hk; injection hk with hk; have := hBw3.size; right; omega
    · go_simp
      refine hK.out _ _ trivial (fun hH10 => ?_)
      clear hK K
      try simp only [Act.put, List.setIfInBounds_toArray, List.set_cons_zero, List.set_cons_succ]
      refine wpAnyH_ready (rs := [4]) (by kernel_rfl) (by simp) ?_
      refine AllReadyH.cons (o := { dst := some 30, op := Op.load 40 (Operand.tmp 29), type := 40, pos := "ref.go:116", after := #[{ on := 3, ground := Ground.data }], guard := none }) rfl (fun K hK => ?_) AllReadyH.nil
      go_simp
      refine hK.out _ _ trivial (fun hH4 => ?_)
      clear hK K
      try simp only [Act.put, List.setIfInBounds_toArray, List.set_cons_zero, List.set_cons_succ]
      refine wpAnyH_ready (rs := [11]) (by kernel_rfl) (by simp) ?_
      refine AllReadyH.cons (o := { dst := some 37, op := Op.call { callee := Callee.builtin Builtin.append, args := #[Operand.tmp 30, Operand.tmp 36], argTypes := #[40, 40] }, type := 40, pos := "ref.go:116", after := #[{ on := 4, ground := Ground.data }, { on := 10, ground := Ground.data }, { on := 7, ground := Ground.chain }], guard := none }) rfl (fun K hK => ?_) AllReadyH.nil
      refine wp_append_run _ _ 40 rfl _ _ rfl rfl hr4 ?_
      refine hK.out _ _ trivial (fun hH11 => ?_)
      clear hK K
      try simp only [Act.put, List.setIfInBounds_toArray, List.set_cons_zero, List.set_cons_succ]
      refine wpAnyH_take (i := 12) (oi := { dst := some 38, op := Op.nilCheck (Operand.tmp 26), type := 0, pos := "ref.go:116", after := #[{ on := 0, ground := Ground.data }, { on := 0, ground := Ground.phase }, { on := 1, ground := Ground.phase }, { on := 2, ground := Ground.phase }, { on := 3, ground := Ground.phase }, { on := 4, ground := Ground.phase }, { on := 5, ground := Ground.phase }, { on := 6, ground := Ground.phase }, { on := 7, ground := Ground.phase }, { on := 8, ground := Ground.phase }, { on := 9, ground := Ground.phase }, { on := 10, ground := Ground.phase }, { on := 11, ground := Ground.phase }], guard := none }) (v := ?_) rfl (by kernel_rfl) (by kernel_rfl) (by kernel_rfl) (fun _ _ _ h => h) (Or.inl ⟨by kernel_rfl, ?_⟩) (by assumption) ?_
      rotate_left
      · intro wS hSw; (try dsimp only at hSw); go_simp; (try with_reducible rfl)
      try simp only [Act.put, List.setIfInBounds_toArray, List.set_cons_zero, List.set_cons_succ]
      refine wpAnyH_take (i := 13) (oi := { dst := some 39, op := Op.fieldAddr 42 (Operand.tmp 38) 0, type := 0, pos := "ref.go:116", after := #[{ on := 12, ground := Ground.data }, { on := 0, ground := Ground.phase }, { on := 1, ground := Ground.phase }, { on := 2, ground := Ground.phase }, { on := 3, ground := Ground.phase }, { on := 4, ground := Ground.phase }, { on := 5, ground := Ground.phase }, { on := 6, ground := Ground.phase }, { on := 7, ground := Ground.phase }, { on := 8, ground := Ground.phase }, { on := 9, ground := Ground.phase }, { on := 10, ground := Ground.phase }, { on := 11, ground := Ground.phase }], guard := none }) (v := ?_) rfl (by kernel_rfl) (by kernel_rfl) (by kernel_rfl) (fun _ _ _ h => h) (Or.inl ⟨by kernel_rfl, ?_⟩) (by assumption) ?_
      rotate_left
      · intro wS hSw; (try dsimp only at hSw); go_simp; (try with_reducible rfl)
      try simp only [Act.put, List.setIfInBounds_toArray, List.set_cons_zero, List.set_cons_succ]
      refine wpAnyH_ready (rs := [14]) (by kernel_rfl) (by simp) ?_
      refine AllReadyH.cons (o := { dst := none, op := Op.store 40 (Operand.tmp 39) (Operand.tmp 37), type := 0, pos := "ref.go:116", after := #[{ on := 13, ground := Ground.data }, { on := 11, ground := Ground.data }, { on := 11, ground := Ground.chain }, { on := 0, ground := Ground.phase }, { on := 1, ground := Ground.phase }, { on := 2, ground := Ground.phase }, { on := 3, ground := Ground.phase }, { on := 4, ground := Ground.phase }, { on := 5, ground := Ground.phase }, { on := 6, ground := Ground.phase }, { on := 7, ground := Ground.phase }, { on := 8, ground := Ground.phase }, { on := 9, ground := Ground.phase }, { on := 10, ground := Ground.phase }, { on := 11, ground := Ground.phase }], guard := none }) rfl (fun K hK => ?_) AllReadyH.nil
      go_simp
      refine hK.out _ _ trivial (fun hH14 => ?_)
      clear hK K
      try simp only [Act.put, List.setIfInBounds_toArray, List.set_cons_zero, List.set_cons_succ]
      refine wpAnyH_done (by kernel_rfl) ?_ _
      go_wp2
      go_ret2
      refine ⟨rfl, _, a', cap', HM4.out, ?_, fun g o e => Nat.le_trans hB2.size (HG.out g o e).1, fun k hk => ?_⟩
      · exact Fr.setCell (p := ⟨X, 0, none⟩) hF4 (Or.inl (Or.inl rfl)) _
      · rcases HL4.out with e | e
        · exact Or.inl (e ▸ hk)
        · rw [e] at hk; injection hk with hk; have := hBw3.size; right; omega
end Go.Proofs.YtbfodpmlmhkikaaDoor
