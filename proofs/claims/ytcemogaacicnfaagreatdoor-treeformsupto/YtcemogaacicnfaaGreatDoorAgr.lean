/- A tree's copy laid behind those that were collected (a region that draws its order). -/
import Derived.Test.YtcemogaacicnfaaGreatDoorAgg
import Derived.Deep.AppendLies
namespace Go.Proofs.YtcemogaacicnfaaGreatDoor
set_option linter.unusedSimpArgs false
set_option maxRecDepth 100000
set_option maxHeartbeats 40000000
open Go.ChangeShapes Go.WideShapes Go.ChangeAt Go.RowKit Go.Shelf
attribute [local go_sem] Oper.semAt_some

theorem op_append_in {F : Fence} {n : Nat} {P : Program} (w : World) {o : Oper} {a : Act} {K : Act → World → Prop} {Q : Exit → Act → World → Prop} (s x : Operand) (t : TypeId)
    (ho : o.op = .call { callee := .builtin .append, args := #[s, x], argTypes := #[t, t] })
    (base : Nat) (e : TypeId) (i : TypeInfo) (z : Value) (size bytes : Nat) (ht : P.underlying t = some (.slice e)) (hi : P.info? e = some i) (hz : i.zero = some z)
    (hsize : i.size = size) (hby : i.bytes = bytes) (hzs : z.cells.size = size) (hsz : 0 < size)
    (v : Value) (k : Nat) (xs : List Value) (hs : a.eval s = v) (hown : w.ownsRow base e size v k xs)
    (ad : Addr) (m c : Nat) (news : List Value) (hx : a.eval x = .slice (some ad) m c) (hl : news.length = m * size) (hnews : ∀ j u, news[j]? = some u → w.cell? (ad.add j) = some u) (h1 : ∀ u ∈ news, u.oneCell' = true)
    (hm : 0 < m) (h63 : k + m ≤ maxLen) (hbytes : (k + m) * bytes ≤ 140737488355328) (hbase : base ≤ w.heap.size)
    (h : ∀ g cap w', w'.ownsRow base e size (.slice (some ⟨g, 0, none⟩) (k + m) cap) (k + m) (xs ++ news) → w.grownBy w' v.ownBlock → (v.ownBlock = some g ∨ g = w.heap.size) → g < w'.heap.size → K (a.put o.dst (.slice (some ⟨g, 0, none⟩) (k + m) cap)) w') : o.wpIn F n P a w K Q := by
  obtain ⟨g, cap, w', hr, h2, h3, h4, h5⟩ := run_append_lies (P := P) w t o.type base e i z size bytes ht hi hz hsize hby hzs hsz v k xs hown ad m c news hl hnews h1 hm h63 hbytes hbase w.heap.size rfl
  unfold Oper.wpIn
  refine ⟨?_, ?_⟩
  · simp [Oper.about, ho, resolve, Target.leads, Sem.run_pure]
  · rw [Oper.semAt_plain F _ _ (by rw [ho]; intro c hc'; cases hc')]
    simp [execOp, ho, resolve, invoke, builtin, hs, hx, hr, Result.andThen]
    exact h g cap w' h2 h3 h4 h5
theorem z_cells (X : World) : ∀ j u, ([.int .i64 0, .string ⟨#[]⟩, .int .i64 0, .int .i64 0, .slice none 0 0] : List Value)[j]? = some u → (X.alloc (Obj.cells #[Value.int IntKind.i64 0, Value.string { data := #[] }, Value.int IntKind.i64 0, Value.int IntKind.i64 0, Value.slice none 0 0] 24)).cell? ((⟨X.heap.size, 0, none⟩ : Addr).add j) = some u := by
  intro j u hj
  obtain ⟨d0, d1, d2, d3, d4⟩ := box5_new X (.int .i64 0) (.string ⟨#[]⟩) (.int .i64 0) (.int .i64 0) (.slice none 0 0) 24
  rw [add_plain, Nat.zero_add]
  match j, hj with
  | 0, hj => cases hj; exact d0
  | 1, hj => cases hj; exact d1
  | 2, hj => cases hj; exact d2
  | 3, hj => cases hj; exact d3
  | 4, hj => cases hj; exact d4
theorem z_below {X X' : World} {zb : Nat} (hb : Below X.heap.size X X') (h : ∀ j u, ([.int .i64 0, .string ⟨#[]⟩, .int .i64 0, .int .i64 0, .slice none 0 0] : List Value)[j]? = some u → X.cell? ((⟨zb, 0, none⟩ : Addr).add j) = some u) : ∀ j u, ([.int .i64 0, .string ⟨#[]⟩, .int .i64 0, .int .i64 0, .slice none 0 0] : List Value)[j]? = some u → X'.cell? ((⟨zb, 0, none⟩ : Addr).add j) = some u := by
  intro j u hj
  have := h j u hj
  rw [add_plain] at this ⊢
  exact cell_below hb this
theorem aggTail (F : Fence) (l m M : Nat) (Q : Exit → Act → World → Prop) (y : Tr M) (W : World) (B Bx Bt k cc ly cy : Nat) (a sy : Option Addr) (k1 n1 a1 : Int) (t1 : List UInt8) (xs : List Value) (p0 p1 p2 p5 p6 p7 p8 p9 p10 p11 p12 p13 p14 p15 p16 p17 : Value)
    (hown : W.ownsRow B 24 5 (Value.slice a k cc) k xs) (hB : B ≤ W.heap.size) (hk : k * 64 + 64 ≤ 140737488355328) (hbx : Boxed W Bx 22 (Value.slice a k cc)) (hxB : Bx < B)
    (hQ : ∀ (act : Act) (Wf : World), (∃ (X w1 : World) (g cap lo : Nat) (s' : Option Addr) (c' : Nat), Below W.heap.size W X ∧ W.heap.size ≤ lo ∧ NdF lo X M y s' ∧ w1.ownsRow B 24 5 (.slice (some ⟨g, 0, none⟩) (k + 1) cap) (k + 1) (xs ++ [.int .i64 0, .string ⟨#[]⟩, .int .i64 0, .int .i64 0, .slice none 0 0]) ∧ X.grownBy w1 (Value.slice a k cc).ownBlock ∧ ((Value.slice a k cc).ownBlock = some g ∨ g = X.heap.size) ∧ g < w1.heap.size ∧ (Wf = (set5 w1 g (k * 5) (.int .i64 k1) (.string (bsA t1)) (.int .i64 n1) (.int .i64 a1) (.slice s' ly c')).setCell ⟨Bx, 0, none⟩ (.slice (some ⟨g, 0, none⟩) (k + 1) cap) ∨ Wf = (set5 (w1.setCell ⟨Bx, 0, none⟩ (.slice (some ⟨g, 0, none⟩) (k + 1) cap)) g (k * 5) (.int .i64 k1) (.string (bsA t1)) (.int .i64 n1) (.int .i64 a1) (.slice s' ly c')))) → Q .normal act Wf)
    (X : World) (zb lo : Nat) (s' : Option Addr) (c' : Nat) (hX : Below W.heap.size W X) (hz : ∀ j u, ([.int .i64 0, .string ⟨#[]⟩, .int .i64 0, .int .i64 0, .slice none 0 0] : List Value)[j]? = some u → X.cell? ((⟨zb, 0, none⟩ : Addr).add j) = some u) (hlo : W.heap.size ≤ lo) (hF : NdF lo X M y s') :
    wpAnyIn (F.inRound l) m Tryz.prog .any #[{ dst := some 18, op := Op.load 22 (Operand.tmp 3), type := 22, pos := "tree.go:61", after := #[], guard := none }, { dst := some 19, op := Op.load 24 (Operand.tmp 4), type := 24, pos := "tree.go:61", after := #[], guard := none }, { dst := some 20, op := Op.call { callee := Callee.value (Operand.func 15), args := #[Operand.tmp 19], argTypes := #[24] }, type := 24, pos := "tree.go:61", after := #[{ on := 1, ground := Ground.data }], guard := none }, { dst := some 21, op := Op.call { callee := Callee.builtin Builtin.len, args := #[Operand.tmp 18], argTypes := #[22] }, type := 3, pos := "tree.go:61", after := #[{ on := 0, ground := Ground.data }], guard := none }, { dst := some 22, op := Op.buildSlice 22 1 #[(0, Operand.const (Value.agg #[Value.int IntKind.i64 0, Value.string { data := #[] }, Value.int IntKind.i64 0, Value.int IntKind.i64 0, Value.slice none 0 0]))], type := 22, pos := "tree.go:61", after := #[], guard := none }, { dst := some 23, op := Op.call { callee := Callee.builtin Builtin.append, args := #[Operand.tmp 18, Operand.tmp 22], argTypes := #[22, 22] }, type := 22, pos := "tree.go:61", after := #[{ on := 0, ground := Ground.data }, { on := 4, ground := Ground.data }, { on := 2, ground := Ground.chain }, { on := 0, ground := Ground.phase }, { on := 1, ground := Ground.phase }, { on := 2, ground := Ground.phase }, { on := 3, ground := Ground.phase }, { on := 4, ground := Ground.phase }], guard := none }, { dst := some 24, op := Op.indexAddr 22 (Operand.tmp 23) (Operand.tmp 21), type := 0, pos := "tree.go:61", after := #[{ on := 5, ground := Ground.data }, { on := 3, ground := Ground.data }, { on := 0, ground := Ground.phase }, { on := 1, ground := Ground.phase }, { on := 2, ground := Ground.phase }, { on := 3, ground := Ground.phase }, { on := 4, ground := Ground.phase }, { on := 5, ground := Ground.phase }, { on := 8, ground := Ground.gcOnly Departure.appendInPlace }], guard := none }, { dst := none, op := Op.store 24 (Operand.tmp 24) (Operand.tmp 20), type := 0, pos := "tree.go:61", after := #[{ on := 6, ground := Ground.data }, { on := 2, ground := Ground.data }, { on := 5, ground := Ground.chain }, { on := 0, ground := Ground.phase }, { on := 1, ground := Ground.phase }, { on := 2, ground := Ground.phase }, { on := 3, ground := Ground.phase }, { on := 4, ground := Ground.phase }, { on := 5, ground := Ground.phase }, { on := 8, ground := Ground.gcOnly Departure.appendInPlace }], guard := none }, { dst := none, op := Op.store 22 (Operand.tmp 3) (Operand.tmp 23), type := 0, pos := "tree.go:61", after := #[{ on := 5, ground := Ground.data }, { on := 5, ground := Ground.chain }, { on := 7, ground := Ground.textOnly Departure.appendInPlace }, { on := 0, ground := Ground.phase }, { on := 1, ground := Ground.phase }, { on := 2, ground := Ground.phase }, { on := 3, ground := Ground.phase }, { on := 4, ground := Ground.phase }, { on := 5, ground := Ground.phase }, { on := 6, ground := Ground.textOnly Departure.appendInPlace }, { on := 7, ground := Ground.textOnly Departure.appendInPlace }], guard := none }] Q 4 #[true, true, true, true, true, false, false, false, false] { tmps := #[p0, p1, p2, .pointer (some ⟨Bx, 0, none⟩), .pointer (some ⟨Bt, 0, none⟩), p5, p6, p7, p8, p9, p10, p11, p12, p13, p14, p15, p16, p17, Value.slice a k cc, Value.agg #[.int .i64 k1, .string (bsA t1), .int .i64 n1, .int .i64 a1, .slice sy ly cy], Value.agg #[.int .i64 k1, .string (bsA t1), .int .i64 n1, .int .i64 a1, .slice s' ly c'], .int .i64 k, .slice (some ⟨zb, 0, none⟩) 1 1, undef, undef, undef], defers := [] } X := by
  obtain ⟨i0, hi, hz0⟩ := Option.map_eq_some_iff.1 info24
  simp only [Prod.mk.injEq] at hz0
  obtain ⟨hz1, hs, hb3⟩ := hz0
  have hownX := owns_below hown hX
  have hbX : Boxed X Bx 22 (Value.slice a k cc) := (hX.block Bx hbx.lt).trans hbx
  refine wpAnyIn_ready (rs := [5]) (by kernel_rfl) (by simp) ?_
  refine AllReadyIn.cons rfl (fun K hK => ?_) AllReadyIn.nil
  rw [if_pos (by kernel_rfl)]
  refine op_append_in X _ _ 22 rfl B 24 i0 (.agg #[.int .i64 0, .string ⟨#[]⟩, .int .i64 0, .int .i64 0, .slice none 0 0]) 5 64 Tryz.underlying22 hi hz1 hs hb3 rfl (by decide) _ k xs rfl hownX ⟨zb, 0, none⟩ 1 1 [.int .i64 0, .string ⟨#[]⟩, .int .i64 0, .int .i64 0, .slice none 0 0] rfl rfl hz (by intro u hu; simp only [List.mem_cons, List.not_mem_nil, or_false] at hu; rcases hu with rfl | rfl | rfl | rfl | rfl <;> rfl) (by omega) (by unfold maxLen; omega) (by omega) (Nat.le_trans hB hX.size) ?_
  intro g cap w1 hown1 hgrow1 hlies hg1
  refine hK _ _ ?_
  clear hK K
  have hb1 : Boxed w1 Bx 22 (Value.slice a k cc) := hbX.kept hgrow1 (hbX.not_row (by decide) hownX)
  have hbc := hb1.cell
  have hbf := hb1.frozen
  have hgB : B ≤ g := by
    rcases hown1.2 with ⟨h, _⟩ | ⟨g', cap', cur, h, hb', _⟩
    · cases h
    · cases h; exact hb'
  have hne : g ≠ Bx := by omega
  have hxl : xs.length = k * 5 := hown.1
  have key : ∀ r u, ([.int .i64 0, .string ⟨#[]⟩, .int .i64 0, .int .i64 0, .slice none 0 0] : List Value)[r]? = some u → w1.cell? ⟨g, k * 5 + r, none⟩ = some u := fun r u hr => by
    have := hown1.cells (g := g) rfl (k * 5 + r) u (by rw [List.getElem?_append_right (by omega), hxl, Nat.add_sub_cancel_left]; exact hr)
    rw [add_plain, Nat.zero_add] at this
    exact this
  have e0 := key 0 _ rfl
  have e1 := key 1 _ rfl
  have e2 := key 2 _ rfl
  have e3 := key 3 _ rfl
  have e4 := key 4 _ rfl
  have f0 : w1.frozen? ⟨g, k * 5, none⟩ = false := hown1.frozenAt _
  have f1 : w1.frozen? ⟨g, k * 5 + 1, none⟩ = false := hown1.frozenAt _
  have f2 : w1.frozen? ⟨g, k * 5 + 2, none⟩ = false := hown1.frozenAt _
  have f3 : w1.frozen? ⟨g, k * 5 + 3, none⟩ = false := hown1.frozenAt _
  have f4 : w1.frozen? ⟨g, k * 5 + 4, none⟩ = false := hown1.frozenAt _
  rw [Nat.add_zero] at e0
  have HFI : Hid _ := fun (act : Act) (Wf : World) h => hQ act Wf ⟨X, w1, g, cap, lo, s', c', hX, hlo, hF, hown1, hgrow1, hlies, hg1, h⟩
  have hkb : k ≤ 9223372036854775806 := by omega
  clear key hQ hown hownX hX hF hown1 hgrow1 hlies hz hi hz1 hs hb3 hbX hb1 hbx
  try simp only [Act.put, List.setIfInBounds_toArray, List.set_cons_zero, List.set_cons_succ]
  have hkk : ((k : Int) < (k : Int) + 1) = True := eq_true (by omega)
  refine wpAnyIn_ready (rs := [6, 8]) (by kernel_rfl) (by simp) ?_
  refine AllReadyIn.cons rfl (fun K hK => ?_) ?_
  · go_simp
    refine hK _ _ ?_
    clear hK K
    try simp only [Act.put, List.setIfInBounds_toArray, List.set_cons_zero, List.set_cons_succ]
    refine wpAnyIn_ready (rs := [7, 8]) (by kernel_rfl) (by simp) ?_
    refine AllReadyIn.cons rfl (fun K hK => ?_) ?_
    · go_simp
      refine hK _ _ ?_
      clear hK K
      try simp only [Act.put, List.setIfInBounds_toArray, List.set_cons_zero, List.set_cons_succ]
      have q : (set5 w1 g (k * 5) (.int .i64 k1) (.string (bsA t1)) (.int .i64 n1) (.int .i64 a1) (.slice s' ly c')).cell? ⟨Bx, 0, none⟩ = some (Value.slice a k cc) := by rw [set5_far _ _ _ _ _ _ _ _ _ _ hne]; exact hbc
      unfold set5 at q
      refine wpAnyIn_ready (rs := [8]) (by kernel_rfl) (by simp) ?_
      refine AllReadyIn.cons rfl (fun K hK => ?_) AllReadyIn.nil
      go_simp
      refine hK _ _ ?_
      clear hK K
      try simp only [Act.put, List.setIfInBounds_toArray, List.set_cons_zero, List.set_cons_succ]
      refine wpAnyIn_done (by kernel_rfl) ?_ _
      exact HFI.out _ _ (Or.inl rfl)
    refine AllReadyIn.cons rfl (fun K hK => ?_) AllReadyIn.nil
    go_simp
    refine hK _ _ ?_
    clear hK K
    try simp only [Act.put, List.setIfInBounds_toArray, List.set_cons_zero, List.set_cons_succ]
    have e0 : (w1.setCell ⟨Bx, 0, none⟩ (.slice (some ⟨g, 0, none⟩) (k + 1) cap)).cell? ⟨g, k * 5, none⟩ = some (.int .i64 0) := by rw [World.cell?_setCell_far _ _ _ _ (show Bx ≠ g by omega)]; exact e0
    have e1 : (w1.setCell ⟨Bx, 0, none⟩ (.slice (some ⟨g, 0, none⟩) (k + 1) cap)).cell? ⟨g, k * 5 + 1, none⟩ = some (.string ⟨#[]⟩) := by rw [World.cell?_setCell_far _ _ _ _ (show Bx ≠ g by omega)]; exact e1
    have e2 : (w1.setCell ⟨Bx, 0, none⟩ (.slice (some ⟨g, 0, none⟩) (k + 1) cap)).cell? ⟨g, k * 5 + 2, none⟩ = some (.int .i64 0) := by rw [World.cell?_setCell_far _ _ _ _ (show Bx ≠ g by omega)]; exact e2
    have e3 : (w1.setCell ⟨Bx, 0, none⟩ (.slice (some ⟨g, 0, none⟩) (k + 1) cap)).cell? ⟨g, k * 5 + 3, none⟩ = some (.int .i64 0) := by rw [World.cell?_setCell_far _ _ _ _ (show Bx ≠ g by omega)]; exact e3
    have e4 : (w1.setCell ⟨Bx, 0, none⟩ (.slice (some ⟨g, 0, none⟩) (k + 1) cap)).cell? ⟨g, k * 5 + 4, none⟩ = some (.slice none 0 0) := by rw [World.cell?_setCell_far _ _ _ _ (show Bx ≠ g by omega)]; exact e4
    refine wpAnyIn_ready (rs := [7]) (by kernel_rfl) (by simp) ?_
    refine AllReadyIn.cons rfl (fun K hK => ?_) AllReadyIn.nil
    go_simp
    refine hK _ _ ?_
    clear hK K
    try simp only [Act.put, List.setIfInBounds_toArray, List.set_cons_zero, List.set_cons_succ]
    refine wpAnyIn_done (by kernel_rfl) ?_ _
    exact HFI.out _ _ (Or.inr rfl)
  refine AllReadyIn.cons rfl (fun K hK => ?_) AllReadyIn.nil
  go_simp
  refine hK _ _ ?_
  clear hK K
  try simp only [Act.put, List.setIfInBounds_toArray, List.set_cons_zero, List.set_cons_succ]
  have e0 : (w1.setCell ⟨Bx, 0, none⟩ (.slice (some ⟨g, 0, none⟩) (k + 1) cap)).cell? ⟨g, k * 5, none⟩ = some (.int .i64 0) := by rw [World.cell?_setCell_far _ _ _ _ (show Bx ≠ g by omega)]; exact e0
  have e1 : (w1.setCell ⟨Bx, 0, none⟩ (.slice (some ⟨g, 0, none⟩) (k + 1) cap)).cell? ⟨g, k * 5 + 1, none⟩ = some (.string ⟨#[]⟩) := by rw [World.cell?_setCell_far _ _ _ _ (show Bx ≠ g by omega)]; exact e1
  have e2 : (w1.setCell ⟨Bx, 0, none⟩ (.slice (some ⟨g, 0, none⟩) (k + 1) cap)).cell? ⟨g, k * 5 + 2, none⟩ = some (.int .i64 0) := by rw [World.cell?_setCell_far _ _ _ _ (show Bx ≠ g by omega)]; exact e2
  have e3 : (w1.setCell ⟨Bx, 0, none⟩ (.slice (some ⟨g, 0, none⟩) (k + 1) cap)).cell? ⟨g, k * 5 + 3, none⟩ = some (.int .i64 0) := by rw [World.cell?_setCell_far _ _ _ _ (show Bx ≠ g by omega)]; exact e3
  have e4 : (w1.setCell ⟨Bx, 0, none⟩ (.slice (some ⟨g, 0, none⟩) (k + 1) cap)).cell? ⟨g, k * 5 + 4, none⟩ = some (.slice none 0 0) := by rw [World.cell?_setCell_far _ _ _ _ (show Bx ≠ g by omega)]; exact e4
  refine wpAnyIn_ready (rs := [6]) (by kernel_rfl) (by simp) ?_
  refine AllReadyIn.cons rfl (fun K hK => ?_) AllReadyIn.nil
  go_simp
  refine hK _ _ ?_
  clear hK K
  try simp only [Act.put, List.setIfInBounds_toArray, List.set_cons_zero, List.set_cons_succ]
  refine wpAnyIn_ready (rs := [7]) (by kernel_rfl) (by simp) ?_
  refine AllReadyIn.cons rfl (fun K hK => ?_) AllReadyIn.nil
  go_simp
  refine hK _ _ ?_
  clear hK K
  try simp only [Act.put, List.setIfInBounds_toArray, List.set_cons_zero, List.set_cons_succ]
  refine wpAnyIn_done (by kernel_rfl) ?_ _
  exact HFI.out _ _ (Or.inr rfl)
theorem aggR5 (F : Fence) (l m M : Nat) (Q : Exit → Act → World → Prop) (y : Tr M) (W : World) (B Bx Bt k cc ly cy : Nat) (a sy : Option Addr) (k1 n1 a1 : Int) (t1 : List UInt8) (xs : List Value) (p0 p1 p2 p5 p6 p7 p8 p9 p10 p11 p12 p13 p14 p15 p16 p17 : Value) (hdd : ∀ k : Nat, (F.depth.isSome = true → 1 ≤ k)) (h15 : F.fn 15) (hall : ∀ (m : Nat) (f : FuncId) (args : Array Value) (W : World) (R : Ending → World → Prop), Calls Tryz.prog f args W R → CallsIn F m Tryz.prog f args W R)
    (hown : W.ownsRow B 24 5 (Value.slice a k cc) k xs) (hB : B ≤ W.heap.size) (hk : k * 64 + 64 ≤ 140737488355328) (hbx : Boxed W Bx 22 (Value.slice a k cc)) (hxB : Bx < B)
    (hQ : ∀ (act : Act) (Wf : World), (∃ (X w1 : World) (g cap lo : Nat) (s' : Option Addr) (c' : Nat), Below W.heap.size W X ∧ W.heap.size ≤ lo ∧ NdF lo X M y s' ∧ w1.ownsRow B 24 5 (.slice (some ⟨g, 0, none⟩) (k + 1) cap) (k + 1) (xs ++ [.int .i64 0, .string ⟨#[]⟩, .int .i64 0, .int .i64 0, .slice none 0 0]) ∧ X.grownBy w1 (Value.slice a k cc).ownBlock ∧ ((Value.slice a k cc).ownBlock = some g ∨ g = X.heap.size) ∧ g < w1.heap.size ∧ (Wf = (set5 w1 g (k * 5) (.int .i64 k1) (.string (bsA t1)) (.int .i64 n1) (.int .i64 a1) (.slice s' ly c')).setCell ⟨Bx, 0, none⟩ (.slice (some ⟨g, 0, none⟩) (k + 1) cap) ∨ Wf = (set5 (w1.setCell ⟨Bx, 0, none⟩ (.slice (some ⟨g, 0, none⟩) (k + 1) cap)) g (k * 5) (.int .i64 k1) (.string (bsA t1)) (.int .i64 n1) (.int .i64 a1) (.slice s' ly c')))) → Q .normal act Wf)
    (t0 : W.cell? ⟨Bt, 0, none⟩ = some (.int .i64 k1)) (t1' : W.cell? ⟨Bt, 1, none⟩ = some (.string (bsA t1))) (t2 : W.cell? ⟨Bt, 2, none⟩ = some (.int .i64 n1)) (t3 : W.cell? ⟨Bt, 3, none⟩ = some (.int .i64 a1)) (t4 : W.cell? ⟨Bt, 4, none⟩ = some (.slice sy ly cy))
    (hCp : ∀ W', Below W.heap.size W W' → Calls Tryz.prog 15 #[Value.agg #[.int .i64 k1, .string (bsA t1), .int .i64 n1, .int .i64 a1, .slice sy ly cy]] W' fun e w' => (∃ s' c', e = .returned (Value.agg #[.int .i64 k1, .string (bsA t1), .int .i64 n1, .int .i64 a1, .slice s' ly c']) ∧ NdF W'.heap.size w' M y s') ∧ Below W'.heap.size W' w') :
    (Code.region 5 #[{ dst := some 18, op := Op.load 22 (Operand.tmp 3), type := 22, pos := "tree.go:61", after := #[], guard := none }, { dst := some 19, op := Op.load 24 (Operand.tmp 4), type := 24, pos := "tree.go:61", after := #[], guard := none }, { dst := some 20, op := Op.call { callee := Callee.value (Operand.func 15), args := #[Operand.tmp 19], argTypes := #[24] }, type := 24, pos := "tree.go:61", after := #[{ on := 1, ground := Ground.data }], guard := none }, { dst := some 21, op := Op.call { callee := Callee.builtin Builtin.len, args := #[Operand.tmp 18], argTypes := #[22] }, type := 3, pos := "tree.go:61", after := #[{ on := 0, ground := Ground.data }], guard := none }, { dst := some 22, op := Op.buildSlice 22 1 #[(0, Operand.const (Value.agg #[Value.int IntKind.i64 0, Value.string { data := #[] }, Value.int IntKind.i64 0, Value.int IntKind.i64 0, Value.slice none 0 0]))], type := 22, pos := "tree.go:61", after := #[], guard := none }, { dst := some 23, op := Op.call { callee := Callee.builtin Builtin.append, args := #[Operand.tmp 18, Operand.tmp 22], argTypes := #[22, 22] }, type := 22, pos := "tree.go:61", after := #[{ on := 0, ground := Ground.data }, { on := 4, ground := Ground.data }, { on := 2, ground := Ground.chain }, { on := 0, ground := Ground.phase }, { on := 1, ground := Ground.phase }, { on := 2, ground := Ground.phase }, { on := 3, ground := Ground.phase }, { on := 4, ground := Ground.phase }], guard := none }, { dst := some 24, op := Op.indexAddr 22 (Operand.tmp 23) (Operand.tmp 21), type := 0, pos := "tree.go:61", after := #[{ on := 5, ground := Ground.data }, { on := 3, ground := Ground.data }, { on := 0, ground := Ground.phase }, { on := 1, ground := Ground.phase }, { on := 2, ground := Ground.phase }, { on := 3, ground := Ground.phase }, { on := 4, ground := Ground.phase }, { on := 5, ground := Ground.phase }, { on := 8, ground := Ground.gcOnly Departure.appendInPlace }], guard := none }, { dst := none, op := Op.store 24 (Operand.tmp 24) (Operand.tmp 20), type := 0, pos := "tree.go:61", after := #[{ on := 6, ground := Ground.data }, { on := 2, ground := Ground.data }, { on := 5, ground := Ground.chain }, { on := 0, ground := Ground.phase }, { on := 1, ground := Ground.phase }, { on := 2, ground := Ground.phase }, { on := 3, ground := Ground.phase }, { on := 4, ground := Ground.phase }, { on := 5, ground := Ground.phase }, { on := 8, ground := Ground.gcOnly Departure.appendInPlace }], guard := none }, { dst := none, op := Op.store 22 (Operand.tmp 3) (Operand.tmp 23), type := 0, pos := "tree.go:61", after := #[{ on := 5, ground := Ground.data }, { on := 5, ground := Ground.chain }, { on := 7, ground := Ground.textOnly Departure.appendInPlace }, { on := 0, ground := Ground.phase }, { on := 1, ground := Ground.phase }, { on := 2, ground := Ground.phase }, { on := 3, ground := Ground.phase }, { on := 4, ground := Ground.phase }, { on := 5, ground := Ground.phase }, { on := 6, ground := Ground.textOnly Departure.appendInPlace }, { on := 7, ground := Ground.textOnly Departure.appendInPlace }], guard := none }] true).wpIn (F.inRound l) m Tryz.prog Q { tmps := #[p0, p1, p2, .pointer (some ⟨Bx, 0, none⟩), .pointer (some ⟨Bt, 0, none⟩), p5, p6, p7, p8, p9, p10, p11, p12, p13, p14, p15, p16, p17, undef, undef, undef, undef, undef, undef, undef, undef], defers := [] } W := by
  have hmx : Tryz.prog.follows .mixedOrders = true := by kernel_rfl
  have hc := hbx.cell
  have tt1 := t1'
  have HCp : Hid _ := hCp
  have HQ : Hid _ := hQ
  clear hCp hQ t1'
  refine wpIn_region_any hmx ?_
  change wpAnyIn _ _ _ _ _ _ _ _ _ (World.drew _)
  refine wpAnyIn_ready (rs := [0, 1, 4]) (by kernel_rfl) (by simp) ?_
  refine AllReadyIn.cons rfl (fun K hK => ?_) ?_
  · go_simp
    refine hK _ _ ?_
    clear hK K
    try simp only [Act.put, List.setIfInBounds_toArray, List.set_cons_zero, List.set_cons_succ]
    refine wpAnyIn_ready (rs := [1, 3, 4]) (by kernel_rfl) (by simp) ?_
    refine AllReadyIn.cons rfl (fun K hK => ?_) ?_
    · go_simp
      refine hK _ _ ?_
      clear hK K
      try simp only [Act.put, List.setIfInBounds_toArray, List.set_cons_zero, List.set_cons_succ]
      refine wpAnyIn_ready (rs := [2, 3, 4]) (by kernel_rfl) (by simp) ?_
      refine AllReadyIn.cons rfl (fun K hK => ?_) ?_
      · go_simp
        gi_wp2_with ((try refine ⟨hdd _, ?_⟩); gi_at_call 15; refine (CallsIn.inRound l (hall _ _ _ _ _ (HCp.out _ ((Below.refl _ W).drew)))).mono ?_; rintro e w3 ⟨⟨s', c', rfl, hF3⟩, hb3⟩)
        have HF3 : Hid _ := hF3
        have hX3 : Below W.heap.size W w3 := ((Below.refl _ W).drew).trans (hb3.mono (by simp))
        clear hF3
        have hc := cell_below hb3 hc
        have t0 := cell_below hb3 t0
        have tt1 := cell_below hb3 tt1
        have t2 := cell_below hb3 t2
        have t3 := cell_below hb3 t3
        have t4 := cell_below hb3 t4
        try simp only [Act.put, List.setIfInBounds_toArray, List.set_cons_zero, List.set_cons_succ]
        refine wpAnyIn_ready (rs := [3, 4]) (by kernel_rfl) (by simp) ?_
        refine AllReadyIn.cons rfl (fun K hK => ?_) ?_
        · go_simp
          refine hK _ _ ?_
          clear hK K
          try simp only [Act.put, List.setIfInBounds_toArray, List.set_cons_zero, List.set_cons_succ]
          refine wpAnyIn_ready (rs := [4]) (by kernel_rfl) (by simp) ?_
          refine AllReadyIn.cons rfl (fun K hK => ?_) AllReadyIn.nil
          go_simp
          refine hK _ _ ?_
          clear hK K
          try simp only [Act.put, List.setIfInBounds_toArray, List.set_cons_zero, List.set_cons_succ]
          have hc := cell_below ((Below.refl _ w3).alloc (Nat.le_refl _) (Obj.cells #[Value.int IntKind.i64 0, Value.string { data := #[] }, Value.int IntKind.i64 0, Value.int IntKind.i64 0, Value.slice none 0 0] 24)) hc
          have t0 := cell_below ((Below.refl _ w3).alloc (Nat.le_refl _) (Obj.cells #[Value.int IntKind.i64 0, Value.string { data := #[] }, Value.int IntKind.i64 0, Value.int IntKind.i64 0, Value.slice none 0 0] 24)) t0
          have tt1 := cell_below ((Below.refl _ w3).alloc (Nat.le_refl _) (Obj.cells #[Value.int IntKind.i64 0, Value.string { data := #[] }, Value.int IntKind.i64 0, Value.int IntKind.i64 0, Value.slice none 0 0] 24)) tt1
          have t2 := cell_below ((Below.refl _ w3).alloc (Nat.le_refl _) (Obj.cells #[Value.int IntKind.i64 0, Value.string { data := #[] }, Value.int IntKind.i64 0, Value.int IntKind.i64 0, Value.slice none 0 0] 24)) t2
          have t3 := cell_below ((Below.refl _ w3).alloc (Nat.le_refl _) (Obj.cells #[Value.int IntKind.i64 0, Value.string { data := #[] }, Value.int IntKind.i64 0, Value.int IntKind.i64 0, Value.slice none 0 0] 24)) t3
          have t4 := cell_below ((Below.refl _ w3).alloc (Nat.le_refl _) (Obj.cells #[Value.int IntKind.i64 0, Value.string { data := #[] }, Value.int IntKind.i64 0, Value.int IntKind.i64 0, Value.slice none 0 0] 24)) t4
          exact aggTail F l m M Q y W B Bx Bt k cc ly cy a sy k1 n1 a1 t1 xs p0 p1 p2 p5 p6 p7 p8 p9 p10 p11 p12 p13 p14 p15 p16 p17 hown hB hk hbx hxB HQ.out _ _ _ s' c' (hX3.alloc hX3.size _) (z_cells w3) (by simp) (NdF.below ((Below.refl _ _).alloc (Nat.le_refl _) _) HF3.out)
        refine AllReadyIn.cons rfl (fun K hK => ?_) AllReadyIn.nil
        go_simp
        refine hK _ _ ?_
        clear hK K
        try simp only [Act.put, List.setIfInBounds_toArray, List.set_cons_zero, List.set_cons_succ]
        have hc := cell_below ((Below.refl _ w3).alloc (Nat.le_refl _) (Obj.cells #[Value.int IntKind.i64 0, Value.string { data := #[] }, Value.int IntKind.i64 0, Value.int IntKind.i64 0, Value.slice none 0 0] 24)) hc
        have t0 := cell_below ((Below.refl _ w3).alloc (Nat.le_refl _) (Obj.cells #[Value.int IntKind.i64 0, Value.string { data := #[] }, Value.int IntKind.i64 0, Value.int IntKind.i64 0, Value.slice none 0 0] 24)) t0
        have tt1 := cell_below ((Below.refl _ w3).alloc (Nat.le_refl _) (Obj.cells #[Value.int IntKind.i64 0, Value.string { data := #[] }, Value.int IntKind.i64 0, Value.int IntKind.i64 0, Value.slice none 0 0] 24)) tt1
        have t2 := cell_below ((Below.refl _ w3).alloc (Nat.le_refl _) (Obj.cells #[Value.int IntKind.i64 0, Value.string { data := #[] }, Value.int IntKind.i64 0, Value.int IntKind.i64 0, Value.slice none 0 0] 24)) t2
        have t3 := cell_below ((Below.refl _ w3).alloc (Nat.le_refl _) (Obj.cells #[Value.int IntKind.i64 0, Value.string { data := #[] }, Value.int IntKind.i64 0, Value.int IntKind.i64 0, Value.slice none 0 0] 24)) t3
        have t4 := cell_below ((Below.refl _ w3).alloc (Nat.le_refl _) (Obj.cells #[Value.int IntKind.i64 0, Value.string { data := #[] }, Value.int IntKind.i64 0, Value.int IntKind.i64 0, Value.slice none 0 0] 24)) t4
        refine wpAnyIn_ready (rs := [3]) (by kernel_rfl) (by simp) ?_
        refine AllReadyIn.cons rfl (fun K hK => ?_) AllReadyIn.nil
        go_simp
        refine hK _ _ ?_
        clear hK K
        try simp only [Act.put, List.setIfInBounds_toArray, List.set_cons_zero, List.set_cons_succ]
        exact aggTail F l m M Q y W B Bx Bt k cc ly cy a sy k1 n1 a1 t1 xs p0 p1 p2 p5 p6 p7 p8 p9 p10 p11 p12 p13 p14 p15 p16 p17 hown hB hk hbx hxB HQ.out _ _ _ s' c' (hX3.alloc hX3.size _) (z_cells w3) (by simp) (NdF.below ((Below.refl _ _).alloc (Nat.le_refl _) _) HF3.out)
      refine AllReadyIn.cons rfl (fun K hK => ?_) ?_
      · go_simp
        refine hK _ _ ?_
        clear hK K
        try simp only [Act.put, List.setIfInBounds_toArray, List.set_cons_zero, List.set_cons_succ]
        refine wpAnyIn_ready (rs := [2, 4]) (by kernel_rfl) (by simp) ?_
        refine AllReadyIn.cons rfl (fun K hK => ?_) ?_
        · go_simp
          gi_wp2_with ((try refine ⟨hdd _, ?_⟩); gi_at_call 15; refine (CallsIn.inRound l (hall _ _ _ _ _ (HCp.out _ ((Below.refl _ W).drew)))).mono ?_; rintro e w3 ⟨⟨s', c', rfl, hF3⟩, hb3⟩)
          have HF3 : Hid _ := hF3
          have hX3 : Below W.heap.size W w3 := ((Below.refl _ W).drew).trans (hb3.mono (by simp))
          clear hF3
          have hc := cell_below hb3 hc
          have t0 := cell_below hb3 t0
          have tt1 := cell_below hb3 tt1
          have t2 := cell_below hb3 t2
          have t3 := cell_below hb3 t3
          have t4 := cell_below hb3 t4
          try simp only [Act.put, List.setIfInBounds_toArray, List.set_cons_zero, List.set_cons_succ]
          refine wpAnyIn_ready (rs := [4]) (by kernel_rfl) (by simp) ?_
          refine AllReadyIn.cons rfl (fun K hK => ?_) AllReadyIn.nil
          go_simp
          refine hK _ _ ?_
          clear hK K
          try simp only [Act.put, List.setIfInBounds_toArray, List.set_cons_zero, List.set_cons_succ]
          have hc := cell_below ((Below.refl _ w3).alloc (Nat.le_refl _) (Obj.cells #[Value.int IntKind.i64 0, Value.string { data := #[] }, Value.int IntKind.i64 0, Value.int IntKind.i64 0, Value.slice none 0 0] 24)) hc
          have t0 := cell_below ((Below.refl _ w3).alloc (Nat.le_refl _) (Obj.cells #[Value.int IntKind.i64 0, Value.string { data := #[] }, Value.int IntKind.i64 0, Value.int IntKind.i64 0, Value.slice none 0 0] 24)) t0
          have tt1 := cell_below ((Below.refl _ w3).alloc (Nat.le_refl _) (Obj.cells #[Value.int IntKind.i64 0, Value.string { data := #[] }, Value.int IntKind.i64 0, Value.int IntKind.i64 0, Value.slice none 0 0] 24)) tt1
          have t2 := cell_below ((Below.refl _ w3).alloc (Nat.le_refl _) (Obj.cells #[Value.int IntKind.i64 0, Value.string { data := #[] }, Value.int IntKind.i64 0, Value.int IntKind.i64 0, Value.slice none 0 0] 24)) t2
          have t3 := cell_below ((Below.refl _ w3).alloc (Nat.le_refl _) (Obj.cells #[Value.int IntKind.i64 0, Value.string { data := #[] }, Value.int IntKind.i64 0, Value.int IntKind.i64 0, Value.slice none 0 0] 24)) t3
          have t4 := cell_below ((Below.refl _ w3).alloc (Nat.le_refl _) (Obj.cells #[Value.int IntKind.i64 0, Value.string { data := #[] }, Value.int IntKind.i64 0, Value.int IntKind.i64 0, Value.slice none 0 0] 24)) t4
          exact aggTail F l m M Q y W B Bx Bt k cc ly cy a sy k1 n1 a1 t1 xs p0 p1 p2 p5 p6 p7 p8 p9 p10 p11 p12 p13 p14 p15 p16 p17 hown hB hk hbx hxB HQ.out _ _ _ s' c' (hX3.alloc hX3.size _) (z_cells w3) (by simp) (NdF.below ((Below.refl _ _).alloc (Nat.le_refl _) _) HF3.out)
        refine AllReadyIn.cons rfl (fun K hK => ?_) AllReadyIn.nil
        go_simp
        refine hK _ _ ?_
        clear hK K
        try simp only [Act.put, List.setIfInBounds_toArray, List.set_cons_zero, List.set_cons_succ]
        have hc := cell_below ((Below.refl _ W).alloc (Nat.le_refl _) (Obj.cells #[Value.int IntKind.i64 0, Value.string { data := #[] }, Value.int IntKind.i64 0, Value.int IntKind.i64 0, Value.slice none 0 0] 24)) hc
        have t0 := cell_below ((Below.refl _ W).alloc (Nat.le_refl _) (Obj.cells #[Value.int IntKind.i64 0, Value.string { data := #[] }, Value.int IntKind.i64 0, Value.int IntKind.i64 0, Value.slice none 0 0] 24)) t0
        have tt1 := cell_below ((Below.refl _ W).alloc (Nat.le_refl _) (Obj.cells #[Value.int IntKind.i64 0, Value.string { data := #[] }, Value.int IntKind.i64 0, Value.int IntKind.i64 0, Value.slice none 0 0] 24)) tt1
        have t2 := cell_below ((Below.refl _ W).alloc (Nat.le_refl _) (Obj.cells #[Value.int IntKind.i64 0, Value.string { data := #[] }, Value.int IntKind.i64 0, Value.int IntKind.i64 0, Value.slice none 0 0] 24)) t2
        have t3 := cell_below ((Below.refl _ W).alloc (Nat.le_refl _) (Obj.cells #[Value.int IntKind.i64 0, Value.string { data := #[] }, Value.int IntKind.i64 0, Value.int IntKind.i64 0, Value.slice none 0 0] 24)) t3
        have t4 := cell_below ((Below.refl _ W).alloc (Nat.le_refl _) (Obj.cells #[Value.int IntKind.i64 0, Value.string { data := #[] }, Value.int IntKind.i64 0, Value.int IntKind.i64 0, Value.slice none 0 0] 24)) t4
        refine wpAnyIn_ready (rs := [2]) (by kernel_rfl) (by simp) ?_
        refine AllReadyIn.cons rfl (fun K hK => ?_) AllReadyIn.nil
        go_simp
        gi_wp2_with ((try refine ⟨hdd _, ?_⟩); gi_at_call 15; refine (CallsIn.inRound l (hall _ _ _ _ _ (HCp.out _ (((Below.refl _ W).alloc (Nat.le_refl _) _).drew)))).mono ?_; rintro e w3 ⟨⟨s', c', rfl, hF3⟩, hb3⟩)
        have HF3 : Hid _ := hF3
        have hX3 : Below W.heap.size W w3 := (((Below.refl _ W).alloc (Nat.le_refl _) _).drew).trans (hb3.mono (by simp))
        clear hF3
        have hc := cell_below hb3 hc
        have t0 := cell_below hb3 t0
        have tt1 := cell_below hb3 tt1
        have t2 := cell_below hb3 t2
        have t3 := cell_below hb3 t3
        have t4 := cell_below hb3 t4
        try simp only [Act.put, List.setIfInBounds_toArray, List.set_cons_zero, List.set_cons_succ]
        exact aggTail F l m M Q y W B Bx Bt k cc ly cy a sy k1 n1 a1 t1 xs p0 p1 p2 p5 p6 p7 p8 p9 p10 p11 p12 p13 p14 p15 p16 p17 hown hB hk hbx hxB HQ.out _ _ _ s' c' hX3 (z_below hb3 (z_cells W)) (by simp) HF3.out
      refine AllReadyIn.cons rfl (fun K hK => ?_) AllReadyIn.nil
      go_simp
      refine hK _ _ ?_
      clear hK K
      try simp only [Act.put, List.setIfInBounds_toArray, List.set_cons_zero, List.set_cons_succ]
      have hc := cell_below ((Below.refl _ W).alloc (Nat.le_refl _) (Obj.cells #[Value.int IntKind.i64 0, Value.string { data := #[] }, Value.int IntKind.i64 0, Value.int IntKind.i64 0, Value.slice none 0 0] 24)) hc
      have t0 := cell_below ((Below.refl _ W).alloc (Nat.le_refl _) (Obj.cells #[Value.int IntKind.i64 0, Value.string { data := #[] }, Value.int IntKind.i64 0, Value.int IntKind.i64 0, Value.slice none 0 0] 24)) t0
      have tt1 := cell_below ((Below.refl _ W).alloc (Nat.le_refl _) (Obj.cells #[Value.int IntKind.i64 0, Value.string { data := #[] }, Value.int IntKind.i64 0, Value.int IntKind.i64 0, Value.slice none 0 0] 24)) tt1
      have t2 := cell_below ((Below.refl _ W).alloc (Nat.le_refl _) (Obj.cells #[Value.int IntKind.i64 0, Value.string { data := #[] }, Value.int IntKind.i64 0, Value.int IntKind.i64 0, Value.slice none 0 0] 24)) t2
      have t3 := cell_below ((Below.refl _ W).alloc (Nat.le_refl _) (Obj.cells #[Value.int IntKind.i64 0, Value.string { data := #[] }, Value.int IntKind.i64 0, Value.int IntKind.i64 0, Value.slice none 0 0] 24)) t3
      have t4 := cell_below ((Below.refl _ W).alloc (Nat.le_refl _) (Obj.cells #[Value.int IntKind.i64 0, Value.string { data := #[] }, Value.int IntKind.i64 0, Value.int IntKind.i64 0, Value.slice none 0 0] 24)) t4
      refine wpAnyIn_ready (rs := [2, 3]) (by kernel_rfl) (by simp) ?_
      refine AllReadyIn.cons rfl (fun K hK => ?_) ?_
      · go_simp
        gi_wp2_with ((try refine ⟨hdd _, ?_⟩); gi_at_call 15; refine (CallsIn.inRound l (hall _ _ _ _ _ (HCp.out _ (((Below.refl _ W).alloc (Nat.le_refl _) _).drew)))).mono ?_; rintro e w3 ⟨⟨s', c', rfl, hF3⟩, hb3⟩)
        have HF3 : Hid _ := hF3
        have hX3 : Below W.heap.size W w3 := (((Below.refl _ W).alloc (Nat.le_refl _) _).drew).trans (hb3.mono (by simp))
        clear hF3
        have hc := cell_below hb3 hc
        have t0 := cell_below hb3 t0
        have tt1 := cell_below hb3 tt1
        have t2 := cell_below hb3 t2
        have t3 := cell_below hb3 t3
        have t4 := cell_below hb3 t4
        try simp only [Act.put, List.setIfInBounds_toArray, List.set_cons_zero, List.set_cons_succ]
        refine wpAnyIn_ready (rs := [3]) (by kernel_rfl) (by simp) ?_
        refine AllReadyIn.cons rfl (fun K hK => ?_) AllReadyIn.nil
        go_simp
        refine hK _ _ ?_
        clear hK K
        try simp only [Act.put, List.setIfInBounds_toArray, List.set_cons_zero, List.set_cons_succ]
        exact aggTail F l m M Q y W B Bx Bt k cc ly cy a sy k1 n1 a1 t1 xs p0 p1 p2 p5 p6 p7 p8 p9 p10 p11 p12 p13 p14 p15 p16 p17 hown hB hk hbx hxB HQ.out _ _ _ s' c' hX3 (z_below hb3 (z_cells W)) (by simp) HF3.out
      refine AllReadyIn.cons rfl (fun K hK => ?_) AllReadyIn.nil
      go_simp
      refine hK _ _ ?_
      clear hK K
      try simp only [Act.put, List.setIfInBounds_toArray, List.set_cons_zero, List.set_cons_succ]
      refine wpAnyIn_ready (rs := [2]) (by kernel_rfl) (by simp) ?_
      refine AllReadyIn.cons rfl (fun K hK => ?_) AllReadyIn.nil
      go_simp
      gi_wp2_with ((try refine ⟨hdd _, ?_⟩); gi_at_call 15; refine (CallsIn.inRound l (hall _ _ _ _ _ (HCp.out _ (((Below.refl _ W).alloc (Nat.le_refl _) _).drew)))).mono ?_; rintro e w3 ⟨⟨s', c', rfl, hF3⟩, hb3⟩)
      have HF3 : Hid _ := hF3
      have hX3 : Below W.heap.size W w3 := (((Below.refl _ W).alloc (Nat.le_refl _) _).drew).trans (hb3.mono (by simp))
      clear hF3
      have hc := cell_below hb3 hc
      have t0 := cell_below hb3 t0
      have tt1 := cell_below hb3 tt1
      have t2 := cell_below hb3 t2
      have t3 := cell_below hb3 t3
      have t4 := cell_below hb3 t4
      try simp only [Act.put, List.setIfInBounds_toArray, List.set_cons_zero, List.set_cons_succ]
      exact aggTail F l m M Q y W B Bx Bt k cc ly cy a sy k1 n1 a1 t1 xs p0 p1 p2 p5 p6 p7 p8 p9 p10 p11 p12 p13 p14 p15 p16 p17 hown hB hk hbx hxB HQ.out _ _ _ s' c' hX3 (z_below hb3 (z_cells W)) (by simp) HF3.out
    refine AllReadyIn.cons rfl (fun K hK => ?_) ?_
    · go_simp
      refine hK _ _ ?_
      clear hK K
      try simp only [Act.put, List.setIfInBounds_toArray, List.set_cons_zero, List.set_cons_succ]
      refine wpAnyIn_ready (rs := [1, 4]) (by kernel_rfl) (by simp) ?_
      refine AllReadyIn.cons rfl (fun K hK => ?_) ?_
      · go_simp
        refine hK _ _ ?_
        clear hK K
        try simp only [Act.put, List.setIfInBounds_toArray, List.set_cons_zero, List.set_cons_succ]
        refine wpAnyIn_ready (rs := [2, 4]) (by kernel_rfl) (by simp) ?_
        refine AllReadyIn.cons rfl (fun K hK => ?_) ?_
        · go_simp
          gi_wp2_with ((try refine ⟨hdd _, ?_⟩); gi_at_call 15; refine (CallsIn.inRound l (hall _ _ _ _ _ (HCp.out _ ((Below.refl _ W).drew)))).mono ?_; rintro e w3 ⟨⟨s', c', rfl, hF3⟩, hb3⟩)
          have HF3 : Hid _ := hF3
          have hX3 : Below W.heap.size W w3 := ((Below.refl _ W).drew).trans (hb3.mono (by simp))
          clear hF3
          have hc := cell_below hb3 hc
          have t0 := cell_below hb3 t0
          have tt1 := cell_below hb3 tt1
          have t2 := cell_below hb3 t2
          have t3 := cell_below hb3 t3
          have t4 := cell_below hb3 t4
          try simp only [Act.put, List.setIfInBounds_toArray, List.set_cons_zero, List.set_cons_succ]
          refine wpAnyIn_ready (rs := [4]) (by kernel_rfl) (by simp) ?_
          refine AllReadyIn.cons rfl (fun K hK => ?_) AllReadyIn.nil
          go_simp
          refine hK _ _ ?_
          clear hK K
          try simp only [Act.put, List.setIfInBounds_toArray, List.set_cons_zero, List.set_cons_succ]
          have hc := cell_below ((Below.refl _ w3).alloc (Nat.le_refl _) (Obj.cells #[Value.int IntKind.i64 0, Value.string { data := #[] }, Value.int IntKind.i64 0, Value.int IntKind.i64 0, Value.slice none 0 0] 24)) hc
          have t0 := cell_below ((Below.refl _ w3).alloc (Nat.le_refl _) (Obj.cells #[Value.int IntKind.i64 0, Value.string { data := #[] }, Value.int IntKind.i64 0, Value.int IntKind.i64 0, Value.slice none 0 0] 24)) t0
          have tt1 := cell_below ((Below.refl _ w3).alloc (Nat.le_refl _) (Obj.cells #[Value.int IntKind.i64 0, Value.string { data := #[] }, Value.int IntKind.i64 0, Value.int IntKind.i64 0, Value.slice none 0 0] 24)) tt1
          have t2 := cell_below ((Below.refl _ w3).alloc (Nat.le_refl _) (Obj.cells #[Value.int IntKind.i64 0, Value.string { data := #[] }, Value.int IntKind.i64 0, Value.int IntKind.i64 0, Value.slice none 0 0] 24)) t2
          have t3 := cell_below ((Below.refl _ w3).alloc (Nat.le_refl _) (Obj.cells #[Value.int IntKind.i64 0, Value.string { data := #[] }, Value.int IntKind.i64 0, Value.int IntKind.i64 0, Value.slice none 0 0] 24)) t3
          have t4 := cell_below ((Below.refl _ w3).alloc (Nat.le_refl _) (Obj.cells #[Value.int IntKind.i64 0, Value.string { data := #[] }, Value.int IntKind.i64 0, Value.int IntKind.i64 0, Value.slice none 0 0] 24)) t4
          exact aggTail F l m M Q y W B Bx Bt k cc ly cy a sy k1 n1 a1 t1 xs p0 p1 p2 p5 p6 p7 p8 p9 p10 p11 p12 p13 p14 p15 p16 p17 hown hB hk hbx hxB HQ.out _ _ _ s' c' (hX3.alloc hX3.size _) (z_cells w3) (by simp) (NdF.below ((Below.refl _ _).alloc (Nat.le_refl _) _) HF3.out)
        refine AllReadyIn.cons rfl (fun K hK => ?_) AllReadyIn.nil
        go_simp
        refine hK _ _ ?_
        clear hK K
        try simp only [Act.put, List.setIfInBounds_toArray, List.set_cons_zero, List.set_cons_succ]
        have hc := cell_below ((Below.refl _ W).alloc (Nat.le_refl _) (Obj.cells #[Value.int IntKind.i64 0, Value.string { data := #[] }, Value.int IntKind.i64 0, Value.int IntKind.i64 0, Value.slice none 0 0] 24)) hc
        have t0 := cell_below ((Below.refl _ W).alloc (Nat.le_refl _) (Obj.cells #[Value.int IntKind.i64 0, Value.string { data := #[] }, Value.int IntKind.i64 0, Value.int IntKind.i64 0, Value.slice none 0 0] 24)) t0
        have tt1 := cell_below ((Below.refl _ W).alloc (Nat.le_refl _) (Obj.cells #[Value.int IntKind.i64 0, Value.string { data := #[] }, Value.int IntKind.i64 0, Value.int IntKind.i64 0, Value.slice none 0 0] 24)) tt1
        have t2 := cell_below ((Below.refl _ W).alloc (Nat.le_refl _) (Obj.cells #[Value.int IntKind.i64 0, Value.string { data := #[] }, Value.int IntKind.i64 0, Value.int IntKind.i64 0, Value.slice none 0 0] 24)) t2
        have t3 := cell_below ((Below.refl _ W).alloc (Nat.le_refl _) (Obj.cells #[Value.int IntKind.i64 0, Value.string { data := #[] }, Value.int IntKind.i64 0, Value.int IntKind.i64 0, Value.slice none 0 0] 24)) t3
        have t4 := cell_below ((Below.refl _ W).alloc (Nat.le_refl _) (Obj.cells #[Value.int IntKind.i64 0, Value.string { data := #[] }, Value.int IntKind.i64 0, Value.int IntKind.i64 0, Value.slice none 0 0] 24)) t4
        refine wpAnyIn_ready (rs := [2]) (by kernel_rfl) (by simp) ?_
        refine AllReadyIn.cons rfl (fun K hK => ?_) AllReadyIn.nil
        go_simp
        gi_wp2_with ((try refine ⟨hdd _, ?_⟩); gi_at_call 15; refine (CallsIn.inRound l (hall _ _ _ _ _ (HCp.out _ (((Below.refl _ W).alloc (Nat.le_refl _) _).drew)))).mono ?_; rintro e w3 ⟨⟨s', c', rfl, hF3⟩, hb3⟩)
        have HF3 : Hid _ := hF3
        have hX3 : Below W.heap.size W w3 := (((Below.refl _ W).alloc (Nat.le_refl _) _).drew).trans (hb3.mono (by simp))
        clear hF3
        have hc := cell_below hb3 hc
        have t0 := cell_below hb3 t0
        have tt1 := cell_below hb3 tt1
        have t2 := cell_below hb3 t2
        have t3 := cell_below hb3 t3
        have t4 := cell_below hb3 t4
        try simp only [Act.put, List.setIfInBounds_toArray, List.set_cons_zero, List.set_cons_succ]
        exact aggTail F l m M Q y W B Bx Bt k cc ly cy a sy k1 n1 a1 t1 xs p0 p1 p2 p5 p6 p7 p8 p9 p10 p11 p12 p13 p14 p15 p16 p17 hown hB hk hbx hxB HQ.out _ _ _ s' c' hX3 (z_below hb3 (z_cells W)) (by simp) HF3.out
      refine AllReadyIn.cons rfl (fun K hK => ?_) AllReadyIn.nil
      go_simp
      refine hK _ _ ?_
      clear hK K
      try simp only [Act.put, List.setIfInBounds_toArray, List.set_cons_zero, List.set_cons_succ]
      have hc := cell_below ((Below.refl _ W).alloc (Nat.le_refl _) (Obj.cells #[Value.int IntKind.i64 0, Value.string { data := #[] }, Value.int IntKind.i64 0, Value.int IntKind.i64 0, Value.slice none 0 0] 24)) hc
      have t0 := cell_below ((Below.refl _ W).alloc (Nat.le_refl _) (Obj.cells #[Value.int IntKind.i64 0, Value.string { data := #[] }, Value.int IntKind.i64 0, Value.int IntKind.i64 0, Value.slice none 0 0] 24)) t0
      have tt1 := cell_below ((Below.refl _ W).alloc (Nat.le_refl _) (Obj.cells #[Value.int IntKind.i64 0, Value.string { data := #[] }, Value.int IntKind.i64 0, Value.int IntKind.i64 0, Value.slice none 0 0] 24)) tt1
      have t2 := cell_below ((Below.refl _ W).alloc (Nat.le_refl _) (Obj.cells #[Value.int IntKind.i64 0, Value.string { data := #[] }, Value.int IntKind.i64 0, Value.int IntKind.i64 0, Value.slice none 0 0] 24)) t2
      have t3 := cell_below ((Below.refl _ W).alloc (Nat.le_refl _) (Obj.cells #[Value.int IntKind.i64 0, Value.string { data := #[] }, Value.int IntKind.i64 0, Value.int IntKind.i64 0, Value.slice none 0 0] 24)) t3
      have t4 := cell_below ((Below.refl _ W).alloc (Nat.le_refl _) (Obj.cells #[Value.int IntKind.i64 0, Value.string { data := #[] }, Value.int IntKind.i64 0, Value.int IntKind.i64 0, Value.slice none 0 0] 24)) t4
      refine wpAnyIn_ready (rs := [1]) (by kernel_rfl) (by simp) ?_
      refine AllReadyIn.cons rfl (fun K hK => ?_) AllReadyIn.nil
      go_simp
      refine hK _ _ ?_
      clear hK K
      try simp only [Act.put, List.setIfInBounds_toArray, List.set_cons_zero, List.set_cons_succ]
      refine wpAnyIn_ready (rs := [2]) (by kernel_rfl) (by simp) ?_
      refine AllReadyIn.cons rfl (fun K hK => ?_) AllReadyIn.nil
      go_simp
      gi_wp2_with ((try refine ⟨hdd _, ?_⟩); gi_at_call 15; refine (CallsIn.inRound l (hall _ _ _ _ _ (HCp.out _ (((Below.refl _ W).alloc (Nat.le_refl _) _).drew)))).mono ?_; rintro e w3 ⟨⟨s', c', rfl, hF3⟩, hb3⟩)
      have HF3 : Hid _ := hF3
      have hX3 : Below W.heap.size W w3 := (((Below.refl _ W).alloc (Nat.le_refl _) _).drew).trans (hb3.mono (by simp))
      clear hF3
      have hc := cell_below hb3 hc
      have t0 := cell_below hb3 t0
      have tt1 := cell_below hb3 tt1
      have t2 := cell_below hb3 t2
      have t3 := cell_below hb3 t3
      have t4 := cell_below hb3 t4
      try simp only [Act.put, List.setIfInBounds_toArray, List.set_cons_zero, List.set_cons_succ]
      exact aggTail F l m M Q y W B Bx Bt k cc ly cy a sy k1 n1 a1 t1 xs p0 p1 p2 p5 p6 p7 p8 p9 p10 p11 p12 p13 p14 p15 p16 p17 hown hB hk hbx hxB HQ.out _ _ _ s' c' hX3 (z_below hb3 (z_cells W)) (by simp) HF3.out
    refine AllReadyIn.cons rfl (fun K hK => ?_) AllReadyIn.nil
    go_simp
    refine hK _ _ ?_
    clear hK K
    try simp only [Act.put, List.setIfInBounds_toArray, List.set_cons_zero, List.set_cons_succ]
    have hc := cell_below ((Below.refl _ W).alloc (Nat.le_refl _) (Obj.cells #[Value.int IntKind.i64 0, Value.string { data := #[] }, Value.int IntKind.i64 0, Value.int IntKind.i64 0, Value.slice none 0 0] 24)) hc
    have t0 := cell_below ((Below.refl _ W).alloc (Nat.le_refl _) (Obj.cells #[Value.int IntKind.i64 0, Value.string { data := #[] }, Value.int IntKind.i64 0, Value.int IntKind.i64 0, Value.slice none 0 0] 24)) t0
    have tt1 := cell_below ((Below.refl _ W).alloc (Nat.le_refl _) (Obj.cells #[Value.int IntKind.i64 0, Value.string { data := #[] }, Value.int IntKind.i64 0, Value.int IntKind.i64 0, Value.slice none 0 0] 24)) tt1
    have t2 := cell_below ((Below.refl _ W).alloc (Nat.le_refl _) (Obj.cells #[Value.int IntKind.i64 0, Value.string { data := #[] }, Value.int IntKind.i64 0, Value.int IntKind.i64 0, Value.slice none 0 0] 24)) t2
    have t3 := cell_below ((Below.refl _ W).alloc (Nat.le_refl _) (Obj.cells #[Value.int IntKind.i64 0, Value.string { data := #[] }, Value.int IntKind.i64 0, Value.int IntKind.i64 0, Value.slice none 0 0] 24)) t3
    have t4 := cell_below ((Below.refl _ W).alloc (Nat.le_refl _) (Obj.cells #[Value.int IntKind.i64 0, Value.string { data := #[] }, Value.int IntKind.i64 0, Value.int IntKind.i64 0, Value.slice none 0 0] 24)) t4
    refine wpAnyIn_ready (rs := [1, 3]) (by kernel_rfl) (by simp) ?_
    refine AllReadyIn.cons rfl (fun K hK => ?_) ?_
    · go_simp
      refine hK _ _ ?_
      clear hK K
      try simp only [Act.put, List.setIfInBounds_toArray, List.set_cons_zero, List.set_cons_succ]
      refine wpAnyIn_ready (rs := [2, 3]) (by kernel_rfl) (by simp) ?_
      refine AllReadyIn.cons rfl (fun K hK => ?_) ?_
      · go_simp
        gi_wp2_with ((try refine ⟨hdd _, ?_⟩); gi_at_call 15; refine (CallsIn.inRound l (hall _ _ _ _ _ (HCp.out _ (((Below.refl _ W).alloc (Nat.le_refl _) _).drew)))).mono ?_; rintro e w3 ⟨⟨s', c', rfl, hF3⟩, hb3⟩)
        have HF3 : Hid _ := hF3
        have hX3 : Below W.heap.size W w3 := (((Below.refl _ W).alloc (Nat.le_refl _) _).drew).trans (hb3.mono (by simp))
        clear hF3
        have hc := cell_below hb3 hc
        have t0 := cell_below hb3 t0
        have tt1 := cell_below hb3 tt1
        have t2 := cell_below hb3 t2
        have t3 := cell_below hb3 t3
        have t4 := cell_below hb3 t4
        try simp only [Act.put, List.setIfInBounds_toArray, List.set_cons_zero, List.set_cons_succ]
        refine wpAnyIn_ready (rs := [3]) (by kernel_rfl) (by simp) ?_
        refine AllReadyIn.cons rfl (fun K hK => ?_) AllReadyIn.nil
        go_simp
        refine hK _ _ ?_
        clear hK K
        try simp only [Act.put, List.setIfInBounds_toArray, List.set_cons_zero, List.set_cons_succ]
        exact aggTail F l m M Q y W B Bx Bt k cc ly cy a sy k1 n1 a1 t1 xs p0 p1 p2 p5 p6 p7 p8 p9 p10 p11 p12 p13 p14 p15 p16 p17 hown hB hk hbx hxB HQ.out _ _ _ s' c' hX3 (z_below hb3 (z_cells W)) (by simp) HF3.out
      refine AllReadyIn.cons rfl (fun K hK => ?_) AllReadyIn.nil
      go_simp
      refine hK _ _ ?_
      clear hK K
      try simp only [Act.put, List.setIfInBounds_toArray, List.set_cons_zero, List.set_cons_succ]
      refine wpAnyIn_ready (rs := [2]) (by kernel_rfl) (by simp) ?_
      refine AllReadyIn.cons rfl (fun K hK => ?_) AllReadyIn.nil
      go_simp
      gi_wp2_with ((try refine ⟨hdd _, ?_⟩); gi_at_call 15; refine (CallsIn.inRound l (hall _ _ _ _ _ (HCp.out _ (((Below.refl _ W).alloc (Nat.le_refl _) _).drew)))).mono ?_; rintro e w3 ⟨⟨s', c', rfl, hF3⟩, hb3⟩)
      have HF3 : Hid _ := hF3
      have hX3 : Below W.heap.size W w3 := (((Below.refl _ W).alloc (Nat.le_refl _) _).drew).trans (hb3.mono (by simp))
      clear hF3
      have hc := cell_below hb3 hc
      have t0 := cell_below hb3 t0
      have tt1 := cell_below hb3 tt1
      have t2 := cell_below hb3 t2
      have t3 := cell_below hb3 t3
      have t4 := cell_below hb3 t4
      try simp only [Act.put, List.setIfInBounds_toArray, List.set_cons_zero, List.set_cons_succ]
      exact aggTail F l m M Q y W B Bx Bt k cc ly cy a sy k1 n1 a1 t1 xs p0 p1 p2 p5 p6 p7 p8 p9 p10 p11 p12 p13 p14 p15 p16 p17 hown hB hk hbx hxB HQ.out _ _ _ s' c' hX3 (z_below hb3 (z_cells W)) (by simp) HF3.out
    refine AllReadyIn.cons rfl (fun K hK => ?_) AllReadyIn.nil
    go_simp
    refine hK _ _ ?_
    clear hK K
    try simp only [Act.put, List.setIfInBounds_toArray, List.set_cons_zero, List.set_cons_succ]
    refine wpAnyIn_ready (rs := [1]) (by kernel_rfl) (by simp) ?_
    refine AllReadyIn.cons rfl (fun K hK => ?_) AllReadyIn.nil
    go_simp
    refine hK _ _ ?_
    clear hK K
    try simp only [Act.put, List.setIfInBounds_toArray, List.set_cons_zero, List.set_cons_succ]
    refine wpAnyIn_ready (rs := [2]) (by kernel_rfl) (by simp) ?_
    refine AllReadyIn.cons rfl (fun K hK => ?_) AllReadyIn.nil
    go_simp
    gi_wp2_with ((try refine ⟨hdd _, ?_⟩); gi_at_call 15; refine (CallsIn.inRound l (hall _ _ _ _ _ (HCp.out _ (((Below.refl _ W).alloc (Nat.le_refl _) _).drew)))).mono ?_; rintro e w3 ⟨⟨s', c', rfl, hF3⟩, hb3⟩)
    have HF3 : Hid _ := hF3
    have hX3 : Below W.heap.size W w3 := (((Below.refl _ W).alloc (Nat.le_refl _) _).drew).trans (hb3.mono (by simp))
    clear hF3
    have hc := cell_below hb3 hc
    have t0 := cell_below hb3 t0
    have tt1 := cell_below hb3 tt1
    have t2 := cell_below hb3 t2
    have t3 := cell_below hb3 t3
    have t4 := cell_below hb3 t4
    try simp only [Act.put, List.setIfInBounds_toArray, List.set_cons_zero, List.set_cons_succ]
    exact aggTail F l m M Q y W B Bx Bt k cc ly cy a sy k1 n1 a1 t1 xs p0 p1 p2 p5 p6 p7 p8 p9 p10 p11 p12 p13 p14 p15 p16 p17 hown hB hk hbx hxB HQ.out _ _ _ s' c' hX3 (z_below hb3 (z_cells W)) (by simp) HF3.out
  refine AllReadyIn.cons rfl (fun K hK => ?_) ?_
  · go_simp
    refine hK _ _ ?_
    clear hK K
    try simp only [Act.put, List.setIfInBounds_toArray, List.set_cons_zero, List.set_cons_succ]
    refine wpAnyIn_ready (rs := [0, 2, 4]) (by kernel_rfl) (by simp) ?_
    refine AllReadyIn.cons rfl (fun K hK => ?_) ?_
    · go_simp
      refine hK _ _ ?_
      clear hK K
      try simp only [Act.put, List.setIfInBounds_toArray, List.set_cons_zero, List.set_cons_succ]
      refine wpAnyIn_ready (rs := [2, 3, 4]) (by kernel_rfl) (by simp) ?_
      refine AllReadyIn.cons rfl (fun K hK => ?_) ?_
      · go_simp
        gi_wp2_with ((try refine ⟨hdd _, ?_⟩); gi_at_call 15; refine (CallsIn.inRound l (hall _ _ _ _ _ (HCp.out _ ((Below.refl _ W).drew)))).mono ?_; rintro e w3 ⟨⟨s', c', rfl, hF3⟩, hb3⟩)
        have HF3 : Hid _ := hF3
        have hX3 : Below W.heap.size W w3 := ((Below.refl _ W).drew).trans (hb3.mono (by simp))
        clear hF3
        have hc := cell_below hb3 hc
        have t0 := cell_below hb3 t0
        have tt1 := cell_below hb3 tt1
        have t2 := cell_below hb3 t2
        have t3 := cell_below hb3 t3
        have t4 := cell_below hb3 t4
        try simp only [Act.put, List.setIfInBounds_toArray, List.set_cons_zero, List.set_cons_succ]
        refine wpAnyIn_ready (rs := [3, 4]) (by kernel_rfl) (by simp) ?_
        refine AllReadyIn.cons rfl (fun K hK => ?_) ?_
        · go_simp
          refine hK _ _ ?_
          clear hK K
          try simp only [Act.put, List.setIfInBounds_toArray, List.set_cons_zero, List.set_cons_succ]
          refine wpAnyIn_ready (rs := [4]) (by kernel_rfl) (by simp) ?_
          refine AllReadyIn.cons rfl (fun K hK => ?_) AllReadyIn.nil
          go_simp
          refine hK _ _ ?_
          clear hK K
          try simp only [Act.put, List.setIfInBounds_toArray, List.set_cons_zero, List.set_cons_succ]
          have hc := cell_below ((Below.refl _ w3).alloc (Nat.le_refl _) (Obj.cells #[Value.int IntKind.i64 0, Value.string { data := #[] }, Value.int IntKind.i64 0, Value.int IntKind.i64 0, Value.slice none 0 0] 24)) hc
          have t0 := cell_below ((Below.refl _ w3).alloc (Nat.le_refl _) (Obj.cells #[Value.int IntKind.i64 0, Value.string { data := #[] }, Value.int IntKind.i64 0, Value.int IntKind.i64 0, Value.slice none 0 0] 24)) t0
          have tt1 := cell_below ((Below.refl _ w3).alloc (Nat.le_refl _) (Obj.cells #[Value.int IntKind.i64 0, Value.string { data := #[] }, Value.int IntKind.i64 0, Value.int IntKind.i64 0, Value.slice none 0 0] 24)) tt1
          have t2 := cell_below ((Below.refl _ w3).alloc (Nat.le_refl _) (Obj.cells #[Value.int IntKind.i64 0, Value.string { data := #[] }, Value.int IntKind.i64 0, Value.int IntKind.i64 0, Value.slice none 0 0] 24)) t2
          have t3 := cell_below ((Below.refl _ w3).alloc (Nat.le_refl _) (Obj.cells #[Value.int IntKind.i64 0, Value.string { data := #[] }, Value.int IntKind.i64 0, Value.int IntKind.i64 0, Value.slice none 0 0] 24)) t3
          have t4 := cell_below ((Below.refl _ w3).alloc (Nat.le_refl _) (Obj.cells #[Value.int IntKind.i64 0, Value.string { data := #[] }, Value.int IntKind.i64 0, Value.int IntKind.i64 0, Value.slice none 0 0] 24)) t4
          exact aggTail F l m M Q y W B Bx Bt k cc ly cy a sy k1 n1 a1 t1 xs p0 p1 p2 p5 p6 p7 p8 p9 p10 p11 p12 p13 p14 p15 p16 p17 hown hB hk hbx hxB HQ.out _ _ _ s' c' (hX3.alloc hX3.size _) (z_cells w3) (by simp) (NdF.below ((Below.refl _ _).alloc (Nat.le_refl _) _) HF3.out)
        refine AllReadyIn.cons rfl (fun K hK => ?_) AllReadyIn.nil
        go_simp
        refine hK _ _ ?_
        clear hK K
        try simp only [Act.put, List.setIfInBounds_toArray, List.set_cons_zero, List.set_cons_succ]
        have hc := cell_below ((Below.refl _ w3).alloc (Nat.le_refl _) (Obj.cells #[Value.int IntKind.i64 0, Value.string { data := #[] }, Value.int IntKind.i64 0, Value.int IntKind.i64 0, Value.slice none 0 0] 24)) hc
        have t0 := cell_below ((Below.refl _ w3).alloc (Nat.le_refl _) (Obj.cells #[Value.int IntKind.i64 0, Value.string { data := #[] }, Value.int IntKind.i64 0, Value.int IntKind.i64 0, Value.slice none 0 0] 24)) t0
        have tt1 := cell_below ((Below.refl _ w3).alloc (Nat.le_refl _) (Obj.cells #[Value.int IntKind.i64 0, Value.string { data := #[] }, Value.int IntKind.i64 0, Value.int IntKind.i64 0, Value.slice none 0 0] 24)) tt1
        have t2 := cell_below ((Below.refl _ w3).alloc (Nat.le_refl _) (Obj.cells #[Value.int IntKind.i64 0, Value.string { data := #[] }, Value.int IntKind.i64 0, Value.int IntKind.i64 0, Value.slice none 0 0] 24)) t2
        have t3 := cell_below ((Below.refl _ w3).alloc (Nat.le_refl _) (Obj.cells #[Value.int IntKind.i64 0, Value.string { data := #[] }, Value.int IntKind.i64 0, Value.int IntKind.i64 0, Value.slice none 0 0] 24)) t3
        have t4 := cell_below ((Below.refl _ w3).alloc (Nat.le_refl _) (Obj.cells #[Value.int IntKind.i64 0, Value.string { data := #[] }, Value.int IntKind.i64 0, Value.int IntKind.i64 0, Value.slice none 0 0] 24)) t4
        refine wpAnyIn_ready (rs := [3]) (by kernel_rfl) (by simp) ?_
        refine AllReadyIn.cons rfl (fun K hK => ?_) AllReadyIn.nil
        go_simp
        refine hK _ _ ?_
        clear hK K
        try simp only [Act.put, List.setIfInBounds_toArray, List.set_cons_zero, List.set_cons_succ]
        exact aggTail F l m M Q y W B Bx Bt k cc ly cy a sy k1 n1 a1 t1 xs p0 p1 p2 p5 p6 p7 p8 p9 p10 p11 p12 p13 p14 p15 p16 p17 hown hB hk hbx hxB HQ.out _ _ _ s' c' (hX3.alloc hX3.size _) (z_cells w3) (by simp) (NdF.below ((Below.refl _ _).alloc (Nat.le_refl _) _) HF3.out)
      refine AllReadyIn.cons rfl (fun K hK => ?_) ?_
      · go_simp
        refine hK _ _ ?_
        clear hK K
        try simp only [Act.put, List.setIfInBounds_toArray, List.set_cons_zero, List.set_cons_succ]
        refine wpAnyIn_ready (rs := [2, 4]) (by kernel_rfl) (by simp) ?_
        refine AllReadyIn.cons rfl (fun K hK => ?_) ?_
        · go_simp
          gi_wp2_with ((try refine ⟨hdd _, ?_⟩); gi_at_call 15; refine (CallsIn.inRound l (hall _ _ _ _ _ (HCp.out _ ((Below.refl _ W).drew)))).mono ?_; rintro e w3 ⟨⟨s', c', rfl, hF3⟩, hb3⟩)
          have HF3 : Hid _ := hF3
          have hX3 : Below W.heap.size W w3 := ((Below.refl _ W).drew).trans (hb3.mono (by simp))
          clear hF3
          have hc := cell_below hb3 hc
          have t0 := cell_below hb3 t0
          have tt1 := cell_below hb3 tt1
          have t2 := cell_below hb3 t2
          have t3 := cell_below hb3 t3
          have t4 := cell_below hb3 t4
          try simp only [Act.put, List.setIfInBounds_toArray, List.set_cons_zero, List.set_cons_succ]
          refine wpAnyIn_ready (rs := [4]) (by kernel_rfl) (by simp) ?_
          refine AllReadyIn.cons rfl (fun K hK => ?_) AllReadyIn.nil
          go_simp
          refine hK _ _ ?_
          clear hK K
          try simp only [Act.put, List.setIfInBounds_toArray, List.set_cons_zero, List.set_cons_succ]
          have hc := cell_below ((Below.refl _ w3).alloc (Nat.le_refl _) (Obj.cells #[Value.int IntKind.i64 0, Value.string { data := #[] }, Value.int IntKind.i64 0, Value.int IntKind.i64 0, Value.slice none 0 0] 24)) hc
          have t0 := cell_below ((Below.refl _ w3).alloc (Nat.le_refl _) (Obj.cells #[Value.int IntKind.i64 0, Value.string { data := #[] }, Value.int IntKind.i64 0, Value.int IntKind.i64 0, Value.slice none 0 0] 24)) t0
          have tt1 := cell_below ((Below.refl _ w3).alloc (Nat.le_refl _) (Obj.cells #[Value.int IntKind.i64 0, Value.string { data := #[] }, Value.int IntKind.i64 0, Value.int IntKind.i64 0, Value.slice none 0 0] 24)) tt1
          have t2 := cell_below ((Below.refl _ w3).alloc (Nat.le_refl _) (Obj.cells #[Value.int IntKind.i64 0, Value.string { data := #[] }, Value.int IntKind.i64 0, Value.int IntKind.i64 0, Value.slice none 0 0] 24)) t2
          have t3 := cell_below ((Below.refl _ w3).alloc (Nat.le_refl _) (Obj.cells #[Value.int IntKind.i64 0, Value.string { data := #[] }, Value.int IntKind.i64 0, Value.int IntKind.i64 0, Value.slice none 0 0] 24)) t3
          have t4 := cell_below ((Below.refl _ w3).alloc (Nat.le_refl _) (Obj.cells #[Value.int IntKind.i64 0, Value.string { data := #[] }, Value.int IntKind.i64 0, Value.int IntKind.i64 0, Value.slice none 0 0] 24)) t4
          exact aggTail F l m M Q y W B Bx Bt k cc ly cy a sy k1 n1 a1 t1 xs p0 p1 p2 p5 p6 p7 p8 p9 p10 p11 p12 p13 p14 p15 p16 p17 hown hB hk hbx hxB HQ.out _ _ _ s' c' (hX3.alloc hX3.size _) (z_cells w3) (by simp) (NdF.below ((Below.refl _ _).alloc (Nat.le_refl _) _) HF3.out)
        refine AllReadyIn.cons rfl (fun K hK => ?_) AllReadyIn.nil
        go_simp
        refine hK _ _ ?_
        clear hK K
        try simp only [Act.put, List.setIfInBounds_toArray, List.set_cons_zero, List.set_cons_succ]
        have hc := cell_below ((Below.refl _ W).alloc (Nat.le_refl _) (Obj.cells #[Value.int IntKind.i64 0, Value.string { data := #[] }, Value.int IntKind.i64 0, Value.int IntKind.i64 0, Value.slice none 0 0] 24)) hc
        have t0 := cell_below ((Below.refl _ W).alloc (Nat.le_refl _) (Obj.cells #[Value.int IntKind.i64 0, Value.string { data := #[] }, Value.int IntKind.i64 0, Value.int IntKind.i64 0, Value.slice none 0 0] 24)) t0
        have tt1 := cell_below ((Below.refl _ W).alloc (Nat.le_refl _) (Obj.cells #[Value.int IntKind.i64 0, Value.string { data := #[] }, Value.int IntKind.i64 0, Value.int IntKind.i64 0, Value.slice none 0 0] 24)) tt1
        have t2 := cell_below ((Below.refl _ W).alloc (Nat.le_refl _) (Obj.cells #[Value.int IntKind.i64 0, Value.string { data := #[] }, Value.int IntKind.i64 0, Value.int IntKind.i64 0, Value.slice none 0 0] 24)) t2
        have t3 := cell_below ((Below.refl _ W).alloc (Nat.le_refl _) (Obj.cells #[Value.int IntKind.i64 0, Value.string { data := #[] }, Value.int IntKind.i64 0, Value.int IntKind.i64 0, Value.slice none 0 0] 24)) t3
        have t4 := cell_below ((Below.refl _ W).alloc (Nat.le_refl _) (Obj.cells #[Value.int IntKind.i64 0, Value.string { data := #[] }, Value.int IntKind.i64 0, Value.int IntKind.i64 0, Value.slice none 0 0] 24)) t4
        refine wpAnyIn_ready (rs := [2]) (by kernel_rfl) (by simp) ?_
        refine AllReadyIn.cons rfl (fun K hK => ?_) AllReadyIn.nil
        go_simp
        gi_wp2_with ((try refine ⟨hdd _, ?_⟩); gi_at_call 15; refine (CallsIn.inRound l (hall _ _ _ _ _ (HCp.out _ (((Below.refl _ W).alloc (Nat.le_refl _) _).drew)))).mono ?_; rintro e w3 ⟨⟨s', c', rfl, hF3⟩, hb3⟩)
        have HF3 : Hid _ := hF3
        have hX3 : Below W.heap.size W w3 := (((Below.refl _ W).alloc (Nat.le_refl _) _).drew).trans (hb3.mono (by simp))
        clear hF3
        have hc := cell_below hb3 hc
        have t0 := cell_below hb3 t0
        have tt1 := cell_below hb3 tt1
        have t2 := cell_below hb3 t2
        have t3 := cell_below hb3 t3
        have t4 := cell_below hb3 t4
        try simp only [Act.put, List.setIfInBounds_toArray, List.set_cons_zero, List.set_cons_succ]
        exact aggTail F l m M Q y W B Bx Bt k cc ly cy a sy k1 n1 a1 t1 xs p0 p1 p2 p5 p6 p7 p8 p9 p10 p11 p12 p13 p14 p15 p16 p17 hown hB hk hbx hxB HQ.out _ _ _ s' c' hX3 (z_below hb3 (z_cells W)) (by simp) HF3.out
      refine AllReadyIn.cons rfl (fun K hK => ?_) AllReadyIn.nil
      go_simp
      refine hK _ _ ?_
      clear hK K
      try simp only [Act.put, List.setIfInBounds_toArray, List.set_cons_zero, List.set_cons_succ]
      have hc := cell_below ((Below.refl _ W).alloc (Nat.le_refl _) (Obj.cells #[Value.int IntKind.i64 0, Value.string { data := #[] }, Value.int IntKind.i64 0, Value.int IntKind.i64 0, Value.slice none 0 0] 24)) hc
      have t0 := cell_below ((Below.refl _ W).alloc (Nat.le_refl _) (Obj.cells #[Value.int IntKind.i64 0, Value.string { data := #[] }, Value.int IntKind.i64 0, Value.int IntKind.i64 0, Value.slice none 0 0] 24)) t0
      have tt1 := cell_below ((Below.refl _ W).alloc (Nat.le_refl _) (Obj.cells #[Value.int IntKind.i64 0, Value.string { data := #[] }, Value.int IntKind.i64 0, Value.int IntKind.i64 0, Value.slice none 0 0] 24)) tt1
      have t2 := cell_below ((Below.refl _ W).alloc (Nat.le_refl _) (Obj.cells #[Value.int IntKind.i64 0, Value.string { data := #[] }, Value.int IntKind.i64 0, Value.int IntKind.i64 0, Value.slice none 0 0] 24)) t2
      have t3 := cell_below ((Below.refl _ W).alloc (Nat.le_refl _) (Obj.cells #[Value.int IntKind.i64 0, Value.string { data := #[] }, Value.int IntKind.i64 0, Value.int IntKind.i64 0, Value.slice none 0 0] 24)) t3
      have t4 := cell_below ((Below.refl _ W).alloc (Nat.le_refl _) (Obj.cells #[Value.int IntKind.i64 0, Value.string { data := #[] }, Value.int IntKind.i64 0, Value.int IntKind.i64 0, Value.slice none 0 0] 24)) t4
      refine wpAnyIn_ready (rs := [2, 3]) (by kernel_rfl) (by simp) ?_
      refine AllReadyIn.cons rfl (fun K hK => ?_) ?_
      · go_simp
        gi_wp2_with ((try refine ⟨hdd _, ?_⟩); gi_at_call 15; refine (CallsIn.inRound l (hall _ _ _ _ _ (HCp.out _ (((Below.refl _ W).alloc (Nat.le_refl _) _).drew)))).mono ?_; rintro e w3 ⟨⟨s', c', rfl, hF3⟩, hb3⟩)
        have HF3 : Hid _ := hF3
        have hX3 : Below W.heap.size W w3 := (((Below.refl _ W).alloc (Nat.le_refl _) _).drew).trans (hb3.mono (by simp))
        clear hF3
        have hc := cell_below hb3 hc
        have t0 := cell_below hb3 t0
        have tt1 := cell_below hb3 tt1
        have t2 := cell_below hb3 t2
        have t3 := cell_below hb3 t3
        have t4 := cell_below hb3 t4
        try simp only [Act.put, List.setIfInBounds_toArray, List.set_cons_zero, List.set_cons_succ]
        refine wpAnyIn_ready (rs := [3]) (by kernel_rfl) (by simp) ?_
        refine AllReadyIn.cons rfl (fun K hK => ?_) AllReadyIn.nil
        go_simp
        refine hK _ _ ?_
        clear hK K
        try simp only [Act.put, List.setIfInBounds_toArray, List.set_cons_zero, List.set_cons_succ]
        exact aggTail F l m M Q y W B Bx Bt k cc ly cy a sy k1 n1 a1 t1 xs p0 p1 p2 p5 p6 p7 p8 p9 p10 p11 p12 p13 p14 p15 p16 p17 hown hB hk hbx hxB HQ.out _ _ _ s' c' hX3 (z_below hb3 (z_cells W)) (by simp) HF3.out
      refine AllReadyIn.cons rfl (fun K hK => ?_) AllReadyIn.nil
      go_simp
      refine hK _ _ ?_
      clear hK K
      try simp only [Act.put, List.setIfInBounds_toArray, List.set_cons_zero, List.set_cons_succ]
      refine wpAnyIn_ready (rs := [2]) (by kernel_rfl) (by simp) ?_
      refine AllReadyIn.cons rfl (fun K hK => ?_) AllReadyIn.nil
      go_simp
      gi_wp2_with ((try refine ⟨hdd _, ?_⟩); gi_at_call 15; refine (CallsIn.inRound l (hall _ _ _ _ _ (HCp.out _ (((Below.refl _ W).alloc (Nat.le_refl _) _).drew)))).mono ?_; rintro e w3 ⟨⟨s', c', rfl, hF3⟩, hb3⟩)
      have HF3 : Hid _ := hF3
      have hX3 : Below W.heap.size W w3 := (((Below.refl _ W).alloc (Nat.le_refl _) _).drew).trans (hb3.mono (by simp))
      clear hF3
      have hc := cell_below hb3 hc
      have t0 := cell_below hb3 t0
      have tt1 := cell_below hb3 tt1
      have t2 := cell_below hb3 t2
      have t3 := cell_below hb3 t3
      have t4 := cell_below hb3 t4
      try simp only [Act.put, List.setIfInBounds_toArray, List.set_cons_zero, List.set_cons_succ]
      exact aggTail F l m M Q y W B Bx Bt k cc ly cy a sy k1 n1 a1 t1 xs p0 p1 p2 p5 p6 p7 p8 p9 p10 p11 p12 p13 p14 p15 p16 p17 hown hB hk hbx hxB HQ.out _ _ _ s' c' hX3 (z_below hb3 (z_cells W)) (by simp) HF3.out
    refine AllReadyIn.cons rfl (fun K hK => ?_) ?_
    · go_simp
      gi_wp2_with ((try refine ⟨hdd _, ?_⟩); gi_at_call 15; refine (CallsIn.inRound l (hall _ _ _ _ _ (HCp.out _ ((Below.refl _ W).drew)))).mono ?_; rintro e w3 ⟨⟨s', c', rfl, hF3⟩, hb3⟩)
      have HF3 : Hid _ := hF3
      have hX3 : Below W.heap.size W w3 := ((Below.refl _ W).drew).trans (hb3.mono (by simp))
      clear hF3
      have hc := cell_below hb3 hc
      have t0 := cell_below hb3 t0
      have tt1 := cell_below hb3 tt1
      have t2 := cell_below hb3 t2
      have t3 := cell_below hb3 t3
      have t4 := cell_below hb3 t4
      try simp only [Act.put, List.setIfInBounds_toArray, List.set_cons_zero, List.set_cons_succ]
      refine wpAnyIn_ready (rs := [0, 4]) (by kernel_rfl) (by simp) ?_
      refine AllReadyIn.cons rfl (fun K hK => ?_) ?_
      · go_simp
        refine hK _ _ ?_
        clear hK K
        try simp only [Act.put, List.setIfInBounds_toArray, List.set_cons_zero, List.set_cons_succ]
        refine wpAnyIn_ready (rs := [3, 4]) (by kernel_rfl) (by simp) ?_
        refine AllReadyIn.cons rfl (fun K hK => ?_) ?_
        · go_simp
          refine hK _ _ ?_
          clear hK K
          try simp only [Act.put, List.setIfInBounds_toArray, List.set_cons_zero, List.set_cons_succ]
          refine wpAnyIn_ready (rs := [4]) (by kernel_rfl) (by simp) ?_
          refine AllReadyIn.cons rfl (fun K hK => ?_) AllReadyIn.nil
          go_simp
          refine hK _ _ ?_
          clear hK K
          try simp only [Act.put, List.setIfInBounds_toArray, List.set_cons_zero, List.set_cons_succ]
          have hc := cell_below ((Below.refl _ w3).alloc (Nat.le_refl _) (Obj.cells #[Value.int IntKind.i64 0, Value.string { data := #[] }, Value.int IntKind.i64 0, Value.int IntKind.i64 0, Value.slice none 0 0] 24)) hc
          have t0 := cell_below ((Below.refl _ w3).alloc (Nat.le_refl _) (Obj.cells #[Value.int IntKind.i64 0, Value.string { data := #[] }, Value.int IntKind.i64 0, Value.int IntKind.i64 0, Value.slice none 0 0] 24)) t0
          have tt1 := cell_below ((Below.refl _ w3).alloc (Nat.le_refl _) (Obj.cells #[Value.int IntKind.i64 0, Value.string { data := #[] }, Value.int IntKind.i64 0, Value.int IntKind.i64 0, Value.slice none 0 0] 24)) tt1
          have t2 := cell_below ((Below.refl _ w3).alloc (Nat.le_refl _) (Obj.cells #[Value.int IntKind.i64 0, Value.string { data := #[] }, Value.int IntKind.i64 0, Value.int IntKind.i64 0, Value.slice none 0 0] 24)) t2
          have t3 := cell_below ((Below.refl _ w3).alloc (Nat.le_refl _) (Obj.cells #[Value.int IntKind.i64 0, Value.string { data := #[] }, Value.int IntKind.i64 0, Value.int IntKind.i64 0, Value.slice none 0 0] 24)) t3
          have t4 := cell_below ((Below.refl _ w3).alloc (Nat.le_refl _) (Obj.cells #[Value.int IntKind.i64 0, Value.string { data := #[] }, Value.int IntKind.i64 0, Value.int IntKind.i64 0, Value.slice none 0 0] 24)) t4
          exact aggTail F l m M Q y W B Bx Bt k cc ly cy a sy k1 n1 a1 t1 xs p0 p1 p2 p5 p6 p7 p8 p9 p10 p11 p12 p13 p14 p15 p16 p17 hown hB hk hbx hxB HQ.out _ _ _ s' c' (hX3.alloc hX3.size _) (z_cells w3) (by simp) (NdF.below ((Below.refl _ _).alloc (Nat.le_refl _) _) HF3.out)
        refine AllReadyIn.cons rfl (fun K hK => ?_) AllReadyIn.nil
        go_simp
        refine hK _ _ ?_
        clear hK K
        try simp only [Act.put, List.setIfInBounds_toArray, List.set_cons_zero, List.set_cons_succ]
        have hc := cell_below ((Below.refl _ w3).alloc (Nat.le_refl _) (Obj.cells #[Value.int IntKind.i64 0, Value.string { data := #[] }, Value.int IntKind.i64 0, Value.int IntKind.i64 0, Value.slice none 0 0] 24)) hc
        have t0 := cell_below ((Below.refl _ w3).alloc (Nat.le_refl _) (Obj.cells #[Value.int IntKind.i64 0, Value.string { data := #[] }, Value.int IntKind.i64 0, Value.int IntKind.i64 0, Value.slice none 0 0] 24)) t0
        have tt1 := cell_below ((Below.refl _ w3).alloc (Nat.le_refl _) (Obj.cells #[Value.int IntKind.i64 0, Value.string { data := #[] }, Value.int IntKind.i64 0, Value.int IntKind.i64 0, Value.slice none 0 0] 24)) tt1
        have t2 := cell_below ((Below.refl _ w3).alloc (Nat.le_refl _) (Obj.cells #[Value.int IntKind.i64 0, Value.string { data := #[] }, Value.int IntKind.i64 0, Value.int IntKind.i64 0, Value.slice none 0 0] 24)) t2
        have t3 := cell_below ((Below.refl _ w3).alloc (Nat.le_refl _) (Obj.cells #[Value.int IntKind.i64 0, Value.string { data := #[] }, Value.int IntKind.i64 0, Value.int IntKind.i64 0, Value.slice none 0 0] 24)) t3
        have t4 := cell_below ((Below.refl _ w3).alloc (Nat.le_refl _) (Obj.cells #[Value.int IntKind.i64 0, Value.string { data := #[] }, Value.int IntKind.i64 0, Value.int IntKind.i64 0, Value.slice none 0 0] 24)) t4
        refine wpAnyIn_ready (rs := [3]) (by kernel_rfl) (by simp) ?_
        refine AllReadyIn.cons rfl (fun K hK => ?_) AllReadyIn.nil
        go_simp
        refine hK _ _ ?_
        clear hK K
        try simp only [Act.put, List.setIfInBounds_toArray, List.set_cons_zero, List.set_cons_succ]
        exact aggTail F l m M Q y W B Bx Bt k cc ly cy a sy k1 n1 a1 t1 xs p0 p1 p2 p5 p6 p7 p8 p9 p10 p11 p12 p13 p14 p15 p16 p17 hown hB hk hbx hxB HQ.out _ _ _ s' c' (hX3.alloc hX3.size _) (z_cells w3) (by simp) (NdF.below ((Below.refl _ _).alloc (Nat.le_refl _) _) HF3.out)
      refine AllReadyIn.cons rfl (fun K hK => ?_) AllReadyIn.nil
      go_simp
      refine hK _ _ ?_
      clear hK K
      try simp only [Act.put, List.setIfInBounds_toArray, List.set_cons_zero, List.set_cons_succ]
      have hc := cell_below ((Below.refl _ w3).alloc (Nat.le_refl _) (Obj.cells #[Value.int IntKind.i64 0, Value.string { data := #[] }, Value.int IntKind.i64 0, Value.int IntKind.i64 0, Value.slice none 0 0] 24)) hc
      have t0 := cell_below ((Below.refl _ w3).alloc (Nat.le_refl _) (Obj.cells #[Value.int IntKind.i64 0, Value.string { data := #[] }, Value.int IntKind.i64 0, Value.int IntKind.i64 0, Value.slice none 0 0] 24)) t0
      have tt1 := cell_below ((Below.refl _ w3).alloc (Nat.le_refl _) (Obj.cells #[Value.int IntKind.i64 0, Value.string { data := #[] }, Value.int IntKind.i64 0, Value.int IntKind.i64 0, Value.slice none 0 0] 24)) tt1
      have t2 := cell_below ((Below.refl _ w3).alloc (Nat.le_refl _) (Obj.cells #[Value.int IntKind.i64 0, Value.string { data := #[] }, Value.int IntKind.i64 0, Value.int IntKind.i64 0, Value.slice none 0 0] 24)) t2
      have t3 := cell_below ((Below.refl _ w3).alloc (Nat.le_refl _) (Obj.cells #[Value.int IntKind.i64 0, Value.string { data := #[] }, Value.int IntKind.i64 0, Value.int IntKind.i64 0, Value.slice none 0 0] 24)) t3
      have t4 := cell_below ((Below.refl _ w3).alloc (Nat.le_refl _) (Obj.cells #[Value.int IntKind.i64 0, Value.string { data := #[] }, Value.int IntKind.i64 0, Value.int IntKind.i64 0, Value.slice none 0 0] 24)) t4
      refine wpAnyIn_ready (rs := [0]) (by kernel_rfl) (by simp) ?_
      refine AllReadyIn.cons rfl (fun K hK => ?_) AllReadyIn.nil
      go_simp
      refine hK _ _ ?_
      clear hK K
      try simp only [Act.put, List.setIfInBounds_toArray, List.set_cons_zero, List.set_cons_succ]
      refine wpAnyIn_ready (rs := [3]) (by kernel_rfl) (by simp) ?_
      refine AllReadyIn.cons rfl (fun K hK => ?_) AllReadyIn.nil
      go_simp
      refine hK _ _ ?_
      clear hK K
      try simp only [Act.put, List.setIfInBounds_toArray, List.set_cons_zero, List.set_cons_succ]
      exact aggTail F l m M Q y W B Bx Bt k cc ly cy a sy k1 n1 a1 t1 xs p0 p1 p2 p5 p6 p7 p8 p9 p10 p11 p12 p13 p14 p15 p16 p17 hown hB hk hbx hxB HQ.out _ _ _ s' c' (hX3.alloc hX3.size _) (z_cells w3) (by simp) (NdF.below ((Below.refl _ _).alloc (Nat.le_refl _) _) HF3.out)
    refine AllReadyIn.cons rfl (fun K hK => ?_) AllReadyIn.nil
    go_simp
    refine hK _ _ ?_
    clear hK K
    try simp only [Act.put, List.setIfInBounds_toArray, List.set_cons_zero, List.set_cons_succ]
    have hc := cell_below ((Below.refl _ W).alloc (Nat.le_refl _) (Obj.cells #[Value.int IntKind.i64 0, Value.string { data := #[] }, Value.int IntKind.i64 0, Value.int IntKind.i64 0, Value.slice none 0 0] 24)) hc
    have t0 := cell_below ((Below.refl _ W).alloc (Nat.le_refl _) (Obj.cells #[Value.int IntKind.i64 0, Value.string { data := #[] }, Value.int IntKind.i64 0, Value.int IntKind.i64 0, Value.slice none 0 0] 24)) t0
    have tt1 := cell_below ((Below.refl _ W).alloc (Nat.le_refl _) (Obj.cells #[Value.int IntKind.i64 0, Value.string { data := #[] }, Value.int IntKind.i64 0, Value.int IntKind.i64 0, Value.slice none 0 0] 24)) tt1
    have t2 := cell_below ((Below.refl _ W).alloc (Nat.le_refl _) (Obj.cells #[Value.int IntKind.i64 0, Value.string { data := #[] }, Value.int IntKind.i64 0, Value.int IntKind.i64 0, Value.slice none 0 0] 24)) t2
    have t3 := cell_below ((Below.refl _ W).alloc (Nat.le_refl _) (Obj.cells #[Value.int IntKind.i64 0, Value.string { data := #[] }, Value.int IntKind.i64 0, Value.int IntKind.i64 0, Value.slice none 0 0] 24)) t3
    have t4 := cell_below ((Below.refl _ W).alloc (Nat.le_refl _) (Obj.cells #[Value.int IntKind.i64 0, Value.string { data := #[] }, Value.int IntKind.i64 0, Value.int IntKind.i64 0, Value.slice none 0 0] 24)) t4
    refine wpAnyIn_ready (rs := [0, 2]) (by kernel_rfl) (by simp) ?_
    refine AllReadyIn.cons rfl (fun K hK => ?_) ?_
    · go_simp
      refine hK _ _ ?_
      clear hK K
      try simp only [Act.put, List.setIfInBounds_toArray, List.set_cons_zero, List.set_cons_succ]
      refine wpAnyIn_ready (rs := [2, 3]) (by kernel_rfl) (by simp) ?_
      refine AllReadyIn.cons rfl (fun K hK => ?_) ?_
      · go_simp
        gi_wp2_with ((try refine ⟨hdd _, ?_⟩); gi_at_call 15; refine (CallsIn.inRound l (hall _ _ _ _ _ (HCp.out _ (((Below.refl _ W).alloc (Nat.le_refl _) _).drew)))).mono ?_; rintro e w3 ⟨⟨s', c', rfl, hF3⟩, hb3⟩)
        have HF3 : Hid _ := hF3
        have hX3 : Below W.heap.size W w3 := (((Below.refl _ W).alloc (Nat.le_refl _) _).drew).trans (hb3.mono (by simp))
        clear hF3
        have hc := cell_below hb3 hc
        have t0 := cell_below hb3 t0
        have tt1 := cell_below hb3 tt1
        have t2 := cell_below hb3 t2
        have t3 := cell_below hb3 t3
        have t4 := cell_below hb3 t4
        try simp only [Act.put, List.setIfInBounds_toArray, List.set_cons_zero, List.set_cons_succ]
        refine wpAnyIn_ready (rs := [3]) (by kernel_rfl) (by simp) ?_
        refine AllReadyIn.cons rfl (fun K hK => ?_) AllReadyIn.nil
        go_simp
        refine hK _ _ ?_
        clear hK K
        try simp only [Act.put, List.setIfInBounds_toArray, List.set_cons_zero, List.set_cons_succ]
        exact aggTail F l m M Q y W B Bx Bt k cc ly cy a sy k1 n1 a1 t1 xs p0 p1 p2 p5 p6 p7 p8 p9 p10 p11 p12 p13 p14 p15 p16 p17 hown hB hk hbx hxB HQ.out _ _ _ s' c' hX3 (z_below hb3 (z_cells W)) (by simp) HF3.out
      refine AllReadyIn.cons rfl (fun K hK => ?_) AllReadyIn.nil
      go_simp
      refine hK _ _ ?_
      clear hK K
      try simp only [Act.put, List.setIfInBounds_toArray, List.set_cons_zero, List.set_cons_succ]
      refine wpAnyIn_ready (rs := [2]) (by kernel_rfl) (by simp) ?_
      refine AllReadyIn.cons rfl (fun K hK => ?_) AllReadyIn.nil
      go_simp
      gi_wp2_with ((try refine ⟨hdd _, ?_⟩); gi_at_call 15; refine (CallsIn.inRound l (hall _ _ _ _ _ (HCp.out _ (((Below.refl _ W).alloc (Nat.le_refl _) _).drew)))).mono ?_; rintro e w3 ⟨⟨s', c', rfl, hF3⟩, hb3⟩)
      have HF3 : Hid _ := hF3
      have hX3 : Below W.heap.size W w3 := (((Below.refl _ W).alloc (Nat.le_refl _) _).drew).trans (hb3.mono (by simp))
      clear hF3
      have hc := cell_below hb3 hc
      have t0 := cell_below hb3 t0
      have tt1 := cell_below hb3 tt1
      have t2 := cell_below hb3 t2
      have t3 := cell_below hb3 t3
      have t4 := cell_below hb3 t4
      try simp only [Act.put, List.setIfInBounds_toArray, List.set_cons_zero, List.set_cons_succ]
      exact aggTail F l m M Q y W B Bx Bt k cc ly cy a sy k1 n1 a1 t1 xs p0 p1 p2 p5 p6 p7 p8 p9 p10 p11 p12 p13 p14 p15 p16 p17 hown hB hk hbx hxB HQ.out _ _ _ s' c' hX3 (z_below hb3 (z_cells W)) (by simp) HF3.out
    refine AllReadyIn.cons rfl (fun K hK => ?_) AllReadyIn.nil
    go_simp
    gi_wp2_with ((try refine ⟨hdd _, ?_⟩); gi_at_call 15; refine (CallsIn.inRound l (hall _ _ _ _ _ (HCp.out _ (((Below.refl _ W).alloc (Nat.le_refl _) _).drew)))).mono ?_; rintro e w3 ⟨⟨s', c', rfl, hF3⟩, hb3⟩)
    have HF3 : Hid _ := hF3
    have hX3 : Below W.heap.size W w3 := (((Below.refl _ W).alloc (Nat.le_refl _) _).drew).trans (hb3.mono (by simp))
    clear hF3
    have hc := cell_below hb3 hc
    have t0 := cell_below hb3 t0
    have tt1 := cell_below hb3 tt1
    have t2 := cell_below hb3 t2
    have t3 := cell_below hb3 t3
    have t4 := cell_below hb3 t4
    try simp only [Act.put, List.setIfInBounds_toArray, List.set_cons_zero, List.set_cons_succ]
    refine wpAnyIn_ready (rs := [0]) (by kernel_rfl) (by simp) ?_
    refine AllReadyIn.cons rfl (fun K hK => ?_) AllReadyIn.nil
    go_simp
    refine hK _ _ ?_
    clear hK K
    try simp only [Act.put, List.setIfInBounds_toArray, List.set_cons_zero, List.set_cons_succ]
    refine wpAnyIn_ready (rs := [3]) (by kernel_rfl) (by simp) ?_
    refine AllReadyIn.cons rfl (fun K hK => ?_) AllReadyIn.nil
    go_simp
    refine hK _ _ ?_
    clear hK K
    try simp only [Act.put, List.setIfInBounds_toArray, List.set_cons_zero, List.set_cons_succ]
    exact aggTail F l m M Q y W B Bx Bt k cc ly cy a sy k1 n1 a1 t1 xs p0 p1 p2 p5 p6 p7 p8 p9 p10 p11 p12 p13 p14 p15 p16 p17 hown hB hk hbx hxB HQ.out _ _ _ s' c' hX3 (z_below hb3 (z_cells W)) (by simp) HF3.out
  refine AllReadyIn.cons rfl (fun K hK => ?_) AllReadyIn.nil
  go_simp
  refine hK _ _ ?_
  clear hK K
  try simp only [Act.put, List.setIfInBounds_toArray, List.set_cons_zero, List.set_cons_succ]
  have hc := cell_below ((Below.refl _ W).alloc (Nat.le_refl _) (Obj.cells #[Value.int IntKind.i64 0, Value.string { data := #[] }, Value.int IntKind.i64 0, Value.int IntKind.i64 0, Value.slice none 0 0] 24)) hc
  have t0 := cell_below ((Below.refl _ W).alloc (Nat.le_refl _) (Obj.cells #[Value.int IntKind.i64 0, Value.string { data := #[] }, Value.int IntKind.i64 0, Value.int IntKind.i64 0, Value.slice none 0 0] 24)) t0
  have tt1 := cell_below ((Below.refl _ W).alloc (Nat.le_refl _) (Obj.cells #[Value.int IntKind.i64 0, Value.string { data := #[] }, Value.int IntKind.i64 0, Value.int IntKind.i64 0, Value.slice none 0 0] 24)) tt1
  have t2 := cell_below ((Below.refl _ W).alloc (Nat.le_refl _) (Obj.cells #[Value.int IntKind.i64 0, Value.string { data := #[] }, Value.int IntKind.i64 0, Value.int IntKind.i64 0, Value.slice none 0 0] 24)) t2
  have t3 := cell_below ((Below.refl _ W).alloc (Nat.le_refl _) (Obj.cells #[Value.int IntKind.i64 0, Value.string { data := #[] }, Value.int IntKind.i64 0, Value.int IntKind.i64 0, Value.slice none 0 0] 24)) t3
  have t4 := cell_below ((Below.refl _ W).alloc (Nat.le_refl _) (Obj.cells #[Value.int IntKind.i64 0, Value.string { data := #[] }, Value.int IntKind.i64 0, Value.int IntKind.i64 0, Value.slice none 0 0] 24)) t4
  refine wpAnyIn_ready (rs := [0, 1]) (by kernel_rfl) (by simp) ?_
  refine AllReadyIn.cons rfl (fun K hK => ?_) ?_
  · go_simp
    refine hK _ _ ?_
    clear hK K
    try simp only [Act.put, List.setIfInBounds_toArray, List.set_cons_zero, List.set_cons_succ]
    refine wpAnyIn_ready (rs := [1, 3]) (by kernel_rfl) (by simp) ?_
    refine AllReadyIn.cons rfl (fun K hK => ?_) ?_
    · go_simp
      refine hK _ _ ?_
      clear hK K
      try simp only [Act.put, List.setIfInBounds_toArray, List.set_cons_zero, List.set_cons_succ]
      refine wpAnyIn_ready (rs := [2, 3]) (by kernel_rfl) (by simp) ?_
      refine AllReadyIn.cons rfl (fun K hK => ?_) ?_
      · go_simp
        gi_wp2_with ((try refine ⟨hdd _, ?_⟩); gi_at_call 15; refine (CallsIn.inRound l (hall _ _ _ _ _ (HCp.out _ (((Below.refl _ W).alloc (Nat.le_refl _) _).drew)))).mono ?_; rintro e w3 ⟨⟨s', c', rfl, hF3⟩, hb3⟩)
        have HF3 : Hid _ := hF3
        have hX3 : Below W.heap.size W w3 := (((Below.refl _ W).alloc (Nat.le_refl _) _).drew).trans (hb3.mono (by simp))
        clear hF3
        have hc := cell_below hb3 hc
        have t0 := cell_below hb3 t0
        have tt1 := cell_below hb3 tt1
        have t2 := cell_below hb3 t2
        have t3 := cell_below hb3 t3
        have t4 := cell_below hb3 t4
        try simp only [Act.put, List.setIfInBounds_toArray, List.set_cons_zero, List.set_cons_succ]
        refine wpAnyIn_ready (rs := [3]) (by kernel_rfl) (by simp) ?_
        refine AllReadyIn.cons rfl (fun K hK => ?_) AllReadyIn.nil
        go_simp
        refine hK _ _ ?_
        clear hK K
        try simp only [Act.put, List.setIfInBounds_toArray, List.set_cons_zero, List.set_cons_succ]
        exact aggTail F l m M Q y W B Bx Bt k cc ly cy a sy k1 n1 a1 t1 xs p0 p1 p2 p5 p6 p7 p8 p9 p10 p11 p12 p13 p14 p15 p16 p17 hown hB hk hbx hxB HQ.out _ _ _ s' c' hX3 (z_below hb3 (z_cells W)) (by simp) HF3.out
      refine AllReadyIn.cons rfl (fun K hK => ?_) AllReadyIn.nil
      go_simp
      refine hK _ _ ?_
      clear hK K
      try simp only [Act.put, List.setIfInBounds_toArray, List.set_cons_zero, List.set_cons_succ]
      refine wpAnyIn_ready (rs := [2]) (by kernel_rfl) (by simp) ?_
      refine AllReadyIn.cons rfl (fun K hK => ?_) AllReadyIn.nil
      go_simp
      gi_wp2_with ((try refine ⟨hdd _, ?_⟩); gi_at_call 15; refine (CallsIn.inRound l (hall _ _ _ _ _ (HCp.out _ (((Below.refl _ W).alloc (Nat.le_refl _) _).drew)))).mono ?_; rintro e w3 ⟨⟨s', c', rfl, hF3⟩, hb3⟩)
      have HF3 : Hid _ := hF3
      have hX3 : Below W.heap.size W w3 := (((Below.refl _ W).alloc (Nat.le_refl _) _).drew).trans (hb3.mono (by simp))
      clear hF3
      have hc := cell_below hb3 hc
      have t0 := cell_below hb3 t0
      have tt1 := cell_below hb3 tt1
      have t2 := cell_below hb3 t2
      have t3 := cell_below hb3 t3
      have t4 := cell_below hb3 t4
      try simp only [Act.put, List.setIfInBounds_toArray, List.set_cons_zero, List.set_cons_succ]
      exact aggTail F l m M Q y W B Bx Bt k cc ly cy a sy k1 n1 a1 t1 xs p0 p1 p2 p5 p6 p7 p8 p9 p10 p11 p12 p13 p14 p15 p16 p17 hown hB hk hbx hxB HQ.out _ _ _ s' c' hX3 (z_below hb3 (z_cells W)) (by simp) HF3.out
    refine AllReadyIn.cons rfl (fun K hK => ?_) AllReadyIn.nil
    go_simp
    refine hK _ _ ?_
    clear hK K
    try simp only [Act.put, List.setIfInBounds_toArray, List.set_cons_zero, List.set_cons_succ]
    refine wpAnyIn_ready (rs := [1]) (by kernel_rfl) (by simp) ?_
    refine AllReadyIn.cons rfl (fun K hK => ?_) AllReadyIn.nil
    go_simp
    refine hK _ _ ?_
    clear hK K
    try simp only [Act.put, List.setIfInBounds_toArray, List.set_cons_zero, List.set_cons_succ]
    refine wpAnyIn_ready (rs := [2]) (by kernel_rfl) (by simp) ?_
    refine AllReadyIn.cons rfl (fun K hK => ?_) AllReadyIn.nil
    go_simp
    gi_wp2_with ((try refine ⟨hdd _, ?_⟩); gi_at_call 15; refine (CallsIn.inRound l (hall _ _ _ _ _ (HCp.out _ (((Below.refl _ W).alloc (Nat.le_refl _) _).drew)))).mono ?_; rintro e w3 ⟨⟨s', c', rfl, hF3⟩, hb3⟩)
    have HF3 : Hid _ := hF3
    have hX3 : Below W.heap.size W w3 := (((Below.refl _ W).alloc (Nat.le_refl _) _).drew).trans (hb3.mono (by simp))
    clear hF3
    have hc := cell_below hb3 hc
    have t0 := cell_below hb3 t0
    have tt1 := cell_below hb3 tt1
    have t2 := cell_below hb3 t2
    have t3 := cell_below hb3 t3
    have t4 := cell_below hb3 t4
    try simp only [Act.put, List.setIfInBounds_toArray, List.set_cons_zero, List.set_cons_succ]
    exact aggTail F l m M Q y W B Bx Bt k cc ly cy a sy k1 n1 a1 t1 xs p0 p1 p2 p5 p6 p7 p8 p9 p10 p11 p12 p13 p14 p15 p16 p17 hown hB hk hbx hxB HQ.out _ _ _ s' c' hX3 (z_below hb3 (z_cells W)) (by simp) HF3.out
  refine AllReadyIn.cons rfl (fun K hK => ?_) AllReadyIn.nil
  go_simp
  refine hK _ _ ?_
  clear hK K
  try simp only [Act.put, List.setIfInBounds_toArray, List.set_cons_zero, List.set_cons_succ]
  refine wpAnyIn_ready (rs := [0, 2]) (by kernel_rfl) (by simp) ?_
  refine AllReadyIn.cons rfl (fun K hK => ?_) ?_
  · go_simp
    refine hK _ _ ?_
    clear hK K
    try simp only [Act.put, List.setIfInBounds_toArray, List.set_cons_zero, List.set_cons_succ]
    refine wpAnyIn_ready (rs := [2, 3]) (by kernel_rfl) (by simp) ?_
    refine AllReadyIn.cons rfl (fun K hK => ?_) ?_
    · go_simp
      gi_wp2_with ((try refine ⟨hdd _, ?_⟩); gi_at_call 15; refine (CallsIn.inRound l (hall _ _ _ _ _ (HCp.out _ (((Below.refl _ W).alloc (Nat.le_refl _) _).drew)))).mono ?_; rintro e w3 ⟨⟨s', c', rfl, hF3⟩, hb3⟩)
      have HF3 : Hid _ := hF3
      have hX3 : Below W.heap.size W w3 := (((Below.refl _ W).alloc (Nat.le_refl _) _).drew).trans (hb3.mono (by simp))
      clear hF3
      have hc := cell_below hb3 hc
      have t0 := cell_below hb3 t0
      have tt1 := cell_below hb3 tt1
      have t2 := cell_below hb3 t2
      have t3 := cell_below hb3 t3
      have t4 := cell_below hb3 t4
      try simp only [Act.put, List.setIfInBounds_toArray, List.set_cons_zero, List.set_cons_succ]
      refine wpAnyIn_ready (rs := [3]) (by kernel_rfl) (by simp) ?_
      refine AllReadyIn.cons rfl (fun K hK => ?_) AllReadyIn.nil
      go_simp
      refine hK _ _ ?_
      clear hK K
      try simp only [Act.put, List.setIfInBounds_toArray, List.set_cons_zero, List.set_cons_succ]
      exact aggTail F l m M Q y W B Bx Bt k cc ly cy a sy k1 n1 a1 t1 xs p0 p1 p2 p5 p6 p7 p8 p9 p10 p11 p12 p13 p14 p15 p16 p17 hown hB hk hbx hxB HQ.out _ _ _ s' c' hX3 (z_below hb3 (z_cells W)) (by simp) HF3.out
    refine AllReadyIn.cons rfl (fun K hK => ?_) AllReadyIn.nil
    go_simp
    refine hK _ _ ?_
    clear hK K
    try simp only [Act.put, List.setIfInBounds_toArray, List.set_cons_zero, List.set_cons_succ]
    refine wpAnyIn_ready (rs := [2]) (by kernel_rfl) (by simp) ?_
    refine AllReadyIn.cons rfl (fun K hK => ?_) AllReadyIn.nil
    go_simp
    gi_wp2_with ((try refine ⟨hdd _, ?_⟩); gi_at_call 15; refine (CallsIn.inRound l (hall _ _ _ _ _ (HCp.out _ (((Below.refl _ W).alloc (Nat.le_refl _) _).drew)))).mono ?_; rintro e w3 ⟨⟨s', c', rfl, hF3⟩, hb3⟩)
    have HF3 : Hid _ := hF3
    have hX3 : Below W.heap.size W w3 := (((Below.refl _ W).alloc (Nat.le_refl _) _).drew).trans (hb3.mono (by simp))
    clear hF3
    have hc := cell_below hb3 hc
    have t0 := cell_below hb3 t0
    have tt1 := cell_below hb3 tt1
    have t2 := cell_below hb3 t2
    have t3 := cell_below hb3 t3
    have t4 := cell_below hb3 t4
    try simp only [Act.put, List.setIfInBounds_toArray, List.set_cons_zero, List.set_cons_succ]
    exact aggTail F l m M Q y W B Bx Bt k cc ly cy a sy k1 n1 a1 t1 xs p0 p1 p2 p5 p6 p7 p8 p9 p10 p11 p12 p13 p14 p15 p16 p17 hown hB hk hbx hxB HQ.out _ _ _ s' c' hX3 (z_below hb3 (z_cells W)) (by simp) HF3.out
  refine AllReadyIn.cons rfl (fun K hK => ?_) AllReadyIn.nil
  go_simp
  gi_wp2_with ((try refine ⟨hdd _, ?_⟩); gi_at_call 15; refine (CallsIn.inRound l (hall _ _ _ _ _ (HCp.out _ (((Below.refl _ W).alloc (Nat.le_refl _) _).drew)))).mono ?_; rintro e w3 ⟨⟨s', c', rfl, hF3⟩, hb3⟩)
  have HF3 : Hid _ := hF3
  have hX3 : Below W.heap.size W w3 := (((Below.refl _ W).alloc (Nat.le_refl _) _).drew).trans (hb3.mono (by simp))
  clear hF3
  have hc := cell_below hb3 hc
  have t0 := cell_below hb3 t0
  have tt1 := cell_below hb3 tt1
  have t2 := cell_below hb3 t2
  have t3 := cell_below hb3 t3
  have t4 := cell_below hb3 t4
  try simp only [Act.put, List.setIfInBounds_toArray, List.set_cons_zero, List.set_cons_succ]
  refine wpAnyIn_ready (rs := [0]) (by kernel_rfl) (by simp) ?_
  refine AllReadyIn.cons rfl (fun K hK => ?_) AllReadyIn.nil
  go_simp
  refine hK _ _ ?_
  clear hK K
  try simp only [Act.put, List.setIfInBounds_toArray, List.set_cons_zero, List.set_cons_succ]
  refine wpAnyIn_ready (rs := [3]) (by kernel_rfl) (by simp) ?_
  refine AllReadyIn.cons rfl (fun K hK => ?_) AllReadyIn.nil
  go_simp
  refine hK _ _ ?_
  clear hK K
  try simp only [Act.put, List.setIfInBounds_toArray, List.set_cons_zero, List.set_cons_succ]
  exact aggTail F l m M Q y W B Bx Bt k cc ly cy a sy k1 n1 a1 t1 xs p0 p1 p2 p5 p6 p7 p8 p9 p10 p11 p12 p13 p14 p15 p16 p17 hown hB hk hbx hxB HQ.out _ _ _ s' c' hX3 (z_below hb3 (z_cells W)) (by simp) HF3.out
end Go.Proofs.YtcemogaacicnfaaGreatDoor
