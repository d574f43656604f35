/- How many trees a tree is, and how deep it is (Size, Depth). -/
import Derived.Test.YtcemogaacicnfaaGreatDoorGov
namespace Go.Proofs.YtcemogaacicnfaaGreatDoor
set_option maxHeartbeats 4000000
set_option maxRecDepth 100000
open Go.ChangeShapes Go.WideShapes Go.ChangeAt Go.RowKit Go.Shelf
attribute [local go_sem] Oper.semAt_some

theorem Kc.setCell {n₀ B : Nat} (W : World) (b o : Nat) (v : Value) (h1 : n₀ ≤ b) (h2 : b < B) : Kc n₀ B W (W.setCell ⟨b, o, none⟩ v) := by
  refine ⟨by simp, fun k x hk hx _ => ?_⟩
  rw [← hx]
  exact heap_setCell_other _ _ _ _ (by rcases hk with h | h <;> (show k ≠ b; omega))
theorem kc_t {n₀ B : Nat} {X Y Z : World} (h : Kc n₀ B X Y) (k : Kc n₀ B Y Z) : Kc n₀ B X Z := h.trans k
theorem kc_b {n₀ B : Nat} {w : World} (W : World) (l : Nat) (o o' : Obj) (_ : w.heap.size ≤ l) (h : W.heap[l]? = some o) (ho : o.isCells = false) (_ : o.isWalk = false) : Kc n₀ B W (W.putObj l o') := by
  refine ⟨?_, fun k x _ hx hc => ?_⟩
  · exact (grownBy_putObj' W l o').size
  · rw [← hx]
    refine (grownBy_putObj' W l o').block k (heap_lt hx) ?_
    intro e
    cases e
    rw [h] at hx; cases hx
    rw [ho] at hc; cases hc
theorem trees_in (F : Fence) (n : Nat) (h29 : F.fn 29) (hro : F.round = none) (v0 v1 v2 v3 v4 : Value) (g : Nat) (w : World) :
    CallsIn F n Tryz.prog 29 #[.agg #[v0, v1, v2, v3, v4], .func (.func g) #[] #[]] w fun e w' => e = .returned (.func (.func 81) #[] #[.pointer (some ⟨w.heap.size, 0, none⟩), .pointer (some ⟨w.heap.size + 1, 0, none⟩)]) ∧ w' = (w.alloc (Obj.cells #[v0, v1, v2, v3, v4] 24)).alloc (Obj.cells #[.func (.func g) #[] #[]] 30) := by
  refine callsIn_of_wp Tryz.func29 rfl h29 ?_ hro
  simp only [Tryz.ntmps29, List.size_toArray, List.length_cons, List.length_nil, Nat.reduceAdd, Nat.reduceSub, Array.replicate_succ, Array.replicate_zero, List.push_toArray, List.append_toArray, List.nil_append, List.cons_append]
  gi_wp2
  go_ret
  exact ⟨rfl, rfl⟩
theorem trees30_stops (F : Fence) (hd : F.depth = none) (n : Nat) (h81 : F.fn 81) (h82 : F.fn 82) (hfe : F.fn 30) (hro : F.round = none) (M : Nat) (w w0 : World) {Iv : World → Prop} {Pr : World → Nat → Prop} {Kp : World → World → Prop} (kk : Keep w Iv Pr Kp) (hIv : ∀ W, Below w0.heap.size w0 W → Iv W) (x : Tr M) (s : Option Addr) (c b1 b2 : Nat) (hx : NdAt w M x s) (hwx : Wid M x) (hw : Below w.heap.size w w0) (hM : (M : Int) ≤ 8000000000000000000)
    (c0 : w0.cell? ⟨b1, 0, none⟩ = some (.int .i64 (kd M x))) (c1 : w0.cell? ⟨b1, 1, none⟩ = some (.string (bsA (tx M x)))) (c2 : w0.cell? ⟨b1, 2, none⟩ = some (.int .i64 (nu M x))) (c3 : w0.cell? ⟨b1, 3, none⟩ = some (.int .i64 (pl M x))) (c4 : w0.cell? ⟨b1, 4, none⟩ = some (.slice s (ks M x).length c)) (cf : w0.cell? ⟨b2, 0, none⟩ = some (.func (.func 30) #[] #[])) :
    SeqStopsK F n Tryz.prog 81 #[.pointer (some ⟨b1, 0, none⟩), .pointer (some ⟨b2, 0, none⟩)] (ndE (w := w) (M := M)) Kp (fun ys => ys.map ndP = flat (fun _ => true) M x 1) (fun _ => True) (flat (fun _ => true) M x 1).length w0 := by
  intro l J Jx W hW hAJ _ hY h0
  have hdd : ∀ k : Nat, (F.depth.isSome = true → 1 ≤ k) := fun k h => by rw [hd] at h; cases h
  have c0 := cell_below hW c0
  have c1 := cell_below hW c1
  have c2 := cell_below hW c2
  have c3 := cell_below hW c3
  have c4 := cell_below hW c4
  have cf := cell_below hW cf
  have hp := goOver30_in F hd h82 hfe hro l (flat (fun _ => true) M x 1).length M w kk J Jx (fun q W1 o hq => hAJ q W1 _ none hq (World.grownBy_alloc W1 o none) (fun r e => by cases e)) (fun m pre y W1 hj hl => yieldAt_any hd m (hY pre y W1 hj hl)) M (fun z => z) (fun _ _ _ => rfl) (fun _ _ h => h) (fun _ h => h) (n - 1) x 1 s c [] W hx hwx (Kn.of_below (hw.trans (hW.mono hw.size))) (hIv W hW) h0 (by simp) (by omega) (by omega)
  unfold ndV at hp
  clear hY hAJ
  refine callsIn_of_wp Tryz.func81 rfl h81 ?_ hro
  simp only [Tryz.ntmps81, List.size_toArray, List.length_cons, List.length_nil, Nat.reduceAdd, Nat.reduceSub, Array.replicate_succ, Array.replicate_zero, List.push_toArray, List.append_toArray, List.nil_append, List.cons_append]
  gi_wp2_with ((try refine ⟨hdd _, ?_⟩); gi_at_call 82; refine hp.mono ?_; clear hp; rintro e W1 (⟨rfl, q, hq, hJ1, _⟩ | ⟨rfl, q, hx1⟩))
  · go_end0
    refine ⟨⟨_, rfl⟩, .inl ⟨_, ?_, hJ1⟩⟩
    show ([] ++ q).map ndP = _
    rw [List.nil_append, hq]
    exact List.map_id' _
  · go_end0
    exact ⟨⟨_, rfl⟩, .inr ⟨q, trivial, hx1⟩⟩
theorem trees36_stops (F : Fence) (hd : F.depth = none) (n : Nat) (h81 : F.fn 81) (h82 : F.fn 82) (hfe : F.fn 36) (hro : F.round = none) (M : Nat) (w w0 : World) {Iv : World → Prop} {Pr : World → Nat → Prop} {Kp : World → World → Prop} (kk : Keep w Iv Pr Kp) (hIv : ∀ W, Below w0.heap.size w0 W → Iv W) (x : Tr M) (s : Option Addr) (c b1 b2 : Nat) (hx : NdAt w M x s) (hwx : Wid M x) (hw : Below w.heap.size w w0) (hM : (M : Int) ≤ 8000000000000000000)
    (c0 : w0.cell? ⟨b1, 0, none⟩ = some (.int .i64 (kd M x))) (c1 : w0.cell? ⟨b1, 1, none⟩ = some (.string (bsA (tx M x)))) (c2 : w0.cell? ⟨b1, 2, none⟩ = some (.int .i64 (nu M x))) (c3 : w0.cell? ⟨b1, 3, none⟩ = some (.int .i64 (pl M x))) (c4 : w0.cell? ⟨b1, 4, none⟩ = some (.slice s (ks M x).length c)) (cf : w0.cell? ⟨b2, 0, none⟩ = some (.func (.func 36) #[] #[])) :
    SeqStopsK F n Tryz.prog 81 #[.pointer (some ⟨b1, 0, none⟩), .pointer (some ⟨b2, 0, none⟩)] (ndE (w := w) (M := M)) Kp (fun ys => ys.map ndP = flat (fun k => !decide (k = 14)) M x 1) (fun _ => True) (flat (fun k => !decide (k = 14)) M x 1).length w0 := by
  intro l J Jx W hW hAJ _ hY h0
  have hdd : ∀ k : Nat, (F.depth.isSome = true → 1 ≤ k) := fun k h => by rw [hd] at h; cases h
  have c0 := cell_below hW c0
  have c1 := cell_below hW c1
  have c2 := cell_below hW c2
  have c3 := cell_below hW c3
  have c4 := cell_below hW c4
  have cf := cell_below hW cf
  have hp := goOver36_in F hd h82 hfe hro l (flat (fun k => !decide (k = 14)) M x 1).length M w kk J Jx (fun q W1 o hq => hAJ q W1 _ none hq (World.grownBy_alloc W1 o none) (fun r e => by cases e)) (fun m pre y W1 hj hl => yieldAt_any hd m (hY pre y W1 hj hl)) M (fun z => z) (fun _ _ _ => rfl) (fun _ _ h => h) (fun _ h => h) (n - 1) x 1 s c [] W hx hwx (Kn.of_below (hw.trans (hW.mono hw.size))) (hIv W hW) h0 (by simp) (by omega) (by omega)
  unfold ndV at hp
  clear hY hAJ
  refine callsIn_of_wp Tryz.func81 rfl h81 ?_ hro
  simp only [Tryz.ntmps81, List.size_toArray, List.length_cons, List.length_nil, Nat.reduceAdd, Nat.reduceSub, Array.replicate_succ, Array.replicate_zero, List.push_toArray, List.append_toArray, List.nil_append, List.cons_append]
  gi_wp2_with ((try refine ⟨hdd _, ?_⟩); gi_at_call 82; refine hp.mono ?_; clear hp; rintro e W1 (⟨rfl, q, hq, hJ1, _⟩ | ⟨rfl, q, hx1⟩))
  · go_end0
    refine ⟨⟨_, rfl⟩, .inl ⟨_, ?_, hJ1⟩⟩
    show ([] ++ q).map ndP = _
    rw [List.nil_append, hq]
    exact List.map_id' _
  · go_end0
    exact ⟨⟨_, rfl⟩, .inr ⟨q, trivial, hx1⟩⟩
theorem cell1_new (w : World) (v : Value) (T : TypeId) : (w.alloc (Obj.cells #[v] T)).cell? ⟨w.heap.size, 0, none⟩ = some v ∧ (w.alloc (Obj.cells #[v] T)).frozen? ⟨w.heap.size, 0, none⟩ = false := by
  constructor <;> simp [go_sem]
theorem frozen_below {w w' : World} (h : Below w.heap.size w w') {b o : Nat} {v : Value} (hc : w.cell? ⟨b, o, none⟩ = some v) (hf : w.frozen? ⟨b, o, none⟩ = false) : w'.frozen? ⟨b, o, none⟩ = false := by
  obtain ⟨x, hx, _⟩ := cell_block hc
  rw [← hf]
  unfold World.frozen?
  simp only [h.block b (heap_lt hx)]
theorem box5_new (w : World) (v0 v1 v2 v3 v4 : Value) (T : TypeId) : (w.alloc (Obj.cells #[v0, v1, v2, v3, v4] T)).cell? ⟨w.heap.size, 0, none⟩ = some v0 ∧ (w.alloc (Obj.cells #[v0, v1, v2, v3, v4] T)).cell? ⟨w.heap.size, 1, none⟩ = some v1 ∧ (w.alloc (Obj.cells #[v0, v1, v2, v3, v4] T)).cell? ⟨w.heap.size, 2, none⟩ = some v2 ∧ (w.alloc (Obj.cells #[v0, v1, v2, v3, v4] T)).cell? ⟨w.heap.size, 3, none⟩ = some v3 ∧ (w.alloc (Obj.cells #[v0, v1, v2, v3, v4] T)).cell? ⟨w.heap.size, 4, none⟩ = some v4 := by
  refine ⟨?_, ?_, ?_, ?_, ?_⟩ <;> simp [go_sem]
theorem Size_in (F : Fence) (hd : F.depth = none) (n : Nat) (h10 : F.fn 10) (h29 : F.fn 29) (h81 : F.fn 81) (h82 : F.fn 82) (h30 : F.fn 30) (hro : F.round = none) (hn : 3 ≤ n) (M : Nat) (x : Tr M) (s : Option Addr) (c : Nat) (w : World) (hx : NdAt w M x s) (hwx : Wid M x) (hM : (M : Int) ≤ 8000000000000000000) (hN : ((flat (fun _ => true) M x 1).length : Int) ≤ 8000000000000000000) :
    CallsIn F n Tryz.prog 10 #[ndV M x s c] w fun e W' => e = .returned (.int .i64 (((flat (fun _ => true) M x 1).length : Int))) ∧ Below w.heap.size w W' := by
  have h1 : 1 ≤ n := by omega
  have hdd : ∀ k : Nat, (F.depth.isSome = true → 1 ≤ k) := fun k h => by rw [hd] at h; cases h
  unfold ndV
  refine callsIn_of_wp_marks Tryz.func10 rfl h10 ?_ hro
  simp only [Tryz.ntmps10, List.size_toArray, List.length_cons, List.length_nil, Nat.reduceAdd, Nat.reduceSub, Array.replicate_succ, Array.replicate_zero, List.push_toArray, List.append_toArray, List.nil_append, List.cons_append]
  gi_wp2_with ((try refine ⟨hdd _, ?_⟩); gi_at_call 29; refine (trees_in F _ h29 hro _ _ _ _ _ _ _).mono ?_; rintro e w' ⟨rfl, rfl⟩)
  obtain ⟨g1, g2⟩ := cell1_new (w.alloc (Obj.cells #[Value.int IntKind.i64 (kd M x), Value.string (bsA (tx M x)), Value.int IntKind.i64 (nu M x), Value.int IntKind.i64 (pl M x), Value.slice s (ks M x).length c] 24)) (.int .i64 0) 3
  obtain ⟨d0, d1, d2, d3, d4⟩ := box5_new ((w.alloc (Obj.cells #[Value.int IntKind.i64 (kd M x), Value.string (bsA (tx M x)), Value.int IntKind.i64 (nu M x), Value.int IntKind.i64 (pl M x), Value.slice s (ks M x).length c] 24)).alloc (Obj.cells #[Value.int IntKind.i64 0] 3)) (.int .i64 (kd M x)) (.string (bsA (tx M x))) (.int .i64 (nu M x)) (.int .i64 (pl M x)) (.slice s (ks M x).length c) 24
  obtain ⟨g3, _⟩ := cell1_new (((w.alloc (Obj.cells #[Value.int IntKind.i64 (kd M x), Value.string (bsA (tx M x)), Value.int IntKind.i64 (nu M x), Value.int IntKind.i64 (pl M x), Value.slice s (ks M x).length c] 24)).alloc (Obj.cells #[Value.int IntKind.i64 0] 3)).alloc (Obj.cells #[Value.int IntKind.i64 (kd M x), Value.string (bsA (tx M x)), Value.int IntKind.i64 (nu M x), Value.int IntKind.i64 (pl M x), Value.slice s (ks M x).length c] 24)) (.func (.func 30) #[] #[]) 30
  have hA3 : Below _ _ ((((w.alloc (Obj.cells #[Value.int IntKind.i64 (kd M x), Value.string (bsA (tx M x)), Value.int IntKind.i64 (nu M x), Value.int IntKind.i64 (pl M x), Value.slice s (ks M x).length c] 24)).alloc (Obj.cells #[Value.int IntKind.i64 0] 3)).alloc (Obj.cells #[Value.int IntKind.i64 (kd M x), Value.string (bsA (tx M x)), Value.int IntKind.i64 (nu M x), Value.int IntKind.i64 (pl M x), Value.slice s (ks M x).length c] 24)).alloc (Obj.cells #[Value.func (.func 30) #[] #[]] 30)) := (Below.refl _ (((w.alloc (Obj.cells #[Value.int IntKind.i64 (kd M x), Value.string (bsA (tx M x)), Value.int IntKind.i64 (nu M x), Value.int IntKind.i64 (pl M x), Value.slice s (ks M x).length c] 24)).alloc (Obj.cells #[Value.int IntKind.i64 0] 3)).alloc (Obj.cells #[Value.int IntKind.i64 (kd M x), Value.string (bsA (tx M x)), Value.int IntKind.i64 (nu M x), Value.int IntKind.i64 (pl M x), Value.slice s (ks M x).length c] 24))).alloc (Nat.le_refl _) (Obj.cells #[Value.func (.func 30) #[] #[]] 30)
  have hA2 : Below _ _ (((w.alloc (Obj.cells #[Value.int IntKind.i64 (kd M x), Value.string (bsA (tx M x)), Value.int IntKind.i64 (nu M x), Value.int IntKind.i64 (pl M x), Value.slice s (ks M x).length c] 24)).alloc (Obj.cells #[Value.int IntKind.i64 0] 3)).alloc (Obj.cells #[Value.int IntKind.i64 (kd M x), Value.string (bsA (tx M x)), Value.int IntKind.i64 (nu M x), Value.int IntKind.i64 (pl M x), Value.slice s (ks M x).length c] 24)) := (Below.refl _ ((w.alloc (Obj.cells #[Value.int IntKind.i64 (kd M x), Value.string (bsA (tx M x)), Value.int IntKind.i64 (nu M x), Value.int IntKind.i64 (pl M x), Value.slice s (ks M x).length c] 24)).alloc (Obj.cells #[Value.int IntKind.i64 0] 3))).alloc (Nat.le_refl _) (Obj.cells #[Value.int IntKind.i64 (kd M x), Value.string (bsA (tx M x)), Value.int IntKind.i64 (nu M x), Value.int IntKind.i64 (pl M x), Value.slice s (ks M x).length c] 24)
  have g1 := cell_below hA2 g1
  have g2 := frozen_below hA2 (cell1_new (w.alloc (Obj.cells #[Value.int IntKind.i64 (kd M x), Value.string (bsA (tx M x)), Value.int IntKind.i64 (nu M x), Value.int IntKind.i64 (pl M x), Value.slice s (ks M x).length c] 24)) (.int .i64 0) 3).1 g2
  have g2 := frozen_below hA3 g1 g2
  have g1 := cell_below hA3 g1
  have d0 := cell_below hA3 d0
  have d1 := cell_below hA3 d1
  have d2 := cell_below hA3 d2
  have d3 := cell_below hA3 d3
  have d4 := cell_below hA3 d4
  have hB0 : Below w.heap.size w ((((w.alloc (Obj.cells #[Value.int IntKind.i64 (kd M x), Value.string (bsA (tx M x)), Value.int IntKind.i64 (nu M x), Value.int IntKind.i64 (pl M x), Value.slice s (ks M x).length c] 24)).alloc (Obj.cells #[Value.int IntKind.i64 0] 3)).alloc (Obj.cells #[Value.int IntKind.i64 (kd M x), Value.string (bsA (tx M x)), Value.int IntKind.i64 (nu M x), Value.int IntKind.i64 (pl M x), Value.slice s (ks M x).length c] 24)).alloc (Obj.cells #[Value.func (.func 30) #[] #[]] 30)) := ((((Below.refl _ w).alloc (Nat.le_refl _) _).alloc (by simp) _).alloc (by simp <;> omega) _).alloc (by simp <;> omega) _
  have hsz : ((((w.alloc (Obj.cells #[Value.int IntKind.i64 (kd M x), Value.string (bsA (tx M x)), Value.int IntKind.i64 (nu M x), Value.int IntKind.i64 (pl M x), Value.slice s (ks M x).length c] 24)).alloc (Obj.cells #[Value.int IntKind.i64 0] 3)).alloc (Obj.cells #[Value.int IntKind.i64 (kd M x), Value.string (bsA (tx M x)), Value.int IntKind.i64 (nu M x), Value.int IntKind.i64 (pl M x), Value.slice s (ks M x).length c] 24)).alloc (Obj.cells #[Value.func (.func 30) #[] #[]] 30)).heap.size = w.heap.size + 4 := by simp
  simp only [World.size_alloc] at g1 g2 g3 d0 d1 d2 d3 d4
  clear hA2 hA3
  generalize (((w.alloc (Obj.cells #[Value.int IntKind.i64 (kd M x), Value.string (bsA (tx M x)), Value.int IntKind.i64 (nu M x), Value.int IntKind.i64 (pl M x), Value.slice s (ks M x).length c] 24)).alloc (Obj.cells #[Value.int IntKind.i64 0] 3)).alloc (Obj.cells #[Value.int IntKind.i64 (kd M x), Value.string (bsA (tx M x)), Value.int IntKind.i64 (nu M x), Value.int IntKind.i64 (pl M x), Value.slice s (ks M x).length c] 24)).alloc (Obj.cells #[Value.func (.func 30) #[] #[]] 30) = W0 at *
  refine wpIn_rangeFunc_ownF hro h1 (gf := 81) (lb := #[.pointer (some ⟨w.heap.size + 1 + 1, 0, none⟩), .pointer (some ⟨w.heap.size + 1 + 1 + 1, 0, none⟩)]) rfl h81 (enters_of Tryz.func81 (by kernel_rfl) rfl)
    (trees30_stops F hd (n - 1) h81 h82 h30 hro M w W0 (Kc.keep w W0.heap.size) (fun W hW => hW.size) x s c _ _ hx hwx hB0 hM d0 d1 d2 d3 d4 g3) kc_t kc_b (Below.refl _ _) (fun _ => rfl)
    (fun pre W => (W.cell? ⟨w.heap.size + 1, 0, none⟩ = some (.int .i64 ((pre.length : Int))) ∧ W.frozen? ⟨w.heap.size + 1, 0, none⟩ = false) ∧ Below w.heap.size w W)
    (fun _ _ _ => False)
    (OwnFrom.and (Own.from (fun s A B row hs hg hr => ⟨cell_kept hs.1 hg hr, (frozen_kept hs.1 hg hr).trans hs.2⟩) _) (ownFrom_below (Nat.le_refl _) (by omega)))
    (fun _ _ _ _ _ hs _ _ => hs)
    ⟨⟨g1, g2⟩, hB0⟩
    (fun y => { tmps := #[Value.agg #[.int .i64 (kd M x), .string (bsA (tx M x)), .int .i64 (nu M x), .int .i64 (pl M x), .slice s (ks M x).length c], .pointer (some ⟨w.heap.size, 0, none⟩), .int .i64 0, .pointer (some ⟨w.heap.size + 1, 0, none⟩), Value.agg #[.int .i64 (kd M x), .string (bsA (tx M x)), .int .i64 (nu M x), .int .i64 (pl M x), .slice s (ks M x).length c], Value.func (.func 81) #[] #[.pointer (some ⟨w.heap.size + 1 + 1, 0, none⟩), .pointer (some ⟨w.heap.size + 1 + 1 + 1, 0, none⟩)], ndV M y.1.1 y.1.2.2.1 y.1.2.2.2, .int .i64 y.1.2.1, undef, undef, undef], defers := [] })
    ?assign ?body ?done ?stop
  case assign =>
    intro l y W K hK
    unfold ndE
    gi_wp2
    simpa using hK
  case body =>
    rintro l pre y W ⟨⟨hc, hf⟩, hB⟩ hl
    gi_wp2
    exact ⟨KeepsOthers.setCell _ _ _, Kc.setCell _ _ _ _ (by omega) (by omega), ⟨by rw [List.length_append, List.length_singleton]; exact World.cell?_setCell_same' _ _ _ (by rw [hc]; rfl), by rw [World.frozen?_setCell]; exact hf⟩, hB.setCell (p := ⟨w.heap.size + 1, 0, none⟩) (by show w.heap.size ≤ w.heap.size + 1; omega) _⟩
  case done =>
    rintro D ys W hD hys ⟨⟨hc, _⟩, hB⟩ hK
    gi_wp2
    refine ⟨by simp, .inl ⟨_, _, rfl, run_takeDeferred hK, ?_⟩⟩
    exact ⟨_, results_tmp rfl _ _ _, by rw [← hys, List.length_map]; rfl, hB.trans (belowK_b (w := w) (Nat.le_refl _) W D _ _ (by omega) hK rfl rfl)⟩
  case stop =>
    rintro D c pre W _ _ h _
    exact h.elim
theorem Size_any (M : Nat) (x : Tr M) (s : Option Addr) (c : Nat) (w : World) (hx : NdAt w M x s) (hwx : Wid M x) (hM : (M : Int) ≤ 8000000000000000000) (hN : ((flat (fun _ => true) M x 1).length : Int) ≤ 8000000000000000000) :
    Calls Tryz.prog 10 #[ndV M x s c] w fun e W' => e = .returned (.int .i64 ((flat (fun _ => true) M x 1).length : Int)) ∧ Below w.heap.size w W' :=
  callsIn_wide.1 (Size_in Fence.wide rfl 3 trivial trivial trivial trivial trivial rfl (Nat.le_refl _) M x s c w hx hwx hM hN)
def dpL (l : List Int) : Int := l.foldl max 0
theorem dpL_snoc (l : List Int) (d : Int) : dpL (l ++ [d]) = max (dpL l) d := by unfold dpL; rw [List.foldl_append]; rfl
theorem Depth_in (F : Fence) (hd : F.depth = none) (n : Nat) (h12 : F.fn 12) (h29 : F.fn 29) (h81 : F.fn 81) (h82 : F.fn 82) (h30 : F.fn 30) (hro : F.round = none) (hn : 3 ≤ n) (M : Nat) (x : Tr M) (s : Option Addr) (c : Nat) (w : World) (hx : NdAt w M x s) (hwx : Wid M x) (hM : (M : Int) ≤ 8000000000000000000) (_hN : ((flat (fun _ => true) M x 1).length : Int) ≤ 8000000000000000000) :
    CallsIn F n Tryz.prog 12 #[ndV M x s c] w fun e W' => e = .returned (.int .i64 (dpL ((flat (fun _ => true) M x 1).map (·.2)))) ∧ Below w.heap.size w W' := by
  have h1 : 1 ≤ n := by omega
  have hdd : ∀ k : Nat, (F.depth.isSome = true → 1 ≤ k) := fun k h => by rw [hd] at h; cases h
  unfold ndV
  refine callsIn_of_wp_marks Tryz.func12 rfl h12 ?_ hro
  simp only [Tryz.ntmps12, List.size_toArray, List.length_cons, List.length_nil, Nat.reduceAdd, Nat.reduceSub, Array.replicate_succ, Array.replicate_zero, List.push_toArray, List.append_toArray, List.nil_append, List.cons_append]
  gi_wp2_with ((try refine ⟨hdd _, ?_⟩); gi_at_call 29; refine (trees_in F _ h29 hro _ _ _ _ _ _ _).mono ?_; rintro e w' ⟨rfl, rfl⟩)
  obtain ⟨g1, g2⟩ := cell1_new (w.alloc (Obj.cells #[Value.int IntKind.i64 (kd M x), Value.string (bsA (tx M x)), Value.int IntKind.i64 (nu M x), Value.int IntKind.i64 (pl M x), Value.slice s (ks M x).length c] 24)) (.int .i64 0) 3
  obtain ⟨d0, d1, d2, d3, d4⟩ := box5_new ((w.alloc (Obj.cells #[Value.int IntKind.i64 (kd M x), Value.string (bsA (tx M x)), Value.int IntKind.i64 (nu M x), Value.int IntKind.i64 (pl M x), Value.slice s (ks M x).length c] 24)).alloc (Obj.cells #[Value.int IntKind.i64 0] 3)) (.int .i64 (kd M x)) (.string (bsA (tx M x))) (.int .i64 (nu M x)) (.int .i64 (pl M x)) (.slice s (ks M x).length c) 24
  obtain ⟨g3, _⟩ := cell1_new (((w.alloc (Obj.cells #[Value.int IntKind.i64 (kd M x), Value.string (bsA (tx M x)), Value.int IntKind.i64 (nu M x), Value.int IntKind.i64 (pl M x), Value.slice s (ks M x).length c] 24)).alloc (Obj.cells #[Value.int IntKind.i64 0] 3)).alloc (Obj.cells #[Value.int IntKind.i64 (kd M x), Value.string (bsA (tx M x)), Value.int IntKind.i64 (nu M x), Value.int IntKind.i64 (pl M x), Value.slice s (ks M x).length c] 24)) (.func (.func 30) #[] #[]) 30
  have hA3 : Below _ _ ((((w.alloc (Obj.cells #[Value.int IntKind.i64 (kd M x), Value.string (bsA (tx M x)), Value.int IntKind.i64 (nu M x), Value.int IntKind.i64 (pl M x), Value.slice s (ks M x).length c] 24)).alloc (Obj.cells #[Value.int IntKind.i64 0] 3)).alloc (Obj.cells #[Value.int IntKind.i64 (kd M x), Value.string (bsA (tx M x)), Value.int IntKind.i64 (nu M x), Value.int IntKind.i64 (pl M x), Value.slice s (ks M x).length c] 24)).alloc (Obj.cells #[Value.func (.func 30) #[] #[]] 30)) := (Below.refl _ (((w.alloc (Obj.cells #[Value.int IntKind.i64 (kd M x), Value.string (bsA (tx M x)), Value.int IntKind.i64 (nu M x), Value.int IntKind.i64 (pl M x), Value.slice s (ks M x).length c] 24)).alloc (Obj.cells #[Value.int IntKind.i64 0] 3)).alloc (Obj.cells #[Value.int IntKind.i64 (kd M x), Value.string (bsA (tx M x)), Value.int IntKind.i64 (nu M x), Value.int IntKind.i64 (pl M x), Value.slice s (ks M x).length c] 24))).alloc (Nat.le_refl _) (Obj.cells #[Value.func (.func 30) #[] #[]] 30)
  have hA2 : Below _ _ (((w.alloc (Obj.cells #[Value.int IntKind.i64 (kd M x), Value.string (bsA (tx M x)), Value.int IntKind.i64 (nu M x), Value.int IntKind.i64 (pl M x), Value.slice s (ks M x).length c] 24)).alloc (Obj.cells #[Value.int IntKind.i64 0] 3)).alloc (Obj.cells #[Value.int IntKind.i64 (kd M x), Value.string (bsA (tx M x)), Value.int IntKind.i64 (nu M x), Value.int IntKind.i64 (pl M x), Value.slice s (ks M x).length c] 24)) := (Below.refl _ ((w.alloc (Obj.cells #[Value.int IntKind.i64 (kd M x), Value.string (bsA (tx M x)), Value.int IntKind.i64 (nu M x), Value.int IntKind.i64 (pl M x), Value.slice s (ks M x).length c] 24)).alloc (Obj.cells #[Value.int IntKind.i64 0] 3))).alloc (Nat.le_refl _) (Obj.cells #[Value.int IntKind.i64 (kd M x), Value.string (bsA (tx M x)), Value.int IntKind.i64 (nu M x), Value.int IntKind.i64 (pl M x), Value.slice s (ks M x).length c] 24)
  have g1 := cell_below hA2 g1
  have g2 := frozen_below hA2 (cell1_new (w.alloc (Obj.cells #[Value.int IntKind.i64 (kd M x), Value.string (bsA (tx M x)), Value.int IntKind.i64 (nu M x), Value.int IntKind.i64 (pl M x), Value.slice s (ks M x).length c] 24)) (.int .i64 0) 3).1 g2
  have g2 := frozen_below hA3 g1 g2
  have g1 := cell_below hA3 g1
  have d0 := cell_below hA3 d0
  have d1 := cell_below hA3 d1
  have d2 := cell_below hA3 d2
  have d3 := cell_below hA3 d3
  have d4 := cell_below hA3 d4
  have hB0 : Below w.heap.size w ((((w.alloc (Obj.cells #[Value.int IntKind.i64 (kd M x), Value.string (bsA (tx M x)), Value.int IntKind.i64 (nu M x), Value.int IntKind.i64 (pl M x), Value.slice s (ks M x).length c] 24)).alloc (Obj.cells #[Value.int IntKind.i64 0] 3)).alloc (Obj.cells #[Value.int IntKind.i64 (kd M x), Value.string (bsA (tx M x)), Value.int IntKind.i64 (nu M x), Value.int IntKind.i64 (pl M x), Value.slice s (ks M x).length c] 24)).alloc (Obj.cells #[Value.func (.func 30) #[] #[]] 30)) := ((((Below.refl _ w).alloc (Nat.le_refl _) _).alloc (by simp) _).alloc (by simp <;> omega) _).alloc (by simp <;> omega) _
  have hsz : ((((w.alloc (Obj.cells #[Value.int IntKind.i64 (kd M x), Value.string (bsA (tx M x)), Value.int IntKind.i64 (nu M x), Value.int IntKind.i64 (pl M x), Value.slice s (ks M x).length c] 24)).alloc (Obj.cells #[Value.int IntKind.i64 0] 3)).alloc (Obj.cells #[Value.int IntKind.i64 (kd M x), Value.string (bsA (tx M x)), Value.int IntKind.i64 (nu M x), Value.int IntKind.i64 (pl M x), Value.slice s (ks M x).length c] 24)).alloc (Obj.cells #[Value.func (.func 30) #[] #[]] 30)).heap.size = w.heap.size + 4 := by simp
  simp only [World.size_alloc] at g1 g2 g3 d0 d1 d2 d3 d4
  clear hA2 hA3
  generalize (((w.alloc (Obj.cells #[Value.int IntKind.i64 (kd M x), Value.string (bsA (tx M x)), Value.int IntKind.i64 (nu M x), Value.int IntKind.i64 (pl M x), Value.slice s (ks M x).length c] 24)).alloc (Obj.cells #[Value.int IntKind.i64 0] 3)).alloc (Obj.cells #[Value.int IntKind.i64 (kd M x), Value.string (bsA (tx M x)), Value.int IntKind.i64 (nu M x), Value.int IntKind.i64 (pl M x), Value.slice s (ks M x).length c] 24)).alloc (Obj.cells #[Value.func (.func 30) #[] #[]] 30) = W0 at *
  refine wpIn_rangeFunc_ownF hro h1 (gf := 81) (lb := #[.pointer (some ⟨w.heap.size + 1 + 1, 0, none⟩), .pointer (some ⟨w.heap.size + 1 + 1 + 1, 0, none⟩)]) rfl h81 (enters_of Tryz.func81 (by kernel_rfl) rfl)
    (trees30_stops F hd (n - 1) h81 h82 h30 hro M w W0 (Kc.keep w W0.heap.size) (fun W hW => hW.size) x s c _ _ hx hwx hB0 hM d0 d1 d2 d3 d4 g3) kc_t kc_b (Below.refl _ _) (fun _ => rfl)
    (fun pre W => (W.cell? ⟨w.heap.size + 1, 0, none⟩ = some (.int .i64 (dpL (pre.map fun y => y.1.2.1))) ∧ W.frozen? ⟨w.heap.size + 1, 0, none⟩ = false) ∧ Below w.heap.size w W)
    (fun _ _ _ => False)
    (OwnFrom.and (Own.from (fun s A B row hs hg hr => ⟨cell_kept hs.1 hg hr, (frozen_kept hs.1 hg hr).trans hs.2⟩) _) (ownFrom_below (Nat.le_refl _) (by omega)))
    (fun _ _ _ _ _ hs _ _ => hs)
    ⟨⟨g1, g2⟩, hB0⟩
    (fun y => { tmps := #[Value.agg #[.int .i64 (kd M x), .string (bsA (tx M x)), .int .i64 (nu M x), .int .i64 (pl M x), .slice s (ks M x).length c], .pointer (some ⟨w.heap.size, 0, none⟩), .int .i64 0, .pointer (some ⟨w.heap.size + 1, 0, none⟩), undef, .int .i64 y.1.2.1, Value.agg #[.int .i64 (kd M x), .string (bsA (tx M x)), .int .i64 (nu M x), .int .i64 (pl M x), .slice s (ks M x).length c], Value.func (.func 81) #[] #[.pointer (some ⟨w.heap.size + 1 + 1, 0, none⟩), .pointer (some ⟨w.heap.size + 1 + 1 + 1, 0, none⟩)], ndV M y.1.1 y.1.2.2.1 y.1.2.2.2, .int .i64 y.1.2.1, undef, undef, undef, undef], defers := [] })
    ?assign ?body ?done ?stop
  case assign =>
    intro l y W K hK
    unfold ndE
    gi_wp2
    exact hK
  case body =>
    rintro l pre y W ⟨⟨hc, hf⟩, hB⟩ hl
    gi_wp2
    refine ⟨KeepsOthers.setCell _ _ _, Kc.setCell _ _ _ _ (by omega) (by omega), ⟨?_, by rw [World.frozen?_setCell]; exact hf⟩, hB.setCell (p := ⟨w.heap.size + 1, 0, none⟩) (by show w.heap.size ≤ w.heap.size + 1; omega) _⟩
    rw [List.map_append, List.map_singleton, dpL_snoc]
    exact World.cell?_setCell_same' _ _ _ (by rw [hc]; rfl)
  case done =>
    rintro D ys W hD hys ⟨⟨hc, _⟩, hB⟩ hK
    gi_wp2
    refine ⟨by simp, .inl ⟨_, _, rfl, run_takeDeferred hK, ?_⟩⟩
    exact ⟨_, results_tmp rfl _ _ _, by rw [← hys, List.map_map]; rfl, hB.trans (belowK_b (w := w) (Nat.le_refl _) W D _ _ (by omega) hK rfl rfl)⟩
  case stop =>
    rintro D c pre W _ _ h _
    exact h.elim
theorem Depth_any (M : Nat) (x : Tr M) (s : Option Addr) (c : Nat) (w : World) (hx : NdAt w M x s) (hwx : Wid M x) (hM : (M : Int) ≤ 8000000000000000000) (hN : ((flat (fun _ => true) M x 1).length : Int) ≤ 8000000000000000000) :
    Calls Tryz.prog 12 #[ndV M x s c] w fun e W' => e = .returned (.int .i64 (dpL ((flat (fun _ => true) M x 1).map (·.2)))) ∧ Below w.heap.size w W' :=
  callsIn_wide.1 (Depth_in Fence.wide rfl 3 trivial trivial trivial trivial trivial rfl (Nat.le_refl _) M x s c w hx hwx hM hN)
end Go.Proofs.YtcemogaacicnfaaGreatDoor
