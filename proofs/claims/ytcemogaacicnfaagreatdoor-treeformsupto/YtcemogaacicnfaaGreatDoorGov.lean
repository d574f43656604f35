/- Trees gone over in pre-order (goOver), whatever is done at each. -/
import Derived.Test.YtcemogaacicnfaaGreatDoorSam
import Derived.RangeFuncNested
import Derived.RangeFuncBound
import Derived.RangeFuncCalls
import Derived.RangeFuncLeaves
import Derived.Shelf.Abstract
import Derived.Shelf.RegionOpen
import Derived.OwnWalkIn
import Derived.TacticsInMore
import Derived.LoopNIn
import Derived.LoopIn
namespace Go.Proofs.YtcemogaacicnfaaGreatDoor
set_option maxRecDepth 100000
set_option maxHeartbeats 4000000
open Go.ChangeShapes Go.WideShapes Go.ChangeAt Go.RowKit Go.Shelf
attribute [local go_sem] Oper.semAt_some

theorem room_of_none {F : Fence} (hd : F.depth = none) (k : Nat) : F.room k := fun d h => by rw [hd] at h; cases h
theorem roundIn_any {F : Fence} (hd : F.depth = none) {m m' : Nat} {P : Program} {l : Nat} {f : FuncId} {tmps : Array Value} {assign body : Code} {w : World} {R : Ending → World → Prop}
    (h : RoundIn F m P l f tmps assign body w R) : RoundIn F m' P l f tmps assign body w R := ⟨h.1, fun c cs _ => h.2 c cs (room_of_none hd _)⟩
theorem yieldAt_any {F : Fence} (hd : F.depth = none) {m : Nat} (m' : Nat) {P : Program} {l : Nat} {args : Array Value} {W : World} {R : Ending → World → Prop} (h : YieldAt F m P l args W R) : YieldAt F m' P l args W R := by
  obtain ⟨fn, tmps, assign, body, hy, hR⟩ := h
  exact ⟨fn, tmps, assign, body, hy, roundIn_any hd hR⟩
/-- What a round keeps: cells, but those from n₀ on to B. -/
def Kc (n₀ B : Nat) (W W' : World) : Prop := W.heap.size ≤ W'.heap.size ∧ ∀ b o, (b < n₀ ∨ B ≤ b) → W.heap[b]? = some o → o.isCells = true → W'.heap[b]? = some o
theorem Kc.refl (n₀ B : Nat) (W : World) : Kc n₀ B W W := ⟨Nat.le_refl _, fun _ _ _ h _ => h⟩
theorem Kc.trans {n₀ B : Nat} {X Y Z : World} (h : Kc n₀ B X Y) (k : Kc n₀ B Y Z) : Kc n₀ B X Z := ⟨Nat.le_trans h.1 k.1, fun b o hb ho hc => k.2 b o hb (h.2 b o hb ho hc) hc⟩
theorem Kc.of_below {n₀ B : Nat} {W W' : World} (h : Below W.heap.size W W') : Kc n₀ B W W' := ⟨h.size, fun b _ _ ho _ => (h.block b (heap_lt ho)).trans ho⟩
theorem Kc.alloc (n₀ B : Nat) (W : World) (o : Obj) : Kc n₀ B W (W.alloc o) := Kc.of_below ((Below.refl _ _).alloc (Nat.le_refl _) o)
theorem cell_block {W : World} {b o : Nat} {v : Value} (h : W.cell? ⟨b, o, none⟩ = some v) : ∃ x : Obj, W.heap[b]? = some x ∧ x.isCells = true := by
  unfold World.cell? at h
  cases hb : W.heap[b]? with
  | none => simp [hb] at h
  | some x =>
    refine ⟨x, rfl, ?_⟩
    cases x <;> simp_all [Obj.isCells]
theorem cell_same {W W' : World} {b o : Nat} {v : Value} (h : W.cell? ⟨b, o, none⟩ = some v) (e : W'.heap[b]? = W.heap[b]?) : W'.cell? ⟨b, o, none⟩ = some v := by
  rw [← h]
  unfold World.cell?
  simp only [e]
theorem Kc.cell {n₀ B : Nat} {W W' : World} (h : Kc n₀ B W W') {b o : Nat} {v : Value} (hb : b < n₀ ∨ B ≤ b) (hc : W.cell? ⟨b, o, none⟩ = some v) : W'.cell? ⟨b, o, none⟩ = some v := by
  obtain ⟨x, hx, hi⟩ := cell_block hc
  exact cell_same hc ((h.2 b x hb hx hi).trans hx.symm)
/-- All cells of the one are in the other. -/
def Kn (w W : World) : Prop := ∀ b o v, w.cell? ⟨b, o, none⟩ = some v → W.cell? ⟨b, o, none⟩ = some v
theorem Kn.step {w W W' : World} {B : Nat} (h : Kn w W) (k : Kc w.heap.size B W W') : Kn w W' := fun b o v hv => by
  obtain ⟨x, hx, _⟩ := cell_block hv
  exact k.cell (Or.inl (heap_lt hx)) (h b o v hv)
theorem Kn.of_below {w W : World} (h : Below w.heap.size w W) : Kn w W := fun _ _ _ hv => cell_below h hv
theorem KsL.keep {n : Nat} {w w' : World} {sl : Option Addr} {l : List (Tr n)} {p q : Tr n → Option Addr → Prop} (h : KsL n w sl l p) (hk : Kn w w') (hpq : ∀ y s, p y s → q y s) : KsL n w' sl l q := by
  obtain ⟨hl, h⟩ := h
  refine ⟨hl, ?_⟩
  rcases h with h | ⟨b, off, e, hc⟩
  · exact Or.inl h
  · refine Or.inr ⟨b, off, e, fun i y hi => ?_⟩
    obtain ⟨s, c, ⟨c0, c1, c2, c3, c4⟩, hp⟩ := hc i y hi
    exact ⟨s, c, ⟨hk _ _ _ c0, hk _ _ _ c1, hk _ _ _ c2, hk _ _ _ c3, hk _ _ _ c4⟩, hpq y s hp⟩
theorem NdAt.keep {w w' : World} (hk : Kn w w') : ∀ {n : Nat} {x : Tr n} {sl : Option Addr}, NdAt w n x sl → NdAt w' n x sl
  | 0, _, _, h => h
  | n + 1, _, _, h => KsL.keep (p := NdAt w n) (q := NdAt w' n) h hk (fun _ _ h => NdAt.keep hk h)
/-- What goes over trees asks of what is done at each: Iv: what holds of memory in between; Pr: blocks that stay; Kp: what a round keeps. -/
structure Keep (w : World) (Iv : World → Prop) (Pr : World → Nat → Prop) (Kp : World → World → Prop) : Prop where
  rf : ∀ W, Kp W W
  tr : ∀ X Y Z, Kp X Y → Kp Y Z → Kp X Z
  al : ∀ W o, Iv W → Kp W (W.alloc o)
  i1 : ∀ W o, Iv W → Iv (W.alloc o)
  i2 : ∀ W W', Kp W W' → Iv W → Iv W'
  p1 : ∀ W o, Iv W → Pr (W.alloc o) W.heap.size
  p3 : ∀ W W' b, Kp W W' → Pr W b → ∀ o v, W.cell? ⟨b, o, none⟩ = some v → W'.cell? ⟨b, o, none⟩ = some v
  kn : ∀ W W', Iv W → Kp W W' → Kn w W → Kn w W'
theorem Kc.keep (w : World) (B : Nat) : Keep w (fun W => B ≤ W.heap.size) (fun _ b => B ≤ b) (Kc w.heap.size B) where
  rf := fun _ => Kc.refl _ _ _
  tr := fun _ _ _ h k => h.trans k
  al := fun _ _ _ => Kc.alloc _ _ _ _
  i1 := fun _ _ h => Nat.le_trans h (by simp)
  i2 := fun _ _ k h => Nat.le_trans h k.1
  p1 := fun _ _ h => h
  p3 := fun _ _ _ k h _ _ hc => k.cell (Or.inr h) hc
  kn := fun _ _ _ k h => Kn.step h k
theorem kd_up (n : Nat) (x : Tr (n + 1)) : kd (n + 2) (up (n + 1) x) = kd (n + 1) x := rfl
theorem ndV_up : ∀ (n : Nat) (x : Tr n) (s : Option Addr) (c : Nat), ndV (n + 1) (up n x) s c = ndV n x s c
  | 0, x, _, _ => Empty.elim x
  | n + 1, x, s, c => by
    have e : (ks (n + 2) (up (n + 1) x)).length = (ks (n + 1) x).length := List.length_map (up n)
    show Value.agg #[_, _, _, _, .slice s (ks (n + 2) (up (n + 1) x)).length c] = Value.agg #[_, _, _, _, .slice s (ks (n + 1) x).length c]
    rw [e]
    rfl
theorem ndAt_up {w : World} : ∀ (n : Nat) (x : Tr n) (s : Option Addr), NdAt w n x s → NdAt w (n + 1) (up n x) s
  | 0, _, _, h => h.elim
  | n + 1, x, s, h => by
    obtain ⟨hl, h⟩ := h
    have e : (ks (n + 2) (up (n + 1) x)) = (ks (n + 1) x).map (up n) := rfl
    refine ⟨by rw [e, List.length_map]; exact hl, ?_⟩
    rcases h with h | ⟨b, off, hs, hc⟩
    · exact Or.inl (by rw [e, h]; rfl)
    · refine Or.inr ⟨b, off, hs, fun i z hi => ?_⟩
      rw [e, List.getElem?_map] at hi
      obtain ⟨y, hy, rfl⟩ := Option.map_eq_some_iff.1 hi
      obtain ⟨s', c', hcs, hp⟩ := hc i y hy
      have hv := ndV_up n y s' c'
      unfold ndV at hv
      simp only [Value.agg.injEq, Array.mk.injEq, List.cons.injEq, Value.int.injEq, Value.string.injEq, Value.slice.injEq, true_and, and_true] at hv
      obtain ⟨v0, v1, v2, v3, v4⟩ := hv
      refine ⟨s', c', ?_, ndAt_up n y s' hp⟩
      rw [v0, v1, v2, v3, v4]
      exact hcs
theorem wid_up : ∀ (n : Nat) (x : Tr n), Wid n x → Wid (n + 1) (up n x)
  | 0, x, _ => Empty.elim x
  | n + 1, x, h => by
    obtain ⟨h1, h2⟩ := h
    have e : (ks (n + 2) (up (n + 1) x)) = (ks (n + 1) x).map (up n) := rfl
    refine ⟨by rw [e, List.length_map]; exact h1, fun y hy => ?_⟩
    rw [e] at hy
    obtain ⟨z, hz, rfl⟩ := List.mem_map.1 hy
    exact wid_up n z (h2 z hz)
/-- A tree and what stands in it, in pre-order, each with its depth; what en refuses is not gone into. -/
def flat (en : Int → Bool) : (n : Nat) → Tr n → Int → List (Tr n × Int)
  | 0, _, _ => []
  | n + 1, x, d => (x, d) :: (if en (kd (n + 1) x) then (ks (n + 1) x).flatMap (fun y => (flat en n y (d + 1)).map fun p => (up n p.1, p.2)) else [])
def lift {n M : Nat} (L : Tr n → Tr M) (p : Tr n × Int) : Tr M × Int := (L p.1, p.2)
theorem flat_lift (en : Int → Bool) (n M : Nat) (L : Tr (n + 1) → Tr M) (x : Tr (n + 1)) (d : Int) (h : en (kd (n + 1) x) = true) :
    (flat en (n + 1) x d).map (lift L) = (L x, d) :: (ks (n + 1) x).flatMap (fun y => (flat en n y (d + 1)).map (lift (fun z => L (up n z)))) := by
  rw [flat, if_pos h]
  simp only [List.map_cons, List.map_flatMap, List.map_map]
  rfl
theorem flat_stop (en : Int → Bool) (n M : Nat) (L : Tr (n + 1) → Tr M) (x : Tr (n + 1)) (d : Int) (h : en (kd (n + 1) x) = false) : (flat en (n + 1) x d).map (lift L) = [(L x, d)] := by
  rw [flat, h]
  rfl
theorem flat_len (en : Int → Bool) (n : Nat) (x : Tr (n + 1)) (d : Int) (h : en (kd (n + 1) x) = true) : (flat en (n + 1) x d).length = 1 + ((ks (n + 1) x).flatMap (fun y => flat en n y (d + 1))).length := by
  have e := congrArg List.length (flat_lift en n (n + 1) (fun z => z) x d h)
  rw [List.length_map, List.length_cons] at e
  rw [e, Nat.add_comm]
  congr 1
  rw [List.length_flatMap, List.length_flatMap]
  congr 1
  refine List.map_congr_left fun y _ => ?_
  rw [List.length_map]
theorem fm_snoc {α β : Type} (f : α → List β) {l : List α} {k : Nat} {y : α} (h : l[k]? = some y) : (l.take (k + 1)).flatMap f = (l.take k).flatMap f ++ f y := by
  rw [List.take_add_one, h, List.flatMap_append]
  simp
theorem fm_le {α β : Type} (f : α → List β) {l : List α} {k : Nat} {y : α} (h : l[k]? = some y) : ((l.take k).flatMap f).length + (f y).length ≤ (l.flatMap f).length := by
  have e : l.flatMap f = (l.take (k + 1)).flatMap f ++ (l.drop (k + 1)).flatMap f := by rw [← List.flatMap_append, List.take_append_drop]
  rw [e, fm_snoc f h, List.length_append, List.length_append]
  omega
theorem fm_len {α β γ : Type} (f : α → List β) (g : α → β → γ) (l : List α) : (l.flatMap fun y => (f y).map (g y)).length = (l.flatMap f).length := by
  rw [List.length_flatMap, List.length_flatMap]
  congr 1
  refine List.map_congr_left fun y _ => ?_
  rw [List.length_map]
/-- What is handed on: a tree of the memory, its depth. -/
abbrev Nod (w : World) (M : Nat) : Type := { p : Tr M × Int × Option Addr × Nat // NdAt w M p.1 p.2.2.1 ∧ Wid M p.1 }
def ndE {w : World} {M : Nat} (p : Nod w M) : Array Value := #[ndV M p.1.1 p.1.2.2.1 p.1.2.2.2, .int .i64 p.1.2.1]
def ndP {w : World} {M : Nat} (p : Nod w M) : Tr M × Int := (p.1.1, p.1.2.1)
theorem enter30_in (F : Fence) (m : Nat) (h : F.fn 30) (hro : F.round = none) (k : Int) (v1 v2 v3 v4 : Value) (W : World) :
    CallsIn F m Tryz.prog 30 #[.agg #[.int .i64 k, v1, v2, v3, v4]] W fun e w' => e = .returned (.bool true) ∧ w' = W.alloc (Obj.cells #[.int .i64 k, v1, v2, v3, v4] 24) := by
  refine callsIn_of_wp Tryz.func30 rfl h ?_ hro
  simp only [Tryz.ntmps30, List.size_toArray, List.length_cons, List.length_nil, Nat.reduceAdd, Nat.reduceSub, Array.replicate_succ, Array.replicate_zero, List.push_toArray, List.append_toArray, List.nil_append, List.cons_append]
  gi_wp2
  go_ret
  exact ⟨rfl, rfl⟩
theorem enter36_in (F : Fence) (m : Nat) (h : F.fn 36) (hro : F.round = none) (k : Int) (v1 v2 v3 v4 : Value) (W : World) :
    CallsIn F m Tryz.prog 36 #[.agg #[.int .i64 k, v1, v2, v3, v4]] W fun e w' => e = .returned (.bool (!decide (k = 14))) ∧ w' = W.alloc (Obj.cells #[.int .i64 k, v1, v2, v3, v4] 24) := by
  refine callsIn_of_wp Tryz.func36 rfl h ?_ hro
  simp only [Tryz.ntmps36, List.size_toArray, List.length_cons, List.length_nil, Nat.reduceAdd, Nat.reduceSub, Array.replicate_succ, Array.replicate_zero, List.push_toArray, List.append_toArray, List.nil_append, List.cons_append]
  by_cases hk : k = 14
  · subst hk
    gi_wp2
    go_ret
    exact ⟨rfl, rfl⟩
  · have hk' : (k != 14) = true := by simpa using hk
    rw [decide_eq_false hk]
    gi_wp2
    go_ret
    exact ⟨rfl, rfl⟩
theorem enter36_no (F : Fence) (m : Nat) (h : F.fn 36) (hro : F.round = none) (k : Int) (hk : k = 14) (v1 v2 v3 v4 : Value) (W : World) :
    CallsIn F m Tryz.prog 36 #[.agg #[.int .i64 k, v1, v2, v3, v4]] W fun e w' => e = .returned (.bool false) ∧ w' = W.alloc (Obj.cells #[.int .i64 k, v1, v2, v3, v4] 24) :=
  (enter36_in F m h hro k v1 v2 v3 v4 W).mono fun e w' h => ⟨by rw [h.1, decide_eq_true hk]; rfl, h.2⟩
theorem enter36_yes (F : Fence) (m : Nat) (h : F.fn 36) (hro : F.round = none) (k : Int) (hk : ¬ k = 14) (v1 v2 v3 v4 : Value) (W : World) :
    CallsIn F m Tryz.prog 36 #[.agg #[.int .i64 k, v1, v2, v3, v4]] W fun e w' => e = .returned (.bool true) ∧ w' = W.alloc (Obj.cells #[.int .i64 k, v1, v2, v3, v4] 24) :=
  (enter36_in F m h hro k v1 v2 v3 v4 W).mono fun e w' h => ⟨by rw [h.1, decide_eq_false hk]; rfl, h.2⟩
theorem goOver30_in (F : Fence) (hd : F.depth = none) (h82 : F.fn 82) (hfe : F.fn 30) (hro : F.round = none) (l Nn M : Nat) (w : World) {Iv : World → Prop} {Pr : World → Nat → Prop} {Kp : World → World → Prop} (kk : Keep w Iv Pr Kp) (J Jx : List (Nod w M) → World → Prop) (hJ : ∀ q W o, J q W → J q (W.alloc o))
    (hY : ∀ m pre x W1, J pre W1 → pre.length < Nn → YieldAt F m Tryz.prog l (ndE x) W1 fun e W' => (e = .returned (.bool true) ∧ J (pre ++ [x]) W' ∧ Kp W1 W') ∨ (e = .returned (.bool false) ∧ Jx (pre ++ [x]) W')) (n : Nat) :
    ∀ (L : Tr n → Tr M), (∀ y s c, ndV M (L y) s c = ndV n y s c) → (∀ y s, NdAt w n y s → NdAt w M (L y) s) → (∀ y, Wid n y → Wid M (L y)) →
    ∀ (m : Nat) (x : Tr n) (d : Int) (s : Option Addr) (c : Nat) (pre : List (Nod w M)) (W : World), NdAt w n x s → Wid n x → Kn w W → Iv W → J pre W → pre.length + (flat (fun _ => true) n x d).length ≤ Nn → 0 ≤ d → d + n ≤ 9000000000000000000 →
    CallsIn F m Tryz.prog 82 #[ndV n x s c, .int .i64 d, .func (.func 30) #[] #[], .func (.yield l) #[] #[]] W fun e W' => (e = .returned (.bool true) ∧ ∃ q, q.map ndP = (flat (fun _ => true) n x d).map (lift L) ∧ J (pre ++ q) W' ∧ Kp W W') ∨ (e = .returned (.bool false) ∧ ∃ q, Jx q W') := by
  induction n with
  | zero => intro L _ _ _ m x; exact Empty.elim x
  | succ n ih =>
    intro L hV hA hL m x d s c pre W hx hwx hK hB hJp hN hd1 hd2
    have hdd : ∀ k : Nat, (F.depth.isSome = true → 1 ≤ k) := fun k h => by rw [hd] at h; cases h
    have hA1 : Kp W (W.alloc (Obj.cells #[Value.int IntKind.i64 (kd (n + 1) x), Value.string (bsA (tx (n + 1) x)), Value.int IntKind.i64 (nu (n + 1) x), Value.int IntKind.i64 (pl (n + 1) x), Value.slice s (ks (n + 1) x).length c] 24)) := kk.al _ _ hB
    have hB1 : Iv (W.alloc (Obj.cells #[Value.int IntKind.i64 (kd (n + 1) x), Value.string (bsA (tx (n + 1) x)), Value.int IntKind.i64 (nu (n + 1) x), Value.int IntKind.i64 (pl (n + 1) x), Value.slice s (ks (n + 1) x).length c] 24)) := kk.i1 _ _ hB
    have hP1 : Pr (W.alloc (Obj.cells #[Value.int IntKind.i64 (kd (n + 1) x), Value.string (bsA (tx (n + 1) x)), Value.int IntKind.i64 (nu (n + 1) x), Value.int IntKind.i64 (pl (n + 1) x), Value.slice s (ks (n + 1) x).length c] 24)) W.heap.size := kk.p1 _ _ hB
    obtain ⟨x0, e0, hx0⟩ : ∃ x0 : Nod w M, ndE x0 = #[.agg #[.int .i64 (kd (n + 1) x), .string (bsA (tx (n + 1) x)), .int .i64 (nu (n + 1) x), .int .i64 (pl (n + 1) x), .slice s (ks (n + 1) x).length c], .int .i64 d] ∧ ndP x0 = (L x, d) := ⟨⟨(L x, d, s, c), hA x s hx, hL x hwx⟩, by unfold ndE; dsimp only; rw [hV]; rfl, rfl⟩
    have HP0 : Hid _ := hx0
    have hYx := hY (m - 1) pre x0 (W.alloc (Obj.cells #[Value.int IntKind.i64 (kd (n + 1) x), Value.string (bsA (tx (n + 1) x)), Value.int IntKind.i64 (nu (n + 1) x), Value.int IntKind.i64 (pl (n + 1) x), Value.slice s (ks (n + 1) x).length c] 24)) (hJ _ _ _ hJp) (by
      have : 1 ≤ (flat (fun _ => true) (n + 1) x d).length := by rw [flat]; simp
      omega)
    rw [e0] at hYx
    have b0 : (W.alloc (Obj.cells #[Value.int IntKind.i64 (kd (n + 1) x), Value.string (bsA (tx (n + 1) x)), Value.int IntKind.i64 (nu (n + 1) x), Value.int IntKind.i64 (pl (n + 1) x), Value.slice s (ks (n + 1) x).length c] 24)).cell? ⟨W.heap.size, 0, none⟩ = some (.int .i64 (kd (n + 1) x)) := by go_simp
    have b1 : (W.alloc (Obj.cells #[Value.int IntKind.i64 (kd (n + 1) x), Value.string (bsA (tx (n + 1) x)), Value.int IntKind.i64 (nu (n + 1) x), Value.int IntKind.i64 (pl (n + 1) x), Value.slice s (ks (n + 1) x).length c] 24)).cell? ⟨W.heap.size, 1, none⟩ = some (.string (bsA (tx (n + 1) x))) := by go_simp
    have b2 : (W.alloc (Obj.cells #[Value.int IntKind.i64 (kd (n + 1) x), Value.string (bsA (tx (n + 1) x)), Value.int IntKind.i64 (nu (n + 1) x), Value.int IntKind.i64 (pl (n + 1) x), Value.slice s (ks (n + 1) x).length c] 24)).cell? ⟨W.heap.size, 2, none⟩ = some (.int .i64 (nu (n + 1) x)) := by go_simp
    have b3 : (W.alloc (Obj.cells #[Value.int IntKind.i64 (kd (n + 1) x), Value.string (bsA (tx (n + 1) x)), Value.int IntKind.i64 (nu (n + 1) x), Value.int IntKind.i64 (pl (n + 1) x), Value.slice s (ks (n + 1) x).length c] 24)).cell? ⟨W.heap.size, 3, none⟩ = some (.int .i64 (pl (n + 1) x)) := by go_simp
    have b4 : (W.alloc (Obj.cells #[Value.int IntKind.i64 (kd (n + 1) x), Value.string (bsA (tx (n + 1) x)), Value.int IntKind.i64 (nu (n + 1) x), Value.int IntKind.i64 (pl (n + 1) x), Value.slice s (ks (n + 1) x).length c] 24)).cell? ⟨W.heap.size, 4, none⟩ = some (.slice s (ks (n + 1) x).length c) := by go_simp
    have hK1 : Kn w (W.alloc (Obj.cells #[Value.int IntKind.i64 (kd (n + 1) x), Value.string (bsA (tx (n + 1) x)), Value.int IntKind.i64 (nu (n + 1) x), Value.int IntKind.i64 (pl (n + 1) x), Value.slice s (ks (n + 1) x).length c] 24)) := kk.kn _ _ hB hA1 hK
    obtain ⟨fn, tmps, assign, body, hy, hR⟩ := hYx
    unfold ndV
    have HX : Hid _ := hx
    have HKK : Hid _ := hK1
    have HIH : Hid _ := ih
    have HJJ : Hid _ := hJ
    have HV : Hid _ := hV
    have HA : Hid _ := hA
    have HLL : Hid _ := hL
    have HWX : Hid _ := hwx
    clear hx hK1 hK ih hJ hY hV hA hL hwx e0 hx0
    refine callsIn_of_wp Tryz.func82 rfl h82 ?_ hro
    simp only [Tryz.ntmps82, List.size_toArray, List.length_cons, List.length_nil, Nat.reduceAdd, Nat.reduceSub, Array.replicate_succ, Array.replicate_zero, List.push_toArray, List.append_toArray, List.nil_append, List.cons_append]
    gi_wp2
    refine hR.mono ?_
    clear hR
    rintro e W3 (⟨rfl, hJ3, hk3⟩ | ⟨rfl, hx3⟩)
    rotate_left
    · gi_wp2
      go_ret
      exact .inr ⟨rfl, _, hx3⟩
    have b0 := kk.p3 _ _ _ hk3 hP1 _ _ b0
    have b1 := kk.p3 _ _ _ hk3 hP1 _ _ b1
    have b2 := kk.p3 _ _ _ hk3 hP1 _ _ b2
    have b3 := kk.p3 _ _ _ hk3 hP1 _ _ b3
    have b4 := kk.p3 _ _ _ hk3 hP1 _ _ b4
    have hB3 : Iv W3 := kk.i2 _ _ hk3 hB1
    have hA4 : Kp W3 (W3.alloc (Obj.cells #[Value.int IntKind.i64 (kd (n + 1) x), Value.string (bsA (tx (n + 1) x)), Value.int IntKind.i64 (nu (n + 1) x), Value.int IntKind.i64 (pl (n + 1) x), Value.slice s (ks (n + 1) x).length c] 24)) := kk.al _ _ hB3
    have b4' := cell_below ((Below.refl _ W3).alloc (Nat.le_refl _) (Obj.cells #[Value.int IntKind.i64 (kd (n + 1) x), Value.string (bsA (tx (n + 1) x)), Value.int IntKind.i64 (nu (n + 1) x), Value.int IntKind.i64 (pl (n + 1) x), Value.slice s (ks (n + 1) x).length c] 24)) b4
    have HK4 : Hid (Kn w (W3.alloc (Obj.cells #[Value.int IntKind.i64 (kd (n + 1) x), Value.string (bsA (tx (n + 1) x)), Value.int IntKind.i64 (nu (n + 1) x), Value.int IntKind.i64 (pl (n + 1) x), Value.slice s (ks (n + 1) x).length c] 24))) := kk.kn _ _ hB3 hA4 (kk.kn _ _ hB1 hk3 HKK.out)
    have HJ4 : Hid (J (pre ++ [x0]) (W3.alloc (Obj.cells #[Value.int IntKind.i64 (kd (n + 1) x), Value.string (bsA (tx (n + 1) x)), Value.int IntKind.i64 (nu (n + 1) x), Value.int IntKind.i64 (pl (n + 1) x), Value.slice s (ks (n + 1) x).length c] 24))) := HJJ.out _ _ _ hJ3
    have HC4 : Hid (Kp W (W3.alloc (Obj.cells #[Value.int IntKind.i64 (kd (n + 1) x), Value.string (bsA (tx (n + 1) x)), Value.int IntKind.i64 (nu (n + 1) x), Value.int IntKind.i64 (pl (n + 1) x), Value.slice s (ks (n + 1) x).length c] 24))) := kk.tr _ _ _ (kk.tr _ _ _ hA1 hk3) hA4
    have HB4 : Hid (Iv (W3.alloc (Obj.cells #[Value.int IntKind.i64 (kd (n + 1) x), Value.string (bsA (tx (n + 1) x)), Value.int IntKind.i64 (nu (n + 1) x), Value.int IntKind.i64 (pl (n + 1) x), Value.slice s (ks (n + 1) x).length c] 24))) := kk.i1 _ _ hB3
    have HKE : Hid _ := kk
    clear hJ3 hk3 hA1 HKK hB3 hB1 hP1 hB kk
    gi_wp2_with ((try refine ⟨hdd _, ?_⟩); gi_at_call 30; refine (enter30_in F _ hfe hro _ _ _ _ _ _).mono ?_; rintro e W4 ⟨rfl, rfl⟩)
    clear b0 b1 b2 b3 b4 hA4
    generalize W3.alloc (Obj.cells #[Value.int IntKind.i64 (kd (n + 1) x), Value.string (bsA (tx (n + 1) x)), Value.int IntKind.i64 (nu (n + 1) x), Value.int IntKind.i64 (pl (n + 1) x), Value.slice s (ks (n + 1) x).length c] 24) = W4 at *
    gi_loopw [23] (fun i wr => ∃ (k : Nat) (q : List (Nod w M)), k ≤ (ks (n + 1) x).length ∧ i = .int .i64 k ∧ q.map ndP = ((ks (n + 1) x).take k).flatMap (fun y => (flat (fun _ => true) n y (d + 1)).map (lift (fun z => L (up n z)))) ∧ J (pre ++ x0 :: q) wr ∧ Kp W4 wr) (fun i _ => (ks (n + 1) x).length - (intOf i).toNat)
    case atStart => exact ⟨0, [], Nat.zero_le _, rfl, rfl, HJ4.out, HKE.out.rf _⟩
    case round =>
      obtain ⟨k, q, hk, rfl, hq, hJq, hKq⟩ := hrel
      have HQ : Hid _ := hq
      have HJq : Hid _ := hJq
      have HKq : Hid _ := hKq
      have HKr : Hid (Kn w wr) := HKE.out.kn _ _ HB4.out hKq HK4.out
      have HBr : Hid (Iv wr) := HKE.out.i2 _ _ hKq HB4.out
      clear hq hJq hKq
      rcases Nat.lt_or_ge k (ks (n + 1) x).length with hlt | hge
      · have gc : (ks (n + 1) x)[k]? = some (ks (n + 1) x)[k] := List.getElem?_eq_getElem hlt
        obtain ⟨hlen, h0 | ⟨b, off, hs, hc⟩⟩ := HX.out
        · rw [h0] at hlt; exact absurd hlt (Nat.not_lt_zero _)
        obtain ⟨s', c', ⟨c0, c1, c2, c3, c4⟩, hp⟩ := hc k _ gc
        subst hs
        have c0 := HKr.out _ _ _ c0
        have c1 := HKr.out _ _ _ c1
        have c2 := HKr.out _ _ _ c2
        have c3 := HKr.out _ _ _ c3
        have c4 := HKr.out _ _ _ c4
        have HP : Hid _ := hp
        have HFS : Hid _ := fm_snoc (fun y => (flat (fun _ => true) n y (d + 1)).map (lift (fun z => L (up n z)))) gc
        have hle := fm_le (fun y => (flat (fun _ => true) n y (d + 1)).map (lift (fun z => L (up n z)))) gc
        have hfl := flat_len (fun _ => true) n x d rfl
        rw [← HQ.out, List.length_map, List.length_map, fm_len] at hle
        clear hc hp gc
        have hIH := HIH.out (fun z => L (up n z)) (fun y s c => (HV.out _ _ _).trans (ndV_up n y s c)) (fun y s h => HA.out _ _ (ndAt_up n y s h)) (fun y h => HLL.out _ (wid_up n y h)) (m - 1) (ks (n + 1) x)[k] (d + 1) s' c' (pre ++ x0 :: q) (wr.alloc (Obj.cells #[Value.int IntKind.i64 (kd n (ks (n + 1) x)[k]), Value.string (bsA (tx n (ks (n + 1) x)[k])), Value.int IntKind.i64 (nu n (ks (n + 1) x)[k]), Value.int IntKind.i64 (pl n (ks (n + 1) x)[k]), Value.slice s' (ks n (ks (n + 1) x)[k]).length c'] 24)) HP.out (HWX.out.2 _ (List.getElem_mem hlt)) (HKE.out.kn _ _ HBr.out (HKE.out.al _ _ HBr.out) HKr.out) (HKE.out.i1 _ _ HBr.out) (HJJ.out _ _ _ HJq.out) (by rw [List.length_append, List.length_cons]; omega) (by omega) (by omega)
        clear hle hfl HP
        generalize (ks (n + 1) x)[k] = y at *
        unfold ndV at hIH
        gi_wp2_with ((try refine ⟨hdd _, ?_⟩); gi_at_call 82; refine hIH.mono ?_; clear hIH; rintro e W5 (⟨rfl, q2, hq2, hJ5, hk5⟩ | ⟨rfl, q2, hx5⟩))
        · go_roundw
          case rel => exact ⟨k + 1, q ++ q2, by omega, by go_num, by rw [List.map_append, HQ.out, hq2, HFS.out], by simpa using hJ5, HKE.out.tr _ _ _ HKq.out (HKE.out.tr _ _ _ (HKE.out.al _ _ HBr.out) hk5)⟩
          case measure => simp [intOf]; omega
        · go_ret
          exact .inr ⟨rfl, _, hx5⟩
      · gi_wp2
        go_ret
        refine .inl ⟨rfl, x0 :: q, ?_, HJq.out, HKE.out.tr _ _ _ HC4.out HKq.out⟩
        rw [List.map_cons, HP0.out, HQ.out, List.take_of_length_le hge, flat_lift (fun _ => true) n M L x d rfl]
theorem goOver36_in (F : Fence) (hd : F.depth = none) (h82 : F.fn 82) (hfe : F.fn 36) (hro : F.round = none) (l Nn M : Nat) (w : World) {Iv : World → Prop} {Pr : World → Nat → Prop} {Kp : World → World → Prop} (kk : Keep w Iv Pr Kp) (J Jx : List (Nod w M) → World → Prop) (hJ : ∀ q W o, J q W → J q (W.alloc o))
    (hY : ∀ m pre x W1, J pre W1 → pre.length < Nn → YieldAt F m Tryz.prog l (ndE x) W1 fun e W' => (e = .returned (.bool true) ∧ J (pre ++ [x]) W' ∧ Kp W1 W') ∨ (e = .returned (.bool false) ∧ Jx (pre ++ [x]) W')) (n : Nat) :
    ∀ (L : Tr n → Tr M), (∀ y s c, ndV M (L y) s c = ndV n y s c) → (∀ y s, NdAt w n y s → NdAt w M (L y) s) → (∀ y, Wid n y → Wid M (L y)) →
    ∀ (m : Nat) (x : Tr n) (d : Int) (s : Option Addr) (c : Nat) (pre : List (Nod w M)) (W : World), NdAt w n x s → Wid n x → Kn w W → Iv W → J pre W → pre.length + (flat (fun k => !decide (k = 14)) n x d).length ≤ Nn → 0 ≤ d → d + n ≤ 9000000000000000000 →
    CallsIn F m Tryz.prog 82 #[ndV n x s c, .int .i64 d, .func (.func 36) #[] #[], .func (.yield l) #[] #[]] W fun e W' => (e = .returned (.bool true) ∧ ∃ q, q.map ndP = (flat (fun k => !decide (k = 14)) n x d).map (lift L) ∧ J (pre ++ q) W' ∧ Kp W W') ∨ (e = .returned (.bool false) ∧ ∃ q, Jx q W') := by
  induction n with
  | zero => intro L _ _ _ m x; exact Empty.elim x
  | succ n ih =>
    intro L hV hA hL m x d s c pre W hx hwx hK hB hJp hN hd1 hd2
    have hdd : ∀ k : Nat, (F.depth.isSome = true → 1 ≤ k) := fun k h => by rw [hd] at h; cases h
    have hA1 : Kp W (W.alloc (Obj.cells #[Value.int IntKind.i64 (kd (n + 1) x), Value.string (bsA (tx (n + 1) x)), Value.int IntKind.i64 (nu (n + 1) x), Value.int IntKind.i64 (pl (n + 1) x), Value.slice s (ks (n + 1) x).length c] 24)) := kk.al _ _ hB
    have hB1 : Iv (W.alloc (Obj.cells #[Value.int IntKind.i64 (kd (n + 1) x), Value.string (bsA (tx (n + 1) x)), Value.int IntKind.i64 (nu (n + 1) x), Value.int IntKind.i64 (pl (n + 1) x), Value.slice s (ks (n + 1) x).length c] 24)) := kk.i1 _ _ hB
    have hP1 : Pr (W.alloc (Obj.cells #[Value.int IntKind.i64 (kd (n + 1) x), Value.string (bsA (tx (n + 1) x)), Value.int IntKind.i64 (nu (n + 1) x), Value.int IntKind.i64 (pl (n + 1) x), Value.slice s (ks (n + 1) x).length c] 24)) W.heap.size := kk.p1 _ _ hB
    obtain ⟨x0, e0, hx0⟩ : ∃ x0 : Nod w M, ndE x0 = #[.agg #[.int .i64 (kd (n + 1) x), .string (bsA (tx (n + 1) x)), .int .i64 (nu (n + 1) x), .int .i64 (pl (n + 1) x), .slice s (ks (n + 1) x).length c], .int .i64 d] ∧ ndP x0 = (L x, d) := ⟨⟨(L x, d, s, c), hA x s hx, hL x hwx⟩, by unfold ndE; dsimp only; rw [hV]; rfl, rfl⟩
    have HP0 : Hid _ := hx0
    have hYx := hY (m - 1) pre x0 (W.alloc (Obj.cells #[Value.int IntKind.i64 (kd (n + 1) x), Value.string (bsA (tx (n + 1) x)), Value.int IntKind.i64 (nu (n + 1) x), Value.int IntKind.i64 (pl (n + 1) x), Value.slice s (ks (n + 1) x).length c] 24)) (hJ _ _ _ hJp) (by
      have : 1 ≤ (flat (fun k => !decide (k = 14)) (n + 1) x d).length := by rw [flat]; simp
      omega)
    rw [e0] at hYx
    have b0 : (W.alloc (Obj.cells #[Value.int IntKind.i64 (kd (n + 1) x), Value.string (bsA (tx (n + 1) x)), Value.int IntKind.i64 (nu (n + 1) x), Value.int IntKind.i64 (pl (n + 1) x), Value.slice s (ks (n + 1) x).length c] 24)).cell? ⟨W.heap.size, 0, none⟩ = some (.int .i64 (kd (n + 1) x)) := by go_simp
    have b1 : (W.alloc (Obj.cells #[Value.int IntKind.i64 (kd (n + 1) x), Value.string (bsA (tx (n + 1) x)), Value.int IntKind.i64 (nu (n + 1) x), Value.int IntKind.i64 (pl (n + 1) x), Value.slice s (ks (n + 1) x).length c] 24)).cell? ⟨W.heap.size, 1, none⟩ = some (.string (bsA (tx (n + 1) x))) := by go_simp
    have b2 : (W.alloc (Obj.cells #[Value.int IntKind.i64 (kd (n + 1) x), Value.string (bsA (tx (n + 1) x)), Value.int IntKind.i64 (nu (n + 1) x), Value.int IntKind.i64 (pl (n + 1) x), Value.slice s (ks (n + 1) x).length c] 24)).cell? ⟨W.heap.size, 2, none⟩ = some (.int .i64 (nu (n + 1) x)) := by go_simp
    have b3 : (W.alloc (Obj.cells #[Value.int IntKind.i64 (kd (n + 1) x), Value.string (bsA (tx (n + 1) x)), Value.int IntKind.i64 (nu (n + 1) x), Value.int IntKind.i64 (pl (n + 1) x), Value.slice s (ks (n + 1) x).length c] 24)).cell? ⟨W.heap.size, 3, none⟩ = some (.int .i64 (pl (n + 1) x)) := by go_simp
    have b4 : (W.alloc (Obj.cells #[Value.int IntKind.i64 (kd (n + 1) x), Value.string (bsA (tx (n + 1) x)), Value.int IntKind.i64 (nu (n + 1) x), Value.int IntKind.i64 (pl (n + 1) x), Value.slice s (ks (n + 1) x).length c] 24)).cell? ⟨W.heap.size, 4, none⟩ = some (.slice s (ks (n + 1) x).length c) := by go_simp
    have hK1 : Kn w (W.alloc (Obj.cells #[Value.int IntKind.i64 (kd (n + 1) x), Value.string (bsA (tx (n + 1) x)), Value.int IntKind.i64 (nu (n + 1) x), Value.int IntKind.i64 (pl (n + 1) x), Value.slice s (ks (n + 1) x).length c] 24)) := kk.kn _ _ hB hA1 hK
    obtain ⟨fn, tmps, assign, body, hy, hR⟩ := hYx
    unfold ndV
    have HX : Hid _ := hx
    have HKK : Hid _ := hK1
    have HIH : Hid _ := ih
    have HJJ : Hid _ := hJ
    have HV : Hid _ := hV
    have HA : Hid _ := hA
    have HLL : Hid _ := hL
    have HWX : Hid _ := hwx
    clear hx hK1 hK ih hJ hY hV hA hL hwx e0 hx0
    refine callsIn_of_wp Tryz.func82 rfl h82 ?_ hro
    simp only [Tryz.ntmps82, List.size_toArray, List.length_cons, List.length_nil, Nat.reduceAdd, Nat.reduceSub, Array.replicate_succ, Array.replicate_zero, List.push_toArray, List.append_toArray, List.nil_append, List.cons_append]
    gi_wp2
    refine hR.mono ?_
    clear hR
    rintro e W3 (⟨rfl, hJ3, hk3⟩ | ⟨rfl, hx3⟩)
    rotate_left
    · gi_wp2
      go_ret
      exact .inr ⟨rfl, _, hx3⟩
    have b0 := kk.p3 _ _ _ hk3 hP1 _ _ b0
    have b1 := kk.p3 _ _ _ hk3 hP1 _ _ b1
    have b2 := kk.p3 _ _ _ hk3 hP1 _ _ b2
    have b3 := kk.p3 _ _ _ hk3 hP1 _ _ b3
    have b4 := kk.p3 _ _ _ hk3 hP1 _ _ b4
    have hB3 : Iv W3 := kk.i2 _ _ hk3 hB1
    have hA4 : Kp W3 (W3.alloc (Obj.cells #[Value.int IntKind.i64 (kd (n + 1) x), Value.string (bsA (tx (n + 1) x)), Value.int IntKind.i64 (nu (n + 1) x), Value.int IntKind.i64 (pl (n + 1) x), Value.slice s (ks (n + 1) x).length c] 24)) := kk.al _ _ hB3
    have b4' := cell_below ((Below.refl _ W3).alloc (Nat.le_refl _) (Obj.cells #[Value.int IntKind.i64 (kd (n + 1) x), Value.string (bsA (tx (n + 1) x)), Value.int IntKind.i64 (nu (n + 1) x), Value.int IntKind.i64 (pl (n + 1) x), Value.slice s (ks (n + 1) x).length c] 24)) b4
    have HK4 : Hid (Kn w (W3.alloc (Obj.cells #[Value.int IntKind.i64 (kd (n + 1) x), Value.string (bsA (tx (n + 1) x)), Value.int IntKind.i64 (nu (n + 1) x), Value.int IntKind.i64 (pl (n + 1) x), Value.slice s (ks (n + 1) x).length c] 24))) := kk.kn _ _ hB3 hA4 (kk.kn _ _ hB1 hk3 HKK.out)
    have HJ4 : Hid (J (pre ++ [x0]) (W3.alloc (Obj.cells #[Value.int IntKind.i64 (kd (n + 1) x), Value.string (bsA (tx (n + 1) x)), Value.int IntKind.i64 (nu (n + 1) x), Value.int IntKind.i64 (pl (n + 1) x), Value.slice s (ks (n + 1) x).length c] 24))) := HJJ.out _ _ _ hJ3
    have HC4 : Hid (Kp W (W3.alloc (Obj.cells #[Value.int IntKind.i64 (kd (n + 1) x), Value.string (bsA (tx (n + 1) x)), Value.int IntKind.i64 (nu (n + 1) x), Value.int IntKind.i64 (pl (n + 1) x), Value.slice s (ks (n + 1) x).length c] 24))) := kk.tr _ _ _ (kk.tr _ _ _ hA1 hk3) hA4
    have HB4 : Hid (Iv (W3.alloc (Obj.cells #[Value.int IntKind.i64 (kd (n + 1) x), Value.string (bsA (tx (n + 1) x)), Value.int IntKind.i64 (nu (n + 1) x), Value.int IntKind.i64 (pl (n + 1) x), Value.slice s (ks (n + 1) x).length c] 24))) := kk.i1 _ _ hB3
    have HKE : Hid _ := kk
    clear hJ3 hk3 hA1 HKK hB3 hB1 hP1 hB kk
    by_cases hk14 : kd (n + 1) x = 14
    · have hen : (fun k => !decide (k = 14)) (kd (n + 1) x) = false := by simp [hk14]
      have HK14 : Hid _ := hk14
      have HEN : Hid _ := hen
      clear hk14 hen
      gi_wp2_with ((try refine ⟨hdd _, ?_⟩); gi_at_call 36; refine (enter36_no F _ hfe hro _ HK14.out _ _ _ _ _).mono ?_; rintro e W4 ⟨rfl, rfl⟩)
      go_ret
      exact .inl ⟨rfl, [x0], by rw [List.map_cons, HP0.out, flat_stop (fun k => !decide (k = 14)) n M L x d HEN.out]; rfl, HJ4.out, HC4.out⟩
    · have hen : (fun k => !decide (k = 14)) (kd (n + 1) x) = true := by simp [hk14]
      have HK14 : Hid _ := hk14
      have HEN : Hid _ := hen
      clear hk14 hen
      gi_wp2_with ((try refine ⟨hdd _, ?_⟩); gi_at_call 36; refine (enter36_yes F _ hfe hro _ HK14.out _ _ _ _ _).mono ?_; rintro e W4 ⟨rfl, rfl⟩)
      clear b0 b1 b2 b3 b4 hA4
      generalize W3.alloc (Obj.cells #[Value.int IntKind.i64 (kd (n + 1) x), Value.string (bsA (tx (n + 1) x)), Value.int IntKind.i64 (nu (n + 1) x), Value.int IntKind.i64 (pl (n + 1) x), Value.slice s (ks (n + 1) x).length c] 24) = W4 at *
      gi_loopw [23] (fun i wr => ∃ (k : Nat) (q : List (Nod w M)), k ≤ (ks (n + 1) x).length ∧ i = .int .i64 k ∧ q.map ndP = ((ks (n + 1) x).take k).flatMap (fun y => (flat (fun k => !decide (k = 14)) n y (d + 1)).map (lift (fun z => L (up n z)))) ∧ J (pre ++ x0 :: q) wr ∧ Kp W4 wr) (fun i _ => (ks (n + 1) x).length - (intOf i).toNat)
      case atStart => exact ⟨0, [], Nat.zero_le _, rfl, rfl, HJ4.out, HKE.out.rf _⟩
      case round =>
        obtain ⟨k, q, hk, rfl, hq, hJq, hKq⟩ := hrel
        have HQ : Hid _ := hq
        have HJq : Hid _ := hJq
        have HKq : Hid _ := hKq
        have HKr : Hid (Kn w wr) := HKE.out.kn _ _ HB4.out hKq HK4.out
        have HBr : Hid (Iv wr) := HKE.out.i2 _ _ hKq HB4.out
        clear hq hJq hKq
        rcases Nat.lt_or_ge k (ks (n + 1) x).length with hlt | hge
        · have gc : (ks (n + 1) x)[k]? = some (ks (n + 1) x)[k] := List.getElem?_eq_getElem hlt
          obtain ⟨hlen, h0 | ⟨b, off, hs, hc⟩⟩ := HX.out
          · rw [h0] at hlt; exact absurd hlt (Nat.not_lt_zero _)
          obtain ⟨s', c', ⟨c0, c1, c2, c3, c4⟩, hp⟩ := hc k _ gc
          subst hs
          have c0 := HKr.out _ _ _ c0
          have c1 := HKr.out _ _ _ c1
          have c2 := HKr.out _ _ _ c2
          have c3 := HKr.out _ _ _ c3
          have c4 := HKr.out _ _ _ c4
          have HP : Hid _ := hp
          have HFS : Hid _ := fm_snoc (fun y => (flat (fun k => !decide (k = 14)) n y (d + 1)).map (lift (fun z => L (up n z)))) gc
          have hle := fm_le (fun y => (flat (fun k => !decide (k = 14)) n y (d + 1)).map (lift (fun z => L (up n z)))) gc
          have hfl := flat_len (fun k => !decide (k = 14)) n x d HEN.out
          rw [← HQ.out, List.length_map, List.length_map, fm_len] at hle
          clear hc hp gc
          have hIH := HIH.out (fun z => L (up n z)) (fun y s c => (HV.out _ _ _).trans (ndV_up n y s c)) (fun y s h => HA.out _ _ (ndAt_up n y s h)) (fun y h => HLL.out _ (wid_up n y h)) (m - 1) (ks (n + 1) x)[k] (d + 1) s' c' (pre ++ x0 :: q) (wr.alloc (Obj.cells #[Value.int IntKind.i64 (kd n (ks (n + 1) x)[k]), Value.string (bsA (tx n (ks (n + 1) x)[k])), Value.int IntKind.i64 (nu n (ks (n + 1) x)[k]), Value.int IntKind.i64 (pl n (ks (n + 1) x)[k]), Value.slice s' (ks n (ks (n + 1) x)[k]).length c'] 24)) HP.out (HWX.out.2 _ (List.getElem_mem hlt)) (HKE.out.kn _ _ HBr.out (HKE.out.al _ _ HBr.out) HKr.out) (HKE.out.i1 _ _ HBr.out) (HJJ.out _ _ _ HJq.out) (by rw [List.length_append, List.length_cons]; omega) (by omega) (by omega)
          clear hle hfl HP
          generalize (ks (n + 1) x)[k] = y at *
          unfold ndV at hIH
          gi_wp2_with ((try refine ⟨hdd _, ?_⟩); gi_at_call 82; refine hIH.mono ?_; clear hIH; rintro e W5 (⟨rfl, q2, hq2, hJ5, hk5⟩ | ⟨rfl, q2, hx5⟩))
          · go_roundw
            case rel => exact ⟨k + 1, q ++ q2, by omega, by go_num, by rw [List.map_append, HQ.out, hq2, HFS.out], by simpa using hJ5, HKE.out.tr _ _ _ HKq.out (HKE.out.tr _ _ _ (HKE.out.al _ _ HBr.out) hk5)⟩
            case measure => simp [intOf]; omega
          · go_ret
            exact .inr ⟨rfl, _, hx5⟩
        · gi_wp2
          go_ret
          refine .inl ⟨rfl, x0 :: q, ?_, HJq.out, HKE.out.tr _ _ _ HC4.out HKq.out⟩
          rw [List.map_cons, HP0.out, HQ.out, List.take_of_length_le hge, flat_lift (fun k => !decide (k = 14)) n M L x d HEN.out]
end Go.Proofs.YtcemogaacicnfaaGreatDoor
