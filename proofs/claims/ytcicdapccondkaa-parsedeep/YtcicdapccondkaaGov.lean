/- Trees gone over in pre-order (goOver), whatever is done at each. -/
import Derived.Test.YtcicdapccondkaaSam
import Derived.RangeFuncNested
import Derived.RangeFuncBound
import Derived.RangeFuncCalls
import Derived.RangeFuncLeaves
import Derived.Shelf.Abstract
import Derived.Shelf.RegionOpen
import Derived.OwnWalkIn
import Derived.TacticsInMore
import Derived.LoopNIn
import Derived.LoopIn
namespace Go.Proofs.Ytcicdapccondkaa
set_option maxRecDepth 100000
set_option maxHeartbeats 4000000
open Go.ChangeShapes Go.WideShapes Go.ChangeAt Go.RowKit Go.Shelf
attribute [local go_sem] Oper.semAt_some

theorem room_of_none {F : Fence} (hd : F.depth = none) (k : Nat) : F.room k := fun d h => by rw [hd] at h; cases h
theorem roundIn_any {F : Fence} (hd : F.depth = none) {m m' : Nat} {P : Program} {l : Nat} {f : FuncId} {tmps : Array Value} {assign body : Code} {w : World} {R : Ending → World → Prop}
    (h : RoundIn F m P l f tmps assign body w R) : RoundIn F m' P l f tmps assign body w R := ⟨h.1, fun c cs _ => h.2 c cs (room_of_none hd _)⟩
theorem yieldAt_any {F : Fence} (hd : F.depth = none) {m : Nat} (m' : Nat) {P : Program} {l : Nat} {args : Array Value} {W : World} {R : Ending → World → Prop} (h : YieldAt F m P l args W R) : YieldAt F m' P l args W R := by
  obtain ⟨fn, tmps, assign, body, hy, hR⟩ := h
  exact ⟨fn, tmps, assign, body, hy, roundIn_any hd hR⟩
/-- What a round keeps: cells, but those from n₀ on to B. -/
def Kc (n₀ B : Nat) (W W' : World) : Prop := W.heap.size ≤ W'.heap.size ∧ ∀ b o, (b < n₀ ∨ B ≤ b) → W.heap[b]? = some o → o.isCells = true → W'.heap[b]? = some o
theorem Kc.refl (n₀ B : Nat) (W : World) : Kc n₀ B W W := ⟨Nat.le_refl _, fun _ _ _ h _ => h⟩
theorem Kc.trans {n₀ B : Nat} {X Y Z : World} (h : Kc n₀ B X Y) (k : Kc n₀ B Y Z) : Kc n₀ B X Z := ⟨Nat.le_trans h.1 k.1, fun b o hb ho hc => k.2 b o hb (h.2 b o hb ho hc) hc⟩
theorem Kc.of_below {n₀ B : Nat} {W W' : World} (h : Below W.heap.size W W') : Kc n₀ B W W' := ⟨h.size, fun b _ _ ho _ => (h.block b (heap_lt ho)).trans ho⟩
theorem Kc.alloc (n₀ B : Nat) (W : World) (o : Obj) : Kc n₀ B W (W.alloc o) := Kc.of_below ((Below.refl _ _).alloc (Nat.le_refl _) o)
theorem cell_block {W : World} {b o : Nat} {v : Value} (h : W.cell? ⟨b, o, none⟩ = some v) : ∃ x : Obj, W.heap[b]? = some x ∧ x.isCells = true := by
  unfold World.cell? at h
  cases hb : W.heap[b]? with
  | none => simp [hb] at h
  | some x =>
    refine ⟨x, rfl, ?_⟩
    cases x <;> simp_all [Obj.isCells]
theorem cell_same {W W' : World} {b o : Nat} {v : Value} (h : W.cell? ⟨b, o, none⟩ = some v) (e : W'.heap[b]? = W.heap[b]?) : W'.cell? ⟨b, o, none⟩ = some v := by
  rw [← h]
  unfold World.cell?
  simp only [e]
theorem Kc.cell {n₀ B : Nat} {W W' : World} (h : Kc n₀ B W W') {b o : Nat} {v : Value} (hb : b < n₀ ∨ B ≤ b) (hc : W.cell? ⟨b, o, none⟩ = some v) : W'.cell? ⟨b, o, none⟩ = some v := by
  obtain ⟨x, hx, hi⟩ := cell_block hc
  exact cell_same hc ((h.2 b x hb hx hi).trans hx.symm)
/-- All cells of the one are in the other. -/
def Kn (w W : World) : Prop := ∀ b o v, w.cell? ⟨b, o, none⟩ = some v → W.cell? ⟨b, o, none⟩ = some v
theorem Kn.step {w W W' : World} {B : Nat} (h : Kn w W) (k : Kc w.heap.size B W W') : Kn w W' := fun b o v hv => by
  obtain ⟨x, hx, _⟩ := cell_block hv
  exact k.cell (Or.inl (heap_lt hx)) (h b o v hv)
theorem Kn.of_below {w W : World} (h : Below w.heap.size w W) : Kn w W := fun _ _ _ hv => cell_below h hv
theorem KsL.keep {n : Nat} {w w' : World} {sl : Option Addr} {l : List (Tr n)} {p q : Tr n → Option Addr → Prop} (h : KsL n w sl l p) (hk : Kn w w') (hpq : ∀ y s, p y s → q y s) : KsL n w' sl l q := by
  obtain ⟨hl, h⟩ := h
  refine ⟨hl, ?_⟩
  rcases h with h | ⟨b, off, e, hc⟩
  · exact Or.inl h
  · refine Or.inr ⟨b, off, e, fun i y hi => ?_⟩
    obtain ⟨s, c, ⟨c0, c1, c2, c3, c4⟩, hp⟩ := hc i y hi
    exact ⟨s, c, ⟨hk _ _ _ c0, hk _ _ _ c1, hk _ _ _ c2, hk _ _ _ c3, hk _ _ _ c4⟩, hpq y s hp⟩
theorem NdAt.keep {w w' : World} (hk : Kn w w') : ∀ {n : Nat} {x : Tr n} {sl : Option Addr}, NdAt w n x sl → NdAt w' n x sl
  | 0, _, _, h => h
  | n + 1, _, _, h => KsL.keep (p := NdAt w n) (q := NdAt w' n) h hk (fun _ _ h => NdAt.keep hk h)
/-- What goes over trees asks of what is done at each: Iv: what holds of memory in between; Pr: blocks that stay; Kp: what a round keeps. -/
structure Keep (w : World) (Iv : World → Prop) (Pr : World → Nat → Prop) (Kp : World → World → Prop) : Prop where
  rf : ∀ W, Kp W W
  tr : ∀ X Y Z, Kp X Y → Kp Y Z → Kp X Z
  al : ∀ W o, Iv W → Kp W (W.alloc o)
  i1 : ∀ W o, Iv W → Iv (W.alloc o)
  i2 : ∀ W W', Kp W W' → Iv W → Iv W'
  p1 : ∀ W o, Iv W → Pr (W.alloc o) W.heap.size
  p3 : ∀ W W' b, Kp W W' → Pr W b → ∀ o v, W.cell? ⟨b, o, none⟩ = some v → W'.cell? ⟨b, o, none⟩ = some v
  kn : ∀ W W', Iv W → Kp W W' → Kn w W → Kn w W'
theorem Kc.keep (w : World) (B : Nat) : Keep w (fun W => B ≤ W.heap.size) (fun _ b => B ≤ b) (Kc w.heap.size B) where
  rf := fun _ => Kc.refl _ _ _
  tr := fun _ _ _ h k => h.trans k
  al := fun _ _ _ => Kc.alloc _ _ _ _
  i1 := fun _ _ h => Nat.le_trans h (by simp)
  i2 := fun _ _ k h => Nat.le_trans h k.1
  p1 := fun _ _ h => h
  p3 := fun _ _ _ k h _ _ hc => k.cell (Or.inr h) hc
  kn := fun _ _ _ k h => Kn.step h k
theorem kd_up (n : Nat) (x : Tr (n + 1)) : kd (n + 2) (up (n + 1) x) = kd (n + 1) x := rfl
theorem ndV_up : ∀ (n : Nat) (x : Tr n) (s : Option Addr) (c : Nat), ndV (n + 1) (up n x) s c = ndV n x s c
  | 0, x, _, _ => Empty.elim x
  | n + 1, x, s, c => by
    have e : (ks (n + 2) (up (n + 1) x)).length = (ks (n + 1) x).length := List.length_map (up n)
    show Value.agg #[_, _, _, _, .slice s (ks (n + 2) (up (n + 1) x)).length c] = Value.agg #[_, _, _, _, .slice s (ks (n + 1) x).length c]
    rw [e]
    rfl
theorem ndAt_up {w : World} : ∀ (n : Nat) (x : Tr n) (s : Option Addr), NdAt w n x s → NdAt w (n + 1) (up n x) s
  | 0, _, _, h => h.elim
  | n + 1, x, s, h => by
    obtain ⟨hl, h⟩ := h
    have e : (ks (n + 2) (up (n + 1) x)) = (ks (n + 1) x).map (up n) := rfl
    refine ⟨by rw [e, List.length_map]; exact hl, ?_⟩
    rcases h with h | ⟨b, off, hs, hc⟩
    · exact Or.inl (by rw [e, h]; rfl)
    · refine Or.inr ⟨b, off, hs, fun i z hi => ?_⟩
      rw [e, List.getElem?_map] at hi
      obtain ⟨y, hy, rfl⟩ := Option.map_eq_some_iff.1 hi
      obtain ⟨s', c', hcs, hp⟩ := hc i y hy
      have hv := ndV_up n y s' c'
      unfold ndV at hv
      simp only [Value.agg.injEq, Array.mk.injEq, List.cons.injEq, Value.int.injEq, Value.string.injEq, Value.slice.injEq, true_and, and_true] at hv
      obtain ⟨v0, v1, v2, v3, v4⟩ := hv
      refine ⟨s', c', ?_, ndAt_up n y s' hp⟩
      rw [v0, v1, v2, v3, v4]
      exact hcs
theorem wid_up : ∀ (n : Nat) (x : Tr n), Wid n x → Wid (n + 1) (up n x)
  | 0, x, _ => Empty.elim x
  | n + 1, x, h => by
    obtain ⟨h1, h2⟩ := h
    have e : (ks (n + 2) (up (n + 1) x)) = (ks (n + 1) x).map (up n) := rfl
    refine ⟨by rw [e, List.length_map]; exact h1, fun y hy => ?_⟩
    rw [e] at hy
    obtain ⟨z, hz, rfl⟩ := List.mem_map.1 hy
    exact wid_up n z (h2 z hz)
/-- A tree and what stands in it, in pre-order, each with its depth; what en refuses is not gone into. -/
def flat (en : Int → Bool) : (n : Nat) → Tr n → Int → List (Tr n × Int)
  | 0, _, _ => []
  | n + 1, x, d => (x, d) :: (if en (kd (n + 1) x) then (ks (n + 1) x).flatMap (fun y => (flat en n y (d + 1)).map fun p => (up n p.1, p.2)) else [])
def lift {n M : Nat} (L : Tr n → Tr M) (p : Tr n × Int) : Tr M × Int := (L p.1, p.2)
theorem flat_lift (en : Int → Bool) (n M : Nat) (L : Tr (n + 1) → Tr M) (x : Tr (n + 1)) (d : Int) (h : en (kd (n + 1) x) = true) :
    (flat en (n + 1) x d).map (lift L) = (L x, d) :: (ks (n + 1) x).flatMap (fun y => (flat en n y (d + 1)).map (lift (fun z => L (up n z)))) := by
  rw [flat, if_pos h]
  simp only [List.map_cons, List.map_flatMap, List.map_map]
  rfl
theorem flat_stop (en : Int → Bool) (n M : Nat) (L : Tr (n + 1) → Tr M) (x : Tr (n + 1)) (d : Int) (h : en (kd (n + 1) x) = false) : (flat en (n + 1) x d).map (lift L) = [(L x, d)] := by
  rw [flat, h]
  rfl
theorem flat_len (en : Int → Bool) (n : Nat) (x : Tr (n + 1)) (d : Int) (h : en (kd (n + 1) x) = true) : (flat en (n + 1) x d).length = 1 + ((ks (n + 1) x).flatMap (fun y => flat en n y (d + 1))).length := by
  have e := congrArg List.length (flat_lift en n (n + 1) (fun z => z) x d h)
  rw [List.length_map, List.length_cons] at e
  rw [e, Nat.add_comm]
  congr 1
  rw [List.length_flatMap, List.length_flatMap]
  congr 1
  refine List.map_congr_left fun y _ => ?_
  rw [List.length_map]
theorem fm_snoc {α β : Type} (f : α → List β) {l : List α} {k : Nat} {y : α} (h : l[k]? = some y) : (l.take (k + 1)).flatMap f = (l.take k).flatMap f ++ f y := by
  rw [List.take_add_one, h, List.flatMap_append]
  simp
theorem fm_le {α β : Type} (f : α → List β) {l : List α} {k : Nat} {y : α} (h : l[k]? = some y) : ((l.take k).flatMap f).length + (f y).length ≤ (l.flatMap f).length := by
  have e : l.flatMap f = (l.take (k + 1)).flatMap f ++ (l.drop (k + 1)).flatMap f := by rw [← List.flatMap_append, List.take_append_drop]
  rw [e, fm_snoc f h, List.length_append, List.length_append]
  omega
theorem fm_len {α β γ : Type} (f : α → List β) (g : α → β → γ) (l : List α) : (l.flatMap fun y => (f y).map (g y)).length = (l.flatMap f).length := by
  rw [List.length_flatMap, List.length_flatMap]
  congr 1
  refine List.map_congr_left fun y _ => ?_
  rw [List.length_map]
/-- What is handed on: a tree of the memory, its depth. -/
abbrev Nod (w : World) (M : Nat) : Type := { p : Tr M × Int × Option Addr × Nat // NdAt w M p.1 p.2.2.1 ∧ Wid M p.1 }
def ndE {w : World} {M : Nat} (p : Nod w M) : Array Value := #[ndV M p.1.1 p.1.2.2.1 p.1.2.2.2, .int .i64 p.1.2.1]
def ndP {w : World} {M : Nat} (p : Nod w M) : Tr M × Int := (p.1.1, p.1.2.1)
end Go.Proofs.Ytcicdapccondkaa
