/- Gov, Cln, Rdx, Rdz. -/
import Derived.Test.YtgdndahhledikaaGreatDoorK00
import Derived.RangeFuncNested
import Derived.RangeFuncBound
import Derived.RangeFuncCalls
import Derived.RangeFuncLeaves
import Derived.Shelf.Abstract
import Derived.Shelf.RegionOpen
import Derived.OwnWalkIn
import Derived.TacticsInMore
import Derived.LoopNIn
import Derived.LoopIn
import Derived.Laws.AppendOwn
import Derived.Laws.OwnMore
import Derived.OwnWalk
import Derived.Lib.LazyBuf
namespace Go.Proofs.YtgdndahhledikaaGreatDoor
set_option maxRecDepth 100000
set_option maxHeartbeats 4000000
open Go.ChangeShapes Go.WideShapes Go.ChangeAt Go.RowKit Go.Shelf
attribute [local go_sem] Oper.semAt_some
def Kc (n₀ B : Nat) (W W' : World) : Prop := W.heap.size ≤ W'.heap.size ∧ ∀ b o, (b < n₀ ∨ B ≤ b) → W.heap[b]? = some o → o.isCells = true → W'.heap[b]? = some o
theorem Kc.refl (n₀ B : Nat) (W : World) : Kc n₀ B W W := ⟨Nat.le_refl _, fun _ _ _ h _ => h⟩
theorem Kc.trans {n₀ B : Nat} {X Y Z : World} (h : Kc n₀ B X Y) (k : Kc n₀ B Y Z) : Kc n₀ B X Z := ⟨Nat.le_trans h.1 k.1, fun b o hb ho hc => k.2 b o hb (h.2 b o hb ho hc) hc⟩
theorem Kc.of_below {n₀ B : Nat} {W W' : World} (h : Below W.heap.size W W') : Kc n₀ B W W' := ⟨h.size, fun b _ _ ho _ => (h.block b (heap_lt ho)).trans ho⟩
theorem Kc.alloc (n₀ B : Nat) (W : World) (o : Obj) : Kc n₀ B W (W.alloc o) := Kc.of_below ((Below.refl _ _).alloc (Nat.le_refl _) o)
theorem cell_block {W : World} {b o : Nat} {v : Value} (h : W.cell? ⟨b, o, none⟩ = some v) : ∃ x : Obj, W.heap[b]? = some x ∧ x.isCells = true := by
 unfold World.cell? at h
 cases hb : W.heap[b]? with
 | none => simp [hb] at h
 | some x =>
  refine ⟨x, rfl, ?_⟩
  cases x <;> simp_all [Obj.isCells]
theorem cell_same {W W' : World} {b o : Nat} {v : Value} (h : W.cell? ⟨b, o, none⟩ = some v) (e : W'.heap[b]? = W.heap[b]?) : W'.cell? ⟨b, o, none⟩ = some v := by
 rw [← h]
 unfold World.cell?
 simp only [e]
theorem Kc.cell {n₀ B : Nat} {W W' : World} (h : Kc n₀ B W W') {b o : Nat} {v : Value} (hb : b < n₀ ∨ B ≤ b) (hc : W.cell? ⟨b, o, none⟩ = some v) : W'.cell? ⟨b, o, none⟩ = some v := by
 obtain ⟨x, hx, hi⟩ := cell_block hc
 exact cell_same hc ((h.2 b x hb hx hi).trans hx.symm)
def Kn (w W : World) : Prop := ∀ b o v, w.cell? ⟨b, o, none⟩ = some v → W.cell? ⟨b, o, none⟩ = some v
theorem Kn.step {w W W' : World} {B : Nat} (h : Kn w W) (k : Kc w.heap.size B W W') : Kn w W' := fun b o v hv => by
 obtain ⟨x, hx, _⟩ := cell_block hv
 exact k.cell (Or.inl (heap_lt hx)) (h b o v hv)
theorem Kn.of_below {w W : World} (h : Below w.heap.size w W) : Kn w W := fun _ _ _ hv => cell_below h hv
theorem KsL.keep {n : Nat} {w w' : World} {sl : Option Addr} {l : List (Tr n)} {p q : Tr n → Option Addr → Prop} (h : KsL n w sl l p) (hk : Kn w w') (hpq : ∀ y s, p y s → q y s) : KsL n w' sl l q := by
 obtain ⟨hl, h⟩ := h
 refine ⟨hl, ?_⟩
 rcases h with h | ⟨b, off, e, hc⟩
 · exact Or.inl h
 ·
  refine Or.inr ⟨b, off, e, fun i y hi => ?_⟩
  obtain ⟨s, c, ⟨c0, c1, c2, c3, c4⟩, hp⟩ := hc i y hi
  exact ⟨s, c, ⟨hk _ _ _ c0, hk _ _ _ c1, hk _ _ _ c2, hk _ _ _ c3, hk _ _ _ c4⟩, hpq y s hp⟩
theorem NdAt.keep {w w' : World} (hk : Kn w w') : ∀ {n : Nat} {x : Tr n} {sl : Option Addr}, NdAt w n x sl → NdAt w' n x sl
 | 0, _, _, h => h
 | n + 1, _, _, h => KsL.keep (p := NdAt w n) (q := NdAt w' n) h hk (fun _ _ h => NdAt.keep hk h)
structure Keep (w : World) (Iv : World → Prop) (Pr : World → Nat → Prop) (Kp : World → World → Prop) : Prop where
 rf : ∀ W, Kp W W
 tr : ∀ X Y Z, Kp X Y → Kp Y Z → Kp X Z
 al : ∀ W o, Iv W → Kp W (W.alloc o)
 i1 : ∀ W o, Iv W → Iv (W.alloc o)
 i2 : ∀ W W', Kp W W' → Iv W → Iv W'
 p1 : ∀ W o, Iv W → Pr (W.alloc o) W.heap.size
 p3 : ∀ W W' b, Kp W W' → Pr W b → ∀ o v, W.cell? ⟨b, o, none⟩ = some v → W'.cell? ⟨b, o, none⟩ = some v
 kn : ∀ W W', Iv W → Kp W W' → Kn w W → Kn w W'
theorem Kc.keep (w : World) (B : Nat) : Keep w (fun W => B ≤ W.heap.size) (fun _ b => B ≤ b) (Kc w.heap.size B) where
 rf := fun _ => Kc.refl _ _ _
 tr := fun _ _ _ h k => h.trans k
 al := fun _ _ _ => Kc.alloc _ _ _ _
 i1 := fun _ _ h => Nat.le_trans h (by simp)
 i2 := fun _ _ k h => Nat.le_trans h k.1
 p1 := fun _ _ h => h
 p3 := fun _ _ _ k h _ _ hc => k.cell (Or.inr h) hc
 kn := fun _ _ _ k h => Kn.step h k
end Go.Proofs.YtgdndahhledikaaGreatDoor
namespace Go.Proofs.YtgdndahhledikaaGreatDoor
open Go.ChangeShapes Go.WideShapes Go.ChangeAt Go.RowKit
def NdF (lo : Nat) (w : World) : (n : Nat) → Tr n → Option Addr → Prop
 | 0, _, _ => False
 | n + 1, x, sl => (ks (n + 1) x).length ≤ 9223372036854775807 ∧ (ks (n + 1) x = [] ∨ ∃ b off, sl = some ⟨b, off, none⟩ ∧ (lo ≤ b ∧ off = 0 ∧ ∀ j, w.frozen? ⟨b, j, none⟩ = false) ∧ ∀ i (y : Tr n), (ks (n + 1) x)[i]? = some y → ∃ s c, (w.cell? ⟨b, off + i * 5, none⟩ = some (.int .i64 (kd n y)) ∧ w.cell? ⟨b, off + i * 5 + 1, none⟩ = some (.string (bsA (tx n y))) ∧ w.cell? ⟨b, off + i * 5 + 2, none⟩ = some (.int .i64 (nu n y)) ∧ w.cell? ⟨b, off + i * 5 + 3, none⟩ = some (.int .i64 (pl n y)) ∧ w.cell? ⟨b, off + i * 5 + 4, none⟩ = some (.slice s (ks n y).length c)) ∧ NdF lo w n y s)
theorem NdF.at {lo : Nat} {w : World} : ∀ {n : Nat} {x : Tr n} {sl : Option Addr}, NdF lo w n x sl → NdAt w n x sl
 | 0, _, _, h => h
 | n + 1, x, sl, h => by
  obtain ⟨hl, h⟩ := h
  refine ⟨hl, ?_⟩
  rcases h with h | ⟨b, off, e, _, hc⟩
  · exact Or.inl h
  ·
   refine Or.inr ⟨b, off, e, fun i y hi => ?_⟩
   obtain ⟨s, c, hcs, hp⟩ := hc i y hi
   exact ⟨s, c, hcs, NdF.at hp⟩
theorem NdF.keep {lo lo' : Nat} {w w' : World} (hlo : lo' ≤ lo) (hk : ∀ b, lo ≤ b → b < w.heap.size → w'.heap[b]? = w.heap[b]?) : ∀ {n : Nat} {x : Tr n} {sl : Option Addr}, NdF lo w n x sl → NdF lo' w' n x sl
 | 0, _, _, h => h
 | n + 1, x, sl, h => by
  obtain ⟨hl, h⟩ := h
  refine ⟨hl, ?_⟩
  rcases h with h | ⟨b, off, e, hb, hc⟩
  · exact Or.inl h
  ·
   cases hks : ks (n + 1) x with
   | nil => exact Or.inl rfl
   | cons y0 r =>
    have hlt : b < w.heap.size := by
     obtain ⟨s, c, ⟨c0, _⟩, _⟩ := hc 0 y0 (by rw [hks]; rfl)
     exact cell_lt c0
    have e' := hk b hb.1 hlt
    rw [← hks]
    refine Or.inr ⟨b, off, e, ⟨by omega, hb.2.1, fun j => (World.frozen?_of_block (a := ⟨b, j, none⟩) e').trans (hb.2.2 j)⟩, fun i y hi => ?_⟩
    obtain ⟨s, c, ⟨c0, c1, c2, c3, c4⟩, hp⟩ := hc i y hi
    exact ⟨s, c, ⟨cell_same c0 e', cell_same c1 e', cell_same c2 e', cell_same c3 e', cell_same c4 e'⟩, NdF.keep hlo hk hp⟩
theorem NdF.below {lo : Nat} {w w' : World} (hb : Below w.heap.size w w') {n : Nat} {x : Tr n} {sl : Option Addr} (h : NdF lo w n x sl) : NdF lo w' n x sl := NdF.keep (Nat.le_refl _) (fun b _ h => hb.block b h) h
def Row (w : World) (g n : Nat) (l : List (Tr n)) (p : Nat → Tr n → Option Addr → Prop) : Prop := ∀ i y, l[i]? = some y → ∃ s c, (w.cell? ⟨g, i * 5, none⟩ = some (.int .i64 (kd n y)) ∧ w.cell? ⟨g, i * 5 + 1, none⟩ = some (.string (bsA (tx n y))) ∧ w.cell? ⟨g, i * 5 + 2, none⟩ = some (.int .i64 (nu n y)) ∧ w.cell? ⟨g, i * 5 + 3, none⟩ = some (.int .i64 (pl n y)) ∧ w.cell? ⟨g, i * 5 + 4, none⟩ = some (.slice s (ks n y).length c)) ∧ p i y s
end Go.Proofs.YtgdndahhledikaaGreatDoor
namespace Go.Proofs.YtgdndahhledikaaGreatDoor
open Go.ChangeShapes Go.WideShapes Go.ChangeAt Go.RowKit
set_option linter.unusedSimpArgs false
set_option maxRecDepth 20000
set_option maxHeartbeats 4000000
structure Fx (rb : Nat) (w w' : World) : Prop where
 b0 : Below 0 w w'
 blk : ∀ b, b < w.heap.size → b ≠ rb → w'.heap[b]? = w.heap[b]?
theorem Fx.below {rb : Nat} {w w' : World} (h : Below w.heap.size w w') : Fx rb w w' := ⟨h.mono (Nat.zero_le _), fun b hb _ => h.block b hb⟩
theorem Fx.refl {rb : Nat} (w : World) : Fx rb w w := Fx.below (Below.refl _ _)
theorem Fx.trans {rb : Nat} {a b c : World} (h : Fx rb a b) (k : Fx rb b c) : Fx rb a c :=
 ⟨h.b0.trans k.b0, fun x hx hn => (k.blk x (Nat.lt_of_lt_of_le hx h.b0.size) hn).trans (h.blk x hx hn)⟩
theorem Fx.size {rb : Nat} {w w' : World} (h : Fx rb w w') : w.heap.size ≤ w'.heap.size := h.b0.size
theorem Fx.set {rb : Nat} (w : World) (j : Nat) (v : Value) : Fx rb w (w.setCell ⟨rb, j, none⟩ v) :=
 ⟨(Below.refl _ _).setCell (p := ⟨rb, j, none⟩) (Nat.zero_le _) v, fun _ _ hn => Below.heap_setCell _ _ _ _ hn⟩
theorem Fx.cell {rb : Nat} {w w' : World} (h : Fx rb w w') {b o : Nat} {v : Value} (hb : b ≠ rb) (hc : w.cell? ⟨b, o, none⟩ = some v) : w'.cell? ⟨b, o, none⟩ = some v := cell_same hc (h.blk b (cell_lt hc) hb)
def ttV (t : Tt) : Value := .agg #[.int .i64 t.1.1, .string (bsA t.1.2.1), .int .i64 t.1.2.2, .int .i64 t.2]
def tkE : Tt := ((0, [], 0), 0)
def tkI (T : List Tt) (i : Nat) : Tt := (T[i]?).getD tkE
structure Rdr (w : World) (rb : Nat) (ta : Option Addr) (cap : Nat) (T : List Tt) (i op : Nat) : Prop where
 c0 : w.cell? ⟨rb, 0, none⟩ = some (.slice ta T.length cap)
 c1 : w.cell? ⟨rb, 1, none⟩ = some (.int .i64 i)
 c2 : w.cell? ⟨rb, 2, none⟩ = some (.int .i64 op)
 f1 : w.frozen? ⟨rb, 1, none⟩ = false
 f2 : w.frozen? ⟨rb, 2, none⟩ = false
 toks : TksAt w ta T
 apart : ∀ b o, ta = some ⟨b, o, none⟩ → b < rb
 len : T.length ≤ 1000000000
 le : i ≤ T.length
theorem Rdr.below {w w' : World} {rb : Nat} {ta : Option Addr} {cap : Nat} {T : List Tt} {i op : Nat} (h : Rdr w rb ta cap T i op) (hb : Below w.heap.size w w') : Rdr w' rb ta cap T i op where
 c0 := cell_below hb h.c0
 c1 := cell_below hb h.c1
 c2 := cell_below hb h.c2
 f1 := (hb.frozen (p := ⟨rb, 1, none⟩) (cell_lt h.c0)).trans h.f1
 f2 := (hb.frozen (p := ⟨rb, 2, none⟩) (cell_lt h.c0)).trans h.f2
 toks := h.toks.below hb
 apart := h.apart
 len := h.len
 le := h.le
theorem TksAt.fx {w w' : World} {rb : Nat} {a : Option Addr} {r : List Tt} (h : TksAt w a r) (hb : Fx rb w w') (ha : ∀ b o, a = some ⟨b, o, none⟩ → b ≠ rb) : TksAt w' a r := by
 rcases h with h | ⟨b, off, rfl, hc⟩
 · exact Or.inl h
 ·
  have hn := ha b off rfl
  exact Or.inr ⟨b, off, rfl, fun i t hi => ⟨hb.cell hn (hc i t hi).1, hb.cell hn (hc i t hi).2.1, hb.cell hn (hc i t hi).2.2.1, hb.cell hn (hc i t hi).2.2.2⟩⟩
theorem Rdr.at {w : World} {rb : Nat} {ta : Option Addr} {cap : Nat} {T : List Tt} {i op : Nat} (h : Rdr w rb ta cap T i op) (j : Nat) (hj : j ≤ T.length) : Rdr (w.setCell ⟨rb, 1, none⟩ (.int .i64 j)) rb ta cap T j op where
 c0 := by rw [World.cell?_setCell_other _ _ _ _ (by simp)]; exact h.c0
 c1 := World.cell?_setCell_same _ _ _ h.c1
 c2 := by rw [World.cell?_setCell_other _ _ _ _ (by simp)]; exact h.c2
 f1 := by rw [World.frozen?_setCell]; exact h.f1
 f2 := by rw [World.frozen?_setCell]; exact h.f2
 toks := h.toks.fx (Fx.set w 1 _) (fun b o e => Nat.ne_of_lt (h.apart b o e))
 apart := h.apart
 len := h.len
 le := hj
theorem Rdr.op {w : World} {rb : Nat} {ta : Option Addr} {cap : Nat} {T : List Tt} {i op : Nat} (h : Rdr w rb ta cap T i op) (j : Nat) : Rdr (w.setCell ⟨rb, 2, none⟩ (.int .i64 j)) rb ta cap T i j where
 c0 := by rw [World.cell?_setCell_other _ _ _ _ (by simp)]; exact h.c0
 c1 := by rw [World.cell?_setCell_other _ _ _ _ (by simp)]; exact h.c1
 c2 := World.cell?_setCell_same _ _ _ h.c2
 f1 := by rw [World.frozen?_setCell]; exact h.f1
 f2 := by rw [World.frozen?_setCell]; exact h.f2
 toks := h.toks.fx (Fx.set w 2 _) (fun b o e => Nat.ne_of_lt (h.apart b o e))
 apart := h.apart
 len := h.len
 le := h.le
theorem Rdr.far {w : World} {rb : Nat} {ta : Option Addr} {cap : Nat} {T : List Tt} {i op : Nat} (h : Rdr w rb ta cap T i op) (b j : Nat) (v : Value) (hb : rb < b) : Rdr (w.setCell ⟨b, j, none⟩ v) rb ta cap T i op where
 c0 := by rw [World.cell?_setCell_far _ _ _ _ (Nat.ne_of_gt hb)]; exact h.c0
 c1 := by rw [World.cell?_setCell_far _ _ _ _ (Nat.ne_of_gt hb)]; exact h.c1
 c2 := by rw [World.cell?_setCell_far _ _ _ _ (Nat.ne_of_gt hb)]; exact h.c2
 f1 := by rw [World.frozen?_setCell]; exact h.f1
 f2 := by rw [World.frozen?_setCell]; exact h.f2
 toks := h.toks.fx (Fx.set w j _) (fun b' o e => by have := h.apart b' o e; omega)
 apart := h.apart
 len := h.len
 le := h.le
theorem Fx.new {rb : Nat} {w w' : World} (h : Fx rb w w') (b j : Nat) (v : Value) (hb : w.heap.size ≤ b) : Fx rb w (w'.setCell ⟨b, j, none⟩ v) :=
 ⟨h.b0.setCell (p := ⟨b, j, none⟩) (Nat.zero_le _) v, fun x hx hn => (Below.heap_setCell _ _ _ _ (show x ≠ b by omega)).trans (h.blk x hx hn)⟩
theorem tk_cells {w : World} {a : Option Addr} {T : List Tt} (h : TksAt w a T) (i : Nat) (hi : i < T.length) : ∃ b off, a = some ⟨b, off, none⟩ ∧ w.cell? ⟨b, off + i * 4, none⟩ = some (.int .i64 (tkI T i).1.1) ∧ w.cell? ⟨b, off + i * 4 + 1, none⟩ = some (.string (bsA (tkI T i).1.2.1)) ∧ w.cell? ⟨b, off + i * 4 + 2, none⟩ = some (.int .i64 (tkI T i).1.2.2) ∧ w.cell? ⟨b, off + i * 4 + 3, none⟩ = some (.int .i64 (tkI T i).2) := by
 have hg := List.getElem?_eq_getElem hi
 have e : tkI T i = T[i] := by unfold tkI; rw [hg]; rfl
 rcases h with h | ⟨b, off, rfl, hc⟩
 · rw [h] at hi; simp at hi
 ·
  rw [e]
  exact ⟨b, off, rfl, hc i _ hg⟩
theorem tkI_end {T : List Tt} {i : Nat} (h : T.length ≤ i) : tkI T i = tkE := by unfold tkI; rw [List.getElem?_eq_none h]; rfl
def ptr (rb : Nat) : Value := .pointer (some ⟨rb, 0, none⟩)
theorem Box4.new (w : World) (v0 v1 v2 v3 : Value) (T : TypeId) : (w.alloc (.cells #[v0, v1, v2, v3] T)).cell? ⟨w.heap.size, 0, none⟩ = some v0 ∧ (w.alloc (.cells #[v0, v1, v2, v3] T)).cell? ⟨w.heap.size, 1, none⟩ = some v1 ∧ (w.alloc (.cells #[v0, v1, v2, v3] T)).cell? ⟨w.heap.size, 2, none⟩ = some v2 ∧ (w.alloc (.cells #[v0, v1, v2, v3] T)).cell? ⟨w.heap.size, 3, none⟩ = some v3 := by
 refine ⟨?_, ?_, ?_, ?_⟩ <;> simp [go_sem]
theorem tokO51 : tokO = Obj.cells #[Value.int IntKind.i64 0, Value.string { data := #[] }, Value.int IntKind.i64 0, Value.int IntKind.i64 0] 26 := rfl
theorem token_in (rb : Nat) (ta : Option Addr) (cap : Nat) (T : List Tt) (i op k : Nat) (w : World) (hr : Rdr w rb ta cap T i op) (hk : k ≤ 1) (hi : i + k < T.length) :
  Calls Tryz.prog 216 #[ptr rb, .int .i64 k] w fun e w' => e = .returned (ttV (tkI T (i + k))) ∧ Below w.heap.size w w' := by
 have hA : Below w.heap.size w (w.alloc tokO) := (Below.refl _ _).alloc (Nat.le_refl _) _
 obtain ⟨b, off, rfl, t0, t1, t2, t3⟩ := tk_cells (hr.below hA).toks (i + k) hi
 have c0 := (hr.below hA).c0
 have c1 := (hr.below hA).c1
 have hl := hr.len
 obtain ⟨y0, y1, y2, y3, f0, f1, f2, f3⟩ := tokBox (Below.refl _ (w.alloc tokO))
 unfold ptr ttV
 generalize tkI T (i + k) = q at t0 t1 t2 t3 ⊢
 obtain ⟨⟨q1, q2, q3⟩, q4⟩ := q
 dsimp only at t0 t1 t2 t3 ⊢
 generalize T.length = n at c0 hl hi
 rw [tokO51] at hA c0 c1 t0 t1 t2 t3 y0 y1 y2 y3 f0 f1 f2 f3
 clear hr
 go_enter Tryz.func216, Tryz.ntmps216
 go_wp2
 refine bodyPost_ret (v := .agg #[.int .i64 q1, .string (bsA q2), .int .i64 q3, .int .i64 q4]) (by simp [results, Tryz.results216, go_sem, y0, y1, y2, y3]) rfl ⟨rfl, (Below.refl _ _).alloc (Nat.le_refl _) _⟩
theorem token_out (rb : Nat) (ta : Option Addr) (cap : Nat) (T : List Tt) (i op k : Nat) (w : World) (hr : Rdr w rb ta cap T i op) (hk : k ≤ 1) (hi : T.length ≤ i + k) :
  Calls Tryz.prog 216 #[ptr rb, .int .i64 k] w fun e w' => e = .returned (ttV (tkI T (i + k))) ∧ Below w.heap.size w w' := by
 have hA : Below w.heap.size w (w.alloc tokO) := (Below.refl _ _).alloc (Nat.le_refl _) _
 have c0 := (hr.below hA).c0
 have c1 := (hr.below hA).c1
 have hl := hr.len
 have hle := hr.le
 obtain ⟨y0, y1, y2, y3, f0, f1, f2, f3⟩ := tokBox (Below.refl _ (w.alloc tokO))
 rw [tkI_end hi]
 unfold ptr
 show Calls _ _ _ _ fun e w' => e = .returned (.agg #[.int .i64 0, .string ⟨#[]⟩, .int .i64 0, .int .i64 0]) ∧ _
 generalize T.length = n at c0 hl hi hle
 rw [tokO51] at hA c0 c1 y0 y1 y2 y3 f0 f1 f2 f3
 clear hr
 go_enter Tryz.func216, Tryz.ntmps216
 go_wp2
 refine bodyPost_ret (v := .agg #[.int .i64 0, .string ⟨#[]⟩, .int .i64 0, .int .i64 0]) (by simp [results, Tryz.results216, go_sem, y0, y1, y2, y3]) rfl ⟨rfl, (Below.refl _ _).alloc (Nat.le_refl _) _⟩
theorem token_any (rb : Nat) (ta : Option Addr) (cap : Nat) (T : List Tt) (i op k : Nat) (w : World) (hr : Rdr w rb ta cap T i op) (hk : k ≤ 1) :
  Calls Tryz.prog 216 #[ptr rb, .int .i64 k] w fun e w' => e = .returned (ttV (tkI T (i + k))) ∧ Below w.heap.size w w' := by
 rcases Nat.lt_or_ge (i + k) T.length with h | h
 · exact token_in rb ta cap T i op k w hr hk h
 · exact token_out rb ta cap T i op k w hr hk h
end Go.Proofs.YtgdndahhledikaaGreatDoor
namespace Go.Proofs.YtgdndahhledikaaGreatDoor
open Go.ChangeShapes Go.WideShapes Go.ChangeAt Go.RowKit
set_option linter.unusedSimpArgs false
set_option maxRecDepth 20000
set_option maxHeartbeats 4000000
def inF (L : List (List UInt8)) (t : List UInt8) : Bool := L.any fun y => decide (y = t)
theorem in_snoc (t : List UInt8) {l : List (List UInt8)} {i : Nat} {x : List UInt8} (h : l[i]? = some x) : inF (l.take (i + 1)) t = (inF (l.take i) t || decide (x = t)) := by
 unfold inF
 rw [List.take_add_one, h, List.any_append]
 simp
def StsL (w : World) (g : Nat) (L : List (List UInt8)) : Prop := ∀ i x, L[i]? = some x → w.cell? ⟨g, i, none⟩ = some (.string (bsA x))
theorem StsL.below {w w' : World} {g : Nat} {L : List (List UInt8)} (h : StsL w g L) (hb : Below w.heap.size w w') : StsL w' g L := fun i x hx => cell_below hb (h i x hx)
theorem StsL.new (w : World) (cs : Array Value) (T : TypeId) (L : List (List UInt8)) (hcs : cs.toList = L.map fun x => .string (bsA x)) : StsL (w.alloc (.cells cs T)) w.heap.size L := fun i x hx => by
 have e : cs[i]? = some (.string (bsA x)) := by rw [← Array.getElem?_toList, hcs, List.getElem?_map, hx]; rfl
 exact (World.cell?_alloc_mark w cs T _ i).trans e
theorem index_any (t : List UInt8) (L : List (List UInt8)) (g c : Nat) (w : World) (hl : L.length ≤ 1000) (hc : StsL w g L) :
  Calls Tryz.prog 230 #[.slice (some ⟨g, 0, none⟩) L.length c, .string (bsA t)] w fun e w' => (∃ j : Int, e = .returned (.int .i64 j) ∧ decide (0 ≤ j) = inF L t) ∧ w' = w := by
 have HC : Hid _ := hc
 clear hc
 go_enter Tryz.func230, Tryz.ntmps230
 go_wp2
 go_loopw [5, 8] (fun _ y wr => ∃ k : Nat, k ≤ L.length ∧ y = .int .i64 k ∧ inF (L.take k) t = false ∧ wr = w) (fun _ y _ => L.length - (intOf y).toNat)
 case atStart => exact ⟨0, Nat.zero_le _, rfl, rfl, rfl⟩
 case round =>
  obtain ⟨k, hk, rfl, hV, rfl⟩ := hrel
  have HV : Hid (inF (L.take k) t = false) := hV
  clear hV
  rcases Nat.lt_or_ge k L.length with hlt | hge
  ·
   obtain ⟨x, gx⟩ : ∃ x, L[k]? = some x := ⟨_, List.getElem?_eq_getElem hlt⟩
   have c0 := HC.out k x gx
   have HZ : Hid _ := in_snoc t gx
   by_cases hx : x = t
   ·
    have HN : Hid (inF L t = true) := by
     show _ = _
     unfold inF
     rw [List.any_eq_true]
     exact ⟨x, List.mem_of_getElem? gx, by simpa using hx⟩
    subst hx
    clear gx HZ HV
    go_wp2
    go_ret
    exact ⟨⟨k, rfl, by rw [HN.out]; exact decide_eq_true (by omega)⟩, rfl⟩
   ·
    have HN : Hid (inF (L.take (k + 1)) t = false) := by show _ = _; rw [HZ.out, HV.out, decide_eq_false hx]; rfl
    have hx2 : ((bsA t).toList == (bsA x).toList) = false := by
     rw [bsA_tl, bsA_tl, beq_eq_false_iff_ne]
     exact fun e => hx e.symm
    clear gx HZ HV
    go_wp2
    go_roundw
    case rel => exact ⟨k + 1, by omega, by go_num, HN.out, trivial⟩
    case measure => simp [intOf]; omega
  ·
   have HN : Hid (inF L t = false) := by
    show _ = _
    rw [← HV.out, List.take_of_length_le hge]
   go_wp2
   go_ret
   exact ⟨⟨-1, rfl, by rw [HN.out]; decide⟩, rfl⟩
theorem contains_any (t : List UInt8) (L : List (List UInt8)) (g c : Nat) (w : World) (hl : L.length ≤ 1000) (hc : StsL w g L) :
  Calls Tryz.prog 223 #[.slice (some ⟨g, 0, none⟩) L.length c, .string (bsA t)] w fun e w' => e = .returned (.bool (inF L t)) ∧ w' = w := by
 have h1 := index_any t L g c w hl hc
 generalize inF L t = q at h1 ⊢
 clear hc
 go_enter Tryz.func223, Tryz.ntmps223
 go_wp2_with fail
 refine h1.mono ?_
 rintro e w1 ⟨⟨j, rfl, hj⟩, rfl⟩
 have HJ : Hid _ := hj
 clear h1 hj
 go_wp2
 go_ret
 exact ⟨ret_bool HJ.out, rfl⟩
def isT (t : Tt) (k : Int) (L : List (List UInt8)) : Bool := decide (t.1.1 = k) && inF L t.1.2.1
theorem is_any (t : Tt) (k : Int) (L : List (List UInt8)) (g c : Nat) (w : World) (hl : L.length ≤ 1000) (hc : StsL w g L) :
  Calls Tryz.prog 215 #[ttV t, .int .i64 k, .slice (some ⟨g, 0, none⟩) L.length c] w fun e w' => e = .returned (.bool (isT t k L)) ∧ Below w.heap.size w w' := by
 obtain ⟨⟨q1, q2, q3⟩, q4⟩ := t
 unfold ttV isT
 dsimp only
 have hA : Below w.heap.size w (w.alloc (Obj.cells #[Value.int IntKind.i64 q1, Value.string (bsA q2), Value.int IntKind.i64 q3, Value.int IntKind.i64 q4] 26)) := (Below.refl _ _).alloc (Nat.le_refl _) _
 have h1 := contains_any q2 L g c _ hl (hc.below hA)
 obtain ⟨y0, y1, y2, y3⟩ := Box4.new w (.int .i64 q1) (.string (bsA q2)) (.int .i64 q3) (.int .i64 q4) 26
 generalize inF L q2 = b at h1 ⊢
 clear hc
 by_cases hk : q1 = k
 ·
  subst hk
  rw [decide_eq_true rfl, Bool.true_and]
  go_enter Tryz.func215, Tryz.ntmps215
  go_wp2_with (go_at_call 223; refine h1.mono ?_; rintro e w1 ⟨rfl, rfl⟩; clear h1)
  go_ret
  exact ⟨rfl, hA⟩
 ·
  rw [decide_eq_false hk, Bool.false_and]
  have g1 : (q1 == k) = false := by simpa using hk
  clear hk
  go_enter Tryz.func215, Tryz.ntmps215
  go_wp2_with (go_at_call 223; refine h1.mono ?_; rintro e w1 ⟨rfl, rfl⟩; clear h1)
  go_ret
  exact ⟨rfl, hA⟩
theorem sees_any (rb : Nat) (ta : Option Addr) (cap : Nat) (T : List Tt) (i op : Nat) (k : Int) (L : List (List UInt8)) (g c : Nat) (w : World) (hr : Rdr w rb ta cap T i op) (hl : L.length ≤ 1000) (hc : StsL w g L) :
  Calls Tryz.prog 207 #[ptr rb, .int .i64 k, .slice (some ⟨g, 0, none⟩) L.length c] w fun e w' => e = .returned (.bool (isT (tkI T i) k L)) ∧ Below w.heap.size w w' := by
 have h1 := token_any rb ta cap T i op 0 w hr (by omega)
 have HC : Hid _ := hc
 rw [Nat.add_zero] at h1
 have H2 : Hid _ := fun (W : World) (h : StsL W g L) => is_any (tkI T i) k L g c W hl h
 generalize isT (tkI T i) k L = b at H2 ⊢
 unfold ttV at h1 H2
 unfold ptr at h1 ⊢
 clear hr hc
 go_enter Tryz.func207, Tryz.ntmps207
 go_wp2_with fail
 refine h1.mono ?_
 rintro e w1 ⟨rfl, hb1⟩
 clear h1
 go_wp2_with fail
 refine (H2.out _ (StsL.below HC.out hb1)).mono ?_
 rintro e w2 ⟨rfl, hb2⟩
 have hB := hb1.trans (hb2.mono hb1.size)
 clear hb1 hb2
 go_wp2
 go_ret
 exact ⟨rfl, hB⟩
end Go.Proofs.YtgdndahhledikaaGreatDoor
