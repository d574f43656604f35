/- A reader in memory; its small functions. -/
import Derived.Test.YtcicdapccondkaaRJu
import Derived.Test.YtcicdapccondkaaCln
namespace Go.Proofs.Ytcicdapccondkaa
open Go.ChangeShapes Go.WideShapes Go.ChangeAt Go.RowKit
set_option linter.unusedSimpArgs false
set_option maxRecDepth 20000
set_option maxHeartbeats 4000000

/-- All blocks but the reader's are as they were. -/
structure Fx (rb : Nat) (w w' : World) : Prop where
  b0 : Below 0 w w'
  blk : ∀ b, b < w.heap.size → b ≠ rb → w'.heap[b]? = w.heap[b]?
theorem Fx.below {rb : Nat} {w w' : World} (h : Below w.heap.size w w') : Fx rb w w' := ⟨h.mono (Nat.zero_le _), fun b hb _ => h.block b hb⟩
theorem Fx.refl {rb : Nat} (w : World) : Fx rb w w := Fx.below (Below.refl _ _)
theorem Fx.trans {rb : Nat} {a b c : World} (h : Fx rb a b) (k : Fx rb b c) : Fx rb a c :=
  ⟨h.b0.trans k.b0, fun x hx hn => (k.blk x (Nat.lt_of_lt_of_le hx h.b0.size) hn).trans (h.blk x hx hn)⟩
theorem Fx.size {rb : Nat} {w w' : World} (h : Fx rb w w') : w.heap.size ≤ w'.heap.size := h.b0.size
theorem Fx.set {rb : Nat} (w : World) (j : Nat) (v : Value) : Fx rb w (w.setCell ⟨rb, j, none⟩ v) :=
  ⟨(Below.refl _ _).setCell (p := ⟨rb, j, none⟩) (Nat.zero_le _) v, fun _ _ hn => Below.heap_setCell _ _ _ _ hn⟩
theorem Fx.cell {rb : Nat} {w w' : World} (h : Fx rb w w') {b o : Nat} {v : Value} (hb : b ≠ rb) (hc : w.cell? ⟨b, o, none⟩ = some v) : w'.cell? ⟨b, o, none⟩ = some v := cell_same hc (h.blk b (cell_lt hc) hb)
/-- A token with its place, as a value. -/
def ttV (t : Tt) : Value := .agg #[.int .i64 t.1.1, .string (bsA t.1.2.1), .int .i64 t.1.2.2, .int .i64 t.2]
def tkE : Tt := ((0, [], 0), 0)
def tkI (T : List Tt) (i : Nat) : Tt := (T[i]?).getD tkE
/-- A reader: its tokens, where it is, how many are open. -/
structure Rdr (w : World) (rb : Nat) (ta : Option Addr) (cap : Nat) (T : List Tt) (i op : Nat) : Prop where
  c0 : w.cell? ⟨rb, 0, none⟩ = some (.slice ta T.length cap)
  c1 : w.cell? ⟨rb, 1, none⟩ = some (.int .i64 i)
  c2 : w.cell? ⟨rb, 2, none⟩ = some (.int .i64 op)
  f1 : w.frozen? ⟨rb, 1, none⟩ = false
  f2 : w.frozen? ⟨rb, 2, none⟩ = false
  toks : TksAt w ta T
  apart : ∀ b o, ta = some ⟨b, o, none⟩ → b < rb
  len : T.length ≤ 1000000000
  le : i ≤ T.length
theorem Rdr.below {w w' : World} {rb : Nat} {ta : Option Addr} {cap : Nat} {T : List Tt} {i op : Nat} (h : Rdr w rb ta cap T i op) (hb : Below w.heap.size w w') : Rdr w' rb ta cap T i op where
  c0 := cell_below hb h.c0
  c1 := cell_below hb h.c1
  c2 := cell_below hb h.c2
  f1 := (hb.frozen (p := ⟨rb, 1, none⟩) (cell_lt h.c0)).trans h.f1
  f2 := (hb.frozen (p := ⟨rb, 2, none⟩) (cell_lt h.c0)).trans h.f2
  toks := h.toks.below hb
  apart := h.apart
  len := h.len
  le := h.le
theorem TksAt.fx {w w' : World} {rb : Nat} {a : Option Addr} {r : List Tt} (h : TksAt w a r) (hb : Fx rb w w') (ha : ∀ b o, a = some ⟨b, o, none⟩ → b ≠ rb) : TksAt w' a r := by
  rcases h with h | ⟨b, off, rfl, hc⟩
  · exact Or.inl h
  · have hn := ha b off rfl
    exact Or.inr ⟨b, off, rfl, fun i t hi => ⟨hb.cell hn (hc i t hi).1, hb.cell hn (hc i t hi).2.1, hb.cell hn (hc i t hi).2.2.1, hb.cell hn (hc i t hi).2.2.2⟩⟩
theorem Rdr.at {w : World} {rb : Nat} {ta : Option Addr} {cap : Nat} {T : List Tt} {i op : Nat} (h : Rdr w rb ta cap T i op) (j : Nat) (hj : j ≤ T.length) : Rdr (w.setCell ⟨rb, 1, none⟩ (.int .i64 j)) rb ta cap T j op where
  c0 := by rw [World.cell?_setCell_other _ _ _ _ (by simp)]; exact h.c0
  c1 := World.cell?_setCell_same _ _ _ h.c1
  c2 := by rw [World.cell?_setCell_other _ _ _ _ (by simp)]; exact h.c2
  f1 := by rw [World.frozen?_setCell]; exact h.f1
  f2 := by rw [World.frozen?_setCell]; exact h.f2
  toks := h.toks.fx (Fx.set w 1 _) (fun b o e => Nat.ne_of_lt (h.apart b o e))
  apart := h.apart
  len := h.len
  le := hj
theorem Rdr.op {w : World} {rb : Nat} {ta : Option Addr} {cap : Nat} {T : List Tt} {i op : Nat} (h : Rdr w rb ta cap T i op) (j : Nat) : Rdr (w.setCell ⟨rb, 2, none⟩ (.int .i64 j)) rb ta cap T i j where
  c0 := by rw [World.cell?_setCell_other _ _ _ _ (by simp)]; exact h.c0
  c1 := by rw [World.cell?_setCell_other _ _ _ _ (by simp)]; exact h.c1
  c2 := World.cell?_setCell_same _ _ _ h.c2
  f1 := by rw [World.frozen?_setCell]; exact h.f1
  f2 := by rw [World.frozen?_setCell]; exact h.f2
  toks := h.toks.fx (Fx.set w 2 _) (fun b o e => Nat.ne_of_lt (h.apart b o e))
  apart := h.apart
  len := h.len
  le := h.le
theorem Rdr.far {w : World} {rb : Nat} {ta : Option Addr} {cap : Nat} {T : List Tt} {i op : Nat} (h : Rdr w rb ta cap T i op) (b j : Nat) (v : Value) (hb : rb < b) : Rdr (w.setCell ⟨b, j, none⟩ v) rb ta cap T i op where
  c0 := by rw [World.cell?_setCell_far _ _ _ _ (Nat.ne_of_gt hb)]; exact h.c0
  c1 := by rw [World.cell?_setCell_far _ _ _ _ (Nat.ne_of_gt hb)]; exact h.c1
  c2 := by rw [World.cell?_setCell_far _ _ _ _ (Nat.ne_of_gt hb)]; exact h.c2
  f1 := by rw [World.frozen?_setCell]; exact h.f1
  f2 := by rw [World.frozen?_setCell]; exact h.f2
  toks := h.toks.fx (Fx.set w j _) (fun b' o e => by have := h.apart b' o e; omega)
  apart := h.apart
  len := h.len
  le := h.le
theorem Fx.new {rb : Nat} {w w' : World} (h : Fx rb w w') (b j : Nat) (v : Value) (hb : w.heap.size ≤ b) : Fx rb w (w'.setCell ⟨b, j, none⟩ v) :=
  ⟨h.b0.setCell (p := ⟨b, j, none⟩) (Nat.zero_le _) v, fun x hx hn => (Below.heap_setCell _ _ _ _ (show x ≠ b by omega)).trans (h.blk x hx hn)⟩
/-- A token out of a slice of tokens. -/
theorem tk_cells {w : World} {a : Option Addr} {T : List Tt} (h : TksAt w a T) (i : Nat) (hi : i < T.length) : ∃ b off, a = some ⟨b, off, none⟩ ∧ w.cell? ⟨b, off + i * 4, none⟩ = some (.int .i64 (tkI T i).1.1) ∧ w.cell? ⟨b, off + i * 4 + 1, none⟩ = some (.string (bsA (tkI T i).1.2.1)) ∧ w.cell? ⟨b, off + i * 4 + 2, none⟩ = some (.int .i64 (tkI T i).1.2.2) ∧ w.cell? ⟨b, off + i * 4 + 3, none⟩ = some (.int .i64 (tkI T i).2) := by
  have hg := List.getElem?_eq_getElem hi
  have e : tkI T i = T[i] := by unfold tkI; rw [hg]; rfl
  rcases h with h | ⟨b, off, rfl, hc⟩
  · rw [h] at hi; simp at hi
  · rw [e]
    exact ⟨b, off, rfl, hc i _ hg⟩
theorem tkI_end {T : List Tt} {i : Nat} (h : T.length ≤ i) : tkI T i = tkE := by unfold tkI; rw [List.getElem?_eq_none h]; rfl
def ptr (rb : Nat) : Value := .pointer (some ⟨rb, 0, none⟩)
theorem Box4.new (w : World) (v0 v1 v2 v3 : Value) (T : TypeId) : (w.alloc (.cells #[v0, v1, v2, v3] T)).cell? ⟨w.heap.size, 0, none⟩ = some v0 ∧ (w.alloc (.cells #[v0, v1, v2, v3] T)).cell? ⟨w.heap.size, 1, none⟩ = some v1 ∧ (w.alloc (.cells #[v0, v1, v2, v3] T)).cell? ⟨w.heap.size, 2, none⟩ = some v2 ∧ (w.alloc (.cells #[v0, v1, v2, v3] T)).cell? ⟨w.heap.size, 3, none⟩ = some v3 := by
  refine ⟨?_, ?_, ?_, ?_⟩ <;> simp [go_sem]
theorem tokO51 : tokO = Obj.cells #[Value.int IntKind.i64 0, Value.string { data := #[] }, Value.int IntKind.i64 0, Value.int IntKind.i64 0] 51 := rfl
theorem token_in (rb : Nat) (ta : Option Addr) (cap : Nat) (T : List Tt) (i op k : Nat) (w : World) (hr : Rdr w rb ta cap T i op) (hk : k ≤ 1) (hi : i + k < T.length) :
    Calls Try.prog 72 #[ptr rb, .int .i64 k] w fun e w' => e = .returned (ttV (tkI T (i + k))) ∧ Below w.heap.size w w' := by
  have hA : Below w.heap.size w (w.alloc tokO) := (Below.refl _ _).alloc (Nat.le_refl _) _
  obtain ⟨b, off, rfl, t0, t1, t2, t3⟩ := tk_cells (hr.below hA).toks (i + k) hi
  have c0 := (hr.below hA).c0
  have c1 := (hr.below hA).c1
  have hl := hr.len
  obtain ⟨y0, y1, y2, y3, f0, f1, f2, f3⟩ := tokBox (Below.refl _ (w.alloc tokO))
  unfold ptr ttV
  generalize tkI T (i + k) = q at t0 t1 t2 t3 ⊢
  obtain ⟨⟨q1, q2, q3⟩, q4⟩ := q
  dsimp only at t0 t1 t2 t3 ⊢
  generalize T.length = n at c0 hl hi
  rw [tokO51] at hA c0 c1 t0 t1 t2 t3 y0 y1 y2 y3 f0 f1 f2 f3
  clear hr
  go_enter Try.func72, Try.ntmps72
  go_wp2
  refine bodyPost_ret (v := .agg #[.int .i64 q1, .string (bsA q2), .int .i64 q3, .int .i64 q4]) (by simp [results, Try.results72, go_sem, y0, y1, y2, y3]) rfl ⟨rfl, (Below.refl _ _).alloc (Nat.le_refl _) _⟩
theorem token_out (rb : Nat) (ta : Option Addr) (cap : Nat) (T : List Tt) (i op k : Nat) (w : World) (hr : Rdr w rb ta cap T i op) (hk : k ≤ 1) (hi : T.length ≤ i + k) :
    Calls Try.prog 72 #[ptr rb, .int .i64 k] w fun e w' => e = .returned (ttV (tkI T (i + k))) ∧ Below w.heap.size w w' := by
  have hA : Below w.heap.size w (w.alloc tokO) := (Below.refl _ _).alloc (Nat.le_refl _) _
  have c0 := (hr.below hA).c0
  have c1 := (hr.below hA).c1
  have hl := hr.len
  have hle := hr.le
  obtain ⟨y0, y1, y2, y3, f0, f1, f2, f3⟩ := tokBox (Below.refl _ (w.alloc tokO))
  rw [tkI_end hi]
  unfold ptr
  show Calls _ _ _ _ fun e w' => e = .returned (.agg #[.int .i64 0, .string ⟨#[]⟩, .int .i64 0, .int .i64 0]) ∧ _
  generalize T.length = n at c0 hl hi hle
  rw [tokO51] at hA c0 c1 y0 y1 y2 y3 f0 f1 f2 f3
  clear hr
  go_enter Try.func72, Try.ntmps72
  go_wp2
  refine bodyPost_ret (v := .agg #[.int .i64 0, .string ⟨#[]⟩, .int .i64 0, .int .i64 0]) (by simp [results, Try.results72, go_sem, y0, y1, y2, y3]) rfl ⟨rfl, (Below.refl _ _).alloc (Nat.le_refl _) _⟩
theorem token_any (rb : Nat) (ta : Option Addr) (cap : Nat) (T : List Tt) (i op k : Nat) (w : World) (hr : Rdr w rb ta cap T i op) (hk : k ≤ 1) :
    Calls Try.prog 72 #[ptr rb, .int .i64 k] w fun e w' => e = .returned (ttV (tkI T (i + k))) ∧ Below w.heap.size w w' := by
  rcases Nat.lt_or_ge (i + k) T.length with h | h
  · exact token_in rb ta cap T i op k w hr hk h
  · exact token_out rb ta cap T i op k w hr hk h
end Go.Proofs.Ytcicdapccondkaa
