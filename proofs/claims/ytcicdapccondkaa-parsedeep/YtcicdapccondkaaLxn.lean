/- What Lex makes of a name; what the calls read of the package variables. -/
import Derived.Test.YtcicdapccondkaaCls
import Derived.Lib.ItoaMem
import Derived.Lib.Case
import Derived.Lib.Strings
import Derived.Lib.AppendIntMem
import Derived.Shelf.Unicode.DecodeSlow
import Derived.Deep.MidRow
import Derived.Deep.DeepCutAuto
import Derived.Laws.AppendOwn
import Derived.Laws.OwnMore
import Derived.OwnWalk
import Derived.Lib.LazyBuf
import Derived.ScopeJumps
namespace Go.Proofs.Ytcicdapccondkaa
set_option maxRecDepth 20000
set_option maxHeartbeats 4000000
set_option linter.unusedSimpArgs false
open Go.ChangeShapes Go.WideShapes Go.ChangeAt Go.RowKit

/-- The words. -/
def wdL : List (List UInt8) := [[97, 108, 108], [97, 110, 100], [97, 115], [97, 118, 103], [98, 101, 116, 119, 101, 101, 110], [98, 121], [99, 97, 115, 101], [99, 111, 110, 116, 101, 120, 116], [99, 111, 117, 110, 116], [99, 114, 101, 97, 116, 101], [100, 101, 108, 101, 116, 101], [100, 101, 115, 99], [100, 105, 115, 116, 105, 110, 99, 116], [101, 108, 115, 101], [101, 110, 100], [101, 118, 101, 110, 116, 115], [101, 118, 101, 114, 121], [102, 97, 108, 115, 101], [102, 105, 114, 115, 116], [102, 114, 111, 109], [103, 114, 111, 117, 112], [104, 97, 118, 105, 110, 103], [105, 110], [105, 110, 115, 101, 114, 116], [105, 110, 116, 111], [105, 114, 115, 116, 114, 101, 97, 109], [105, 115], [105, 115, 116, 114, 101, 97, 109], [108, 97, 115, 116], [109, 97, 116, 99, 104, 101, 100], [109, 97, 120], [109, 101, 114, 103, 101], [109, 105, 110], [109, 115], [110, 111, 116], [110, 117, 108, 108], [111, 110], [111, 114], [111, 114, 100, 101, 114], [111, 117, 116, 112, 117, 116], [111, 118, 101, 114, 108, 97, 112, 112, 105, 110, 103], [112, 97, 114, 116, 105, 116, 105, 111, 110], [112, 97, 116, 116, 101, 114, 110], [114, 115, 116, 114, 101, 97, 109], [115, 99, 104, 101, 109, 97], [115, 101, 108, 101, 99, 116], [115, 101, 116], [115, 110, 97, 112, 115, 104, 111, 116], [115, 116, 97, 114, 116], [115, 117, 109], [116, 104, 101, 110], [116, 105, 109, 101, 114], [116, 114, 117, 101], [117, 112, 100, 97, 116, 101], [119, 104, 101, 110], [119, 104, 101, 114, 101], [119, 105, 110, 100, 111, 119], [119, 105, 116, 104, 105, 110]]
def wd (i : Nat) : List UInt8 := wdL.getD i []
/-- A token: its kind, its text, its number. -/
abbrev Tk := Int × List UInt8 × Int
def tkV (t : Tk) (a : Int) : Value := .agg #[.int .i64 t.1, .string (bsA t.2.1), .int .i64 t.2.2, .int .i64 a]
def tk0 : Tk := (0, [], 0)
/-- No package variable is read. -/
structure Rdy (w : World) : Prop where
  yes : w = w
theorem Rdy.below {w w' : World} (_ : Rdy w) (_ : Below w.heap.size w w') : Rdy w' := ⟨rfl⟩
theorem Rdy.alloc {w : World} (h : Rdy w) (o : Obj) : Rdy (w.alloc o) := h.below ((Below.refl _ _).alloc (Nat.le_refl _) o)
theorem bsA_tl (l : List UInt8) : (bsA l).toList = l := by rw [ByteArray.toList_eq, bsA_list]
theorem ext_drop' (l : List UInt8) (z : Nat) : (bsA l).extract z l.length = bsA (l.drop z) := by rw [← ext_drop, bsA_size]
/-- A token of nothing, in memory. -/
def tokO : Obj := .cells #[.int .i64 0, .string ⟨#[]⟩, .int .i64 0, .int .i64 0] 51
theorem tokBox {w w2 : World} (hb : Below (w.alloc tokO).heap.size (w.alloc tokO) w2) :
    w2.cell? ⟨w.heap.size, 0, none⟩ = some (.int .i64 0) ∧ w2.cell? ⟨w.heap.size, 1, none⟩ = some (.string ⟨#[]⟩) ∧ w2.cell? ⟨w.heap.size, 2, none⟩ = some (.int .i64 0) ∧ w2.cell? ⟨w.heap.size, 3, none⟩ = some (.int .i64 0) ∧
    w2.frozen? ⟨w.heap.size, 0, none⟩ = false ∧ w2.frozen? ⟨w.heap.size, 1, none⟩ = false ∧ w2.frozen? ⟨w.heap.size, 2, none⟩ = false ∧ w2.frozen? ⟨w.heap.size, 3, none⟩ = false := by
  have hlt : w.heap.size < (w.alloc tokO).heap.size := by simp
  have hn := hb.block w.heap.size hlt
  have he : (w.alloc tokO).heap[w.heap.size]? = some tokO := by show (w.heap.push tokO)[w.heap.size]? = _; simp
  rw [he] at hn
  unfold World.cell? World.frozen?
  simp only [hn, tokO]
  refine ⟨rfl, rfl, rfl, rfl, rfl, rfl, rfl, rfl⟩
/-- The words, as they lie in memory. -/
def wdV : List Value := wdL.map fun x => .string (bsA x)
theorem wdV_at {m : Nat} (h : m < 58) : wdV[m]? = some (.string (bsA (wd m))) := by
  unfold wdV wd
  have hl : m < wdL.length := h
  rw [List.getElem?_map, List.getD_eq_getElem?_getD, List.getElem?_eq_getElem hl]; rfl
theorem wd_drop {m : Nat} (h : m < 58) : wdL.drop m = wd m :: wdL.drop (m + 1) := by
  unfold wd
  have hl : m < wdL.length := h
  rw [List.drop_eq_getElem_cons hl, List.getD_eq_getElem?_getD, List.getElem?_eq_getElem hl]; rfl
def namP (l : List UInt8) : Tk × Int × Int := if wdL.contains (Lib.toLowerA (l.take (ldN ptB l))) then ((2, Lib.toLowerA (l.take (ldN ptB l)), 0), (l.take (ldN ptB l)).length, 0) else ((1, l.take (ldN ptB l), 0), (l.take (ldN ptB l)).length, 0)
theorem ptB_ascii {c : Nat} (h : ptB c = true) : c < 128 := by
  unfold ptB ltB dgB at h
  simp at h
  omega
theorem ld_ascii (l : List UInt8) : ∀ (j : Nat) (b : UInt8), (l.take (ldN ptB l))[j]? = some b → b.toNat < 128 := by
  intro j b hb
  have e : l.take (ldN ptB l) = l.takeWhile fun c => ptB c.toNat := by
    unfold ldN
    exact (List.prefix_iff_eq_take.1 (List.takeWhile_prefix _)).symm
  rw [e] at hb
  exact ptB_ascii (List.all_eq_true.1 (List.all_takeWhile (p := fun c : UInt8 => ptB c.toNat) (l := l)) b (List.mem_of_getElem? hb))
theorem boxAt {w w2 : World} {v0 v1 v2 v3 : Value} (hb : Below (w.alloc (.cells #[v0, v1, v2, v3] 51)).heap.size (w.alloc (.cells #[v0, v1, v2, v3] 51)) w2) :
    w2.cell? ⟨w.heap.size, 0, none⟩ = some v0 ∧ w2.cell? ⟨w.heap.size, 1, none⟩ = some v1 ∧ w2.cell? ⟨w.heap.size, 2, none⟩ = some v2 ∧ w2.cell? ⟨w.heap.size, 3, none⟩ = some v3 ∧
    w2.frozen? ⟨w.heap.size, 0, none⟩ = false ∧ w2.frozen? ⟨w.heap.size, 1, none⟩ = false ∧ w2.frozen? ⟨w.heap.size, 2, none⟩ = false ∧ w2.frozen? ⟨w.heap.size, 3, none⟩ = false := by
  have hlt : w.heap.size < (w.alloc (.cells #[v0, v1, v2, v3] 51)).heap.size := by simp
  have hn := hb.block w.heap.size hlt
  have he : (w.alloc (.cells #[v0, v1, v2, v3] 51)).heap[w.heap.size]? = some (.cells #[v0, v1, v2, v3] 51) := by show (w.heap.push _)[w.heap.size]? = _; simp
  rw [he] at hn
  unfold World.cell? World.frozen?
  simp only [hn]
  refine ⟨rfl, rfl, rfl, rfl, rfl, rfl, rfl, rfl⟩
/-- Four cells of a block stay as they are. -/
structure Box (w : World) (b : Nat) (v0 v1 v2 v3 : Value) : Prop where
  c0 : w.cell? ⟨b, 0, none⟩ = some v0
  c1 : w.cell? ⟨b, 1, none⟩ = some v1
  c2 : w.cell? ⟨b, 2, none⟩ = some v2
  c3 : w.cell? ⟨b, 3, none⟩ = some v3
  f0 : w.frozen? ⟨b, 0, none⟩ = false
  f1 : w.frozen? ⟨b, 1, none⟩ = false
  f2 : w.frozen? ⟨b, 2, none⟩ = false
  f3 : w.frozen? ⟨b, 3, none⟩ = false
theorem Box.new (w : World) (v0 v1 v2 v3 : Value) : Box (w.alloc (.cells #[v0, v1, v2, v3] 51)) w.heap.size v0 v1 v2 v3 := by
  obtain ⟨h0, h1, h2, h3, h4, h5, h6, h7⟩ := boxAt (Below.refl (w.alloc (.cells #[v0, v1, v2, v3] 51)).heap.size (w.alloc (.cells #[v0, v1, v2, v3] 51)))
  exact ⟨h0, h1, h2, h3, h4, h5, h6, h7⟩
theorem Box.below {w w2 : World} {b : Nat} {v0 v1 v2 v3 : Value} (h : Box w b v0 v1 v2 v3) (hb : Below w.heap.size w w2) : Box w2 b v0 v1 v2 v3 where
  c0 := cell_below hb h.c0
  c1 := cell_below hb h.c1
  c2 := cell_below hb h.c2
  c3 := cell_below hb h.c3
  f0 := (hb.frozen (p := ⟨b, 0, none⟩) (cell_lt h.c0)).trans h.f0
  f1 := (hb.frozen (p := ⟨b, 1, none⟩) (cell_lt h.c0)).trans h.f1
  f2 := (hb.frozen (p := ⟨b, 2, none⟩) (cell_lt h.c0)).trans h.f2
  f3 := (hb.frozen (p := ⟨b, 3, none⟩) (cell_lt h.c0)).trans h.f3
theorem Box.set {w : World} {b : Nat} {v0 v1 v2 v3 : Value} (h : Box w b v0 v1 v2 v3) (u0 u1 u2 u3 : Value) :
    Box ((((w.setCell ⟨b, 0, none⟩ u0).setCell ⟨b, 1, none⟩ u1).setCell ⟨b, 2, none⟩ u2).setCell ⟨b, 3, none⟩ u3) b u0 u1 u2 u3 := by
  obtain ⟨c0, c1, c2, c3, f0, f1, f2, f3⟩ := h
  refine ⟨?_, ?_, ?_, ?_, ?_, ?_, ?_, ?_⟩
  · simp [go_sem, c0]
  · simp [go_sem, c1]
  · simp [go_sem, c2]
  · simp [go_sem, c3]
  · simpa using f0
  · simpa using f1
  · simpa using f2
  · simpa using f3
theorem below_new {w w2 : World} (h : Below w.heap.size w w2) (o : Obj) : Below w.heap.size w (w2.alloc o) := h.alloc h.size o
theorem info37 : (Try.prog.info? 51).map (fun i => (i.zero, i.size, i.bytes)) = some (some (.agg #[.int .i64 0, .string ⟨#[]⟩, .int .i64 0, .int .i64 0]), 4, 40) := by kernel_rfl
theorem heap_lt {w : World} {b : Nat} {o : Obj} (h : w.heap[b]? = some o) : b < w.heap.size := by
  rcases Nat.lt_or_ge b w.heap.size with h' | h'
  · exact h'
  · rw [Array.getElem?_eq_none h'] at h; cases h
/-- A token with its place. -/
abbrev Tt := Tk × Int
def tkC (t : Tt) : List Value := [.int .i64 t.1.1, .string (bsA t.1.2.1), .int .i64 t.1.2.2, .int .i64 t.2]
def rtC (r : List Tt) : List Value := r.flatMap tkC
theorem rtC_nil : rtC [] = [] := rfl
theorem rtC_snoc (r : List Tt) (t : Tt) : rtC (r ++ [t]) = rtC r ++ tkC t := by simp [rtC]
theorem rtC_len : ∀ r : List Tt, (rtC r).length = r.length * 4
  | [] => rfl
  | t :: r => by
    have := rtC_len r
    simp only [rtC, List.flatMap_cons, List.length_append] at this ⊢
    rw [this]; simp [tkC]; omega
theorem rtC_at : ∀ (r : List Tt) (i : Nat) (t : Tt), r[i]? = some t → (rtC r)[i * 4]? = some (.int .i64 t.1.1) ∧ (rtC r)[i * 4 + 1]? = some (.string (bsA t.1.2.1)) ∧ (rtC r)[i * 4 + 2]? = some (.int .i64 t.1.2.2) ∧ (rtC r)[i * 4 + 3]? = some (.int .i64 t.2)
  | [], i, t, h => by simp at h
  | u :: r, 0, t, h => by
    simp only [List.getElem?_cons_zero, Option.some.injEq] at h
    subst h
    exact ⟨rfl, rfl, rfl, rfl⟩
  | u :: r, i + 1, t, h => by
    simp only [List.getElem?_cons_succ] at h
    obtain ⟨h0, h1, h2, h3⟩ := rtC_at r i t h
    have e : rtC (u :: r) = tkC u ++ rtC r := rfl
    have el : (tkC u).length = 4 := rfl
    rw [e]
    refine ⟨?_, ?_, ?_, ?_⟩
    · rw [List.getElem?_append_right (by rw [el]; omega), el, show (i + 1) * 4 - 4 = i * 4 by omega]; exact h0
    · rw [List.getElem?_append_right (by rw [el]; omega), el, show (i + 1) * 4 + 1 - 4 = i * 4 + 1 by omega]; exact h1
    · rw [List.getElem?_append_right (by rw [el]; omega), el, show (i + 1) * 4 + 2 - 4 = i * 4 + 2 by omega]; exact h2
    · rw [List.getElem?_append_right (by rw [el]; omega), el, show (i + 1) * 4 + 3 - 4 = i * 4 + 3 by omega]; exact h3
theorem rtC_one (r : List Tt) : ∀ u ∈ rtC r, u.oneCell' = true := by
  intro u hu
  unfold rtC at hu
  rw [List.mem_flatMap] at hu
  obtain ⟨t, _, hu⟩ := hu
  simp only [tkC, List.mem_cons, List.not_mem_nil, or_false] at hu
  rcases hu with rfl | rfl | rfl | rfl <;> rfl
/-- A slice of tokens. -/
def TksAt (w : World) (a : Option Addr) (r : List Tt) : Prop :=
  r = [] ∨ ∃ b off, a = some ⟨b, off, none⟩ ∧ ∀ i t, r[i]? = some t → w.cell? ⟨b, off + i * 4, none⟩ = some (.int .i64 t.1.1) ∧ w.cell? ⟨b, off + i * 4 + 1, none⟩ = some (.string (bsA t.1.2.1)) ∧ w.cell? ⟨b, off + i * 4 + 2, none⟩ = some (.int .i64 t.1.2.2) ∧ w.cell? ⟨b, off + i * 4 + 3, none⟩ = some (.int .i64 t.2)
theorem TksAt.below {w w' : World} {a : Option Addr} {r : List Tt} (h : TksAt w a r) (hb : Below w.heap.size w w') : TksAt w' a r := by
  rcases h with h | ⟨b, off, ha, hc⟩
  · exact Or.inl h
  · exact Or.inr ⟨b, off, ha, fun i t hi => ⟨cell_below hb (hc i t hi).1, cell_below hb (hc i t hi).2.1, cell_below hb (hc i t hi).2.2.1, cell_below hb (hc i t hi).2.2.2⟩⟩
theorem TksAt.alloc {w : World} {a : Option Addr} {r : List Tt} (h : TksAt w a r) (o : Obj) : TksAt (w.alloc o) a r := h.below ((Below.refl _ _).alloc (Nat.le_refl _) o)
theorem tks_of_owns {w : World} {base : Nat} {vv : Value} {r : List Tt} (h : w.ownsRow base 51 4 vv r.length (rtC r)) : ∃ a cap, vv = .slice a r.length cap ∧ TksAt w a r ∧ (∀ g o, a = some ⟨g, o, none⟩ → base ≤ g) ∧ r.length ≤ cap := by
  have h' := h
  obtain ⟨hlen, ⟨rfl, h0⟩ | ⟨g, cap, cur, rfl, hbg, hg, hcap, hcm, hcs, htake⟩⟩ := h
  · exact ⟨none, 0, by rw [h0], Or.inl (List.length_eq_zero_iff.1 h0), (fun _ _ e => by cases e), by omega⟩
  refine ⟨_, cap, rfl, Or.inr ⟨g, 0, rfl, fun i t hi => ?_⟩, fun g' o' e => by injection e with e; injection e with e1 e2 _; subst e1; exact hbg, hcap⟩
  have hc := h'.cells (g := g) rfl
  obtain ⟨a, b, c, d⟩ := rtC_at r i t hi
  have ea := hc _ _ a
  have eb := hc _ _ b
  have ec := hc _ _ c
  have ed := hc _ _ d
  rw [add_plain] at ea eb ec ed
  rw [Nat.zero_add] at ea eb ec ed ⊢
  exact ⟨ea, eb, ec, ed⟩
theorem tkCells_new (w : World) (t : Tt) : ∀ j u, (rtC [t])[j]? = some u → (w.alloc (.cells #[.int .i64 t.1.1, .string (bsA t.1.2.1), .int .i64 t.1.2.2, .int .i64 t.2] 51)).cell? ((⟨w.heap.size, 0, none⟩ : Addr).add j) = some u := by
  have e : rtC [t] = [.int .i64 t.1.1, .string (bsA t.1.2.1), .int .i64 t.1.2.2, .int .i64 t.2] := rfl
  have bo := Box.new w (.int .i64 t.1.1) (.string (bsA t.1.2.1)) (.int .i64 t.1.2.2) (.int .i64 t.2)
  rw [e]
  intro j u hj
  rw [add_plain]
  match j, hj with
  | 0, hj => simp only [List.getElem?_cons_zero, Option.some.injEq] at hj; subst hj; exact bo.c0
  | 1, hj => simp only [List.getElem?_cons_succ, List.getElem?_cons_zero, Option.some.injEq] at hj; subst hj; exact bo.c1
  | 2, hj => simp only [List.getElem?_cons_succ, List.getElem?_cons_zero, Option.some.injEq] at hj; subst hj; exact bo.c2
  | 3, hj => simp only [List.getElem?_cons_succ, List.getElem?_cons_zero, Option.some.injEq] at hj; subst hj; exact bo.c3
  | j + 4, hj => simp at hj
theorem owns_below {w w' : World} {base e size n : Nat} {v : Value} {xs : List Value} (h : w.ownsRow base e size v n xs) (hb : Below w.heap.size w w') : w'.ownsRow base e size v n xs :=
  h.kept (row := none) ⟨hb.os, hb.tape, hb.output, hb.size, fun k hk _ => hb.block k hk⟩ (by cases v.ownBlock <;> simp)
theorem tw_all (p : Nat → Bool) : ∀ (t : List UInt8), (∀ c ∈ t, p c.toNat = true) → ldN p t = t.length := by
  intro t h
  unfold ldN
  induction t with
  | nil => rfl
  | cons c t ih =>
    rw [List.takeWhile_cons, if_pos (h c (by simp)), List.length_cons, List.length_cons, ih fun d hd => h d (by simp [hd])]
/-- The token that a name is. -/
def tkN (l : List UInt8) : Tk := if wdL.contains (Lib.toLowerA l) then (2, Lib.toLowerA l, 0) else (1, l, 0)
theorem namP_nm (l : List UInt8) (ha : ∀ d ∈ l, ptB d.toNat = true) : namP l = (tkN l, (l.length : Int), 0) := by
  unfold namP tkN
  rw [tw_all ptB _ ha, List.take_length]
  split <;> rfl
theorem lt_bl (c : UInt8) (h : ltB c.toNat = true) : blB c.toNat = false := by
  unfold ltB at h
  unfold blB
  simp only [Bool.or_eq_true, Bool.and_eq_true, decide_eq_true_eq, beq_iff_eq, Bool.or_eq_false_iff, beq_eq_false_iff_ne] at h ⊢
  omega
theorem lt_pre (c d : UInt8) (r p : List UInt8) (h : c ≠ d) : Lib.hasPrefix (c :: r) (d :: p) = false := by
  unfold Lib.hasPrefix
  simp only [List.isPrefixOf, Bool.and_eq_false_iff, beq_eq_false_iff_ne]
  exact Or.inl fun e => h e.symm
/-- What Lex tells of a name: one token. -/
def LexOne (s : List UInt8) (e : Ending) (w' : World) : Prop := ∃ g off cap, e = .returned (.tuple #[.slice (some ⟨g, off, none⟩) 1 cap, .int .i64 0, .int .i64 0]) ∧ w'.cell? ⟨g, off, none⟩ = some (.int .i64 (tkN s).1) ∧ w'.cell? ⟨g, off + 1, none⟩ = some (.string (bsA (tkN s).2.1)) ∧ w'.cell? ⟨g, off + 2, none⟩ = some (.int .i64 (tkN s).2.2) ∧ w'.cell? ⟨g, off + 3, none⟩ = some (.int .i64 0)
theorem tkN_ne (s : List UInt8) : (tkN s).1 ≠ 0 := by
  unfold tkN
  split
  · show (2 : Int) ≠ 0
    decide
  · show (1 : Int) ≠ 0
    decide
end Go.Proofs.Ytcicdapccondkaa
