/- Base, Cls, Lxn, Tre, Sam. -/
import Derived.Test.YtgdndahhledikaaGreatDoorChecked
import Derived.WalkKit
import Derived.ProofKit
import Derived.WalkSpells
import Derived.WalkLawsBesides
import Derived.Deep.RegionHeld3
import Derived.Deep.DrawnRows
import Derived.Deep.QuietTactic
import Derived.BigQuiet
import Derived.WalkSmall
import Derived.LoopN
import Derived.Lib.ItoaMem
import Derived.Lib.Case
import Derived.Lib.Strings
import Derived.Lib.AppendIntMem
import Derived.Shelf.Unicode.DecodeSlow
import Derived.Deep.MidRow
import Derived.Deep.DeepCutAuto
import Derived.Laws.AppendOwn
import Derived.Laws.OwnMore
import Derived.OwnWalk
import Derived.Lib.LazyBuf
import Derived.ScopeJumps
namespace Go.Proofs.YtgdndahhledikaaGreatDoor
open Go.ChangeShapes Go.WideShapes Go.ChangeAt Go.RowKit
structure Bel (B : Nat) (a w : World) : Prop where
 out : Below B a w
 le : B ≤ w.heap.size
theorem Bel.refl (a : World) : Bel a.heap.size a a := ⟨Below.refl _ _, Nat.le_refl _⟩
theorem Bel.drew {B : Nat} {a w : World} (h : Bel B a w) : Bel B a w.drew := ⟨h.out.drew, h.le⟩
theorem Bel.drewN {B : Nat} {a w : World} (h : Bel B a w) (q : Nat) : Bel B a (w.drewN q) := by
 induction q with
 | zero => exact h
 | succ q ih => exact ih.drew
theorem Bel.alloc {B : Nat} {a w : World} (h : Bel B a w) (o : Obj) : Bel B a (w.alloc o) := ⟨h.out.alloc h.le o, by have := h.le; simp; omega⟩
theorem Bel.setCell {B : Nat} {a w : World} (h : Bel B a w) {p : Addr} (hp : B ≤ p.block) (u : Value) : Bel B a (w.setCell p u) := ⟨h.out.setCell hp u, by have := h.le; simpa [World.setCell] using this⟩
theorem Bel.step {B : Nat} {a w w' : World} (h : Bel B a w) (hb : Below w.heap.size w w') : Bel B a w' := ⟨h.out.trans (hb.mono h.le), Nat.le_trans h.le hb.size⟩
theorem Bel.of {a w : World} (h : Below a.heap.size a w) : Bel a.heap.size a w := ⟨h, h.size⟩
theorem ret_int {k : IntKind} {a b : Int} (h : a = b) : Ending.returned (.int k a) = .returned (.int k b) := by rw [h]
theorem ret_bool {a b : Bool} (h : a = b) : Ending.returned (.bool a) = .returned (.bool b) := by rw [h]
theorem cell_lt {w : World} {b o : Nat} {v : Value} (h : w.cell? ⟨b, o, none⟩ = some v) : b < w.heap.size := by
 rcases Nat.lt_or_ge b w.heap.size with h' | h'
 · exact h'
 · unfold World.cell? at h; simp [Array.getElem?_eq_none h'] at h
theorem cell_below {w w' : World} (hb : Below w.heap.size w w') {b o : Nat} {v : Value} (h : w.cell? ⟨b, o, none⟩ = some v) : w'.cell? ⟨b, o, none⟩ = some v := by
 rw [hb.cell (p := ⟨b, o, none⟩) (cell_lt h)]; exact h
section
variable {P : Program} {ops : Array Oper} {Q : Exit → Act → World → Prop} {md : Region.Mode} {S : World → Prop}
theorem tk (i : Nat) (d : Option Tmp) {oi : Oper} {v : Value} {fuel : Nat} {listed : Array Bool} {a : Act} {w : World} (hi : ops[i]? = some oi) (hv : ∀ w, S w → (execOp a.eval oi).run P w = .ok (.value v) w) (h : wpAnyH P md ops Q S fuel (listed.setIfInBounds i true) (a.put d v) w)
  (hd : oi.dst = d := by rfl) (hs : Region.noSelect ops = true := by kernel_rfl) (hf : Region.free md ops listed i = true := by kernel_rfl) (hr : (Region.ready md ops listed).contains i = true := by kernel_rfl)
  (hQ : ∀ c a w, Q (.panic c) (a.put d v) w → Q (.panic c) a w := by exact fun _ _ _ h => h) (hw : Region.wanted oi (yielded ops a.tmps) = true := by kernel_rfl) (hS : S w := by assumption) : wpAnyH P md ops Q S (fuel + 1) listed a w := by
 subst hd
 exact wpAnyH_take hi hs hf hr hQ (Or.inl ⟨hw, hv⟩) hS h
end
end Go.Proofs.YtgdndahhledikaaGreatDoor
namespace Go.Proofs.YtgdndahhledikaaGreatDoor
set_option maxHeartbeats 4000000
set_option maxRecDepth 20000
open Go.ChangeShapes Go.WideShapes Go.ChangeAt Go.RowKit
def bsA (bs : List UInt8) : ByteArray := ⟨bs.toArray⟩
theorem bsA_list (l : List UInt8) : (bsA l).data.toList = l := by simp [bsA]
theorem bsA_size (l : List UInt8) : (bsA l).size = l.length := by simp [bsA, ByteArray.size]
theorem bsA_of (s : ByteArray) : bsA s.data.toList = s := by cases s; simp [bsA]
theorem ba_ext {a b : ByteArray} (h : a.data.toList = b.data.toList) : a = b := by
 cases a; cases b; simp only [ByteArray.mk.injEq]; exact Array.toList_inj.1 h
theorem ext_drop (l : List UInt8) (z : Nat) : (bsA l).extract z (bsA l).size = bsA (l.drop z) := by
 apply ba_ext
 simp only [bsA, ByteArray.data_extract, Array.toList_extract]
 rw [show ByteArray.size ⟨l.toArray⟩ = l.length by simp [ByteArray.size], List.extract_eq_take_drop, List.take_of_length_le (by simp)]
theorem ext_take (l : List UInt8) (z : Nat) : (bsA l).extract 0 z = bsA (l.take z) := by
 apply ba_ext
 simp [bsA, ByteArray.data_extract, List.extract_eq_take_drop]
def blB (c : Nat) : Bool := c == 9 || c == 10 || c == 13 || c == 32
def ltB (c : Nat) : Bool := (decide (97 ≤ c) && decide (c ≤ 122)) || (decide (65 ≤ c) && decide (c ≤ 90)) || c == 95
def dgB (c : Nat) : Bool := decide (48 ≤ c) && decide (c ≤ 57)
def ptB (c : Nat) : Bool := ltB c || dgB c
def ldN (p : Nat → Bool) (l : List UInt8) : Nat := (l.takeWhile fun c => p c.toNat).length
theorem ldN_le (p : Nat → Bool) (l : List UInt8) : ldN p l ≤ l.length := (List.takeWhile_sublist _).length_le
theorem ldN_drop {p : Nat → Bool} {l : List UInt8} {m : Nat} (h : m < l.length) (hp : p (l[m]).toNat = true) : m + ldN p (l.drop m) = m + 1 + ldN p (l.drop (m + 1)) := by
 unfold ldN
 rw [List.drop_eq_getElem_cons h, List.takeWhile_cons, if_pos hp]
 simp only [List.length_cons]; omega
theorem ldN_stop {p : Nat → Bool} {l : List UInt8} {m : Nat} (h : m < l.length) (hp : p (l[m]).toNat = false) : ldN p (l.drop m) = 0 := by
 unfold ldN
 rw [List.drop_eq_getElem_cons h, List.takeWhile_cons, if_neg (by simp [hp])]; rfl
end Go.Proofs.YtgdndahhledikaaGreatDoor
namespace Go.Proofs.YtgdndahhledikaaGreatDoor
set_option maxRecDepth 20000
set_option maxHeartbeats 4000000
set_option linter.unusedSimpArgs false
open Go.ChangeShapes Go.WideShapes Go.ChangeAt Go.RowKit
def wdL : List (List UInt8) := [[97, 108, 108], [97, 110, 100], [97, 115], [97, 118, 103], [98, 101, 116, 119, 101, 101, 110], [98, 121], [99, 97, 115, 101], [99, 111, 110, 116, 101, 120, 116], [99, 111, 117, 110, 116], [99, 114, 101, 97, 116, 101], [100, 101, 108, 101, 116, 101], [100, 101, 115, 99], [100, 105, 115, 116, 105, 110, 99, 116], [101, 108, 115, 101], [101, 110, 100], [101, 118, 101, 110, 116, 115], [101, 118, 101, 114, 121], [102, 97, 108, 115, 101], [102, 105, 114, 115, 116], [102, 114, 111, 109], [103, 114, 111, 117, 112], [104, 97, 118, 105, 110, 103], [105, 110], [105, 110, 115, 101, 114, 116], [105, 110, 116, 111], [105, 114, 115, 116, 114, 101, 97, 109], [105, 115], [105, 115, 116, 114, 101, 97, 109], [108, 97, 115, 116], [109, 97, 116, 99, 104, 101, 100], [109, 97, 120], [109, 101, 114, 103, 101], [109, 105, 110], [109, 115], [110, 111, 116], [110, 117, 108, 108], [111, 110], [111, 114], [111, 114, 100, 101, 114], [111, 117, 116, 112, 117, 116], [111, 118, 101, 114, 108, 97, 112, 112, 105, 110, 103], [112, 97, 114, 116, 105, 116, 105, 111, 110], [112, 97, 116, 116, 101, 114, 110], [114, 115, 116, 114, 101, 97, 109], [115, 99, 104, 101, 109, 97], [115, 101, 108, 101, 99, 116], [115, 101, 116], [115, 110, 97, 112, 115, 104, 111, 116], [115, 116, 97, 114, 116], [115, 117, 109], [116, 104, 101, 110], [116, 105, 109, 101, 114], [116, 114, 117, 101], [117, 112, 100, 97, 116, 101], [119, 104, 101, 110], [119, 104, 101, 114, 101], [119, 105, 110, 100, 111, 119], [119, 105, 116, 104, 105, 110]]
def wd (i : Nat) : List UInt8 := wdL.getD i []
abbrev Tk := Int × List UInt8 × Int
def tkV (t : Tk) (a : Int) : Value := .agg #[.int .i64 t.1, .string (bsA t.2.1), .int .i64 t.2.2, .int .i64 a]
def tk0 : Tk := (0, [], 0)
structure Rdy (w : World) : Prop where
 yes : w = w
theorem Rdy.below {w w' : World} (_ : Rdy w) (_ : Below w.heap.size w w') : Rdy w' := ⟨rfl⟩
theorem Rdy.alloc {w : World} (h : Rdy w) (o : Obj) : Rdy (w.alloc o) := h.below ((Below.refl _ _).alloc (Nat.le_refl _) o)
theorem bsA_tl (l : List UInt8) : (bsA l).toList = l := by rw [ByteArray.toList_eq, bsA_list]
theorem ext_drop' (l : List UInt8) (z : Nat) : (bsA l).extract z l.length = bsA (l.drop z) := by rw [← ext_drop, bsA_size]
def tokO : Obj := .cells #[.int .i64 0, .string ⟨#[]⟩, .int .i64 0, .int .i64 0] 26
theorem tokBox {w w2 : World} (hb : Below (w.alloc tokO).heap.size (w.alloc tokO) w2) :
  w2.cell? ⟨w.heap.size, 0, none⟩ = some (.int .i64 0) ∧ w2.cell? ⟨w.heap.size, 1, none⟩ = some (.string ⟨#[]⟩) ∧ w2.cell? ⟨w.heap.size, 2, none⟩ = some (.int .i64 0) ∧ w2.cell? ⟨w.heap.size, 3, none⟩ = some (.int .i64 0) ∧
  w2.frozen? ⟨w.heap.size, 0, none⟩ = false ∧ w2.frozen? ⟨w.heap.size, 1, none⟩ = false ∧ w2.frozen? ⟨w.heap.size, 2, none⟩ = false ∧ w2.frozen? ⟨w.heap.size, 3, none⟩ = false := by
 have hlt : w.heap.size < (w.alloc tokO).heap.size := by simp
 have hn := hb.block w.heap.size hlt
 have he : (w.alloc tokO).heap[w.heap.size]? = some tokO := by show (w.heap.push tokO)[w.heap.size]? = _; simp
 rw [he] at hn
 unfold World.cell? World.frozen?
 simp only [hn, tokO]
 refine ⟨rfl, rfl, rfl, rfl, rfl, rfl, rfl, rfl⟩
def wdV : List Value := wdL.map fun x => .string (bsA x)
theorem wdV_at {m : Nat} (h : m < 58) : wdV[m]? = some (.string (bsA (wd m))) := by
 unfold wdV wd
 have hl : m < wdL.length := h
 rw [List.getElem?_map, List.getD_eq_getElem?_getD, List.getElem?_eq_getElem hl]; rfl
theorem wd_drop {m : Nat} (h : m < 58) : wdL.drop m = wd m :: wdL.drop (m + 1) := by
 unfold wd
 have hl : m < wdL.length := h
 rw [List.drop_eq_getElem_cons hl, List.getD_eq_getElem?_getD, List.getElem?_eq_getElem hl]; rfl
def namP (l : List UInt8) : Tk × Int × Int := if wdL.contains (Lib.toLowerA (l.take (ldN ptB l))) then ((2, Lib.toLowerA (l.take (ldN ptB l)), 0), (l.take (ldN ptB l)).length, 0) else ((1, l.take (ldN ptB l), 0), (l.take (ldN ptB l)).length, 0)
theorem ptB_ascii {c : Nat} (h : ptB c = true) : c < 128 := by
 unfold ptB ltB dgB at h
 simp at h
 omega
theorem ld_ascii (l : List UInt8) : ∀ (j : Nat) (b : UInt8), (l.take (ldN ptB l))[j]? = some b → b.toNat < 128 := by
 intro j b hb
 have e : l.take (ldN ptB l) = l.takeWhile fun c => ptB c.toNat := by
  unfold ldN
  exact (List.prefix_iff_eq_take.1 (List.takeWhile_prefix _)).symm
 rw [e] at hb
 exact ptB_ascii (List.all_eq_true.1 (List.all_takeWhile (p := fun c : UInt8 => ptB c.toNat) (l := l)) b (List.mem_of_getElem? hb))
theorem boxAt {w w2 : World} {v0 v1 v2 v3 : Value} (hb : Below (w.alloc (.cells #[v0, v1, v2, v3] 26)).heap.size (w.alloc (.cells #[v0, v1, v2, v3] 26)) w2) :
  w2.cell? ⟨w.heap.size, 0, none⟩ = some v0 ∧ w2.cell? ⟨w.heap.size, 1, none⟩ = some v1 ∧ w2.cell? ⟨w.heap.size, 2, none⟩ = some v2 ∧ w2.cell? ⟨w.heap.size, 3, none⟩ = some v3 ∧
  w2.frozen? ⟨w.heap.size, 0, none⟩ = false ∧ w2.frozen? ⟨w.heap.size, 1, none⟩ = false ∧ w2.frozen? ⟨w.heap.size, 2, none⟩ = false ∧ w2.frozen? ⟨w.heap.size, 3, none⟩ = false := by
 have hlt : w.heap.size < (w.alloc (.cells #[v0, v1, v2, v3] 26)).heap.size := by simp
 have hn := hb.block w.heap.size hlt
 have he : (w.alloc (.cells #[v0, v1, v2, v3] 26)).heap[w.heap.size]? = some (.cells #[v0, v1, v2, v3] 26) := by show (w.heap.push _)[w.heap.size]? = _; simp
 rw [he] at hn
 unfold World.cell? World.frozen?
 simp only [hn]
 refine ⟨rfl, rfl, rfl, rfl, rfl, rfl, rfl, rfl⟩
structure Box (w : World) (b : Nat) (v0 v1 v2 v3 : Value) : Prop where
 c0 : w.cell? ⟨b, 0, none⟩ = some v0
 c1 : w.cell? ⟨b, 1, none⟩ = some v1
 c2 : w.cell? ⟨b, 2, none⟩ = some v2
 c3 : w.cell? ⟨b, 3, none⟩ = some v3
 f0 : w.frozen? ⟨b, 0, none⟩ = false
 f1 : w.frozen? ⟨b, 1, none⟩ = false
 f2 : w.frozen? ⟨b, 2, none⟩ = false
 f3 : w.frozen? ⟨b, 3, none⟩ = false
theorem Box.new (w : World) (v0 v1 v2 v3 : Value) : Box (w.alloc (.cells #[v0, v1, v2, v3] 26)) w.heap.size v0 v1 v2 v3 := by
 obtain ⟨h0, h1, h2, h3, h4, h5, h6, h7⟩ := boxAt (Below.refl (w.alloc (.cells #[v0, v1, v2, v3] 26)).heap.size (w.alloc (.cells #[v0, v1, v2, v3] 26)))
 exact ⟨h0, h1, h2, h3, h4, h5, h6, h7⟩
theorem Box.below {w w2 : World} {b : Nat} {v0 v1 v2 v3 : Value} (h : Box w b v0 v1 v2 v3) (hb : Below w.heap.size w w2) : Box w2 b v0 v1 v2 v3 where
 c0 := cell_below hb h.c0
 c1 := cell_below hb h.c1
 c2 := cell_below hb h.c2
 c3 := cell_below hb h.c3
 f0 := (hb.frozen (p := ⟨b, 0, none⟩) (cell_lt h.c0)).trans h.f0
 f1 := (hb.frozen (p := ⟨b, 1, none⟩) (cell_lt h.c0)).trans h.f1
 f2 := (hb.frozen (p := ⟨b, 2, none⟩) (cell_lt h.c0)).trans h.f2
 f3 := (hb.frozen (p := ⟨b, 3, none⟩) (cell_lt h.c0)).trans h.f3
theorem Box.set {w : World} {b : Nat} {v0 v1 v2 v3 : Value} (h : Box w b v0 v1 v2 v3) (u0 u1 u2 u3 : Value) :
  Box ((((w.setCell ⟨b, 0, none⟩ u0).setCell ⟨b, 1, none⟩ u1).setCell ⟨b, 2, none⟩ u2).setCell ⟨b, 3, none⟩ u3) b u0 u1 u2 u3 := by
 obtain ⟨c0, c1, c2, c3, f0, f1, f2, f3⟩ := h
 refine ⟨?_, ?_, ?_, ?_, ?_, ?_, ?_, ?_⟩
 · simp [go_sem, c0]
 · simp [go_sem, c1]
 · simp [go_sem, c2]
 · simp [go_sem, c3]
 · simpa using f0
 · simpa using f1
 · simpa using f2
 · simpa using f3
theorem below_new {w w2 : World} (h : Below w.heap.size w w2) (o : Obj) : Below w.heap.size w (w2.alloc o) := h.alloc h.size o
theorem info37 : (Tryz.prog.info? 26).map (fun i => (i.zero, i.size, i.bytes)) = some (some (.agg #[.int .i64 0, .string ⟨#[]⟩, .int .i64 0, .int .i64 0]), 4, 40) := by kernel_rfl
theorem heap_lt {w : World} {b : Nat} {o : Obj} (h : w.heap[b]? = some o) : b < w.heap.size := by
 rcases Nat.lt_or_ge b w.heap.size with h' | h'
 · exact h'
 · rw [Array.getElem?_eq_none h'] at h; cases h
abbrev Tt := Tk × Int
def tkC (t : Tt) : List Value := [.int .i64 t.1.1, .string (bsA t.1.2.1), .int .i64 t.1.2.2, .int .i64 t.2]
def rtC (r : List Tt) : List Value := r.flatMap tkC
theorem rtC_snoc (r : List Tt) (t : Tt) : rtC (r ++ [t]) = rtC r ++ tkC t := by simp [rtC]
theorem rtC_len : ∀ r : List Tt, (rtC r).length = r.length * 4
 | [] => rfl
 | t :: r => by
  have := rtC_len r
  simp only [rtC, List.flatMap_cons, List.length_append] at this ⊢
  rw [this]; simp [tkC]; omega
theorem rtC_at : ∀ (r : List Tt) (i : Nat) (t : Tt), r[i]? = some t → (rtC r)[i * 4]? = some (.int .i64 t.1.1) ∧ (rtC r)[i * 4 + 1]? = some (.string (bsA t.1.2.1)) ∧ (rtC r)[i * 4 + 2]? = some (.int .i64 t.1.2.2) ∧ (rtC r)[i * 4 + 3]? = some (.int .i64 t.2)
 | [], i, t, h => by simp at h
 | u :: r, 0, t, h => by
  simp only [List.getElem?_cons_zero, Option.some.injEq] at h
  subst h
  exact ⟨rfl, rfl, rfl, rfl⟩
 | u :: r, i + 1, t, h => by
  simp only [List.getElem?_cons_succ] at h
  obtain ⟨h0, h1, h2, h3⟩ := rtC_at r i t h
  have e : rtC (u :: r) = tkC u ++ rtC r := rfl
  have el : (tkC u).length = 4 := rfl
  rw [e]
  refine ⟨?_, ?_, ?_, ?_⟩
  · rw [List.getElem?_append_right (by rw [el]; omega), el, show (i + 1) * 4 - 4 = i * 4 by omega]; exact h0
  · rw [List.getElem?_append_right (by rw [el]; omega), el, show (i + 1) * 4 + 1 - 4 = i * 4 + 1 by omega]; exact h1
  · rw [List.getElem?_append_right (by rw [el]; omega), el, show (i + 1) * 4 + 2 - 4 = i * 4 + 2 by omega]; exact h2
  · rw [List.getElem?_append_right (by rw [el]; omega), el, show (i + 1) * 4 + 3 - 4 = i * 4 + 3 by omega]; exact h3
theorem rtC_one (r : List Tt) : ∀ u ∈ rtC r, u.oneCell' = true := by
 intro u hu
 unfold rtC at hu
 rw [List.mem_flatMap] at hu
 obtain ⟨t, _, hu⟩ := hu
 simp only [tkC, List.mem_cons, List.not_mem_nil, or_false] at hu
 rcases hu with rfl | rfl | rfl | rfl <;> rfl
def TksAt (w : World) (a : Option Addr) (r : List Tt) : Prop :=
 r = [] ∨ ∃ b off, a = some ⟨b, off, none⟩ ∧ ∀ i t, r[i]? = some t → w.cell? ⟨b, off + i * 4, none⟩ = some (.int .i64 t.1.1) ∧ w.cell? ⟨b, off + i * 4 + 1, none⟩ = some (.string (bsA t.1.2.1)) ∧ w.cell? ⟨b, off + i * 4 + 2, none⟩ = some (.int .i64 t.1.2.2) ∧ w.cell? ⟨b, off + i * 4 + 3, none⟩ = some (.int .i64 t.2)
theorem TksAt.below {w w' : World} {a : Option Addr} {r : List Tt} (h : TksAt w a r) (hb : Below w.heap.size w w') : TksAt w' a r := by
 rcases h with h | ⟨b, off, ha, hc⟩
 · exact Or.inl h
 · exact Or.inr ⟨b, off, ha, fun i t hi => ⟨cell_below hb (hc i t hi).1, cell_below hb (hc i t hi).2.1, cell_below hb (hc i t hi).2.2.1, cell_below hb (hc i t hi).2.2.2⟩⟩
theorem TksAt.alloc {w : World} {a : Option Addr} {r : List Tt} (h : TksAt w a r) (o : Obj) : TksAt (w.alloc o) a r := h.below ((Below.refl _ _).alloc (Nat.le_refl _) o)
theorem tks_of_owns {w : World} {base : Nat} {vv : Value} {r : List Tt} (h : w.ownsRow base 26 4 vv r.length (rtC r)) : ∃ a cap, vv = .slice a r.length cap ∧ TksAt w a r ∧ (∀ g o, a = some ⟨g, o, none⟩ → base ≤ g) ∧ r.length ≤ cap := by
 have h' := h
 obtain ⟨hlen, ⟨rfl, h0⟩ | ⟨g, cap, cur, rfl, hbg, hg, hcap, hcm, hcs, htake⟩⟩ := h
 · exact ⟨none, 0, by rw [h0], Or.inl (List.length_eq_zero_iff.1 h0), (fun _ _ e => by cases e), by omega⟩
 refine ⟨_, cap, rfl, Or.inr ⟨g, 0, rfl, fun i t hi => ?_⟩, fun g' o' e => by injection e with e; injection e with e1 e2 _; subst e1; exact hbg, hcap⟩
 have hc := h'.cells (g := g) rfl
 obtain ⟨a, b, c, d⟩ := rtC_at r i t hi
 have ea := hc _ _ a
 have eb := hc _ _ b
 have ec := hc _ _ c
 have ed := hc _ _ d
 rw [add_plain] at ea eb ec ed
 rw [Nat.zero_add] at ea eb ec ed ⊢
 exact ⟨ea, eb, ec, ed⟩
theorem tkCells_new (w : World) (t : Tt) : ∀ j u, (rtC [t])[j]? = some u → (w.alloc (.cells #[.int .i64 t.1.1, .string (bsA t.1.2.1), .int .i64 t.1.2.2, .int .i64 t.2] 26)).cell? ((⟨w.heap.size, 0, none⟩ : Addr).add j) = some u := by
 have e : rtC [t] = [.int .i64 t.1.1, .string (bsA t.1.2.1), .int .i64 t.1.2.2, .int .i64 t.2] := rfl
 have bo := Box.new w (.int .i64 t.1.1) (.string (bsA t.1.2.1)) (.int .i64 t.1.2.2) (.int .i64 t.2)
 rw [e]
 intro j u hj
 rw [add_plain]
 match j, hj with
 | 0, hj => simp only [List.getElem?_cons_zero, Option.some.injEq] at hj; subst hj; exact bo.c0
 | 1, hj => simp only [List.getElem?_cons_succ, List.getElem?_cons_zero, Option.some.injEq] at hj; subst hj; exact bo.c1
 | 2, hj => simp only [List.getElem?_cons_succ, List.getElem?_cons_zero, Option.some.injEq] at hj; subst hj; exact bo.c2
 | 3, hj => simp only [List.getElem?_cons_succ, List.getElem?_cons_zero, Option.some.injEq] at hj; subst hj; exact bo.c3
 | j + 4, hj => simp at hj
theorem owns_below {w w' : World} {base e size n : Nat} {v : Value} {xs : List Value} (h : w.ownsRow base e size v n xs) (hb : Below w.heap.size w w') : w'.ownsRow base e size v n xs :=
 h.kept (row := none) ⟨hb.os, hb.tape, hb.output, hb.size, fun k hk _ => hb.block k hk⟩ (by cases v.ownBlock <;> simp)
end Go.Proofs.YtgdndahhledikaaGreatDoor
namespace Go.Proofs.YtgdndahhledikaaGreatDoor
open Go.ChangeShapes Go.WideShapes Go.ChangeAt Go.RowKit
def Tr : Nat → Type
 | 0 => Empty
 | n + 1 => Int × List UInt8 × Int × Int × List (Tr n)
def kd : (n : Nat) → Tr n → Int
 | 0, _ => 0
 | _ + 1, x => x.1
def tx : (n : Nat) → Tr n → List UInt8
 | 0, _ => []
 | _ + 1, x => x.2.1
def nu : (n : Nat) → Tr n → Int
 | 0, _ => 0
 | _ + 1, x => x.2.2.1
def pl : (n : Nat) → Tr n → Int
 | 0, _ => 0
 | _ + 1, x => x.2.2.2.1
def ks : (n : Nat) → Tr n → List (Tr n.pred)
 | 0, _ => []
 | _ + 1, x => x.2.2.2.2
def KsL (n : Nat) (w : World) (sl : Option Addr) (l : List (Tr n)) (p : Tr n → Option Addr → Prop) : Prop :=
 l.length ≤ 9223372036854775807 ∧ (l = [] ∨ ∃ b off, sl = some ⟨b, off, none⟩ ∧ ∀ i y, l[i]? = some y → ∃ s c, (w.cell? ⟨b, off + i * 5, none⟩ = some (.int .i64 (kd n y)) ∧ w.cell? ⟨b, off + i * 5 + 1, none⟩ = some (.string (bsA (tx n y))) ∧ w.cell? ⟨b, off + i * 5 + 2, none⟩ = some (.int .i64 (nu n y)) ∧ w.cell? ⟨b, off + i * 5 + 3, none⟩ = some (.int .i64 (pl n y)) ∧ w.cell? ⟨b, off + i * 5 + 4, none⟩ = some (.slice s (ks n y).length c)) ∧ p y s)
def NdAt (w : World) : (n : Nat) → Tr n → Option Addr → Prop
 | 0, _, _ => False
 | n + 1, x, sl => KsL n w sl (ks (n + 1) x) (NdAt w n)
def KsAt (w : World) (n : Nat) (sl : Option Addr) (l : List (Tr n)) : Prop := KsL n w sl l (NdAt w n)
theorem NdAt.kids {w : World} {n : Nat} {x : Tr (n + 1)} {sl : Option Addr} (h : NdAt w (n + 1) x sl) : KsAt w n sl (ks (n + 1) x) := h
theorem KsL.mono {n : Nat} {w w' : World} {sl : Option Addr} {l : List (Tr n)} {p q : Tr n → Option Addr → Prop} (h : KsL n w sl l p) (hb : Below w.heap.size w w') (hpq : ∀ y s, p y s → q y s) : KsL n w' sl l q := by
 obtain ⟨hl, h⟩ := h
 refine ⟨hl, ?_⟩
 rcases h with h | ⟨b, off, e, hc⟩
 · exact Or.inl h
 ·
  refine Or.inr ⟨b, off, e, fun i y hi => ?_⟩
  obtain ⟨s, c, ⟨c0, c1, c2, c3, c4⟩, hp⟩ := hc i y hi
  exact ⟨s, c, ⟨cell_below hb c0, cell_below hb c1, cell_below hb c2, cell_below hb c3, cell_below hb c4⟩, hpq y s hp⟩
theorem NdAt.below {w w' : World} (hb : Below w.heap.size w w') : ∀ {n : Nat} {x : Tr n} {sl : Option Addr}, NdAt w n x sl → NdAt w' n x sl
 | 0, _, _, h => h
 | n + 1, _, _, h => KsL.mono (p := NdAt w n) (q := NdAt w' n) h hb (fun _ _ h => NdAt.below hb h)
theorem KsAt.below {w w' : World} {n : Nat} {sl : Option Addr} {l : List (Tr n)} (h : KsAt w n sl l) (hb : Below w.heap.size w w') : KsAt w' n sl l :=
 KsL.mono h hb (fun _ _ h => NdAt.below hb h)
end Go.Proofs.YtgdndahhledikaaGreatDoor
namespace Go.Proofs.YtgdndahhledikaaGreatDoor
set_option maxRecDepth 20000
set_option maxHeartbeats 4000000
open Go.ChangeShapes Go.WideShapes Go.ChangeAt Go.RowKit
end Go.Proofs.YtgdndahhledikaaGreatDoor
