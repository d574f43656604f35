/- The last arrival of each key (lastOfEach). -/
import Derived.Stop.RegionWithIn
import Derived.Sort.CutIn
import Derived.Test.YtfjpdflilmcnhaaDoorMgL
import Derived.Test.YtfjpdflilmcnhaaDoorMgM
import Derived.Test.YtfjpdflilmcnhaaDoorYng
import Derived.Test.YtfjpdflilmcnhaaDoorMgE
import Derived.Test.YtfjpdflilmcnhaaDoorRdf
namespace Go.Proofs.YtfjpdflilmcnhaaDoor
open Go.ChangeShapes Go.WideShapes Go.ChangeAt Go.RowKit

open Go.Shelf
open Go.ChangeMaps (setBlock)
attribute [local go_sem] Oper.semAt_some
/-- The places, in the order in which they came, of those whose key came first. -/
def frR (key : Nat → List Val) {n : Nat} : List (Fin n) → List Nat
  | [] => []
  | x :: r => if r.any (fun y => decide (key y.1 = key x.1)) = true then frR key r else frR key r ++ [x.1]
def frP (key : Nat → List Val) {n : Nat} (pre : List (Fin n)) : List Nat := frR key pre.reverse
theorem frP_snoc (key : Nat → List Val) {n : Nat} (pre : List (Fin n)) (x : Fin n) : frP key (pre ++ [x]) = if (∃ y ∈ pre, key y.1 = key x.1) then frP key pre else frP key pre ++ [x.1] := by
  unfold frP
  rw [List.reverse_append]
  show frR key (x :: pre.reverse) = _
  rw [frR]
  by_cases h : ∃ y ∈ pre, key y.1 = key x.1
  · rw [if_pos h, if_pos]
    obtain ⟨y, hy, he⟩ := h
    exact List.any_eq_true.2 ⟨y, by simpa using hy, by simpa using he⟩
  · rw [if_neg h, if_neg]
    intro ha
    obtain ⟨y, hy, he⟩ := List.any_eq_true.1 ha
    exact h ⟨y, by simpa using hy, by simpa using he⟩
theorem frP_len (key : Nat → List Val) {n : Nat} (pre : List (Fin n)) : (frP key pre).length ≤ pre.length := by
  have h : ∀ r : List (Fin n), (frR key r).length ≤ r.length := by
    intro r
    induction r with
    | nil => exact Nat.le_refl _
    | cons x r ih =>
      rw [frR]
      split
      · simp; omega
      · simp; omega
  unfold frP
  have := h pre.reverse
  simpa using this
/-- The last one of each key. -/
def ueP (key : Nat → List Val) (n : Nat) : List Nat := (List.range n).filter fun p => !((List.range n).any fun q => decide (p < q) && decide (key q = key p))
theorem mem_bkL {n k : Nat} (h : k ≤ n) (y : Fin n) : y ∈ bkL n k ↔ n - k ≤ y.1 := by
  induction k with
  | zero => have := y.2; simp [bkL]
  | succ k ih =>
    rw [bkL_succ (by omega), List.mem_append, ih (by omega), List.mem_singleton]
    constructor
    · rintro (q | q)
      · omega
      · subst q; show n - (k + 1) ≤ n - 1 - k; omega
    · intro q
      by_cases c : n - k ≤ y.1
      · exact Or.inl c
      · exact Or.inr (Fin.ext (by show y.1 = n - 1 - k; omega))
theorem frP_bk (key : Nat → List Val) (n : Nat) : frP key (bkL n n) = (ueP key n).reverse := by
  have h : ∀ k, k ≤ n → frP key (bkL n k) = ((List.range' (n - k) k).filter fun p => !((List.range n).any fun q => decide (p < q) && decide (key q = key p))).reverse := by
    intro k
    induction k with
    | zero => intro _; rfl
    | succ k ih =>
      intro hk
      rw [bkL_succ (by omega), frP_snoc, ih (by omega)]
      rw [show List.range' (n - (k + 1)) (k + 1) = (n - 1 - k) :: List.range' (n - k) k by
        rw [List.range'_succ, show n - (k + 1) = n - 1 - k by omega, show n - 1 - k + 1 = n - k by omega]]
      rw [List.filter_cons]
      by_cases hx : ∃ y ∈ bkL n k, key y.1 = key (n - 1 - k)
      · rw [if_pos hx, if_neg]
        obtain ⟨y, hy, he⟩ := hx
        have hy2 := (mem_bkL (by omega) y).1 hy
        have : ((List.range n).any fun q => decide (n - 1 - k < q) && decide (key q = key (n - 1 - k))) = true := by
          rw [List.any_eq_true]
          exact ⟨y.1, by have := y.2; simp, by
            rw [Bool.and_eq_true]; exact ⟨decide_eq_true (by omega), decide_eq_true he⟩⟩
        rw [this]; simp
      · rw [if_neg hx, if_pos, List.reverse_cons]
        have : ((List.range n).any fun q => decide (n - 1 - k < q) && decide (key q = key (n - 1 - k))) = false := by
          rw [List.any_eq_false]
          intro q hq hc
          rw [Bool.and_eq_true] at hc
          have h1 := of_decide_eq_true hc.1
          have h2 := of_decide_eq_true hc.2
          have hqn : q < n := by simpa using hq
          exact hx ⟨⟨q, hqn⟩, (mem_bkL (by omega) _).2 (by show n - k ≤ q; omega), h2⟩
        rw [this]; rfl
  have := h n (Nat.le_refl _)
  rw [Nat.sub_self, ← List.range_eq_range'] at this
  exact this
theorem five_allocs (w : World) (o0 o1 o2 o3 o4 : Obj) (W : World) (hW : ((((w.alloc o0).alloc o1).alloc o2).alloc o3).alloc o4 = W) :
    W.heap.size = w.heap.size + 5 ∧ Below w.heap.size w W ∧ W.heap[w.heap.size]? = some o0 ∧ W.heap[w.heap.size + 1]? = some o1 ∧ W.heap[w.heap.size + 2]? = some o2 ∧ W.heap[w.heap.size + 3]? = some o3 ∧ W.heap[w.heap.size + 4]? = some o4 := by
  subst hW
  have n0 := World.alloc_heap_new w o0
  have n1 := World.alloc_heap_new (w.alloc o0) o1
  have n2 := World.alloc_heap_new ((w.alloc o0).alloc o1) o2
  have n3 := World.alloc_heap_new (((w.alloc o0).alloc o1).alloc o2) o3
  have n4 := World.alloc_heap_new ((((w.alloc o0).alloc o1).alloc o2).alloc o3) o4
  simp only [World.size_alloc] at n1 n2 n3 n4
  have up : ∀ (W : World) (o : Obj) (k : Nat) (o' : Obj), W.heap[k]? = some o' → (W.alloc o).heap[k]? = some o' := fun W o k o' h => (Below.heap_alloc _ _ _ (heap_lt h)).trans h
  refine ⟨by simp only [World.size_alloc], ?_, ?_, ?_, ?_, ?_, n4⟩
  · exact (((((Below.refl _ _).alloc (Nat.le_refl _) _).alloc (by simp only [World.size_alloc]; omega) _).alloc (by simp only [World.size_alloc]; omega) _).alloc (by simp only [World.size_alloc]; omega) _).alloc (by simp only [World.size_alloc]; omega) _
  · exact up _ _ _ _ (up _ _ _ _ (up _ _ _ _ (up _ _ _ _ n0)))
  · exact up _ _ _ _ (up _ _ _ _ (up _ _ _ _ n1))
  · exact up _ _ _ _ (up _ _ _ _ n2)
  · exact up _ _ _ _ n3
theorem inC_range (ps : List Nat) : inC ps = (List.range ps.length).map fun k => Value.int .i64 (ps.getD k 0 : Nat) := by
  unfold inC
  apply List.ext_getElem
  · simp
  · intro i h1 h2
    simp at h1 h2
    simp [h1]
theorem ueP_len (key : Nat → List Val) (n : Nat) : (ueP key n).length ≤ n := by
  have h := List.length_filter_le (fun p => !((List.range n).any fun q => decide (p < q) && decide (key q = key p))) (List.range n)
  rw [List.length_range] at h
  exact h
theorem ueP_pos (key : Nat → List Val) {n : Nat} (hn : 0 < n) : 0 < (ueP key n).length := by
  apply List.length_pos_of_mem (a := n - 1)
  unfold ueP
  rw [List.mem_filter]
  refine ⟨by simp; omega, ?_⟩
  have : ((List.range n).any fun q => decide (n - 1 < q) && decide (key q = key (n - 1))) = false := by
    rw [List.any_eq_false]
    intro q hq hc
    rw [Bool.and_eq_true] at hc
    have h1 := of_decide_eq_true hc.1
    have hqn : q < n := by simpa using hq
    omega
  rw [this]; rfl
theorem make80 (w : World) : (Instr.makeMap 80 none).run Tryd.prog w = .ok (.map (some w.heap.size)) (w.alloc (.map #[] 0)) := by
  simp [Instr.makeMap, go_sem, Result.andThen]
/-- Which blocks a round may turn: the map, the box of the places, and what is new. -/
def LoS (X k : Nat) : Prop := k = X + 1 ∨ k = X + 3 ∨ X + 5 ≤ k
/-- What holds behind so many arrivals. -/
structure LeI (W0 : World) (X : Nat) (key : Nat → List Val) (c : Nat) {n : Nat} (pre : List (Fin n)) (W : World) : Prop where
  tr : ∃ M pre', TrM W (X + 1) M pre' ∧ M.length ≤ pre.length * c ∧ ∀ h, h.length = c → (Known M pre' h ↔ ∃ x ∈ pre, key x.1 = h)
  bx : ∃ v, Boxed W (X + 3) 22 v ∧ W.ownsRow (X + 5) 3 1 v (frP key pre).length (inC (frP key pre)) ∧ True
  fr : Fr (LoS X) W0 W
theorem own_mono {w : World} {base base' : Nat} {e : TypeId} {size : Nat} {v : Value} {n : Nat} {xs : List Value} (h : w.ownsRow base e size v n xs) (hb : base' ≤ base) : w.ownsRow base' e size v n xs := by
  refine ⟨h.1, ?_⟩
  rcases h.2 with h1 | ⟨g, cap, cur, h2, h3, h4⟩
  · exact .inl h1
  · exact .inr ⟨g, cap, cur, h2, Nat.le_trans hb h3, h4⟩
theorem box_app {W w1 : World} {X : Nat} {v v' : Value} {k m : Nat} {xs ys : List Value} {tmp : Obj} (hv : Boxed W (X + 3) 22 v) (hrow : W.ownsRow (X + 5) 3 1 v k xs) (hX : X + 5 ≤ W.heap.size)
    (hown' : w1.ownsRow (X + 5) 3 1 v' m ys) (hgrow : (W.alloc tmp).grownBy w1 v.ownBlock) :
    Boxed w1 (X + 3) 22 v ∧ Boxed (w1.setCell ⟨X + 3, 0, none⟩ v') (X + 3) 22 v' ∧ (w1.setCell ⟨X + 3, 0, none⟩ v').ownsRow (X + 5) 3 1 v' m ys ∧ KeepsOthers W (w1.setCell ⟨X + 3, 0, none⟩ v') ∧ Fr (LoS X) W (w1.setCell ⟨X + 3, 0, none⟩ v') := by
  obtain ⟨h1, h2, h3, h4, h5⟩ := hv.appended (by show (22 : Nat) ≠ 3; decide) (own_mono hrow (show X + 3 ≤ X + 5 by omega)) (by omega) (Nat.le_refl _) (own_mono hown' (show X + 3 ≤ X + 5 by omega)) hgrow
  refine ⟨h1, h2, hown'.kept (grownBy_setCell' w1 (X + 3) v') (.inr (h1.not_row (by decide) hown').symm), h4, h5.os, h5.tape, h5.output, h5.size, ?_⟩
  intro j hj hS
  have hj3 : j ≠ X + 3 := fun e => hS (Or.inr (Or.inl e))
  have hj5 : j < X + 5 := by
    by_cases c : j < X + 5
    · exact c
    · exact absurd (Or.inr (Or.inr (by omega))) hS
  rw [Below.heap_setCell _ _ _ _ (by rintro rfl; exact hj3 rfl)]
  rw [hgrow.block j (by simp; omega) (fun e => ?_)]
  · exact Below.heap_alloc _ _ _ hj
  · rcases hrow.2 with ⟨rfl, _⟩ | ⟨g, cap, cur, rfl, hb, _, _⟩
    · simp [Value.ownBlock] at e
    · have : j = g := by simpa [Value.ownBlock] using e
      omega
theorem keepsFrom_fr {g B : Nat} {W W' : World} (h : Fr (fun k => k = g) W W') (hg : g < B) : KeepsFrom B W W' :=
  ⟨h.size, fun k o hk hko _ => (h.block k (heap_lt hko) (by omega)).trans hko⟩
theorem inC_snoc (l : List Nat) (x : Nat) : inC (l ++ [x]) = inC l ++ [.int .i64 (x : Nat)] := by simp [inC]
theorem keyP_len (r : List Val) (zs : List Int) : (keyP r zs).length = zs.length := by simp [keyP]
theorem LeI.own {W0 : World} {X : Nat} {key : Nat → List Val} {c n : Nat} : OwnFrom (X + 5) (fun (pre : List (Fin n)) W => LeI W0 X key c pre W) := by
  intro pre W W' row hI hg hr
  have hne : ∀ k, k < X + 5 → some k ≠ row := fun k hk e => by
    have := (hr k e.symm).1; omega
  refine ⟨?_, ?_, ?_⟩
  · obtain ⟨M, pre', ⟨⟨es, clk, h1⟩, h2⟩, h3, h4⟩ := hI.tr
    exact ⟨M, pre', ⟨⟨es, clk, ⟨(hg.block _ (heap_lt h1.at_) (hne _ (by omega))).trans h1.at_, h1.same, h1.old, h1.once⟩⟩, h2⟩, h3, h4⟩
  · exact (holdsRow_own (X + 5) (X + 3) 22 3 1 (fun pre : List (Fin n) => (frP key pre).length) (fun pre => inC (frP key pre)) (fun _ _ => True)).from (X + 5) pre W W' row hI.bx hg hr
  · exact hI.fr.trans ⟨hg.os, hg.tape, hg.output, hg.size, fun k hk hS => hg.block k hk (fun e => hS (Or.inr (Or.inr (hr k e.symm).1)))⟩

set_option maxRecDepth 100000 in
set_option maxHeartbeats 16000000 in
theorem lastOf_any (f0 f1 f2 : Nat) (n : Int) (za : Option Addr) (zc : Nat) (d : Bool) (lb lo lc : Nat) (now : Int) (zs : List Int) (l : List Arv) (w : World) (hA : ArsAt w (some ⟨lb, lo, none⟩) l) (hZ : NsAt w za zs) (hl0 : 0 < l.length) (hl : l.length ≤ 200) (hz0 : ∀ z ∈ zs, 0 ≤ z ∧ z ≤ 9223372036854775807) (hzl : zs.length ≤ 4398046511104) (hz1 : 0 < zs.length) :
    Calls Tryd.prog 42 #[vvV f0 f1 f2 n za zs.length zc d (some ⟨lb, lo, none⟩) l.length lc now] w (HsP w (ueP (fun i => keyP (aAt l i).row zs) l.length)) := by
  refine (callsIn_wide (n := 3)).1 ?_
  unfold vvV
  have hmk := make80
  obtain ⟨i0, hi, hz⟩ := Option.map_eq_some_iff.1 info3
  simp only [Prod.mk.injEq] at hz
  obtain ⟨hz, hs, hb3⟩ := hz
  have hone : Hid (∀ x, ∀ u ∈ [Value.int .i64 x], u.oneCell' = true) := it_one
  have hcel : Hid (∀ (w : World) (x : Int), ∀ j u, ([Value.int .i64 x])[j]? = some u → (w.alloc (.cells #[.int .i64 x] 3)).cell? ((⟨w.heap.size, 0, none⟩ : Addr).add j) = some u) := it_cells
  refine callsIn_of_wp_marks Tryd.func42 rfl trivial ?_ rfl
  simp only [Tryd.ntmps42, List.size_toArray, List.length_cons, List.length_nil, Nat.reduceAdd, Nat.reduceSub, Array.replicate_succ, Array.replicate_zero, List.push_toArray, List.append_toArray, List.nil_append, List.cons_append]
  gi_wp2_with (refine ⟨trivial, ?_⟩; gi_at_call 54; refine (backward_in Fence.wide _ trivial rfl _ _ _ _).mono ?_; rintro e wq ⟨rfl, rfl⟩)
  obtain ⟨W0, hW0⟩ : ∃ W0, (((((w.alloc (Obj.cells #[.func (.func f0) #[] #[], .func (.func f1) #[] #[], .func (.func f2) #[] #[], .int .i64 n, .slice za zs.length zc, .bool d, .slice (some ⟨lb, lo, none⟩) l.length lc, .int .i64 now] 64)).alloc (.map #[] 0)).alloc (.cells #[.map (some (w.heap.size + 1))] 80)).alloc (.cells #[.slice none 0 0] 22)).alloc (.cells #[.slice (some ⟨lb, lo, none⟩) l.length lc] 31)) = W0 := ⟨_, rfl⟩
  obtain ⟨hs0, hB0, e0, e1, e2, e3', e4⟩ := five_allocs w _ _ _ _ _ W0 hW0
  have e3 : Boxed W0 (w.heap.size + 3) 22 (.slice none 0 0) := by
    rw [← hW0]
    have := Boxed.new (((w.alloc (Obj.cells #[.func (.func f0) #[] #[], .func (.func f1) #[] #[], .func (.func f2) #[] #[], .int .i64 n, .slice za zs.length zc, .bool d, .slice (some ⟨lb, lo, none⟩) l.length lc, .int .i64 now] 64)).alloc (.map #[] 0)).alloc (.cells #[.map (some (w.heap.size + 1))] 80)) 22 (.slice none 0 0)
    simp only [World.size_alloc] at this
    exact this.alloc _
  have hA0 := hA.below hB0
  have hZ0 := hZ.below hB0
  rw [hW0]
  clear hW0
  obtain ⟨X, hX⟩ : ∃ X, w.heap.size = X := ⟨_, rfl⟩
  have HX : Hid (w.heap.size = X) := hX
  have HB0 : Hid (Below X w W0) := by rw [← hX]; exact hB0
  rw [hX] at hs0 e0 e1 e2 e3 e4 ⊢
  rw [show X + 1 + 1 + 1 + 1 = X + 4 by omega, show X + 1 + 1 + 1 = X + 3 by omega, show X + 1 + 1 = X + 2 by omega]
  have hXw := hA.cels
  clear hB0 hX e3'
  have hcl : ∀ i, i < l.length → W0.cell? ⟨lb, lo + i * 3, none⟩ = some (.int .i64 (aAt l i).seq) ∧ W0.cell? ⟨lb, lo + i * 3 + 1, none⟩ = some (.int .i64 (aAt l i).time) ∧ W0.cell? ⟨lb, lo + i * 3 + 2, none⟩ = some (.slice (aAt l i).a (aAt l i).row.length (aAt l i).cap) := by
    rcases hA0.cels with h | ⟨b, off, h1, h2⟩
    · rw [h] at hl0; exact absurd hl0 (by simp)
    · injection h1 with h1; injection h1 with h1 h3 _; subst h1; subst h3; exact h2
  have hlb : lb < X := by
    rcases hA.cels with h | ⟨b, off, h1, h2⟩
    · rw [h] at hl0; exact absurd hl0 (by simp)
    · injection h1 with h1; injection h1 with h1 h3 _; subst h1; subst h3; have := cell_lt (h2 0 hl0).1; have := HX.out; omega
  have hT0 : ∃ M pre', TrM W0 (X + 1) M pre' ∧ M.length ≤ 0 ∧ ∀ h, h.length = zs.length → (Known M pre' h ↔ ∃ x ∈ ([] : List (Fin l.length)), keyP (aAt l x.1).row zs = h) := by
    refine ⟨[], fun _ => [], ⟨⟨#[], 0, e1, rfl, fun e he => by simp at he, by simp⟩, ⟨rfl, fun f v t ht => by simp [lk] at ht, fun i j hi hj _ => by simp at hi hj; omega, fun i h1 h2 => by simp at h2; omega⟩⟩, by simp, fun h hh => ⟨?_, fun ⟨x, hx, _⟩ => by simp at hx⟩⟩
    rintro ⟨i, _, rfl⟩
    simp at hh; omega
  refine wpIn_rangeFunc_ownH (F := Fence.wide) (n := 3) rfl (by omega) (gf := 66) (lb := #[.pointer (some ⟨X + 4, 0, none⟩)]) rfl trivial (enters_of Tryd.func66 (by kernel_rfl) rfl) (encs := fun x : Fin l.length => #[Value.int .i64 (x.1 : Nat), arV (aAt l x.1)]) (Kp := Fr (LoS X)) (S := fun ys => ys = bkL l.length l.length) (Sp := fun pre => ∃ k, k ≤ l.length ∧ pre = bkL l.length k) (N := l.length) (w0 := W0)
    (back_stops Fence.wide 2 trivial rfl (by omega) (X + 4) lb lo lc l (LoS X) (by unfold LoS; omega) (by unfold LoS; omega) hl W0 (by simp [World.cell?, e4]) hcl)
    (fun h k => h.trans k) (fun W k o o' hk hW _ _ => Fr.setBlock (Fr.refl _ _) (Or.inr (Or.inr (by omega))) _) (Below.refl _ _) (fun _ => rfl)
    (fun pre W => LeI W0 X (fun i => keyP (aAt l i).row zs) zs.length pre W)
    (fun _ _ _ => False)
    (by rw [hs0]; exact LeI.own)
    (fun _ _ _ _ _ hs _ _ => hs)
    ⟨by simpa using hT0, ⟨_, e3, World.ownsRow_nil _ _ _ _, trivial⟩, Fr.refl _ _⟩
    (fun x a' W => ∃ Bx, X + 5 ≤ Bx ∧ W.heap[Bx]? = some (.cells #[.int .i64 (aAt l x.1).seq, .int .i64 (aAt l x.1).time, .slice (aAt l x.1).a (aAt l x.1).row.length (aAt l x.1).cap] 40) ∧ a' = { tmps := #[.agg #[.func (.func f0) #[] #[], .func (.func f1) #[] #[], .func (.func f2) #[] #[], .int .i64 n, .slice za zs.length zc, .bool d, .slice (some ⟨lb, lo, none⟩) l.length lc, .int .i64 now], .pointer (some ⟨X, 0, none⟩), .slice none 0 0, .pointer (some ⟨X + 2, 0, none⟩), .pointer (some ⟨X + 3, 0, none⟩), .int .i64 (x.1 : Nat), .pointer (some ⟨Bx, 0, none⟩), .map (some (X + 1)), .pointer (some ⟨X, 6, none⟩), .slice (some ⟨lb, lo, none⟩) l.length lc, .func (.func 66) #[] #[.pointer (some ⟨X + 4, 0, none⟩)], .int .i64 (x.1 : Nat), .agg #[.int .i64 (aAt l x.1).seq, .int .i64 (aAt l x.1).time, .slice (aAt l x.1).a (aAt l x.1).row.length (aAt l x.1).cap], undef, undef, undef, undef, undef, undef, undef, undef, undef, undef, undef, undef, undef, undef], defers := [] })
    (fun x a' _ Y Z row hs hg hr => ?ax)
    ?assign ?body ?done ?stop
  case ax =>
    obtain ⟨Bx, h1, h2, h3⟩ := hs
    refine ⟨Bx, h1, (hg.block _ (heap_lt h2) (fun e => ?_)).trans h2, h3⟩
    obtain ⟨_, o, ho, hc⟩ := hr _ e.symm
    rw [h2] at ho; cases ho; cases hc
  case assign =>
    rintro k pre x W K hI hK
    simp only [arV]
    gi_wp2
    refine hK _ _ ((KeepsOthers.alloc W _).from _) (Fr.of ((Below.refl _ _).alloc (Nat.le_refl _) _)) (LeI.own.alloc _ hI) ⟨W.heap.size, ?_, World.alloc_heap_new _ _, rfl⟩
    have := hI.fr.size; omega
  case body =>
    rintro k pre x a' W hk ⟨r, hr⟩ hI ⟨Bx, hBx, hbx, rfl⟩ hlt
    obtain ⟨M, pre', hT, hM, hK⟩ := hI.tr
    obtain ⟨v, hv, hrow, -⟩ := hI.bx
    have hF := hI.fr
    have c3 : W.cell? ⟨X + 2, 0, none⟩ = some (.map (some (X + 1))) := hF.cell (by unfold LoS; omega) (by simp [World.cell?, e2])
    have c4 : W.cell? ⟨X, 4, none⟩ = some (.slice za zs.length zc) := hF.cell (by unfold LoS; omega) (by simp [World.cell?, e0])
    have cb : W.cell? ⟨Bx, 2, none⟩ = some (.slice (aAt l x.1).a (aAt l x.1).row.length (aAt l x.1).cap) := by simp [World.cell?, hbx]
    have hrow0 : RowAt W (aAt l x.1).a (aAt l x.1).row := by
      have h1 := hA.rows (aAt l x.1) (by unfold aAt; rw [List.getD_eq_getElem?_getD, List.getElem?_eq_getElem x.2]; exact List.getElem_mem _)
      rcases h1 with h1 | ⟨b, off, ha, hc⟩
      · exact Or.inl h1
      · by_cases hn0 : (aAt l x.1).row.length = 0
        · exact Or.inl hn0
        · have hbX : b < X := by have := cell_lt (hc 0 (by omega)).1; have := HX.out; omega
          have hb : Below w.heap.size w W0 := by rw [HX.out]; exact HB0.out
          have hS : ¬ LoS X b := by unfold LoS; omega
          exact Or.inr ⟨b, off, ha, fun i hi => ⟨hF.cell hS (cell_below hb (hc i hi).1), hF.cell hS (cell_below hb (hc i hi).2.1), hF.cell hS (cell_below hb (hc i hi).2.2)⟩⟩
    have hzW : NsAt W za zs := by
      rcases hZ with h | ⟨b, off, ha, hc⟩
      · exact Or.inl h
      · have hbX : b < X := by have := cell_lt (hc 0 hz1); have := HX.out; omega
        have hb : Below w.heap.size w W0 := by rw [HX.out]; exact HB0.out
        exact Or.inr ⟨b, off, ha, fun i hi => hF.cell (by unfold LoS; omega) (cell_below hb (hc i hi))⟩
    have hsW : X + 5 ≤ W.heap.size := by have := hF.size; omega
    have HI : Hid (LeI W0 X (fun i => keyP (aAt l i).row zs) zs.length pre W) := hI
    have HT : Hid (TrM W (X + 1) M pre') := hT
    have HK : Hid (∀ (h : List Val), h.length = zs.length → (Known M pre' h ↔ ∃ x, x ∈ pre ∧ keyP (aAt l ↑x).row zs = h)) := hK
    have HM : Hid (M.length ≤ pre.length * zs.length) := hM
    have hMs : M.length ≤ 1000000000000000 := by
      have : pre.length * zs.length ≤ 200 * 4398046511104 := Nat.mul_le_mul (by omega) hzl
      omega
    have HR : Hid (W.ownsRow (X + 5) 3 1 v (frP (fun i => keyP (aAt l i).row zs) pre).length (inC (frP (fun i => keyP (aAt l i).row zs) pre))) := hrow
    have HV : Hid (Boxed W (X + 3) 22 v) := hv
    have hpl : pre.length ≤ 200 := by omega
    have hfl := frP_len (fun i => keyP (aAt l i).row zs) pre
    clear hI hT hK hM hrow hv hF hr
    have hbd : Below W.heap.size W W.drew := (Below.refl _ _).drew
    have hzd := hzW.below hbd
    have hrd := hrow0.below hbd
    have c3d := cell_below hbd c3
    have c4d := cell_below hbd c4
    have cbd := cell_below hbd cb
    have hlen : (keyP (aAt l x.1).row zs).length ≤ 4398046511104 := by rw [keyP_len]; exact hzl
    gi_upto_region 6 with fail
    gi_cut [19] from 13 (fun b W' => ∃ (f : Bool) (M1 : Stps) (pre1 : Nat → List Val), b = .bool f ∧ TrM W' (X + 1) M1 pre1 ∧ M1.length ≤ (pre ++ [x]).length * zs.length ∧ Fr (fun k => k = X + 1) W W' ∧ (f = true ↔ ¬ ∃ y ∈ pre, keyP (aAt l y.1).row zs = keyP (aAt l x.1).row zs) ∧ ∀ h, h.length = zs.length → (Known M1 pre1 h ↔ ∃ y ∈ pre ++ [x], keyP (aAt l y.1).row zs = h))
    case first =>
      rename_i J K' hJ hK'
      gi_region_with (first | (refine ⟨trivial, ?_⟩; gi_at_call 56; refine (CallsIn.inRound k (callsIn_wide.2 (valuesAt_any _ _ _ _ _ _ _ hzd hrd (by omega) hz0))).mono ?_; rintro e w1 ⟨ka, kc, rfl, hkr, hkf, hkb⟩; have hkb' := hbd.trans hkb; have c3' := cell_below hkb' c3; have hkg : ∀ g' f, ka = some ⟨g', f, none⟩ → g' ≠ X + 1 := (fun g f e => by have h2 : W.heap.size ≤ g := hkf g f e; omega)) | (refine ⟨trivial, ?_⟩; gi_at_call 55; refine (CallsIn.inRound k (callsIn_wide.2 (fresh_any (X + 1) _ _ _ M pre' _ (HT.out.below hkb') hkr hkg hlen hMs))).mono ?_; rintro e w2 ⟨f, M1, pre1, rfl, q1, q2, q3, q4, q5⟩))
      all_goals first | refine hK' _ _ (Met.intro (hJ _ _ ?_)) | refine Met.intro (hJ _ _ ?_) | refine hJ _ _ ?_
      all_goals ((repeat apply Exists.intro); refine ⟨?_, rfl⟩)
      all_goals (
        refine ⟨_, M1, pre1, rfl, q1, ?_, ((Fr.of hkb').trans q3), ?_, ?_⟩
        · rw [keyP_len] at q2
          rw [List.length_append, List.length_singleton, Nat.add_mul]
          have := HM.out; omega
        · rw [q4, HK.out _ (keyP_len _ _)]
        · intro h hh
          rw [q5 h, HK.out h hh]
          constructor
          · rintro (⟨y, hy, he⟩ | ⟨k', hk', rfl⟩)
            · exact ⟨y, List.mem_append_left _ hy, he⟩
            · refine ⟨x, by simp, ?_⟩
              rw [keyP_len] at hk'
              rw [List.length_take, keyP_len] at hh
              rw [List.take_of_length_le (by rw [keyP_len]; omega)]
          · rintro ⟨y, hy, rfl⟩
            rcases List.mem_append.1 hy with hy | hy
            · exact Or.inl ⟨y, hy, rfl⟩
            · rw [List.mem_singleton.1 hy]
              exact Or.inr ⟨_, Nat.le_refl _, (List.take_of_length_le (Nat.le_refl _)).symm⟩)
    case rest =>
      obtain ⟨f, M1, pre1, rfl, q1, q2, q3, q4, q5⟩ := hcut
      obtain ⟨⟨es0, clk0, hmap⟩, _⟩ := HT.out
      have hgr : W.grownBy wc (some (X + 1)) := ⟨q3.os, q3.tape, q3.output, q3.size, fun j hj hne => q3.block j hj (fun e => hne (by rw [e]))⟩
      obtain ⟨v2, hv2, hrow2, -⟩ := (holdsRow_own (X + 5) (X + 3) 22 3 1 (fun p : List (Fin l.length) => (frP (fun i => keyP (aAt l i).row zs) p).length) (fun p => inC (frP (fun i => keyP (aAt l i).row zs) p)) (fun _ _ => True)) pre W wc (some (X + 1)) HI.out.bx hgr (fun r e => by cases e; exact ⟨_, hmap.at_, rfl⟩)
      have hc2 := hv2.cell
      have HV2 : Hid (Boxed wc (X + 3) 22 v2) := hv2
      have hsc : X + 5 ≤ wc.heap.size := Nat.le_trans hsW q3.size
      have HQ : Hid (TrM wc (X + 1) M1 pre1 ∧ M1.length ≤ (pre ++ [x]).length * zs.length ∧ Fr (fun k => k = X + 1) W wc ∧ ∀ h, h.length = zs.length → (Known M1 pre1 h ↔ ∃ y ∈ pre ++ [x], keyP (aAt l y.1).row zs = h)) := ⟨q1, q2, q3, q5⟩
      clear q1 q2 q3 q5 hgr hmap hv2
      by_cases hfr : ∃ y ∈ pre, keyP (aAt l y.1).row zs = keyP (aAt l x.1).row zs
      · have hff : f = false := by
          cases f
          · rfl
          · exact absurd hfr (q4.1 rfl)
        subst hff
        have he : frP (fun i => keyP (aAt l i).row zs) (pre ++ [x]) = frP (fun i => keyP (aAt l i).row zs) pre := by rw [frP_snoc, if_pos hfr]
        have HE : Hid (frP (fun i => keyP (aAt l i).row zs) (pre ++ [x]) = frP (fun i => keyP (aAt l i).row zs) pre) := he
        clear he
        clear q4 hfr
        gi_wp2
        obtain ⟨q1, q2, q3, q5⟩ := HQ.out
        refine ⟨keepsFrom_fr q3 (by omega), q3.weak (T := LoS X) (fun k e => Or.inl e), ⟨⟨M1, pre1, q1, q2, q5⟩, ⟨v2, HV2.out, by rw [HE.out]; exact hrow2, trivial⟩, HI.out.fr.trans (q3.weak (T := LoS X) (fun k e => Or.inl e))⟩⟩
      · have hff : f = true := q4.2 hfr
        subst hff
        have he : frP (fun i => keyP (aAt l i).row zs) (pre ++ [x]) = frP (fun i => keyP (aAt l i).row zs) pre ++ [x.1] := by rw [frP_snoc, if_neg hfr]
        have HE : Hid (frP (fun i => keyP (aAt l i).row zs) (pre ++ [x]) = frP (fun i => keyP (aAt l i).row zs) pre ++ [x.1]) := he
        clear he
        clear q4 hfr
        gi_wp2_with (gi_at_builtin; refine wpListIn_append_own _ rfl _ _ 22 rfl (X + 5) 3 i0 (.int .i64 0) 1 8 Tryd.underlying22 hi hz hs hb3 rfl (by decide) _ _ _ rfl (hrow2.alloc _) ⟨wc.heap.size, 0, none⟩ 1 1 [Value.int .i64 (x.1 : Nat)] rfl rfl (hcel.out wc _) (hone.out _) (by unfold maxLen; omega) (by omega) (by simp; omega) ?_; intro v' w1 hown' hgrow _; obtain ⟨g', cap', rfl⟩ := ownsRow_succ hown'; obtain ⟨hv1, hv3, hr2, hk2, hb2⟩ := box_app HV2.out hrow2 hsc hown' hgrow; have hc1 := hv1.cell; have hf1 := hv1.frozen)
        obtain ⟨q1, q2, q3, q5⟩ := HQ.out
        refine ⟨(keepsFrom_fr q3 (by omega)).trans (hk2.from _), (q3.weak (T := LoS X) (fun k e => Or.inl e)).trans hb2, ⟨⟨M1, pre1, ?_, q2, q5⟩, ⟨_, hv3, by rw [HE.out, inC_snoc]; simpa using hr2, trivial⟩, (HI.out.fr.trans (q3.weak (T := LoS X) (fun k e => Or.inl e))).trans hb2⟩⟩
        obtain ⟨⟨es, clk, h1⟩, h2⟩ := q1
        exact ⟨⟨es, clk, ⟨hk2.same (X + 1) _ h1.at_ rfl, h1.same, h1.old, h1.once⟩⟩, h2⟩
  case done =>
    rintro D ys W hD rfl hI hK
    obtain ⟨v, hv, hrow, -⟩ := hI.bx
    have hF := hI.fr
    have hBW : Below X w W := hF.below (by omega) (by unfold LoS; omega) HB0.out
    have hc := hv.cell
    rw [frP_bk] at hrow
    obtain ⟨ps, hps⟩ : ∃ ps, ueP (fun i => keyP (aAt l i).row zs) l.length = ps := ⟨_, rfl⟩
    have hpl : 0 < ps.length := by
      rw [← hps]; exact ueP_pos _ hl0
    have hpl2 : ps.length ≤ 200 := by
      rw [← hps]; exact Nat.le_trans (ueP_len _ _) hl
    rw [hps] at hrow
    have HPS : Hid (ueP (fun i => keyP (aAt l i).row zs) l.length = ps) := hps
    rw [List.length_reverse] at hrow
    obtain ⟨g, cap, rfl⟩ : ∃ g cap, v = .slice (some ⟨g, 0, none⟩) ps.length cap := by
      rcases hrow.2 with ⟨_, h⟩ | ⟨g, cap, _, h, _⟩
      · omega
      · exact ⟨g, cap, h⟩
    have hgX : X + 5 ≤ g ∧ W.heap[D]? ≠ W.heap[g]? := by
      rcases hrow.2 with ⟨_, h⟩ | ⟨g', cap', cur, h, h2, h3, _⟩
      · omega
      · injection h with h _ _; injection h with h; injection h with h _ _; subst h
        refine ⟨h2, ?_⟩
        rw [hK, h3]; intro e; cases e
    have hP : PC W (X + 5) g ps.length cap (fun k => ps.reverse.getD k 0) := by
      unfold PC
      have h2 := inC_range ps.reverse
      rw [List.length_reverse] at h2
      rw [h2] at hrow
      exact hrow
    have HP : Hid (PC W (X + 5) g ps.length cap (fun k => ps.reverse.getD k 0)) := hP
    have HK : Hid (W.heap[D]? = some (.deferred (some []))) := hK
    have HI : Hid (LeI W0 X (fun i => keyP (aAt l i).row zs) zs.length (bkL l.length l.length) W) := hI
    clear hrow hI hP hps
    gi_wp2_with (refine ⟨trivial, ?_⟩; gi_at_call 57; refine (callsIn_wide.2 (reverse_any (X + 5) g ps.length cap _ W (by omega) hpl HP.out)).mono ?_; rintro e w1 ⟨rfl, hP1, hF1⟩; have hc1 : w1.cell? ⟨X + 3, 0, none⟩ = _ := hF1.cell (by omega) hc)
    have hK1 : w1.heap[D]? = some (.deferred (some [])) := (hF1.block D (heap_lt hK) (fun e => hgX.2 (by rw [e]))).trans hK
    refine ⟨by simp, .inl ⟨_, _, rfl, run_takeDeferred hK1, ?_⟩⟩
    have hP2 := ownsRow_putObj hP1 (.deferred none) hK1 rfl
    refine ⟨_, results_tmp rfl _ _ _, ?_⟩
    rw [HPS.out]
    refine ⟨⟨_, _, rfl, Or.inr ⟨g, 0, rfl, fun i hi => ?_⟩⟩, ?_⟩
    · rw [Nat.zero_add, PC.cell hP2 hi]
      have e : ps.length - 1 - (ps.length - 1 - i) = i := by omega
      rw [List.getD_eq_getElem?_getD, List.getElem?_reverse (by omega), e, ← List.getD_eq_getElem?_getD]
    · rw [HX.out]
      exact (hF1.below (B := X) (by have := hF.size; omega) (by omega) hBW).trans (belowK_b (w := w) (Nat.le_of_eq HX.out.symm) _ D _ _ (by have := HX.out; omega) hK1 rfl rfl)
  case stop =>
    rintro D c pre W _ _ h _
    exact h.elim
end Go.Proofs.YtfjpdflilmcnhaaDoor
