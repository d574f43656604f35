/- Rows copied (slices.Clone, twin): the copy holds what they hold. -/
import Derived.Test.YtjphmbgennadcaaGreatDoorMem
import Derived.Laws.AppendOwn
import Derived.Laws.OwnMore
import Derived.OwnWalk
import Derived.Lib.LazyBuf
namespace Go.Proofs.YtjphmbgennadcaaGreatDoor
open Go.ChangeShapes Go.WideShapes Go.ChangeAt Go.RowKit

theorem info34 : (Tryz.prog.info? 34).map (fun i => (i.zero, i.size, i.bytes)) = some (some (.agg #[.int .i64 0, .int .i64 0, .string ⟨#[]⟩]), 3, 32) := by kernel_rfl
def rowC (n : Nat) (k v : Nat → Int) (t : Nat → ByteArray) : List Value := (List.range n).flatMap fun i => [.int .i64 (k i), .int .i64 (v i), .string (t i)]
theorem rowC_succ (n : Nat) (k v : Nat → Int) (t : Nat → ByteArray) : rowC (n + 1) k v t = rowC n k v t ++ [.int .i64 (k n), .int .i64 (v n), .string (t n)] := by
  unfold rowC; rw [List.range_succ, List.flatMap_append]; simp
theorem rowC_len (n : Nat) (k v : Nat → Int) (t : Nat → ByteArray) : (rowC n k v t).length = n * 3 := by
  induction n with
  | zero => rfl
  | succ n ih => rw [rowC_succ, List.length_append, ih]; simp; omega
theorem rowC_at (n : Nat) (k v : Nat → Int) (t : Nat → ByteArray) (i : Nat) (h : i < n) : (rowC n k v t)[i * 3]? = some (.int .i64 (k i)) ∧ (rowC n k v t)[i * 3 + 1]? = some (.int .i64 (v i)) ∧ (rowC n k v t)[i * 3 + 2]? = some (.string (t i)) := by
  induction n with
  | zero => omega
  | succ n ih =>
    rw [rowC_succ]
    have hl := rowC_len n k v t
    rcases Nat.lt_or_ge i n with h1 | h1
    · obtain ⟨a, b, c⟩ := ih h1
      refine ⟨?_, ?_, ?_⟩
      · rw [List.getElem?_append_left (by omega)]; exact a
      · rw [List.getElem?_append_left (by omega)]; exact b
      · rw [List.getElem?_append_left (by omega)]; exact c
    · have e : i = n := by omega
      subst e
      refine ⟨?_, ?_, ?_⟩
      · rw [List.getElem?_append_right (by omega), hl, show i * 3 - i * 3 = 0 by omega]; rfl
      · rw [List.getElem?_append_right (by omega), hl, show i * 3 + 1 - i * 3 = 1 by omega]; rfl
      · rw [List.getElem?_append_right (by omega), hl, show i * 3 + 2 - i * 3 = 2 by omega]; rfl
theorem rowC_one (n : Nat) (k v : Nat → Int) (t : Nat → ByteArray) : ∀ u ∈ rowC n k v t, u.oneCell' = true := by
  intro u hu
  unfold rowC at hu
  rw [List.mem_flatMap] at hu
  obtain ⟨i, _, hu⟩ := hu
  simp only [List.mem_cons, List.not_mem_nil, or_false] at hu
  rcases hu with rfl | rfl | rfl <;> rfl
/-- What lies behind a row's address. -/
theorem rowC_cells {w : World} {b off n : Nat} {k v : Nat → Int} {t : Nat → ByteArray}
    (hv : ∀ i, i < n → w.cell? ⟨b, off + i * 3, none⟩ = some (.int .i64 (k i)) ∧ w.cell? ⟨b, off + i * 3 + 1, none⟩ = some (.int .i64 (v i)) ∧ w.cell? ⟨b, off + i * 3 + 2, none⟩ = some (.string (t i))) :
    ∀ j u, (rowC n k v t)[j]? = some u → w.cell? ((⟨b, off, none⟩ : Addr).add j) = some u := by
  intro j u hj
  have hlt : j < n * 3 := by
    rw [← rowC_len n k v t]
    exact (List.getElem?_eq_some_iff.1 hj).1
  rw [add_plain]
  have hi : j / 3 < n := by omega
  obtain ⟨a, b', c⟩ := rowC_at n k v t (j / 3) hi
  obtain ⟨a', b'', c'⟩ := hv (j / 3) hi
  have h3 : j % 3 = 0 ∨ j % 3 = 1 ∨ j % 3 = 2 := by omega
  rcases h3 with h3 | h3 | h3
  · rw [show j = j / 3 * 3 by omega] at hj ⊢
    rw [a] at hj; rw [a', hj]
  · rw [show j = j / 3 * 3 + 1 by omega] at hj ⊢
    rw [b'] at hj; rw [← Nat.add_assoc, b'', hj]
  · rw [show j = j / 3 * 3 + 2 by omega] at hj ⊢
    rw [c] at hj; rw [← Nat.add_assoc, c', hj]
/-- The cells of a row. -/
def rwC (r : List Val) : List Value := rowC r.length (kAt r) (nAt r) (tAt r)
theorem rwC_nil : rwC [] = [] := rfl
theorem rowC_congr (n : Nat) {k v k' v' : Nat → Int} {t t' : Nat → ByteArray} (h : ∀ i, i < n → k i = k' i ∧ v i = v' i ∧ t i = t' i) : rowC n k v t = rowC n k' v' t' := by
  induction n with
  | zero => rfl
  | succ n ih =>
    obtain ⟨h1, h2, h3⟩ := h n (by omega)
    rw [rowC_succ, rowC_succ, ih (fun i hi => h i (by omega)), h1, h2, h3]
theorem rwC_snoc (r : List Val) (v : Val) : rwC (r ++ [v]) = rwC r ++ [.int .i64 v.1, .int .i64 v.2.1, .string v.2.2] := by
  unfold rwC
  rw [List.length_append, List.length_singleton, rowC_succ]
  have e : ∀ i, i < r.length → kAt (r ++ [v]) i = kAt r i ∧ nAt (r ++ [v]) i = nAt r i ∧ tAt (r ++ [v]) i = tAt r i := by
    intro i hi
    unfold kAt nAt tAt
    rw [List.getD_eq_getElem?_getD, List.getElem?_append_left hi, ← List.getD_eq_getElem?_getD]
    exact ⟨rfl, rfl, rfl⟩
  rw [rowC_congr _ e]
  unfold kAt nAt tAt
  rw [List.getD_eq_getElem?_getD, List.getElem?_append_right (Nat.le_refl _), Nat.sub_self]
  rfl
theorem rwC_len (r : List Val) : (rwC r).length = r.length * 3 := rowC_len _ _ _ _
theorem rwC_cells {w : World} {ad : Addr} {r : List Val} (h : RowAt w (some ad) r) : ∀ j u, (rwC r)[j]? = some u → w.cell? (ad.add j) = some u := by
  rcases h with h0 | ⟨b, off, e, hv⟩
  · intro j u hj
    have := (List.getElem?_eq_some_iff.1 hj).1
    rw [rwC_len, h0] at this; omega
  · injection e with e
    subst e
    exact rowC_cells hv
theorem heap_lt {w : World} {g : Nat} {o : Obj} (h : w.heap[g]? = some o) : g < w.heap.size := (Array.getElem?_eq_some_iff.1 h).1
theorem row_of_owns {w : World} {base : Nat} {vv : Value} {r : List Val} (h : w.ownsRow base 34 3 vv r.length (rwC r)) : ∃ a cap, vv = .slice a r.length cap ∧ r.length ≤ cap ∧ RowAt w a r ∧ ∀ g o, a = some ⟨g, o, none⟩ → base ≤ g ∧ g < w.heap.size ∧ o = 0 ∧ ∀ j, w.frozen? ⟨g, j, none⟩ = false := by
  have h' := h
  obtain ⟨hlen, ⟨rfl, h0⟩ | ⟨g, cap, cur, rfl, hbg, hg, hcap, hcm, hcs, htake⟩⟩ := h
  · exact ⟨none, 0, by rw [h0], by omega, Or.inl h0, fun _ _ e => by cases e⟩
  refine ⟨_, cap, rfl, by omega, Or.inr ⟨g, 0, rfl, fun i hi => ?_⟩, fun g' o' e => by injection e with e; injection e with e1 e2 _; subst e1; exact ⟨hbg, heap_lt hg, e2.symm, fun j => h'.frozenAt j⟩⟩
  have hc := h'.cells (g := g) rfl
  obtain ⟨a, b, c⟩ := rowC_at r.length (kAt r) (nAt r) (tAt r) i hi
  have ea := hc _ _ a
  have eb := hc _ _ b
  have ec := hc _ _ c
  rw [add_plain] at ea eb ec
  rw [Nat.zero_add] at ea eb ec ⊢
  exact ⟨ea, eb, ec⟩
theorem new3_0 (w : World) (x y z : Value) (t : TypeId) : (w.alloc (.cells #[x, y, z] t)).cell? ⟨w.heap.size, 0, none⟩ = some x := by go_simp
theorem new3_1 (w : World) (x y z : Value) (t : TypeId) : (w.alloc (.cells #[x, y, z] t)).cell? ⟨w.heap.size, 1, none⟩ = some y := by go_simp
theorem new3_2 (w : World) (x y z : Value) (t : TypeId) : (w.alloc (.cells #[x, y, z] t)).cell? ⟨w.heap.size, 2, none⟩ = some z := by go_simp
theorem rowCells_new (w : World) (v : Val) : ∀ j u, (rwC [v])[j]? = some u → (w.alloc (.cells #[.int .i64 v.1, .int .i64 v.2.1, .string v.2.2] 34)).cell? ((⟨w.heap.size, 0, none⟩ : Addr).add j) = some u := by
  have e : rwC [v] = [.int .i64 v.1, .int .i64 v.2.1, .string v.2.2] := by have := rwC_snoc [] v; simpa [rwC_nil] using this
  rw [e]
  intro j u hj
  rw [add_plain]
  match j, hj with
  | 0, hj => simp only [List.getElem?_cons_zero, Option.some.injEq] at hj; subst hj; simp only [Nat.zero_add]; go_simp
  | 1, hj => simp only [List.getElem?_cons_succ, List.getElem?_cons_zero, Option.some.injEq] at hj; subst hj; simp only [Nat.zero_add]; go_simp
  | 2, hj => simp only [List.getElem?_cons_succ, List.getElem?_cons_zero, Option.some.injEq] at hj; subst hj; simp only [Nat.zero_add]; go_simp
  | j + 3, hj => simp at hj
theorem owns_below {w w' : World} {base e size n : Nat} {v : Value} {xs : List Value} (h : w.ownsRow base e size v n xs) (hb : Below w.heap.size w w') : w'.ownsRow base e size v n xs :=
  h.kept (row := none) ⟨hb.os, hb.tape, hb.output, hb.size, fun k hk _ => hb.block k hk⟩ (by cases v.ownBlock <;> simp)
end Go.Proofs.YtjphmbgennadcaaGreatDoor
