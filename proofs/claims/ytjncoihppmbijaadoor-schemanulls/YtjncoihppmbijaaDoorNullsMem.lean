/- Rows that the law makes: nulls, a copy, a copy with one value turned. -/
import Derived.Test.YtjncoihppmbijaaDoorFits
import Derived.Laws.MakeOwn
import Derived.Laws.AppendOwn
namespace Go.Proofs.YtjncoihppmbijaaDoor
open Go.ChangeShapes Go.WideShapes Go.ChangeAt Go.RowKit

theorem info50 : (Tryd.prog.info? 50).map (fun i => (i.zero, i.size, i.bytes)) = some (some (.agg #[.int .i64 0, .int .i64 0, .string ⟨#[]⟩]), 3, 32) := by kernel_rfl
def nulC (n : Nat) : Array Value := madeCells #[.int .i64 0, .int .i64 0, .string ⟨#[]⟩] (n * 3)
theorem made_run (n : Nat) (hn : n ≤ 1000) (w : World) : (Instr.makeSlice 33 (.int .i64 (n : Int)) (.int .i64 (n : Int))).run Tryd.prog w = .ok (.slice (some ⟨w.heap.size, 0, none⟩) n n) (w.alloc (.cells (nulC n) 50)) := by
  obtain ⟨i, hi, hz⟩ := Option.map_eq_some_iff.1 info50
  simp only [Prod.mk.injEq] at hz
  obtain ⟨hz, hs, hb⟩ := hz
  have hr := run_make (P := Tryd.prog) w 33 50 i _ Tryd.underlying33 hi hz .i64 .i64 n n (by omega) (Int.le_refl _) (by rw [hb]; omega) (by omega)
  rw [hs] at hr
  simpa [Value.cells, nulC] using hr
theorem nulC_at (n i c : Nat) (h : i < n) (hc : c < 3) : (nulC n)[i * 3 + c]? = some ((#[Value.int .i64 0, .int .i64 0, .string ⟨#[]⟩] : Array Value)[c]!) := by
  have h1 : i * 3 + c < n * 3 := by omega
  have h2 : (i * 3 + c) % 3 = c := by omega
  unfold nulC madeCells
  simp [h1, h2]
theorem made_at (n : Nat) (w : World) : ValsAt (w.alloc (.cells (nulC n) 50)) (some ⟨w.heap.size, 0, none⟩) n (fun _ => 0) (fun _ => 0) (fun _ => ⟨#[]⟩) := by
  refine Or.inr ⟨_, _, rfl, fun i hi => ⟨?_, ?_, ?_⟩⟩
  · rw [World.cell?_alloc_new, Nat.zero_add]; exact nulC_at n i 0 hi (by omega)
  · rw [World.cell?_alloc_new, Nat.zero_add]; exact nulC_at n i 1 hi (by omega)
  · rw [World.cell?_alloc_new, Nat.zero_add]; exact nulC_at n i 2 hi (by omega)
theorem may_null : mayS 0 0 ⟨#[]⟩ = true := by decide +kernel
theorem fits_nulls (len : Nat) (kd : Nat → Int) : fitsS len kd len (fun _ => 0) (fun _ => 0) (fun _ => ⟨#[]⟩) = true := by
  unfold fitsS
  rw [decide_eq_true rfl, Bool.true_and, allF_iff]
  intro j _ _
  unfold ftP fcB
  rw [may_null]; rfl

/-- The cells of a row. -/
def rowC (n : Nat) (k v : Nat → Int) (t : Nat → ByteArray) : List Value := (List.range n).flatMap fun i => [.int .i64 (k i), .int .i64 (v i), .string (t i)]
theorem rowC_succ (n : Nat) (k v : Nat → Int) (t : Nat → ByteArray) : rowC (n + 1) k v t = rowC n k v t ++ [.int .i64 (k n), .int .i64 (v n), .string (t n)] := by
  unfold rowC; rw [List.range_succ, List.flatMap_append]; simp
theorem rowC_len (n : Nat) (k v : Nat → Int) (t : Nat → ByteArray) : (rowC n k v t).length = n * 3 := by
  induction n with
  | zero => rfl
  | succ n ih => rw [rowC_succ, List.length_append, ih]; simp; omega
theorem rowC_at (n : Nat) (k v : Nat → Int) (t : Nat → ByteArray) (i : Nat) (h : i < n) : (rowC n k v t)[i * 3]? = some (.int .i64 (k i)) ∧ (rowC n k v t)[i * 3 + 1]? = some (.int .i64 (v i)) ∧ (rowC n k v t)[i * 3 + 2]? = some (.string (t i)) := by
  induction n with
  | zero => omega
  | succ n ih =>
    rw [rowC_succ]
    have hl := rowC_len n k v t
    rcases Nat.lt_or_ge i n with h1 | h1
    · obtain ⟨a, b, c⟩ := ih h1
      refine ⟨?_, ?_, ?_⟩
      · rw [List.getElem?_append_left (by omega)]; exact a
      · rw [List.getElem?_append_left (by omega)]; exact b
      · rw [List.getElem?_append_left (by omega)]; exact c
    · have e : i = n := by omega
      subst e
      refine ⟨?_, ?_, ?_⟩
      · rw [List.getElem?_append_right (by omega), hl, show i * 3 - i * 3 = 0 by omega]; rfl
      · rw [List.getElem?_append_right (by omega), hl, show i * 3 + 1 - i * 3 = 1 by omega]; rfl
      · rw [List.getElem?_append_right (by omega), hl, show i * 3 + 2 - i * 3 = 2 by omega]; rfl
theorem rowC_one (n : Nat) (k v : Nat → Int) (t : Nat → ByteArray) : ∀ u ∈ rowC n k v t, u.oneCell' = true := by
  intro u hu
  unfold rowC at hu
  rw [List.mem_flatMap] at hu
  obtain ⟨i, _, hu⟩ := hu
  simp only [List.mem_cons, List.not_mem_nil, or_false] at hu
  rcases hu with rfl | rfl | rfl <;> rfl
/-- What lies behind a row's address. -/
theorem rowC_cells {w : World} {b off n : Nat} {k v : Nat → Int} {t : Nat → ByteArray}
    (hv : ∀ i, i < n → w.cell? ⟨b, off + i * 3, none⟩ = some (.int .i64 (k i)) ∧ w.cell? ⟨b, off + i * 3 + 1, none⟩ = some (.int .i64 (v i)) ∧ w.cell? ⟨b, off + i * 3 + 2, none⟩ = some (.string (t i))) :
    ∀ j u, (rowC n k v t)[j]? = some u → w.cell? ((⟨b, off, none⟩ : Addr).add j) = some u := by
  intro j u hj
  have hlt : j < n * 3 := by
    rw [← rowC_len n k v t]
    exact (List.getElem?_eq_some_iff.1 hj).1
  rw [add_plain]
  have hi : j / 3 < n := by omega
  obtain ⟨a, b', c⟩ := rowC_at n k v t (j / 3) hi
  obtain ⟨a', b'', c'⟩ := hv (j / 3) hi
  have h3 : j % 3 = 0 ∨ j % 3 = 1 ∨ j % 3 = 2 := by omega
  rcases h3 with h3 | h3 | h3
  · rw [show j = j / 3 * 3 by omega] at hj ⊢
    rw [a] at hj; rw [a', hj]
  · rw [show j = j / 3 * 3 + 1 by omega] at hj ⊢
    rw [b'] at hj; rw [← Nat.add_assoc, b'', hj]
  · rw [show j = j / 3 * 3 + 2 by omega] at hj ⊢
    rw [c] at hj; rw [← Nat.add_assoc, c', hj]
/-- A row that the call owns. -/
theorem vals_of_owns {w : World} {base n : Nat} {vv : Value} {k v : Nat → Int} {t : Nat → ByteArray} (hn : 0 < n) (h : w.ownsRow base 50 3 vv n (rowC n k v t)) :
    ∃ g cap, vv = .slice (some ⟨g, 0, none⟩) n cap ∧ base ≤ g ∧ ∀ i, i < n → w.cell? ⟨g, i * 3, none⟩ = some (.int .i64 (k i)) ∧ w.cell? ⟨g, i * 3 + 1, none⟩ = some (.int .i64 (v i)) ∧ w.cell? ⟨g, i * 3 + 2, none⟩ = some (.string (t i)) := by
  have h' := h
  obtain ⟨hlen, h0 | ⟨g, cap, cur, rfl, hbg, hg, hcap, hcm, hcs, htake⟩⟩ := h
  · exfalso
    obtain ⟨_, hx⟩ := h0
    have := rowC_len n k v t
    have hz : (rowC n k v t).length = 0 := by simp_all
    omega
  refine ⟨g, cap, rfl, hbg, fun i hi => ?_⟩
  have hc := h'.cells (g := g) rfl
  obtain ⟨a, b, c⟩ := rowC_at n k v t i hi
  have ea := hc _ _ a
  have eb := hc _ _ b
  have ec := hc _ _ c
  rw [add_plain, Nat.zero_add] at ea eb ec
  exact ⟨ea, eb, ec⟩
end Go.Proofs.YtjncoihppmbijaaDoor
