/- Rows copied (slices.Clone, twin): the copy holds what they hold. -/
import Derived.Test.YtfjpdflilmcnhaaGreatDoorMp
import Derived.Laws.AppendOwn
import Derived.Laws.OwnMore
import Derived.OwnWalk
import Derived.Lib.LazyBuf
namespace Go.Proofs.YtfjpdflilmcnhaaGreatDoor
open Go.ChangeShapes Go.WideShapes Go.ChangeAt Go.RowKit

theorem info46 : (Tryz.prog.info? 64).map (fun i => (i.zero, i.size, i.bytes)) = some (some (.agg #[.int .i64 0, .int .i64 0, .string ⟨#[]⟩]), 3, 32) := by kernel_rfl
def rowC (n : Nat) (k v : Nat → Int) (t : Nat → ByteArray) : List Value := (List.range n).flatMap fun i => [.int .i64 (k i), .int .i64 (v i), .string (t i)]
theorem rowC_succ (n : Nat) (k v : Nat → Int) (t : Nat → ByteArray) : rowC (n + 1) k v t = rowC n k v t ++ [.int .i64 (k n), .int .i64 (v n), .string (t n)] := by
  unfold rowC; rw [List.range_succ, List.flatMap_append]; simp
theorem rowC_len (n : Nat) (k v : Nat → Int) (t : Nat → ByteArray) : (rowC n k v t).length = n * 3 := by
  induction n with
  | zero => rfl
  | succ n ih => rw [rowC_succ, List.length_append, ih]; simp; omega
theorem rowC_at (n : Nat) (k v : Nat → Int) (t : Nat → ByteArray) (i : Nat) (h : i < n) : (rowC n k v t)[i * 3]? = some (.int .i64 (k i)) ∧ (rowC n k v t)[i * 3 + 1]? = some (.int .i64 (v i)) ∧ (rowC n k v t)[i * 3 + 2]? = some (.string (t i)) := by
  induction n with
  | zero => omega
  | succ n ih =>
    rw [rowC_succ]
    have hl := rowC_len n k v t
    rcases Nat.lt_or_ge i n with h1 | h1
    · obtain ⟨a, b, c⟩ := ih h1
      refine ⟨?_, ?_, ?_⟩
      · rw [List.getElem?_append_left (by omega)]; exact a
      · rw [List.getElem?_append_left (by omega)]; exact b
      · rw [List.getElem?_append_left (by omega)]; exact c
    · have e : i = n := by omega
      subst e
      refine ⟨?_, ?_, ?_⟩
      · rw [List.getElem?_append_right (by omega), hl, show i * 3 - i * 3 = 0 by omega]; rfl
      · rw [List.getElem?_append_right (by omega), hl, show i * 3 + 1 - i * 3 = 1 by omega]; rfl
      · rw [List.getElem?_append_right (by omega), hl, show i * 3 + 2 - i * 3 = 2 by omega]; rfl
theorem rowC_one (n : Nat) (k v : Nat → Int) (t : Nat → ByteArray) : ∀ u ∈ rowC n k v t, u.oneCell' = true := by
  intro u hu
  unfold rowC at hu
  rw [List.mem_flatMap] at hu
  obtain ⟨i, _, hu⟩ := hu
  simp only [List.mem_cons, List.not_mem_nil, or_false] at hu
  rcases hu with rfl | rfl | rfl <;> rfl
/-- What lies behind a row's address. -/
theorem rowC_cells {w : World} {b off n : Nat} {k v : Nat → Int} {t : Nat → ByteArray}
    (hv : ∀ i, i < n → w.cell? ⟨b, off + i * 3, none⟩ = some (.int .i64 (k i)) ∧ w.cell? ⟨b, off + i * 3 + 1, none⟩ = some (.int .i64 (v i)) ∧ w.cell? ⟨b, off + i * 3 + 2, none⟩ = some (.string (t i))) :
    ∀ j u, (rowC n k v t)[j]? = some u → w.cell? ((⟨b, off, none⟩ : Addr).add j) = some u := by
  intro j u hj
  have hlt : j < n * 3 := by
    rw [← rowC_len n k v t]
    exact (List.getElem?_eq_some_iff.1 hj).1
  rw [add_plain]
  have hi : j / 3 < n := by omega
  obtain ⟨a, b', c⟩ := rowC_at n k v t (j / 3) hi
  obtain ⟨a', b'', c'⟩ := hv (j / 3) hi
  have h3 : j % 3 = 0 ∨ j % 3 = 1 ∨ j % 3 = 2 := by omega
  rcases h3 with h3 | h3 | h3
  · rw [show j = j / 3 * 3 by omega] at hj ⊢
    rw [a] at hj; rw [a', hj]
  · rw [show j = j / 3 * 3 + 1 by omega] at hj ⊢
    rw [b'] at hj; rw [← Nat.add_assoc, b'', hj]
  · rw [show j = j / 3 * 3 + 2 by omega] at hj ⊢
    rw [c] at hj; rw [← Nat.add_assoc, c', hj]
/-- The cells of a row. -/
def rwC (r : List Val) : List Value := rowC r.length (kAt r) (nAt r) (tAt r)
theorem rwC_nil : rwC [] = [] := rfl
theorem rowC_congr (n : Nat) {k v k' v' : Nat → Int} {t t' : Nat → ByteArray} (h : ∀ i, i < n → k i = k' i ∧ v i = v' i ∧ t i = t' i) : rowC n k v t = rowC n k' v' t' := by
  induction n with
  | zero => rfl
  | succ n ih =>
    obtain ⟨h1, h2, h3⟩ := h n (by omega)
    rw [rowC_succ, rowC_succ, ih (fun i hi => h i (by omega)), h1, h2, h3]
theorem rwC_snoc (r : List Val) (v : Val) : rwC (r ++ [v]) = rwC r ++ [.int .i64 v.1, .int .i64 v.2.1, .string v.2.2] := by
  unfold rwC
  rw [List.length_append, List.length_singleton, rowC_succ]
  have e : ∀ i, i < r.length → kAt (r ++ [v]) i = kAt r i ∧ nAt (r ++ [v]) i = nAt r i ∧ tAt (r ++ [v]) i = tAt r i := by
    intro i hi
    unfold kAt nAt tAt
    rw [List.getD_eq_getElem?_getD, List.getElem?_append_left hi, ← List.getD_eq_getElem?_getD]
    exact ⟨rfl, rfl, rfl⟩
  rw [rowC_congr _ e]
  unfold kAt nAt tAt
  rw [List.getD_eq_getElem?_getD, List.getElem?_append_right (Nat.le_refl _), Nat.sub_self]
  rfl
theorem rwC_len (r : List Val) : (rwC r).length = r.length * 3 := rowC_len _ _ _ _
theorem rwC_cells {w : World} {ad : Addr} {r : List Val} (h : RowAt w (some ad) r) : ∀ j u, (rwC r)[j]? = some u → w.cell? (ad.add j) = some u := by
  rcases h with h0 | ⟨b, off, e, hv⟩
  · intro j u hj
    have := (List.getElem?_eq_some_iff.1 hj).1
    rw [rwC_len, h0] at this; omega
  · injection e with e
    subst e
    exact rowC_cells hv
theorem row_of_owns {w : World} {base : Nat} {vv : Value} {r : List Val} (h : w.ownsRow base 64 3 vv r.length (rwC r)) : ∃ a cap, vv = .slice a r.length cap ∧ RowAt w a r ∧ ∀ g o, a = some ⟨g, o, none⟩ → base ≤ g ∧ g < w.heap.size ∧ o = 0 ∧ ∀ j, w.frozen? ⟨g, j, none⟩ = false := by
  have h' := h
  obtain ⟨hlen, ⟨rfl, h0⟩ | ⟨g, cap, cur, rfl, hbg, hg, hcap, hcm, hcs, htake⟩⟩ := h
  · exact ⟨none, 0, by rw [h0], Or.inl h0, fun _ _ e => by cases e⟩
  refine ⟨_, cap, rfl, Or.inr ⟨g, 0, rfl, fun i hi => ?_⟩, fun g' o' e => by injection e with e; injection e with e1 e2 _; subst e1; exact ⟨hbg, heap_lt hg, e2.symm, fun j => h'.frozenAt j⟩⟩
  have hc := h'.cells (g := g) rfl
  obtain ⟨a, b, c⟩ := rowC_at r.length (kAt r) (nAt r) (tAt r) i hi
  have ea := hc _ _ a
  have eb := hc _ _ b
  have ec := hc _ _ c
  rw [add_plain] at ea eb ec
  rw [Nat.zero_add] at ea eb ec ⊢
  exact ⟨ea, eb, ec⟩
set_option maxHeartbeats 8000000 in
theorem Clone_some (ad : Addr) (cap : Nat) (r : List Val) (w : World) (hby : r.length * 32 ≤ 140737488355328) (hc : RowAt w (some ad) r) :
    Calls Tryz.prog 29 #[.slice (some ad) r.length cap] w fun e w' => ∃ a' cap', e = .returned (.slice a' r.length cap') ∧ RowAt w' a' r ∧ (∀ g o, a' = some ⟨g, o, none⟩ → w.heap.size ≤ g ∧ g < w'.heap.size ∧ o = 0 ∧ ∀ j, w'.frozen? ⟨g, j, none⟩ = false) ∧ Below w.heap.size w w' := by
  obtain ⟨i0, hi, hz0⟩ := Option.map_eq_some_iff.1 info46
  simp only [Prod.mk.injEq] at hz0
  obtain ⟨hz, hs, hb3⟩ := hz0
  have hl : Hid _ := rwC_len r
  have hone : Hid _ := rowC_one r.length (kAt r) (nAt r) (tAt r)
  have hnews : Hid _ := rwC_cells (hc.alloc (.cells #[] 64))
  have hown0 : (w.alloc (.cells #[] 64)).ownsRow w.heap.size 64 3 (.slice (some ⟨w.heap.size, 0, none⟩) 0 0) 0 [] := World.ownsRow_made w #[] 0 (Nat.le_refl _) (by unfold maxLen; omega) rfl
  have hn1 : 0 + r.length ≤ maxLen := by unfold maxLen; omega
  have hby1 : (0 + r.length) * 32 ≤ 140737488355328 := by omega
  have hbase : w.heap.size ≤ (w.alloc (.cells #[] 64)).heap.size := by rw [World.size_alloc]; omega
  have heq : ∀ wx : World, (binOp .eql 37 (.slice (some ad) r.length cap) (.slice none 0 0)).run Tryz.prog wx = .ok (.bool false) wx := fun wx => by rw [Lib.run_eql_slice_nil wx 37 64 _ _ _ _ _ Tryz.underlying37]; rfl
  clear hc
  go_enter Tryz.func29, Tryz.ntmps29
  go_wp2_with (at_builtin; refine wpList_append_own _ rfl _ _ 37 rfl w.heap.size 64 i0 (.agg #[.int .i64 0, .int .i64 0, .string ⟨#[]⟩]) 3 32 Tryz.underlying37 hi hz hs hb3 rfl (by decide) _ 0 [] rfl hown0 ad r.length cap (rwC r) rfl hl.out hnews.out hone.out hn1 hby1 hbase ?_)
  intro v1 w1 hown1 hgrow1 hi1
  clear hi1
  have hB1 : Below w.heap.size w w1 := ((Below.refl _ _).alloc (Nat.le_refl _) _).grown hgrow1 (by rw [World.size_alloc]; omega) (fun kk hk => by injection hk with hk; rw [← hk]; exact Nat.le_refl _)
  obtain ⟨a', cap', hv, hcc, hgg⟩ := row_of_owns (r := r) (by simpa using hown1)
  rw [hv]
  clear hown1 hgrow1 hv hl hone hnews hown0 hn1 hby1 hbase heq hi hz hs hb3
  have HC : Hid _ := hcc
  have HG : Hid _ := hgg
  clear hcc hgg
  go_wp2
  go_ret
  exact ⟨_, _, rfl, HC.out, HG.out, hB1⟩
set_option maxHeartbeats 8000000 in
theorem Clone_none (len cap : Nat) (w : World) :
    Calls Tryz.prog 29 #[.slice none len cap] w fun e w' => e = .returned (.slice none 0 0) ∧ Below w.heap.size w w' := by
  have heq : ∀ wx : World, (binOp .eql 37 (.slice none len cap) (.slice none 0 0)).run Tryz.prog wx = .ok (.bool true) wx := fun wx => by rw [Lib.run_eql_slice_nil wx 37 64 _ _ _ _ _ Tryz.underlying37]; rfl
  go_enter Tryz.func29, Tryz.ntmps29
  go_wp2
  go_ret
  exact ⟨rfl, (Bel.out (by repeat (first | exact Bel.refl _ | assumption | refine Bel.drew ?_ | refine Bel.drewN ?_ _ | refine Bel.alloc ?_ _ | refine Bel.setCell ?_ (by simp <;> omega) _ | refine Bel.step ?_ (by assumption))))⟩
theorem RowAt.none {w : World} {r : List Val} (h : RowAt w none r) : r = [] := by
  rcases h with h0 | ⟨b, off, e, _⟩
  · exact List.length_eq_zero_iff.1 h0
  · cases e
theorem Clone_any (a : Option Addr) (cap : Nat) (r : List Val) (w : World) (hby : r.length * 32 ≤ 140737488355328) (hc : RowAt w a r) :
    Calls Tryz.prog 29 #[.slice a r.length cap] w fun e w' => ∃ a' cap', e = .returned (.slice a' r.length cap') ∧ RowAt w' a' r ∧ (∀ g o, a' = some ⟨g, o, none⟩ → w.heap.size ≤ g ∧ g < w'.heap.size ∧ o = 0 ∧ ∀ j, w'.frozen? ⟨g, j, none⟩ = false) ∧ Below w.heap.size w w' := by
  cases a with
  | some ad => exact Clone_some ad cap r w hby hc
  | none =>
    obtain rfl := hc.none
    exact (Clone_none 0 cap w).mono fun e w' h => ⟨none, 0, h.1, Or.inl rfl, fun _ _ e => (by cases e), h.2⟩
end Go.Proofs.YtfjpdflilmcnhaaGreatDoor
