/- Trees side by side, copied (slices.Clone); trees that lie in new memory. -/
import Derived.Test.YtcemogaacicnfaaGreatDoorGov
import Derived.Laws.AppendOwn
import Derived.Laws.OwnMore
import Derived.OwnWalk
import Derived.Lib.LazyBuf
namespace Go.Proofs.YtcemogaacicnfaaGreatDoor
open Go.ChangeShapes Go.WideShapes Go.ChangeAt Go.RowKit

theorem info24 : (Tryz.prog.info? 24).map (fun i => (i.zero, i.size, i.bytes)) = some (some (.agg #[.int .i64 0, .string ⟨#[]⟩, .int .i64 0, .int .i64 0, .slice none 0 0]), 5, 64) := by kernel_rfl
/-- A tree's kids lie from block lo on, and theirs. -/
def NdF (lo : Nat) (w : World) : (n : Nat) → Tr n → Option Addr → Prop
  | 0, _, _ => False
  | n + 1, x, sl => (ks (n + 1) x).length ≤ 9223372036854775807 ∧ (ks (n + 1) x = [] ∨ ∃ b off, sl = some ⟨b, off, none⟩ ∧ (lo ≤ b ∧ off = 0 ∧ ∀ j, w.frozen? ⟨b, j, none⟩ = false) ∧ ∀ i (y : Tr n), (ks (n + 1) x)[i]? = some y → ∃ s c, (w.cell? ⟨b, off + i * 5, none⟩ = some (.int .i64 (kd n y)) ∧ w.cell? ⟨b, off + i * 5 + 1, none⟩ = some (.string (bsA (tx n y))) ∧ w.cell? ⟨b, off + i * 5 + 2, none⟩ = some (.int .i64 (nu n y)) ∧ w.cell? ⟨b, off + i * 5 + 3, none⟩ = some (.int .i64 (pl n y)) ∧ w.cell? ⟨b, off + i * 5 + 4, none⟩ = some (.slice s (ks n y).length c)) ∧ NdF lo w n y s)
theorem NdF.at {lo : Nat} {w : World} : ∀ {n : Nat} {x : Tr n} {sl : Option Addr}, NdF lo w n x sl → NdAt w n x sl
  | 0, _, _, h => h
  | n + 1, x, sl, h => by
    obtain ⟨hl, h⟩ := h
    refine ⟨hl, ?_⟩
    rcases h with h | ⟨b, off, e, _, hc⟩
    · exact Or.inl h
    · refine Or.inr ⟨b, off, e, fun i y hi => ?_⟩
      obtain ⟨s, c, hcs, hp⟩ := hc i y hi
      exact ⟨s, c, hcs, NdF.at hp⟩
theorem NdF.keep {lo lo' : Nat} {w w' : World} (hlo : lo' ≤ lo) (hk : ∀ b, lo ≤ b → b < w.heap.size → w'.heap[b]? = w.heap[b]?) : ∀ {n : Nat} {x : Tr n} {sl : Option Addr}, NdF lo w n x sl → NdF lo' w' n x sl
  | 0, _, _, h => h
  | n + 1, x, sl, h => by
    obtain ⟨hl, h⟩ := h
    refine ⟨hl, ?_⟩
    rcases h with h | ⟨b, off, e, hb, hc⟩
    · exact Or.inl h
    · cases hks : ks (n + 1) x with
      | nil => exact Or.inl rfl
      | cons y0 r =>
        have hlt : b < w.heap.size := by
          obtain ⟨s, c, ⟨c0, _⟩, _⟩ := hc 0 y0 (by rw [hks]; rfl)
          exact cell_lt c0
        have e' := hk b hb.1 hlt
        rw [← hks]
        refine Or.inr ⟨b, off, e, ⟨by omega, hb.2.1, fun j => (World.frozen?_of_block (a := ⟨b, j, none⟩) e').trans (hb.2.2 j)⟩, fun i y hi => ?_⟩
        obtain ⟨s, c, ⟨c0, c1, c2, c3, c4⟩, hp⟩ := hc i y hi
        exact ⟨s, c, ⟨cell_same c0 e', cell_same c1 e', cell_same c2 e', cell_same c3 e', cell_same c4 e'⟩, NdF.keep hlo hk hp⟩
theorem NdF.below {lo : Nat} {w w' : World} (hb : Below w.heap.size w w') {n : Nat} {x : Tr n} {sl : Option Addr} (h : NdF lo w n x sl) : NdF lo w' n x sl := NdF.keep (Nat.le_refl _) (fun b _ h => hb.block b h) h
/-- What lies in len rows of five cells. -/
def rowV (w : World) (b off len : Nat) : List Value := (List.range (len * 5)).map fun j => (w.cell? ⟨b, off + j, none⟩).getD undef
theorem rowV_len (w : World) (b off len : Nat) : (rowV w b off len).length = len * 5 := by simp [rowV]
theorem rowV_at {w : World} {b off len j : Nat} (h : j < len * 5) : (rowV w b off len)[j]? = some ((w.cell? ⟨b, off + j, none⟩).getD undef) := by
  unfold rowV
  rw [List.getElem?_map, List.getElem?_range h]
  rfl
theorem rowV_inv {w : World} {b off len j : Nat} {u : Value} (h : (rowV w b off len)[j]? = some u) : j < len * 5 ∧ u = (w.cell? ⟨b, off + j, none⟩).getD undef := by
  have hj : j < len * 5 := by rw [← rowV_len w b off len]; exact (List.getElem?_eq_some_iff.1 h).1
  rw [rowV_at hj] at h
  exact ⟨hj, (Option.some.inj h).symm⟩
/-- Every cell of the rows. -/
theorem row_cell {n : Nat} {w : World} {b off : Nat} {l : List (Tr n)} {p : Tr n → Option Addr → Prop} (hc : ∀ i y, l[i]? = some y → ∃ s c, (w.cell? ⟨b, off + i * 5, none⟩ = some (.int .i64 (kd n y)) ∧ w.cell? ⟨b, off + i * 5 + 1, none⟩ = some (.string (bsA (tx n y))) ∧ w.cell? ⟨b, off + i * 5 + 2, none⟩ = some (.int .i64 (nu n y)) ∧ w.cell? ⟨b, off + i * 5 + 3, none⟩ = some (.int .i64 (pl n y)) ∧ w.cell? ⟨b, off + i * 5 + 4, none⟩ = some (.slice s (ks n y).length c)) ∧ p y s) (j : Nat) (hj : j < l.length * 5) :
    ∃ v : Value, w.cell? ⟨b, off + j, none⟩ = some v ∧ v.oneCell' = true := by
  have hi : j / 5 < l.length := by omega
  obtain ⟨s, c, ⟨c0, c1, c2, c3, c4⟩, _⟩ := hc (j / 5) _ (List.getElem?_eq_getElem hi)
  have h5 : j % 5 = 0 ∨ j % 5 = 1 ∨ j % 5 = 2 ∨ j % 5 = 3 ∨ j % 5 = 4 := by omega
  rcases h5 with h | h | h | h | h
  · exact ⟨_, by rw [show off + j = off + j / 5 * 5 by omega]; exact c0, rfl⟩
  · exact ⟨_, by rw [show off + j = off + j / 5 * 5 + 1 by omega]; exact c1, rfl⟩
  · exact ⟨_, by rw [show off + j = off + j / 5 * 5 + 2 by omega]; exact c2, rfl⟩
  · exact ⟨_, by rw [show off + j = off + j / 5 * 5 + 3 by omega]; exact c3, rfl⟩
  · exact ⟨_, by rw [show off + j = off + j / 5 * 5 + 4 by omega]; exact c4, rfl⟩
/-- A row of one's own, at block g: what the kids of l are, theirs by p. -/
def Row (w : World) (g n : Nat) (l : List (Tr n)) (p : Nat → Tr n → Option Addr → Prop) : Prop := ∀ i y, l[i]? = some y → ∃ s c, (w.cell? ⟨g, i * 5, none⟩ = some (.int .i64 (kd n y)) ∧ w.cell? ⟨g, i * 5 + 1, none⟩ = some (.string (bsA (tx n y))) ∧ w.cell? ⟨g, i * 5 + 2, none⟩ = some (.int .i64 (nu n y)) ∧ w.cell? ⟨g, i * 5 + 3, none⟩ = some (.int .i64 (pl n y)) ∧ w.cell? ⟨g, i * 5 + 4, none⟩ = some (.slice s (ks n y).length c)) ∧ p i y s
set_option maxRecDepth 20000 in
set_option maxHeartbeats 8000000 in
theorem Clone_some (n : Nat) (l : List (Tr n)) (p : Tr n → Option Addr → Prop) (ad : Addr) (c : Nat) (w : World) (hby : l.length * 64 ≤ 140737488355328) (hl : KsL n w (some ad) l p) :
    Calls Tryz.prog 31 #[.slice (some ad) l.length c] w fun e w' => (∃ g c', e = .returned (.slice (some ⟨g, 0, none⟩) l.length c') ∧ w.heap.size ≤ g ∧ g < w'.heap.size ∧ (∀ j, w'.frozen? ⟨g, j, none⟩ = false) ∧ Row w' g n l (fun _ y s => p y s)) ∧ Below w.heap.size w w' := by
  obtain ⟨i0, hi, hz0⟩ := Option.map_eq_some_iff.1 info24
  simp only [Prod.mk.injEq] at hz0
  obtain ⟨hz, hs, hb3⟩ := hz0
  obtain ⟨vs, hvl, hvn, hv1, hvr⟩ : ∃ vs : List Value, vs.length = l.length * 5 ∧ (∀ j u, vs[j]? = some u → w.cell? (ad.add j) = some u) ∧ (∀ u ∈ vs, u.oneCell' = true) ∧ ∀ (g : Nat) (w' : World), (∀ j u, vs[j]? = some u → w'.cell? ⟨g, j, none⟩ = some u) → Row w' g n l (fun _ y s => p y s) := by
    obtain ⟨_, h0 | ⟨b, off, e, hc⟩⟩ := hl
    · subst h0
      exact ⟨[], rfl, fun j u h => by simp at h, fun u h => by simp at h, fun g w' _ i y h => by simp at h⟩
    · injection e with e
      subst e
      have key := row_cell hc
      refine ⟨rowV w b off l.length, rowV_len _ _ _ _, ?_, ?_, ?_⟩
      · intro j u h
        obtain ⟨hj, rfl⟩ := rowV_inv h
        obtain ⟨v, hv, _⟩ := key j hj
        rw [add_plain, hv]
        rfl
      · intro u hu
        obtain ⟨j, hj⟩ := List.mem_iff_getElem?.1 hu
        obtain ⟨hj2, rfl⟩ := rowV_inv hj
        obtain ⟨v, hv, h1⟩ := key j hj2
        rw [hv]
        exact h1
      · intro g w' hg i y hi
        have hil : i < l.length := (List.getElem?_eq_some_iff.1 hi).1
        obtain ⟨s, cc, ⟨c0, c1, c2, c3, c4⟩, hp⟩ := hc i y hi
        refine ⟨s, cc, ⟨?_, ?_, ?_, ?_, ?_⟩, hp⟩
        · exact hg (i * 5) _ (by rw [rowV_at (by omega), c0]; rfl)
        · exact hg (i * 5 + 1) _ (by rw [rowV_at (by omega), ← Nat.add_assoc, c1]; rfl)
        · exact hg (i * 5 + 2) _ (by rw [rowV_at (by omega), ← Nat.add_assoc, c2]; rfl)
        · exact hg (i * 5 + 3) _ (by rw [rowV_at (by omega), ← Nat.add_assoc, c3]; rfl)
        · exact hg (i * 5 + 4) _ (by rw [rowV_at (by omega), ← Nat.add_assoc, c4]; rfl)
  have hl5 : Hid _ := hvl
  have hone : Hid _ := hv1
  have HVR : Hid _ := hvr
  have hnews : Hid (∀ j u, vs[j]? = some u → (w.alloc (.cells #[] 24)).cell? (ad.add j) = some u) := fun j u h => cell_kept (hvn j u h) (World.grownBy_alloc w _ none) (fun r e => by cases e)
  have hown0 : (w.alloc (.cells #[] 24)).ownsRow w.heap.size 24 5 (.slice (some ⟨w.heap.size, 0, none⟩) 0 0) 0 [] := World.ownsRow_made w #[] 0 (Nat.le_refl _) (by unfold maxLen; omega) rfl
  have hn1 : 0 + l.length ≤ maxLen := by unfold maxLen; omega
  have hby1 : (0 + l.length) * 64 ≤ 140737488355328 := by omega
  have hbase : w.heap.size ≤ (w.alloc (.cells #[] 24)).heap.size := by rw [World.size_alloc]; omega
  have heq : ∀ wx : World, (binOp .eql 22 (.slice (some ad) l.length c) (.slice none 0 0)).run Tryz.prog wx = .ok (.bool false) wx := fun wx => by rw [Lib.run_eql_slice_nil wx 22 24 _ _ _ _ _ Tryz.underlying22]; rfl
  clear hl hvl hvn hv1 hvr
  go_enter Tryz.func31, Tryz.ntmps31
  go_wp2_with (at_builtin; refine wpList_append_own _ rfl _ _ 22 rfl w.heap.size 24 i0 (.agg #[.int .i64 0, .string ⟨#[]⟩, .int .i64 0, .int .i64 0, .slice none 0 0]) 5 64 Tryz.underlying22 hi hz hs hb3 rfl (by decide) _ 0 [] rfl hown0 ad l.length c vs rfl hl5.out hnews.out hone.out hn1 hby1 hbase ?_)
  intro v1 w1 hown1 hgrow1 hi1
  have hB1 : Below w.heap.size w w1 := ((Below.refl _ _).alloc (Nat.le_refl _) _).grown hgrow1 (by rw [World.size_alloc]; omega) (fun kk hk => by injection hk with hk; rw [← hk]; exact Nat.le_refl _)
  have hown2 : w1.ownsRow w.heap.size 24 5 v1 l.length vs := by simpa using hown1
  have hnn : ¬ v1 = .slice none 0 0 := hi1
  obtain ⟨g, c', hv, hg1, hg2, hfz, hrow⟩ : ∃ g c', v1 = .slice (some ⟨g, 0, none⟩) l.length c' ∧ w.heap.size ≤ g ∧ g < w1.heap.size ∧ (∀ j, w1.frozen? ⟨g, j, none⟩ = false) ∧ Row w1 g n l (fun _ y s => p y s) := by
    have h' := hown2
    obtain ⟨hlen, ⟨e, h0⟩ | ⟨g, cap, cur, rfl, hbg, hg, hcap, hcm, hcs, htake⟩⟩ := hown2
    · exact absurd e hnn
    refine ⟨g, cap, rfl, hbg, heap_lt hg, fun j => h'.frozenAt j, HVR.out g w1 (fun j u hj => ?_)⟩
    have := h'.cells (g := g) rfl j u hj
    rw [add_plain, Nat.zero_add] at this
    exact this
  rw [hv]
  clear hown1 hown2 hgrow1 hi1 hv hnn hl5 hone hnews hown0 hn1 hby1 hbase heq hi hz hs hb3 HVR
  have HR : Hid _ := hrow
  have HF : Hid _ := hfz
  clear hrow hfz
  go_wp2
  go_ret
  exact ⟨⟨g, ⟨c', rfl⟩, hg1, hg2, HF.out, HR.out⟩, hB1⟩
set_option maxHeartbeats 8000000 in
theorem Clone_none (len c : Nat) (w : World) :
    Calls Tryz.prog 31 #[.slice none len c] w fun e w' => e = .returned (.slice none 0 0) ∧ Below w.heap.size w w' := by
  have heq : ∀ wx : World, (binOp .eql 22 (.slice none len c) (.slice none 0 0)).run Tryz.prog wx = .ok (.bool true) wx := fun wx => by rw [Lib.run_eql_slice_nil wx 22 24 _ _ _ _ _ Tryz.underlying22]; rfl
  go_enter Tryz.func31, Tryz.ntmps31
  go_wp2
  go_ret
  exact ⟨rfl, Bel.out (by repeat (first | exact Bel.refl _ | assumption | refine Bel.drew ?_ | refine Bel.drewN ?_ _ | refine Bel.alloc ?_ _ | refine Bel.setCell ?_ (by simp <;> omega) _ | refine Bel.step ?_ (by assumption)))⟩
end Go.Proofs.YtcemogaacicnfaaGreatDoor
