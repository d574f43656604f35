/- Slices of tokens in memory. -/
import Derived.Test.YtcemogaacicnfaaGreatDoorNx
import Derived.Laws.AppendOwn
import Derived.Laws.OwnMore
import Derived.OwnWalk
import Derived.Lib.LazyBuf
namespace Go.Proofs.YtcemogaacicnfaaGreatDoor
open Go.ChangeShapes Go.WideShapes Go.ChangeAt Go.RowKit

theorem info37 : (Tryz.prog.info? 78).map (fun i => (i.zero, i.size, i.bytes)) = some (some (.agg #[.int .i64 0, .string ⟨#[]⟩, .int .i64 0, .int .i64 0]), 4, 40) := by kernel_rfl
theorem heap_lt {w : World} {b : Nat} {o : Obj} (h : w.heap[b]? = some o) : b < w.heap.size := by
  rcases Nat.lt_or_ge b w.heap.size with h' | h'
  · exact h'
  · rw [Array.getElem?_eq_none h'] at h; cases h
/-- A token with its place. -/
abbrev Tt := Tk × Int
def tkC (t : Tt) : List Value := [.int .i64 t.1.1, .string (bsA t.1.2.1), .int .i64 t.1.2.2, .int .i64 t.2]
def rtC (r : List Tt) : List Value := r.flatMap tkC
theorem rtC_nil : rtC [] = [] := rfl
theorem rtC_snoc (r : List Tt) (t : Tt) : rtC (r ++ [t]) = rtC r ++ tkC t := by simp [rtC]
theorem rtC_len : ∀ r : List Tt, (rtC r).length = r.length * 4
  | [] => rfl
  | t :: r => by
    have := rtC_len r
    simp only [rtC, List.flatMap_cons, List.length_append] at this ⊢
    rw [this]; simp [tkC]; omega
theorem rtC_at : ∀ (r : List Tt) (i : Nat) (t : Tt), r[i]? = some t → (rtC r)[i * 4]? = some (.int .i64 t.1.1) ∧ (rtC r)[i * 4 + 1]? = some (.string (bsA t.1.2.1)) ∧ (rtC r)[i * 4 + 2]? = some (.int .i64 t.1.2.2) ∧ (rtC r)[i * 4 + 3]? = some (.int .i64 t.2)
  | [], i, t, h => by simp at h
  | u :: r, 0, t, h => by
    simp only [List.getElem?_cons_zero, Option.some.injEq] at h
    subst h
    exact ⟨rfl, rfl, rfl, rfl⟩
  | u :: r, i + 1, t, h => by
    simp only [List.getElem?_cons_succ] at h
    obtain ⟨h0, h1, h2, h3⟩ := rtC_at r i t h
    have e : rtC (u :: r) = tkC u ++ rtC r := rfl
    have el : (tkC u).length = 4 := rfl
    rw [e]
    refine ⟨?_, ?_, ?_, ?_⟩
    · rw [List.getElem?_append_right (by rw [el]; omega), el, show (i + 1) * 4 - 4 = i * 4 by omega]; exact h0
    · rw [List.getElem?_append_right (by rw [el]; omega), el, show (i + 1) * 4 + 1 - 4 = i * 4 + 1 by omega]; exact h1
    · rw [List.getElem?_append_right (by rw [el]; omega), el, show (i + 1) * 4 + 2 - 4 = i * 4 + 2 by omega]; exact h2
    · rw [List.getElem?_append_right (by rw [el]; omega), el, show (i + 1) * 4 + 3 - 4 = i * 4 + 3 by omega]; exact h3
theorem rtC_one (r : List Tt) : ∀ u ∈ rtC r, u.oneCell' = true := by
  intro u hu
  unfold rtC at hu
  rw [List.mem_flatMap] at hu
  obtain ⟨t, _, hu⟩ := hu
  simp only [tkC, List.mem_cons, List.not_mem_nil, or_false] at hu
  rcases hu with rfl | rfl | rfl | rfl <;> rfl
/-- A slice of tokens. -/
def TksAt (w : World) (a : Option Addr) (r : List Tt) : Prop :=
  r = [] ∨ ∃ b off, a = some ⟨b, off, none⟩ ∧ ∀ i t, r[i]? = some t → w.cell? ⟨b, off + i * 4, none⟩ = some (.int .i64 t.1.1) ∧ w.cell? ⟨b, off + i * 4 + 1, none⟩ = some (.string (bsA t.1.2.1)) ∧ w.cell? ⟨b, off + i * 4 + 2, none⟩ = some (.int .i64 t.1.2.2) ∧ w.cell? ⟨b, off + i * 4 + 3, none⟩ = some (.int .i64 t.2)
theorem TksAt.below {w w' : World} {a : Option Addr} {r : List Tt} (h : TksAt w a r) (hb : Below w.heap.size w w') : TksAt w' a r := by
  rcases h with h | ⟨b, off, ha, hc⟩
  · exact Or.inl h
  · exact Or.inr ⟨b, off, ha, fun i t hi => ⟨cell_below hb (hc i t hi).1, cell_below hb (hc i t hi).2.1, cell_below hb (hc i t hi).2.2.1, cell_below hb (hc i t hi).2.2.2⟩⟩
theorem TksAt.alloc {w : World} {a : Option Addr} {r : List Tt} (h : TksAt w a r) (o : Obj) : TksAt (w.alloc o) a r := h.below ((Below.refl _ _).alloc (Nat.le_refl _) o)
theorem tks_of_owns {w : World} {base : Nat} {vv : Value} {r : List Tt} (h : w.ownsRow base 78 4 vv r.length (rtC r)) : ∃ a cap, vv = .slice a r.length cap ∧ TksAt w a r ∧ (∀ g o, a = some ⟨g, o, none⟩ → base ≤ g) ∧ r.length ≤ cap := by
  have h' := h
  obtain ⟨hlen, ⟨rfl, h0⟩ | ⟨g, cap, cur, rfl, hbg, hg, hcap, hcm, hcs, htake⟩⟩ := h
  · exact ⟨none, 0, by rw [h0], Or.inl (List.length_eq_zero_iff.1 h0), (fun _ _ e => by cases e), by omega⟩
  refine ⟨_, cap, rfl, Or.inr ⟨g, 0, rfl, fun i t hi => ?_⟩, fun g' o' e => by injection e with e; injection e with e1 e2 _; subst e1; exact hbg, hcap⟩
  have hc := h'.cells (g := g) rfl
  obtain ⟨a, b, c, d⟩ := rtC_at r i t hi
  have ea := hc _ _ a
  have eb := hc _ _ b
  have ec := hc _ _ c
  have ed := hc _ _ d
  rw [add_plain] at ea eb ec ed
  rw [Nat.zero_add] at ea eb ec ed ⊢
  exact ⟨ea, eb, ec, ed⟩
theorem tkCells_new (w : World) (t : Tt) : ∀ j u, (rtC [t])[j]? = some u → (w.alloc (.cells #[.int .i64 t.1.1, .string (bsA t.1.2.1), .int .i64 t.1.2.2, .int .i64 t.2] 78)).cell? ((⟨w.heap.size, 0, none⟩ : Addr).add j) = some u := by
  have e : rtC [t] = [.int .i64 t.1.1, .string (bsA t.1.2.1), .int .i64 t.1.2.2, .int .i64 t.2] := rfl
  have bo := Box.new w (.int .i64 t.1.1) (.string (bsA t.1.2.1)) (.int .i64 t.1.2.2) (.int .i64 t.2)
  rw [e]
  intro j u hj
  rw [add_plain]
  match j, hj with
  | 0, hj => simp only [List.getElem?_cons_zero, Option.some.injEq] at hj; subst hj; exact bo.c0
  | 1, hj => simp only [List.getElem?_cons_succ, List.getElem?_cons_zero, Option.some.injEq] at hj; subst hj; exact bo.c1
  | 2, hj => simp only [List.getElem?_cons_succ, List.getElem?_cons_zero, Option.some.injEq] at hj; subst hj; exact bo.c2
  | 3, hj => simp only [List.getElem?_cons_succ, List.getElem?_cons_zero, Option.some.injEq] at hj; subst hj; exact bo.c3
  | j + 4, hj => simp at hj
theorem owns_below {w w' : World} {base e size n : Nat} {v : Value} {xs : List Value} (h : w.ownsRow base e size v n xs) (hb : Below w.heap.size w w') : w'.ownsRow base e size v n xs :=
  h.kept (row := none) ⟨hb.os, hb.tape, hb.output, hb.size, fun k hk _ => hb.block k hk⟩ (by cases v.ownBlock <;> simp)
/- The next token and the tokens. -/
theorem nx_err {s : List UInt8} {m : Nat} (h : (nxP s m).2.2.2 ≠ 0) : lx (s.drop m) m = ([], (nxP s m).2.1, (nxP s m).2.2.2) := by
  unfold nxP at h ⊢
  split
  · next h1 => exact lx_bad h1
  · next h1 =>
    rw [if_neg h1] at h
    split
    · next h2 => rw [if_pos h2] at h; exact absurd rfl h
    · next h2 => rw [if_neg h2] at h; exact lx_err (by simpa using h1) h2 h
theorem nx_end {s : List UInt8} {m : Nat} (h : (nxP s m).2.2.2 = 0) (hk : (nxP s m).1.1 = 0) : lx (s.drop m) m = ([], 0, 0) := by
  unfold nxP at h hk
  split at h
  · cases h
  · next h1 =>
    rw [if_neg h1] at hk
    split at h
    · next h2 => exact lx_end (by simpa using h1) h2
    · next h2 => rw [if_neg h2] at hk; exact absurd hk (tok_ok h2 h).1
theorem nx_tok {s : List UInt8} {m : Nat} (h : (nxP s m).2.2.2 = 0) (hk : (nxP s m).1.1 ≠ 0) : ∃ k : Nat, (nxP s m).2.2.1 = k ∧ m < k ∧ k ≤ s.length ∧
    lx (s.drop m) m = if (lx (s.drop k) k).2.2 ≠ 0 then lx (s.drop k) k else (((nxP s m).1, (nxP s m).2.1) :: (lx (s.drop k) k).1, 0, 0) := by
  unfold nxP at h hk ⊢
  split at h
  · cases h
  · next h1 =>
    rw [if_neg h1] at hk ⊢
    split at h
    · next h2 => rw [if_pos h2] at hk; exact absurd rfl hk
    · next h2 =>
      rw [if_neg h2]
      have ht := tok_ok h2 h
      have hs := sk_le (s.drop m)
      simp only at h ⊢
      have hl : ((s.drop m).drop (sk (s.drop m)).1).length = s.length - m - (sk (s.drop m)).1 := by simp [Nat.sub_sub]
      rw [List.length_drop] at hs
      refine ⟨m + (sk (s.drop m)).1 + (tokP ((s.drop m).drop (sk (s.drop m)).1)).2.1.toNat, by omega, by omega, by omega, ?_⟩
      rw [lx_go (by simpa using h1) h2 h]
      have e1 : (s.drop m).drop ((sk (s.drop m)).1 + (tokP ((s.drop m).drop (sk (s.drop m)).1)).2.1.toNat) = s.drop (m + (sk (s.drop m)).1 + (tokP ((s.drop m).drop (sk (s.drop m)).1)).2.1.toNat) := by rw [List.drop_drop, Nat.add_assoc]
      have e2 : ((m + (sk (s.drop m)).1 + (tokP ((s.drop m).drop (sk (s.drop m)).1)).2.1.toNat : Nat) : Int) = (m : Int) + (sk (s.drop m)).1 + (tokP ((s.drop m).drop (sk (s.drop m)).1)).2.1 := by omega
      rw [e1, e2]
/-- Tokens ahead of others. -/
def cmb (acc : List Tt) (q : List Tt × Int × Int) : List Tt × Int × Int := if q.2.2 ≠ 0 then q else (acc ++ q.1, 0, 0)
theorem cmb_cons (acc : List Tt) (t : Tt) (q : List Tt × Int × Int) : cmb acc (if q.2.2 ≠ 0 then q else (t :: q.1, 0, 0)) = cmb (acc ++ [t]) q := by
  unfold cmb
  by_cases h : q.2.2 = 0
  · simp [h]
  · simp [h]
theorem lx_cmb (l : List UInt8) (a : Int) : lx l a = cmb [] (lx l a) := by
  unfold cmb
  by_cases h : (lx l a).2.2 = 0
  · rw [if_neg (by simp [h])]
    have := lx_place0 h
    generalize lx l a = q at h this
    obtain ⟨q1, q2, q3⟩ := q
    simp only at h this
    subst h this
    rfl
  · rw [if_pos h]
end Go.Proofs.YtcemogaacicnfaaGreatDoor
