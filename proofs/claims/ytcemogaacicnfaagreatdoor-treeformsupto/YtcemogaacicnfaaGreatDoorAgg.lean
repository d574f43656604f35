/- What the collected trees are in memory; what a round of the collecting keeps. -/
import Derived.Test.YtcemogaacicnfaaGreatDoorSiz
import Derived.Test.YtcemogaacicnfaaGreatDoorHol
import Derived.Test.YtcemogaacicnfaaGreatDoorCpy
namespace Go.Proofs.YtcemogaacicnfaaGreatDoor
open Go.ChangeShapes Go.WideShapes Go.ChangeAt Go.RowKit Go.Shelf

/-- A tree's kids, and theirs, lie in blocks of q. -/
def NdQ (q : Nat → Prop) (w : World) : (n : Nat) → Tr n → Option Addr → Prop
  | 0, _, _ => False
  | n + 1, x, sl => (ks (n + 1) x).length ≤ 9223372036854775807 ∧ (ks (n + 1) x = [] ∨ ∃ b off, sl = some ⟨b, off, none⟩ ∧ (q b ∧ off = 0 ∧ ∀ j, w.frozen? ⟨b, j, none⟩ = false) ∧ ∀ i (y : Tr n), (ks (n + 1) x)[i]? = some y → ∃ s c, (w.cell? ⟨b, off + i * 5, none⟩ = some (.int .i64 (kd n y)) ∧ w.cell? ⟨b, off + i * 5 + 1, none⟩ = some (.string (bsA (tx n y))) ∧ w.cell? ⟨b, off + i * 5 + 2, none⟩ = some (.int .i64 (nu n y)) ∧ w.cell? ⟨b, off + i * 5 + 3, none⟩ = some (.int .i64 (pl n y)) ∧ w.cell? ⟨b, off + i * 5 + 4, none⟩ = some (.slice s (ks n y).length c)) ∧ NdQ q w n y s)
theorem NdQ.at {q : Nat → Prop} {w : World} : ∀ {n : Nat} {x : Tr n} {sl : Option Addr}, NdQ q w n x sl → NdAt w n x sl
  | 0, _, _, h => h
  | n + 1, x, sl, h => by
    obtain ⟨hl, h⟩ := h
    refine ⟨hl, ?_⟩
    rcases h with h | ⟨b, off, e, _, hc⟩
    · exact Or.inl h
    · refine Or.inr ⟨b, off, e, fun i y hi => ?_⟩
      obtain ⟨s, c, hcs, hp⟩ := hc i y hi
      exact ⟨s, c, hcs, NdQ.at hp⟩
theorem NdQ.keep {q q' : Nat → Prop} {w w' : World} (hk : ∀ b o, q b → w.heap[b]? = some o → o.isCells = true → w'.heap[b]? = some o ∧ q' b) : ∀ {n : Nat} {x : Tr n} {sl : Option Addr}, NdQ q w n x sl → NdQ q' w' n x sl
  | 0, _, _, h => h
  | n + 1, x, sl, h => by
    obtain ⟨hl, h⟩ := h
    refine ⟨hl, ?_⟩
    rcases h with h | ⟨b, off, e, hb, hc⟩
    · exact Or.inl h
    · cases hks : ks (n + 1) x with
      | nil => exact Or.inl rfl
      | cons y0 r =>
        obtain ⟨z, hz, hzc⟩ : ∃ z, w.heap[b]? = some z ∧ z.isCells = true := by
          obtain ⟨s, c, ⟨c0, _⟩, _⟩ := hc 0 y0 (by rw [hks]; rfl)
          exact cell_block c0
        obtain ⟨hz', hq⟩ := hk b z hb.1 hz hzc
        have e' : w'.heap[b]? = w.heap[b]? := hz'.trans hz.symm
        rw [← hks]
        refine Or.inr ⟨b, off, e, ⟨hq, hb.2.1, fun j => (World.frozen?_of_block (a := ⟨b, j, none⟩) e').trans (hb.2.2 j)⟩, fun i y hi => ?_⟩
        obtain ⟨s, c, ⟨c0, c1, c2, c3, c4⟩, hp⟩ := hc i y hi
        exact ⟨s, c, ⟨cell_same c0 e', cell_same c1 e', cell_same c2 e', cell_same c3 e', cell_same c4 e'⟩, NdQ.keep hk hp⟩
theorem NdF.q {lo : Nat} {q : Nat → Prop} {w : World} (hq : ∀ b, lo ≤ b → b < w.heap.size → q b) : ∀ {n : Nat} {x : Tr n} {sl : Option Addr}, NdF lo w n x sl → NdQ q w n x sl
  | 0, _, _, h => h
  | n + 1, x, sl, h => by
    obtain ⟨hl, h⟩ := h
    refine ⟨hl, ?_⟩
    rcases h with h | ⟨b, off, e, hb, hc⟩
    · exact Or.inl h
    · cases hks : ks (n + 1) x with
      | nil => exact Or.inl rfl
      | cons y0 r =>
        have hqb : q b := by
          obtain ⟨s, c, ⟨c0, _⟩, _⟩ := hc 0 y0 (by rw [hks]; rfl)
          exact hq b hb.1 (cell_lt c0)
        rw [← hks]
        refine Or.inr ⟨b, off, e, ⟨hqb, hb.2⟩, fun i y hi => ?_⟩
        obtain ⟨s, c, hcs, hp⟩ := hc i y hi
        exact ⟨s, c, hcs, NdF.q hq hp⟩
abbrev Ag (M : Nat) : Type := Tr M × Option Addr × Nat
def ndC (M : Nat) (p : Ag M) : List Value := [.int .i64 (kd M p.1), .string (bsA (tx M p.1)), .int .i64 (nu M p.1), .int .i64 (pl M p.1), .slice p.2.1 (ks M p.1).length p.2.2]
def agC (M : Nat) (A : List (Ag M)) : List Value := A.flatMap (ndC M)
theorem agC_snoc (M : Nat) (A : List (Ag M)) (p : Ag M) : agC M (A ++ [p]) = agC M A ++ ndC M p := by simp [agC]
theorem agC_len (M : Nat) : ∀ A : List (Ag M), (agC M A).length = A.length * 5
  | [] => rfl
  | p :: A => by
    have ih := agC_len M A
    unfold agC at ih ⊢
    rw [List.flatMap_cons, List.length_append, ih]
    simp [ndC]
    omega
theorem agC_at (M : Nat) : ∀ (A : List (Ag M)) (i : Nat) (p : Ag M), A[i]? = some p → ∀ r u, (ndC M p)[r]? = some u → (agC M A)[i * 5 + r]? = some u
  | [], i, p, h, _, _, _ => by simp at h
  | a :: A, 0, p, h, r, u, hr => by
    simp only [List.getElem?_cons_zero, Option.some.injEq] at h
    subst h
    unfold agC
    have hl : r < 5 := by have := (List.getElem?_eq_some_iff.1 hr).1; simpa [ndC] using this
    rw [List.flatMap_cons, List.getElem?_append_left (by simp [ndC]; omega), Nat.zero_mul, Nat.zero_add]
    exact hr
  | a :: A, i + 1, p, h, r, u, hr => by
    have ih := agC_at M A i p (by simpa using h) r u hr
    unfold agC at ih ⊢
    rw [List.flatMap_cons, List.getElem?_append_right (by simp [ndC]; omega)]
    rw [show (i + 1) * 5 + r - (ndC M a).length = i * 5 + r by simp [ndC]; omega]
    exact ih
theorem agC_one (M : Nat) (A : List (Ag M)) : ∀ u ∈ agC M A, u.oneCell' = true := by
  intro u hu
  unfold agC at hu
  rw [List.mem_flatMap] at hu
  obtain ⟨p, _, hu⟩ := hu
  simp only [ndC, List.mem_cons, List.not_mem_nil, or_false] at hu
  rcases hu with rfl | rfl | rfl | rfl | rfl <;> rfl
/-- The collected trees, as a slice of one's own. -/
def AgAt (B M : Nat) (W : World) (v : Value) (A : List (Ag M)) : Prop := W.ownsRow B 24 5 v A.length (agC M A) ∧ ∀ p ∈ A, NdQ (fun b => B ≤ b ∧ v.ownBlock ≠ some b) W M p.1 p.2.1
theorem AgAt.slice {B M : Nat} {W : World} {v : Value} {A : List (Ag M)} (h : AgAt B M W v A) (hlen : A.length ≤ 9223372036854775807) : ∃ a c, v = .slice a A.length c ∧ KsAt W M a (A.map (·.1)) := by
  obtain ⟨h, hq⟩ := h
  have h' := h
  obtain ⟨hl, ⟨rfl, h0⟩ | ⟨g, cap, cur, rfl, hbg, hg, hcap, hcm, hcs, htake⟩⟩ := h
  · exact ⟨none, 0, by rw [h0], ⟨by simp [h0], Or.inl (by rw [List.length_eq_zero_iff.1 h0]; rfl)⟩⟩
  · refine ⟨some ⟨g, 0, none⟩, cap, rfl, by rw [List.length_map]; exact hlen, Or.inr ⟨g, 0, rfl, fun i y hi => ?_⟩⟩
    rw [List.getElem?_map] at hi
    obtain ⟨p, hp, rfl⟩ := Option.map_eq_some_iff.1 hi
    have key : ∀ r u, (ndC M p)[r]? = some u → W.cell? ⟨g, 0 + (i * 5 + r), none⟩ = some u := fun r u hr => by
      have := h'.cells (g := g) rfl _ _ (agC_at M A i p hp r u hr)
      rw [add_plain] at this
      exact this
    refine ⟨p.2.1, p.2.2, ⟨key 0 _ rfl, ?_, ?_, ?_, ?_⟩, NdQ.at (hq p (List.mem_of_getElem? hp))⟩
    · rw [Nat.add_assoc]; exact key 1 _ rfl
    · rw [Nat.add_assoc]; exact key 2 _ rfl
    · rw [Nat.add_assoc]; exact key 3 _ rfl
    · rw [Nat.add_assoc]; exact key 4 _ rfl
/-- The block that the box at Bx leads to. -/
def Ptr (Bx : Nat) (W : World) (b : Nat) : Prop := ∃ v, W.cell? ⟨Bx, 0, none⟩ = some v ∧ v.ownBlock = some b
/-- What a round of the collecting keeps. -/
def Ka (n₀ B Bx : Nat) (W W' : World) : Prop := W.heap.size ≤ W'.heap.size ∧ (∀ b o, (b < n₀ ∨ B ≤ b) → ¬ Ptr Bx W b → W.heap[b]? = some o → o.isCells = true → W'.heap[b]? = some o) ∧ (∀ b, Ptr Bx W' b → Ptr Bx W b ∨ (W.heap.size ≤ b ∧ b < W'.heap.size))
def Iva (B Bx : Nat) (W : World) : Prop := B ≤ W.heap.size ∧ ∀ b, Ptr Bx W b → B ≤ b ∧ b < W.heap.size
theorem ptr_same {Bx : Nat} {W W' : World} {b : Nat} (e : W'.heap[Bx]? = W.heap[Bx]?) (h : Ptr Bx W' b) : Ptr Bx W b := by
  obtain ⟨v, hv, hb⟩ := h
  refine ⟨v, ?_, hb⟩
  rw [← hv]
  unfold World.cell?
  simp only [e]
theorem ptr_alloc {Bx : Nat} {W : World} {o : Obj} {b : Nat} (hlt : Bx < W.heap.size) (h : Ptr Bx (W.alloc o) b) : Ptr Bx W b :=
  ptr_same (((Below.refl _ W).alloc (Nat.le_refl _) o).block Bx hlt) h
theorem Ka.keep (w : World) (B Bx : Nat) (hw : w.heap.size ≤ B) (hx : Bx < B) : Keep w (Iva B Bx) (fun W b => B ≤ b ∧ ¬ Ptr Bx W b) (Ka w.heap.size B Bx) where
  rf := fun W => ⟨Nat.le_refl _, fun _ _ _ _ h _ => h, fun _ h => Or.inl h⟩
  tr := fun X Y Z h k => by
    obtain ⟨h1, h2, h3⟩ := h
    obtain ⟨k1, k2, k3⟩ := k
    refine ⟨Nat.le_trans h1 k1, fun b o hb hn ho hc => ?_, fun b hb => ?_⟩
    · refine k2 b o hb (fun hp => ?_) (h2 b o hb hn ho hc) hc
      rcases h3 b hp with h | h
      · exact hn h
      · have := heap_lt ho; omega
    · rcases k3 b hb with h | h
      · rcases h3 b h with h | h
        · exact Or.inl h
        · exact Or.inr ⟨h.1, by omega⟩
      · exact Or.inr ⟨by omega, h.2⟩
  al := fun W o h => ⟨by simp, fun b x _ _ hx _ => ((Below.refl _ W).alloc (Nat.le_refl _) o).block b (heap_lt hx) |>.trans hx, fun b hb => Or.inl (ptr_alloc (by have := h.1; omega) hb)⟩
  i1 := fun W o h => ⟨Nat.le_trans h.1 (by simp), fun b hb => by
    have := h.2 b (ptr_alloc (by have := h.1; omega) hb)
    refine ⟨this.1, ?_⟩
    rw [World.size_alloc]
    omega⟩
  i2 := fun W W' k h => ⟨Nat.le_trans h.1 k.1, fun b hb => by
    have := k.1
    have := h.1
    rcases k.2.2 b hb with h2 | h2
    · have := h.2 b h2; omega
    · omega⟩
  p1 := fun W o h => ⟨h.1, fun hp => by have := h.2 _ (ptr_alloc (by have := h.1; omega) hp); omega⟩
  p3 := fun W W' b k h o v hc => by
    obtain ⟨x, hx, hi⟩ := cell_block hc
    exact cell_same hc ((k.2.1 b x (Or.inr h.1) h.2 hx hi).trans hx.symm)
  kn := fun W W' h k hk b o v hv => by
    obtain ⟨x, hx', _⟩ := cell_block hv
    have hb := heap_lt hx'
    have hc := hk b o v hv
    obtain ⟨y, hy, hi⟩ := cell_block hc
    refine cell_same hc ((k.2.1 b y (Or.inl hb) (fun hp => ?_) hy hi).trans hy.symm)
    have := h.2 b hp
    omega
/-- The collecting itself. -/
def agS (M : Nat) (acc : List (Tr M)) (t : Tr M) : List (Tr M) := if kd M t = 14 ∧ (acc.any fun y => samP M y t) = false then acc ++ [t] else acc
def agP (M : Nat) (l : List (Tr M)) : List (Tr M) := l.foldl (agS M) []
theorem agP_snoc (M : Nat) (l : List (Tr M)) (t : Tr M) : agP M (l ++ [t]) = agS M (agP M l) t := by unfold agP; rw [List.foldl_append]; rfl
end Go.Proofs.YtcemogaacicnfaaGreatDoor
